import Derived.Test.YtncgcejlkmoliaaGreatDoorMh12
import Derived.Test.YtncgcejlkmoliaaGreatDoorMh11
import Derived.Test.YtncgcejlkmoliaaGreatDoorMh07
import Derived.Test.YtncgcejlkmoliaaGreatDoorMh09
set_option linter.unusedVariables false
set_option maxRecDepth 100000
set_option maxHeartbeats 16000000
namespace Go.Proofs.YtncgcejlkmoliaaGreatDoor
open Go.RowKit
def stowE (L:Ld) (b i:Nat):Ev:={ evN L 5 b with text:=L.tname i }
def putL (L:Ld) (b:Nat) (O:Od):Ld:=match (boxL L b O.second).1 with
 | none=>L
 | some i=>partL L b O 2 (i:Int) (stowE L b i)
def putE (L:Ld) (b:Nat) (O:Od):List Ev:=match (boxL L b O.second).1 with
 | none=>[tellE L b (boxL L b O.second).2]
 | some i=>partE L b O 2 (i:Int) (stowE L b i)
def giveL (L:Ld) (b:Nat) (O:Od):Ld:=match whoL L b O.second with
 | none=>L
 | some c=>partL L b O 1 (c:Int) (evW L 6 b c)
def giveE (L:Ld) (b:Nat) (O:Od):List Ev:=match whoL L b O.second with
 | none=>[tellE L b nobodyS]
 | some c=>partE L b O 1 (c:Int) (evW L 6 b c)
theorem rput_any {w0:World} {L:Ld} {Es:List Ev} {w:World} (hS:Sn 172 [] w0 L Es w) (b:Nat) (hb:b < 6) (O:Od) (hs:O.second.size≤140737488355328) (hn0:-9223372036854775808≤O.nth) (hn1:O.nth≤9223372036854775807) (hlen:Es.length≤900000) :
 Calls Tryz.prog 156 #[.pointer (some ⟨w0.heap.size,0,none⟩),.int .i64 (b:Int),.agg O.cells] w fun e w'=>e=.returned (.tuple #[])∧Sn 172 [] w0 (putL L b O) (Es++putE L b O) w'∧Stp w0.heap.size 165 w w':=by
 have hl:=hS.lt
 have X0:=hide (hS.alloc (.cells O.cells 149))
 have T0:=hide (Stp.below (o:=165) (below_box w (.cells O.cells 149)) hS.lt)
 have K0:=hide (hS.kept (below_box w (.cells O.cells 149)) (Nat.le_refl _) (by simp))
 have G0:=heap_alloc_new w (.cells O.cells 149)
 have o4:(w.alloc (.cells O.cells 149)).cell? ⟨w.heap.size,4,none⟩=some (.string O.second):=by rw [cell_of_row _ _ _ _ _ _ G0]; rfl
 have HG:=hide G0
 clear hS G0
 go_enter Tryz.func156,Tryz.ntmps156
 go_wp2_with fail
 generalize w.alloc (.cells O.cells 149)=wa at *
 refine (rbox_any X0.out b hb O.second hs (by omega)).mono ?_
 rintro e w1 h
 clear o4
 rcases h with ⟨i,hi,rfl,S1h,T1h⟩ | ⟨hi,rfl,S1h,T1h⟩
 ·have HL:=hide (show putL L b O=partL L b O 2 (i:Int) (stowE L b i) by unfold putL; rw [hi])
  have HE:=hide (show putE L b O=partE L b O 2 (i:Int) (stowE L b i) by unfold putE; rw [hi])
  obtain ⟨h9,-,-,-⟩:=box_lt hi
  have hii:(i:Int) < 9:=by omega
  have S1:=hide S1h
  have K1:=hide (T1h.kept K0.out).1
  have G1:=hide ((T1h.kept K0.out).2.trans HG.out)
  have T1:=hide (T0.out.trans T1h)
  clear S1h T1h hi X0 T0 K0 HG
  go_wp2_with fail
  refine (revent_lit S1.out 5 b hb).mono ?_
  rintro e w2 ⟨rfl,hb2⟩
  have P2:=hide (S1.out.stp hb2 165)
  have S2:=hide (S1.out.below hb2)
  have B2:=hide hb2
  have hl2:=S2.out.lt
  have c0:=S2.out.thing i 0 h9 (by omega)
  simp only [Nat.add_zero,Ld.thingCell] at c0
  have hkk:w.heap.size < w2.heap.size:=by
   have h1:=(Array.getElem?_eq_some_iff.1 G1.out).1
   have h2:=hb2.size
   omega
  clear hb2
  have hbb:=below_box w2 (.cells (stowE L b i).cells 71)
  have S3:=hide (S2.out.below hbb)
  have P3:=hide (P2.out.trans (S2.out.stp hbb 165))
  have G3:Hid ((w2.alloc (.cells (stowE L b i).cells 71)).heap[w.heap.size]?=some (.cells O.cells 149 (0,0))):=(P3.out.kept K1.out).2.trans G1.out
  have C3:Hid (Cev (w2.alloc (.cells (stowE L b i).cells 71)) w2.heap.size (stowE L b i)):=cev_new w2 (stowE L b i)
  have T3:=hide (T1.out.trans P3.out)
  clear hbb
  go_wp2_with (first | (refine wl_new 71 (.tmp 8) (.tmp 20) rfl rfl _ _ rfl rfl rfl Tryz.sizeEvent rfl (by simp [Value.oneCell']) ?_) | (refine wl_wanted rfl (wp_load_row 149 (.tmp 5) rfl w.heap.size rfl 149 O.cells (0,0) _ G3.out Tryz.underlying149 rfl Tryz.sizeOrder ?_)) | (refine wl_event (.tmp 8) rfl rfl _ (stowE L b i) rfl C3.out ?_))
  refine (rpart_any S3.out b hb O hn0 hn1 2 (i:Int) (stowE L b i) hlen).mono ?_
  rintro e w4 ⟨rfl,S4h,T4h⟩
  have S4:=hide S4h
  have T4:=hide (T3.out.trans T4h)
  clear S4h T4h S3 T3 P3 G3 C3
  go_wp2
  go_end0
  exact ⟨rfl,by rw [HL.out,HE.out]; exact S4.out,T4.out⟩
 ·have HL:=hide (show putL L b O=L by unfold putL; rw [hi])
  have HE:=hide (show putE L b O=[tellE L b (boxL L b O.second).2] by unfold putE; rw [hi])
  have S1:=hide S1h
  have T1:=hide (T0.out.trans T1h)
  clear S1h T1h hi
  go_wp2
  go_end0
  exact ⟨rfl,by rw [HL.out,HE.out]; exact S1.out,T1.out⟩
theorem rgive_any {w0:World} {L:Ld} {Es:List Ev} {w:World} (hS:Sn 172 [] w0 L Es w) (b:Nat) (hb:b < 6) (O:Od) (hs:O.second.size≤140737488355328) (hn0:-9223372036854775808≤O.nth) (hn1:O.nth≤9223372036854775807) (hlen:Es.length≤900000) :
 Calls Tryz.prog 157 #[.pointer (some ⟨w0.heap.size,0,none⟩),.int .i64 (b:Int),.agg O.cells] w fun e w'=>e=.returned (.tuple #[])∧Sn 172 [] w0 (giveL L b O) (Es++giveE L b O) w'∧Stp w0.heap.size 165 w w':=by
 have hl:=hS.lt
 have X0:=hide (hS.alloc (.cells O.cells 149))
 have T0:=hide (Stp.below (o:=165) (below_box w (.cells O.cells 149)) hS.lt)
 have K0:=hide (hS.kept (below_box w (.cells O.cells 149)) (Nat.le_refl _) (by simp))
 have G0:=heap_alloc_new w (.cells O.cells 149)
 have o4:(w.alloc (.cells O.cells 149)).cell? ⟨w.heap.size,4,none⟩=some (.string O.second):=by rw [cell_of_row _ _ _ _ _ _ G0]; rfl
 have HG:=hide G0
 clear hS G0
 go_enter Tryz.func157,Tryz.ntmps157
 go_wp2_with fail
 generalize w.alloc (.cells O.cells 149)=wa at *
 refine (somebody_any X0.out b hb O.second hs (by omega)).mono ?_
 rintro e w1 h
 clear o4
 rcases h with ⟨c,hc,rfl,S1h,T1h⟩ | ⟨hc,rfl,S1h,T1h⟩
 ·have HL:=hide (show giveL L b O=partL L b O 1 (c:Int) (evW L 6 b c) by unfold giveL; rw [hc])
  have HE:=hide (show giveE L b O=partE L b O 1 (c:Int) (evW L 6 b c) by unfold giveE; rw [hc])
  obtain ⟨h6,-⟩:=who_sees hc
  have S1:=hide S1h.drew
  have K1:Hid (Kept w0.heap.size 165 w1.drew w.heap.size):=((T1h.trans (S1h.stp (below_drewN (Below.refl _ _) 1) 165)).kept K0.out).1
  have G1:Hid (w1.drew.heap[w.heap.size]?=some (.cells O.cells 149 (0,0))):=((T1h.trans (S1h.stp (below_drewN (Below.refl _ _) 1) 165)).kept K0.out).2.trans HG.out
  have T1:Hid (Stp w0.heap.size 165 w w1.drew):=T0.out.trans (T1h.trans (S1h.stp (below_drewN (Below.refl _ _) 1) 165))
  clear S1h T1h hc X0 T0 K0 HG
  go_wp2_with fail
  refine wp_region_held (S:=fun W=>W.heap[w.heap.size]?=some (.cells O.cells 149 (0,0))) (by kernel_rfl) ?_
  change wpAnyH _ _ _ _ _ _ _ _ w1.drew
  generalize w1.drew=W0 at S1 K1 G1 T1 ⊢
  refine tw (i:=0) (d:=some 17) (fuel:=8) (v:=?_) rfl rfl ?_ G1.out ?_
  rotate_left
  ·intro W hW; go_simp; try with_reducible rfl
  simp only [Act.put,sT,List.set]
  refine tw (i:=1) (d:=some 18) (fuel:=7) (v:=?_) rfl rfl ?_ G1.out ?_
  rotate_left
  ·intro W hW; go_simp; try with_reducible rfl
  simp only [Act.put,sT,List.set]
  refine tw (i:=3) (d:=some 20) (fuel:=6) (v:=?_) rfl rfl ?_ G1.out ?_
  rotate_left
  ·intro W hW; go_simp; try with_reducible rfl
  simp only [Act.put,sT,List.set]
  refine tw (i:=4) (d:=some 21) (fuel:=5) (v:=?_) rfl rfl ?_ G1.out ?_
  rotate_left
  ·intro W hW; go_simp; try with_reducible rfl
  simp only [Act.put,sT,List.set]
  refine tw (i:=5) (d:=some 22) (fuel:=4) (v:=?_) rfl rfl ?_ G1.out ?_
  rotate_left
  ·intro W hW; go_simp; try with_reducible rfl
  simp only [Act.put,sT,List.set]
  refine tw (i:=6) (d:=some 23) (fuel:=3) (v:=?_) rfl rfl ?_ G1.out ?_
  rotate_left
  ·intro W hW; go_simp; try with_reducible rfl
  simp only [Act.put,sT,List.set]
  refine tk (i:=2) (d:=some 19) (fuel:=2) (v:=.agg O.cells) rfl rfl (Or.inl ⟨by rfl,fun W hW=>exec_order (.tmp 5) rfl _ rfl hW⟩) G1.out ?_
  simp only [Act.put,sT,List.set]
  refine wpAnyH_all (fuel:=1) (rs:=[7]) (by kernel_rfl) (by simp) ?_
  intro i hi
  obtain rfl:i=7:=by simpa using hi
  clear hi
  refine call_at (d:=some 24) rfl rfl (by rfl) 143 #[.pointer (some ⟨w0.heap.size,0,none⟩),.int .i64 6,.int .i64 (b:Int),.int .i64 (c:Int)] (by kernel_rfl) ?_
  refine (rwith_any S1.out 6 b c hb h6).mono ?_
  rintro e w2 ⟨rfl,hb2⟩
  have S2:=hide (S1.out.below hb2)
  have T2:=hide (T1.out.trans (S1.out.stp hb2 165))
  have G2:=hide (((S1.out.stp hb2 165).kept K1.out).2.trans G1.out)
  have K2:=hide ((S1.out.stp hb2 165).kept K1.out).1
  clear hb2 S1 T1 K1 G1
  refine ⟨_,rfl,G2.out,?_⟩
  simp only [Act.put,sT,List.set]
  refine wpAnyH_all (fuel:=0) (rs:=[8]) (by kernel_rfl) (by simp) ?_
  intro i hi
  obtain rfl:i=8:=by simpa using hi
  clear hi
  refine call_at (d:=some 25) rfl rfl (by rfl) 154 #[.pointer (some ⟨w0.heap.size,0,none⟩),.int .i64 (b:Int),.agg O.cells,.int .i64 1,.int .i64 (c:Int),.agg (evW L 6 b c).cells] (by kernel_rfl) ?_
  refine (rpart_any S2.out b hb O hn0 hn1 1 (c:Int) (evW L 6 b c) hlen).mono ?_
  rintro e w4 ⟨rfl,S4h,T4h⟩
  have S4:=hide S4h
  have T4:=hide (T2.out.trans T4h)
  have G4:=hide ((T4h.kept K2.out).2.trans G2.out)
  clear S4h T4h S2 T2 G2
  refine ⟨_,rfl,G4.out,?_⟩
  simp only [Act.put,sT,List.set]
  refine wpAnyH_done (by kernel_rfl) ?_ _
  go_wp2
  go_end0
  exact ⟨rfl,by rw [HL.out,HE.out]; exact S4.out,T4.out⟩
 ·have HL:=hide (show giveL L b O=L by unfold giveL; rw [hc])
  have HE:=hide (show giveE L b O=[tellE L b nobodyS] by unfold giveE; rw [hc])
  have S1:=hide S1h
  have T1:=hide (T0.out.trans T1h)
  clear S1h T1h hc
  go_wp2
  go_end0
  exact ⟨rfl,by rw [HL.out,HE.out]; exact S1.out,T1.out⟩
open Go.RowKit
def fightS:ByteArray:=⟨#[89,111,117,32,102,105,103,104,116,46]⟩
def foesL (L:Ld) (b c:Nat):Ld:=if (L.setFoe b ((c:Int)+1)).foe c=0 then (L.setFoe b ((c:Int)+1)).setFoe c ((b:Int)+1) else L.setFoe b ((c:Int)+1)
def hitW (L:Ld) (b:Nat) (O:Od):Option Nat:=if O.nth=1∧O.all=false then whoL L b O.name else none
def hitsL (L:Ld) (b:Nat) (O:Od):Ld:=match hitW L b O with
 | none=>L
 | some c=>foesL L b c
def hitsE (L:Ld) (b:Nat) (O:Od):List Ev:=match hitW L b O with
 | none=>[tellE L b nobodyS]
 | some c=>[tellE (foesL L b c) b fightS]
theorem rhit_any {w0:World} {L:Ld} {Es:List Ev} {w:World} (hS:Sn 172 [] w0 L Es w) (b:Nat) (hb:b < 6) (O:Od) (hs:O.name.size≤140737488355328) (hlen:Es.length≤1000000) :
 Calls Tryz.prog 162 #[.pointer (some ⟨w0.heap.size,0,none⟩),.int .i64 (b:Int),.agg O.cells] w fun e w'=>e=.returned (.tuple #[])∧Sn 172 [] w0 (hitsL L b O) (Es++hitsE L b O) w'∧Stp w0.heap.size 165 w w':=by
 have X0:=hide (hS.alloc (.cells O.cells 149))
 have T0:=hide (Stp.below (o:=165) (below_box w (.cells O.cells 149)) hS.lt)
 have G0:=heap_alloc_new w (.cells O.cells 149)
 have o1:(w.alloc (.cells O.cells 149)).cell? ⟨w.heap.size,1,none⟩=some (.int .i64 O.nth):=by rw [cell_of_row _ _ _ _ _ _ G0]; rfl
 have o2:(w.alloc (.cells O.cells 149)).cell? ⟨w.heap.size,2,none⟩=some (.bool O.all):=by rw [cell_of_row _ _ _ _ _ _ G0]; rfl
 have o3:(w.alloc (.cells O.cells 149)).cell? ⟨w.heap.size,3,none⟩=some (.string O.name):=by rw [cell_of_row _ _ _ _ _ _ G0]; rfl
 clear hS G0
 have hbi:(b:Int) < 6:=by omega
 go_enter Tryz.func162,Tryz.ntmps162
 by_cases hg:O.nth=1∧O.all=false
 ·have HW:=hide (show hitW L b O=whoL L b O.name by unfold hitW; rw [if_pos hg])
  have hnb:(O.nth != 1)=false:=by simp [hg.1]
  rw [hg.2] at o2
  clear hg
  go_upto_if 1 with fail
  generalize w.alloc (.cells O.cells 149)=wa at *
  go_wp2_with fail
  refine (somebody_any X0.out b hb O.name hs hlen).mono ?_
  rintro e w1 h
  clear o1 o2 o3
  rcases h with ⟨c,hc,rfl,S1h,T1h⟩ | ⟨hc,rfl,S1h,T1h⟩
  ·have HL:=hide (show hitsL L b O=foesL L b c by unfold hitsL; rw [HW.out,hc])
   have HE:=hide (show hitsE L b O=[tellE (foesL L b c) b fightS] by unfold hitsE; rw [HW.out,hc])
   obtain ⟨h6,hsee⟩:=who_sees hc
   have hcb:c ≠ b:=by
    unfold seesO at hsee
    simp only [Bool.and_eq_true,decide_eq_true_eq] at hsee
    exact hsee.1
   have hci:(c:Int) < 6:=by omega
   have S1:=hide S1h
   have T1:=hide (T0.out.trans T1h)
   have d5:=S1h.being b 5 hb (by omega)
   have e5:=S1h.being c 5 h6 (by omega)
   have f5:=S1h.soft (129+b*6+5)
   have g5:=S1h.soft (129+c*6+5)
   simp only [Ld.beingCell] at d5 e5
   have X1:=hide (S1h.set (by omega) (L.up_foe b hb ((c:Int)+1)))
   have Y1:Hid (Stp w0.heap.size 165 w1 (w1.setCell ⟨w0.heap.size,129+b*6+5,none⟩ (.int .i64 ((c:Int)+1)))):=Stp.put (by omega)
   have hne:129+c*6+5 ≠ 129+b*6+5:=by omega
   have hne2:129+b*6+5 ≠ 129+c*6+5:=by omega
   have hfe:(L.setFoe b ((c:Int)+1)).foe c=L.foe c:=by simp [Ld.setFoe,hcb]
   by_cases h0:L.foe c=0
   ·have HF:=hide (show foesL L b c=(L.setFoe b ((c:Int)+1)).setFoe c ((b:Int)+1) by unfold foesL; rw [hfe,if_pos h0])
    rw [h0] at e5
    have X2:=hide (X1.out.set (by omega) ((L.setFoe b ((c:Int)+1)).up_foe c h6 ((b:Int)+1)))
    have Y2:Hid (Stp w0.heap.size 165 (w1.setCell ⟨w0.heap.size,129+b*6+5,none⟩ (.int .i64 ((c:Int)+1))) ((w1.setCell ⟨w0.heap.size,129+b*6+5,none⟩ (.int .i64 ((c:Int)+1))).setCell ⟨w0.heap.size,129+c*6+5,none⟩ (.int .i64 ((b:Int)+1)))):=Stp.put (by omega)
    clear S1h T1h hc hsee h0 hfe
    go_wp2_with fail
    refine (rtell_any X2.out b hb _ hlen).mono ?_
    rintro e w2 ⟨rfl,S2h,T2h⟩
    have S2:=hide S2h
    have T2:=hide (T1.out.trans (Y1.out.trans (Y2.out.trans T2h)))
    clear S2h T2h X1 X2 Y1 Y2 S1 T1
    go_wp2
    go_end0
    exact ⟨rfl,by rw [HL.out,HE.out,HF.out]; exact S2.out,T2.out⟩
   ·have HF:=hide (show foesL L b c=L.setFoe b ((c:Int)+1) by unfold foesL; rw [hfe,if_neg h0])
    have h0b:(L.foe c==0)=false:=by simp [h0]
    clear S1h T1h hc hsee h0 hfe
    go_wp2_with fail
    refine (rtell_any X1.out b hb _ hlen).mono ?_
    rintro e w2 ⟨rfl,S2h,T2h⟩
    have S2:=hide S2h
    have T2:=hide (T1.out.trans (Y1.out.trans T2h))
    clear S2h T2h X1 Y1 S1 T1
    go_wp2
    go_end0
    exact ⟨rfl,by rw [HL.out,HE.out,HF.out]; exact S2.out,T2.out⟩
  ·have HL:=hide (show hitsL L b O=L by unfold hitsL; rw [HW.out,hc])
   have HE:=hide (show hitsE L b O=[tellE L b nobodyS] by unfold hitsE; rw [HW.out,hc])
   have S1:=hide S1h
   have T1:=hide (T0.out.trans T1h)
   clear S1h T1h hc
   go_wp2
   exact bodyPost_ret (v:=.tuple #[]) (results_none rfl _ _ _) rfl ⟨rfl,by rw [HL.out,HE.out]; exact S1.out,T1.out⟩
 ·have HW:=hide (show hitW L b O=none by unfold hitW; rw [if_neg hg])
  have HL:=hide (show hitsL L b O=L by unfold hitsL; rw [HW.out])
  have HE:=hide (show hitsE L b O=[tellE L b nobodyS] by unfold hitsE; rw [HW.out])
  have hg2:(O.nth != 1)=true∨((O.nth != 1)=false∧O.all=true):=by
   by_cases h:O.nth=1
   ·exact .inr ⟨by simp [h],by cases h4:O.all with
     | true=>rfl
     | false=>exact absurd ⟨h,h4⟩ hg⟩
   ·exact .inl (by simp [h])
  clear hg
  rcases hg2 with hnb | ⟨hnb,h4⟩
  all_goals
   (try rw [h4] at o2)
   go_upto_if 1 with fail
   generalize w.alloc (.cells O.cells 149)=wa at *
   go_wp2_with fail
   refine (rtell_any X0.out b hb _ hlen).mono ?_
   rintro e w1 ⟨rfl,S1h,T1h⟩
   have S1:=hide S1h
   have T1:=hide (T0.out.trans T1h)
   clear S1h T1h o1 o2 o3
   go_wp2
   exact bodyPost_ret (v:=.tuple #[]) (results_none rfl _ _ _) rfl ⟨rfl,by rw [HL.out,HE.out]; exact S1.out,T1.out⟩
open Go.RowKit
def inL (L:Ld) (i:Nat) (O:Od):List Int:=meantL L (hasK L 2 (i:Int) 9) O.nth O.all O.name
theorem in_lt {L:Ld} {i:Nat} {O:Od} {x:Int} (h:x ∈ inL L i O):∃ i:Nat,x=(i:Int)∧i < 9:=has_lt (meant_mem h)
theorem in_len (L:Ld) (i:Nat) (O:Od):(inL L i O).length≤9:=by
 have h0:(hasK L 2 (i:Int) 9).length≤9:=hasK_len ..
 have h1:=List.length_filter_le (fits L O.name) (hasK L 2 (i:Int) 9)
 unfold inL meantL nthL
 split
 ·omega
 ·split <;> simp
def getBL (L:Ld) (b:Nat) (O:Od):Ld:=match (boxL L b O.second).1 with
 | none=>L
 | some i=>(takeS L b (inL L i O)).1
def getBE (L:Ld) (b:Nat) (O:Od):List Ev:=match (boxL L b O.second).1 with
 | none=>[tellE L b (boxL L b O.second).2]
 | some i=>sigE L b (inL L i O) noThingS++(takeS L b (inL L i O)).2
def getAL (L:Ld) (b:Nat) (O:Od):Ld:=if O.second=⟨#[]⟩ then getL L b O else getBL L b O
def getAE (L:Ld) (b:Nat) (O:Od):List Ev:=if O.second=⟨#[]⟩ then getE L b O else getBE L b O
theorem rgetB_any {w0:World} {L:Ld} {Es:List Ev} {w:World} (hS:Sn 172 [] w0 L Es w) (b:Nat) (hb:b < 6) (O:Od) (h2:O.second ≠ ⟨#[]⟩) (hs:O.second.size≤140737488355328) (hn0:-9223372036854775808≤O.nth) (hn1:O.nth≤9223372036854775807) (hlen:Es.length≤900000) :
 Calls Tryz.prog 153 #[.pointer (some ⟨w0.heap.size,0,none⟩),.int .i64 (b:Int),.agg O.cells] w fun e w'=>e=.returned (.tuple #[])∧Sn 172 [] w0 (getBL L b O) (Es++getBE L b O) w'∧Stp w0.heap.size 165 w w':=by
 have hsn:O.second.toList.isEmpty=false:=by rw [empty_iff]; simpa using h2
 have X0:=hide (hS.alloc (.cells O.cells 149))
 have T0:=hide (Stp.below (o:=165) (below_box w (.cells O.cells 149)) hS.lt)
 have L0:=hide (below_box w (.cells O.cells 149))
 have G0:=hide (heap_alloc_new w (.cells O.cells 149))
 have K0:=hide (hS.kept (below_box w (.cells O.cells 149)) (Nat.le_refl _) (by simp))
 clear hS h2
 go_enter Tryz.func153,Tryz.ntmps153
 go_wp2_with fail
 refine (sight_any X0.out b hb).mono ?_
 rintro e w1 ⟨v,rfl,ho,hb1⟩
 have S1:=hide (X0.out.below hb1)
 have T1:=hide (T0.out.trans (X0.out.stp hb1 165))
 have N1:=hide (numk_own X0.out hb1 ho)
 have G1:=hide (show w1.heap[w.heap.size]?=some (.cells O.cells 149 (0,0)) by rw [hb1.block _ (by simp)]; exact G0.out)
 have o4:w1.cell? ⟨w.heap.size,4,none⟩=some (.string O.second):=by rw [cell_of_row _ _ _ _ _ _ G1.out]; rfl
 have K1:=hide ((X0.out.stp hb1 165).kept K0.out).1
 obtain ⟨av,cap,rfl⟩:=ho.shape
 clear ho hb1 X0 T0 L0 G0 K0 N1
 go_wp2_with fail
 refine (rbox_any S1.out b hb O.second hs (by omega)).mono ?_
 rintro e w1b h
 clear o4
 rcases h with ⟨box,hbx,rfl,S1h,T1h⟩ | ⟨hbx,rfl,S1h,T1h⟩
 rotate_left
 ·have HL:=hide (show getBL L b O=L by unfold getBL; rw [hbx])
  have HE:=hide (show getBE L b O=[tellE L b (boxL L b O.second).2] by unfold getBE; rw [hbx])
  have S1b:=hide S1h
  have T1b:=hide (T1.out.trans T1h)
  clear S1h T1h hbx
  go_wp2
  exact bodyPost_ret (v:=.tuple #[]) (results_none rfl _ _ _) rfl ⟨rfl,by rw [HL.out,HE.out]; exact S1b.out,T1b.out⟩
 have HL:=hide (show getBL L b O=(takeS L b (inL L box O)).1 by unfold getBL; rw [hbx])
 have HE:=hide (show getBE L b O=sigE L b (inL L box O) noThingS++(takeS L b (inL L box O)).2 by unfold getBE; rw [hbx])
 have S1b:=hide S1h
 have T1b:=hide (T1.out.trans T1h)
 have K1b:=hide (T1h.kept K1.out).1
 have G1b:=hide ((T1h.kept K1.out).2.trans G1.out)
 clear S1h T1h hbx S1 T1 G1 K1
 go_wp2_with (refine wl_scene (.tmp 29) rfl rfl rfl S1b.out ?_)
 refine (has_own L 2 (box:Int) _).mono ?_
 rintro e w1c ⟨v,rfl,ho,hbc⟩
 have S1c:=hide (S1b.out.below hbc)
 have T1c:=hide (T1b.out.trans (S1b.out.stp hbc 165))
 have G1c:=hide (((S1b.out.stp hbc 165).kept K1b.out).2.trans G1b.out)
 have N1c:=hide (numk_own S1b.out hbc (OwnI.base (show OwnI _ _ _ _ from ho) (Nat.le_succ _)))
 obtain ⟨avc,capc,rfl⟩:=own_shapeN ho
 have hsl:(hasK L 2 (box:Int) 9).length≤9:=hasK_len ..
 clear ho hbc S1b T1b G1b K1b
 go_wp2_with (refine wl_wanted rfl (wp_load_row 149 (.tmp 5) rfl w.heap.size rfl 149 O.cells (0,0) _ G1c.out Tryz.underlying149 rfl Tryz.sizeOrder ?_))
 refine (meant_any S1c.out N1c.out (fun x hx=>has_lt hx) (by omega) O hn0 hn1).mono ?_
 rintro e w2 ⟨v',rfl,hK,hb2⟩
 have S2:=hide (S1c.out.below hb2)
 have T2:=hide (T1c.out.trans (S1c.out.stp hb2 165))
 have N2:=hide hK
 obtain ⟨av2,cap2,rfl⟩:=hK.shape
 have HM:=hide (fun x (hx:x ∈ inL L box O)=>in_lt hx)
 have hml:=in_len L box O
 change Hid (NumK _ _ _ (.slice av2 (inL L box O).length cap2) (inL L box O)) at N2
 rw [show meantL L (hasK L 2 (box:Int) 9) O.nth O.all O.name=inL L box O from rfl]
 clear hK hb2 S1c T1c N1c G1c hsl hsn
 generalize inL L box O=q at *
 generalize hn:q.length=n at *
 have HNn:=hide hn
 clear hn
 cases hz:decide (n=0) with
 | true =>
  have hz0:n=0:=by simpa using hz
  subst hz0
  have hq0:q=[]:=List.eq_nil_of_length_eq_zero HNn.out
  have HE2:=hide (show getBE L b O=[tellE L b noThingS] by rw [HE.out,hq0]; rfl)
  have HL2:=hide (show getBL L b O=L by rw [HL.out,hq0]; rfl)
  clear hz hq0
  go_wp2_with fail
  refine (rtell_any S2.out b hb _ (by omega)).mono ?_
  rintro e w3 ⟨rfl,S3h,T3h⟩
  have S3:=hide S3h
  have T3:=hide (T2.out.trans T3h)
  clear S3h T3h S2 T2 N2
  go_wp2_with fail
  go_loopw [45] (fun c wr=>c=.int .i64 0∧wr=w3) (fun _ _=>0)
  case atStart=>exact ⟨rfl,rfl⟩
  case round =>
   obtain ⟨rfl,rfl⟩:=hrel
   go_wp2
   go_end0
   exact ⟨rfl,by rw [HL2.out,HE2.out]; exact S3.out,T3.out⟩
 | false =>
  have hz0:n ≠ 0:=by simpa using hz
  have hzi:((n:Int)==0)=false:=by simp; omega
  have hq0:q ≠ []:=fun e=>by have:=HNn.out; rw [e] at this; simp at this; omega
  have HE2:=hide (show getBE L b O=(takeS L b q).2 by rw [HE.out]; unfold sigE; rw [if_neg hq0]; rfl)
  clear hz hq0
  go_wp2_with fail
  go_loopw [45] (fun c wr=>∃ k:Nat,k≤n∧c=.int .i64 k∧Sn 172 [] w0 (takeS L b (q.take k)).1 (Es++(takeS L b (q.take k)).2) wr∧Stp w0.heap.size 165 w wr∧NumK w0.heap.size 165 wr (.slice av2 n cap2) q) (fun c _=>n - (intOf c).toNat)
  case atStart=>exact ⟨0,by omega,rfl,by simpa [takeS] using S2.out,T2.out,N2.out⟩
  case round =>
   obtain ⟨k,hle,rfl,Rh,Th,Nh⟩:=hrel
   have R:=hide Rh
   have TT:=hide Th
   have N:=hide Nh
   clear Rh Th Nh S2 T2 N2
   by_cases hk:k < n
   ·have hkq:k < q.length:=by rw [HNn.out]; exact hk
    obtain ⟨bq,off,cap',e,hcell⟩:=N.out.cell hkq
    rw [HNn.out] at e
    injection e with e1 e2 e3
    subst e1 e3
    obtain ⟨i,ei,hi⟩:=HM.out _ (getD_mem hkq)
    have HT:=hide (show takeS L b (q.take (k+1))=gstep b (takeS L b (q.take k)) (i:Int) by rw [take_next L b hkq,ei])
    rw [ei] at hcell
    have htl:(takeS L b (q.take k)).2.length≤9:=by rw [take_len]; simp; omega
    clear ei
    go_wp2_with fail
    refine (revent_any R.out 3 b hb).mono ?_
    rintro e w3 ⟨rfl,hb3⟩
    have R3:=hide (R.out.below hb3)
    have T3:=hide (TT.out.trans (R.out.stp hb3 165))
    have N3:=hide (N.out.step (R.out.stp hb3 165))
    clear hb3 R TT N
    go_wp2_with fail
    refine (rmove_any R3.out i hi 1 (b:Int) (evN (takeS L b (q.take k)).1 3 b) (by simp only [List.length_append]; omega)).mono ?_
    rintro e w4 ⟨rfl,S4h,T4h⟩
    have S4:=hide S4h
    have T4:=hide (T3.out.trans T4h)
    have N4:=hide (N3.out.step T4h)
    clear S4h T4h R3 T3 N3
    go_wp2
    go_roundw
    case rel=>exact ⟨k+1,by omega,by go_num,by rw [HT.out]; simpa only [gstep,Int.toNat_natCast,List.append_assoc] using S4.out,T4.out,N4.out⟩
    case measure=>simp [intOf]; omega
   ·have hkn:k=n:=by omega
    subst hkn
    have hall:q.take k=q:=by rw [← HNn.out]; exact List.take_length
    rw [hall] at R
    clear hall
    go_wp2
    go_end0
    exact ⟨rfl,by rw [HL.out,HE2.out]; exact R.out,TT.out⟩
theorem rgetA_any {w0:World} {L:Ld} {Es:List Ev} {w:World} (hS:Sn 172 [] w0 L Es w) (b:Nat) (hb:b < 6) (O:Od) (hs:O.second.size≤140737488355328) (hn0:-9223372036854775808≤O.nth) (hn1:O.nth≤9223372036854775807) (hlen:Es.length≤900000) :
 Calls Tryz.prog 153 #[.pointer (some ⟨w0.heap.size,0,none⟩),.int .i64 (b:Int),.agg O.cells] w fun e w'=>e=.returned (.tuple #[])∧Sn 172 [] w0 (getAL L b O) (Es++getAE L b O) w'∧Stp w0.heap.size 165 w w':=by
 unfold getAL getAE
 by_cases h:O.second=⟨#[]⟩
 ·rw [if_pos h,if_pos h]; exact rget_any hS b hb O h hn0 hn1 hlen
 ·rw [if_neg h,if_neg h]; exact rgetB_any hS b hb O h hs hn0 hn1 hlen
open Go.RowKit
theorem drop_zero (L:Ld) (b:Nat):dropS L b []=L:=by simp [dropS]
theorem drop_next (L:Ld) (b i:Nat) (S:List Int) (hi:(i:Int) ∉ S) (h2:L.kind i ≠ 2):((dropS L b S).setWh i 0).setLoc i (L.room b)=dropS L b (S++[(i:Int)]):=by
 unfold dropS Ld.setWh Ld.setLoc
 congr 1
 ·funext j
  by_cases e:j=i
  ·subst e; simp
  ·have:¬ (j:Int)=(i:Int):=by omega
   simp [e,this]
 ·funext j
  by_cases e:j=i
  ·subst e; simp
  ·have:¬ (j:Int)=(i:Int):=by omega
   simp [e,this]
 ·funext j
  by_cases e:j=i
  ·subst e; simp [hi,h2]
  ·have:¬ (j:Int)=(i:Int):=by omega
   simp [this]
theorem drop_cloak (L:Ld) (b i:Nat) (S:List Int) (h2:L.kind i=2):(((dropS L b S).setWh i 0).setLoc i (L.room b)).setOn i false=dropS L b (S++[(i:Int)]):=by
 unfold dropS Ld.setWh Ld.setLoc Ld.setOn
 congr 1
 ·funext j
  by_cases e:j=i
  ·subst e; simp
  ·have:¬ (j:Int)=(i:Int):=by omega
   simp [e,this]
 ·funext j
  by_cases e:j=i
  ·subst e; simp
  ·have:¬ (j:Int)=(i:Int):=by omega
   simp [e,this]
 ·funext j
  by_cases e:j=i
  ·subst e; simp [h2]
  ·have:¬ (j:Int)=(i:Int):=by omega
   simp [e,this]
theorem free_zero (L:Ld) (b:Nat):freeK L b 0=L:=by simp [freeK]
theorem free_yes (L:Ld) (b k:Nat) (h:L.foe k=(b:Int)+1):(freeK L b k).setFoe k 0=freeK L b (k+1):=by
 unfold freeK Ld.setFoe
 congr 1
 funext j
 by_cases e:j=k
 ·subst e; simp [h]
 ·by_cases e2:j < k
  ·simp [e,e2,show j < k+1 by omega]
  ·simp [e,e2,show ¬ j < k+1 by omega]
theorem free_no (L:Ld) (b k:Nat) (h:L.foe k ≠ (b:Int)+1):freeK L b k=freeK L b (k+1):=by
 unfold freeK
 congr 1
 funext j
 by_cases e:j=k
 ·subst e; simp [h]
 ·by_cases e2:j < k
  ·simp [e2,show j < k+1 by omega]
  ·simp [e2,show ¬ j < k+1 by omega]
theorem hand_nodup (L:Ld) (b:Nat):(handL L b).Nodup:=by
 unfold handL hasK
 unfold List.Nodup
 rw [List.pairwise_map]
 exact (List.Pairwise.filter _ List.nodup_range).imp fun h e=>h (Int.ofNat.inj e)
theorem nodup_take {q:List Int} (h:q.Nodup) {k:Nat} (hk:k < q.length):q.getD k 0 ∉ q.take k:=by
 have e:q=q.take k++q.drop k:=(List.take_append_drop k q).symm
 have hd:q.drop k=q.getD k 0::q.drop (k+1):=by rw [List.drop_eq_getElem_cons hk]; simp [hk]
 rw [e,hd] at h
 have:=(List.nodup_append.1 h).2.2
 intro hm
 exact this _ hm _ (List.mem_cons_self ..) rfl
theorem letGo_any {w0:World} {L:Ld} {Es:List Ev} {w:World} (hS:Sn 172 [] w0 L Es w) (hf:Fine L) (b:Nat) (hb:b < 6) :
 Calls Tryz.prog 166 #[.pointer (some ⟨w0.heap.size,0,none⟩),.int .i64 (b:Int)] w fun e w'=>e=.returned (.tuple #[])∧Sn 172 [] w0 (letGoL L b) Es w'∧Stp w0.heap.size 165 w w':=by
 obtain ⟨r,hr,er⟩:=hf.room b hb
 have HER:=hide er
 have HF:=hide hf
 have hbi:(b:Int) < 6:=by omega
 clear hf er
 go_enter Tryz.func166,Tryz.ntmps166
 go_wp2_with fail
 refine (rhand_any hS b).mono ?_
 rintro e w1 ⟨v,rfl,ho,hb1⟩
 have S1:=hide (hS.below hb1)
 have T1:=hide (hS.stp hb1 165)
 have N1:=hide (numk_own hS hb1 ho)
 obtain ⟨av,cap,rfl⟩:=ho.shape
 clear ho hb1 hS
 have hlq:=hand_len L b
 generalize hq:handL L b=q at *
 have HQ:=hide hq
 clear hq
 generalize hn:q.length=n at *
 have HNn:=hide hn
 clear hn
 go_wp2_with fail
 go_loopw [20] (fun c wr=>∃ k:Nat,k≤n∧c=.int .i64 k∧Sn 172 [] w0 (dropS L b (q.take k)) Es wr∧Stp w0.heap.size 165 w wr∧NumK w0.heap.size 165 wr (.slice av n cap) q) (fun c _=>n - (intOf c).toNat)
 case atStart=>exact ⟨0,by omega,rfl,by rw [List.take_zero,drop_zero]; exact S1.out,T1.out,N1.out⟩
 case round =>
  obtain ⟨k,hle,rfl,Rh,Th,Nh⟩:=hrel
  have R:=hide Rh
  have TT:=hide Th
  have N:=hide Nh
  clear Rh Th Nh S1 T1 N1
  by_cases hk:k < n
  ·have hkq:k < q.length:=by rw [HNn.out]; exact hk
   obtain ⟨bq,off,cap',e,hcell⟩:=N.out.cell hkq
   rw [HNn.out] at e
   injection e with e1 e2 e3
   subst e1 e3
   have hmem:q.getD k 0 ∈ handL L b:=by rw [HQ.out]; exact getD_mem hkq
   obtain ⟨i,ei,hi⟩:=hand_lt hmem
   have hnm:(i:Int) ∉ q.take k:=by
    rw [← ei]
    exact nodup_take (by rw [← HQ.out]; exact hand_nodup L b) hkq
   have HT:=hide (show q.take (k+1)=q.take k++[(i:Int)] by rw [take_snoc hkq,ei])
   rw [ei] at hcell
   have hci:(i:Int) < 9:=by omega
   have c1:=R.out.thing i 1 hi (by omega)
   have c2:=R.out.thing i 2 hi (by omega)
   have c3:=R.out.thing i 3 hi (by omega)
   have c4:=R.out.thing i 4 hi (by omega)
   have m3:=R.out.being b 3 hb (by omega)
   have f2:=R.out.soft (84+i*5+2)
   have f3:=R.out.soft (84+i*5+3)
   have f4:=R.out.soft (84+i*5+4)
   simp only [Ld.thingCell,Ld.beingCell] at c1 c2 c3 c4 m3
   have em:(dropS L b (q.take k)).room b=L.room b:=rfl
   have ek:(dropS L b (q.take k)).kind i=L.kind i:=rfl
   rw [em] at m3
   rw [ek] at c1
   have X2:=(R.out.set (by omega) ((dropS L b (q.take k)).up_wh i hi 0)).set (by omega) (((dropS L b (q.take k)).setWh i 0).up_loc i hi (L.room b))
   have Y2:=(TT.out.trans (R.out.step (n:=84+i*5+2) (by omega) (.int .i64 0))).trans (Stp.put (o:=165) (n:=84+i*5+3) (x:=.int .i64 (L.room b)) (by omega))
   have Z2:=(N.out.step (R.out.step (n:=84+i*5+2) (by omega) (.int .i64 0))).step (Stp.put (o:=165) (n:=84+i*5+3) (x:=.int .i64 (L.room b)) (by omega))
   by_cases h2:L.kind i=2
   ·have hb2:(L.kind i==2)=true:=by simp [h2]
    have X:=hide (X2.set (by omega) ((((dropS L b (q.take k)).setWh i 0).setLoc i (L.room b)).up_on i hi false))
    have Y:=hide (Y2.trans (Stp.put (o:=165) (n:=84+i*5+4) (x:=.bool false) (by omega)))
    have Z:=hide (Z2.step (Stp.put (o:=165) (n:=84+i*5+4) (x:=.bool false) (by omega)))
    rw [drop_cloak L b i _ h2] at X
    clear X2 Y2 Z2 em ek h2 hmem ei hnm
    go_wp2
    go_roundw
    case rel=>exact ⟨k+1,by omega,by go_num,by rw [HT.out]; exact X.out,Y.out,Z.out⟩
    case measure=>simp [intOf]; omega
   ·have hb2:(L.kind i==2)=false:=by simp [h2]
    have X:=hide X2
    have Y:=hide Y2
    have Z:=hide Z2
    rw [drop_next L b i _ hnm h2] at X
    clear X2 Y2 Z2 em ek h2 hmem ei hnm
    go_wp2
    go_roundw
    case rel=>exact ⟨k+1,by omega,by go_num,by rw [HT.out]; exact X.out,Y.out,Z.out⟩
    case measure=>simp [intOf]; omega
  ·have hkn:k=n:=by omega
   subst hkn
   have R0:=R.out
   rw [show q.take k=q by rw [← HNn.out]; exact List.take_length] at R0
   have R1:=hide R0
   clear R0 R N
   go_wp2_with fail
   generalize hM:dropS L b q=M at *
   have HM:=hide hM
   clear hM
   go_loopw [49] (fun c wr=>∃ k:Nat,k≤6∧c=.int .i64 k∧Sn 172 [] w0 (freeK M b k) Es wr∧Stp w0.heap.size 165 w wr) (fun c _=>6 - (intOf c).toNat)
   case atStart=>exact ⟨0,by omega,rfl,by rw [free_zero]; exact R1.out,TT.out⟩
   case round =>
    obtain ⟨j,hlj,rfl,Rh,Th⟩:=hrel
    have R:=hide Rh
    have T2:=hide Th
    clear Rh Th R1 TT
    by_cases hj:j < 6
    ·have hji:(j:Int) < 6:=by omega
     have c5:=R.out.being j 5 hj (by omega)
     have f5:=R.out.soft (129+j*6+5)
     simp only [Ld.beingCell] at c5
     have ef:(freeK M b j).foe j=M.foe j:=by simp [freeK]
     rw [ef] at c5
     have hwb:wrap64 ((b:Int)+1)=(b:Int)+1:=by simp only [wrap64]; omega
     by_cases h:M.foe j=(b:Int)+1
     ·have hbf:(M.foe j==(b:Int)+1)=true:=by simp [h]
      have X:=hide (R.out.set (by omega) ((freeK M b j).up_foe j hj 0))
      have Y:=hide (T2.out.trans (R.out.step (n:=129+j*6+5) (by omega) (.int .i64 0)))
      rw [free_yes M b j h] at X
      clear h ef
      go_wp2
      go_roundw
      case rel=>exact ⟨j+1,by omega,by go_num,X.out,Y.out⟩
      case measure=>simp [intOf]; omega
     ·have hbf:(M.foe j==(b:Int)+1)=false:=by simp [h]
      have X:=hide R.out
      rw [free_no M b j h] at X
      clear h ef
      go_wp2
      go_roundw
      case rel=>exact ⟨j+1,by omega,by go_num,X.out,T2.out⟩
      case measure=>simp [intOf]; omega
    ·have hj6:j=6:=by omega
     subst hj6
     have c5:=R.out.being b 5 hb (by omega)
     have f5:=R.out.soft (129+b*6+5)
     simp only [Ld.beingCell] at c5
     have X:=hide (R.out.set (by omega) ((freeK M b 6).up_foe b hb 0))
     have Y:=hide (T2.out.trans (R.out.step (n:=129+b*6+5) (by omega) (.int .i64 0)))
     have HV:=hide (show letGoL L b=(freeK M b 6).setFoe b 0 by unfold letGoL; rw [HQ.out,HM.out])
     clear R T2
     go_wp2
     go_end0
     exact ⟨rfl,by rw [HV.out]; exact X.out,Y.out⟩
end Go.Proofs.YtncgcejlkmoliaaGreatDoor
