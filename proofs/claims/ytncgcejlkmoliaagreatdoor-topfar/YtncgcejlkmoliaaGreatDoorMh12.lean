import Derived.Test.YtncgcejlkmoliaaGreatDoorMh11
import Derived.Test.YtncgcejlkmoliaaGreatDoorMh07
import Derived.Test.YtncgcejlkmoliaaGreatDoorMh08
set_option linter.unusedVariables false
set_option maxRecDepth 100000
set_option maxHeartbeats 16000000
namespace Go.Proofs.YtncgcejlkmoliaaGreatDoor
open Go.RowKit
def turnQ (L:Ld) (b:Nat) (C:Chg):List Int:=if C.kind=3 then reachL L b else handL L b
def turnM (L:Ld) (b:Nat) (O:Od) (C:Chg):List Int:=meantL L (turnQ L b C) (max O.nth 1) false O.name
def pickT (L:Ld) (k:Int) (q:List Int):Option Nat:=match q with
 | []=>none
 | i::_=>if L.kind i.toNat=k then some i.toNat else none
def turnW (L:Ld) (b:Nat) (O:Od) (C:Chg):Option Nat:=pickT L C.kind (turnM L b O C)
def turnL (L:Ld) (b:Nat) (O:Od) (C:Chg):Ld:=match turnW L b O C with
 | none=>L
 | some i=>if L.on i=C.on then L else L.setOn i C.on
def turnEv (L:Ld) (b i:Nat) (C:Chg):Ev:={ evN L C.event b with thing:=L.tname i }
def turnE (L:Ld) (b:Nat) (O:Od) (C:Chg):List Ev:=match turnW L b O C with
 | none=>[tellE L b noThingS]
 | some i=>if L.on i=C.on then [tellE L b isSoS] else [allE (if C.behind=true then L.setOn i C.on else L) (turnEv L b i C)]
theorem turnQ_lt {L:Ld} {b:Nat} {C:Chg} {x:Int} (h:x ∈ turnQ L b C):∃ i:Nat,x=(i:Int)∧i < 9:=by
 unfold turnQ at h
 split at h
 ·exact reach_lt h
 ·exact hand_lt h
theorem turnQ_len (L:Ld) (b:Nat) (C:Chg):(turnQ L b C).length≤18:=by
 unfold turnQ
 split
 ·exact reach_len L b
 ·have:=hand_len L b; omega
theorem turnW_lt {L:Ld} {b i:Nat} {O:Od} {C:Chg} (h:turnW L b O C=some i):i < 9∧(i:Int) ∈ turnQ L b C∧L.kind i=C.kind:=by
 unfold turnW pickT at h
 split at h
 ·simp at h
 ·rename_i j r hq
  have hm:j ∈ turnQ L b C:=meant_mem (show j ∈ turnM L b O C by rw [hq]; exact List.mem_cons_self ..)
  obtain ⟨k,rfl,hk⟩:=turnQ_lt hm
  split at h
  ·rename_i h3
   simp at h h3
   subst h
   exact ⟨hk,hm,h3⟩
  ·simp at h
structure TuRel (w0:World) (L:Ld) (Es:List Ev) (O:Od) (C:Chg) (w wr:World):Prop where
 sn:Sn 172 [] w0 L Es wr
 st:Stp w0.heap.size 165 w wr
 ord:wr.heap[w.heap.size]?=some (.cells O.cells 149 (0,0))
 chg:wr.heap[w.heap.size+1]?=some (.cells C.cells 202 (0,0))
 k0:Kept w0.heap.size 165 wr w.heap.size
 k1:Kept w0.heap.size 165 wr (w.heap.size+1)
section
variable {w0 w wr wr':World} {L:Ld} {Es:List Ev} {O:Od} {C:Chg}
theorem TuRel.below (h:TuRel w0 L Es O C w wr) (hb:Below wr.heap.size wr wr'):TuRel w0 L Es O C w wr' :=
 ⟨h.sn.below hb,h.st.trans (h.sn.stp hb 165),by rw [hb.block _ h.k0.lt]; exact h.ord,by rw [hb.block _ h.k1.lt]; exact h.chg,((h.sn.stp hb 165).kept h.k0).1,((h.sn.stp hb 165).kept h.k1).1⟩
theorem TuRel.drewN (h:TuRel w0 L Es O C w wr) (n:Nat):TuRel w0 L Es O C w (wr.drewN n):=h.below (below_drewN (Below.refl _ _) n)
theorem TuRel.cells (h:TuRel w0 L Es O C w wr):wr.cell? ⟨w.heap.size+1,0,none⟩=some (.int .i64 C.kind)∧wr.cell? ⟨w.heap.size+1,1,none⟩=some (.int .i64 C.event)∧wr.cell? ⟨w.heap.size+1,2,none⟩=some (.bool C.on)∧wr.cell? ⟨w.heap.size+1,3,none⟩=some (.bool C.behind) :=
 ⟨by rw [cell_of_row _ _ _ _ _ _ h.chg]; rfl,by rw [cell_of_row _ _ _ _ _ _ h.chg]; rfl,by rw [cell_of_row _ _ _ _ _ _ h.chg]; rfl,by rw [cell_of_row _ _ _ _ _ _ h.chg]; rfl⟩
theorem tu_start (hS:Sn 172 [] w0 L Es w) (O:Od) (C:Chg) (m:Int) :
 TuRel w0 L Es { O with nth:=m,all:=false } C w ((w.alloc (.cells ((O.cells.setIfInBounds 1 (.int .i64 m)).setIfInBounds 2 (.bool false)) 149)).alloc (.cells C.cells 202)):=by
 have hb:Below w.heap.size w ((w.alloc (.cells ((O.cells.setIfInBounds 1 (.int .i64 m)).setIfInBounds 2 (.bool false)) 149)).alloc (.cells C.cells 202)):=(below_box w _).alloc (by simp) _
 have hsz:((w.alloc (.cells ((O.cells.setIfInBounds 1 (.int .i64 m)).setIfInBounds 2 (.bool false)) 149)).alloc (.cells C.cells 202)).heap.size=w.heap.size+2:=by simp
 refine ⟨hS.below hb,hS.stp hb 165,?_,?_,hS.kept hb (by omega) (by omega),hS.kept hb (by omega) (by omega)⟩
 ·rw [Below.heap_alloc _ _ _ (by simp)]; exact heap_alloc_new w _
 ·have:=heap_alloc_new (w.alloc (.cells ((O.cells.setIfInBounds 1 (.int .i64 m)).setIfInBounds 2 (.bool false)) 149)) (.cells C.cells 202)
  rw [World.size_alloc] at this; exact this
end
theorem rturn_any {w0:World} {L:Ld} {Es:List Ev} {w:World} (hS:Sn 172 [] w0 L Es w) (b:Nat) (hb:b < 6) (O:Od) (hn0:-9223372036854775808≤O.nth) (hn1:O.nth≤9223372036854775807) (C:Chg) (hlen:Es.length≤900000) :
 Calls Tryz.prog 161 #[.pointer (some ⟨w0.heap.size,0,none⟩),.int .i64 (b:Int),.agg O.cells,.agg C.cells] w fun e w'=>e=.returned (.tuple #[])∧Sn 172 [] w0 (turnL L b O C) (Es++turnE L b O C) w'∧Stp w0.heap.size 165 w w':=by
 have hl:=hS.lt
 obtain ⟨m,hmx,HM,hm0,hm1⟩:∃ m:Int,(∀ (w:World) ts t,(Builtin.max_ ts t #[.int .i64 O.nth,.int .i64 1]).run Tryz.prog w=.ok (.int .i64 m) w)∧Hid (m=max O.nth 1)∧-9223372036854775808≤m∧m≤9223372036854775807 :=
  ⟨max O.nth 1,fun w ts t=>by rw [run_max_int2]; congr 2; split <;> omega,hide rfl,by omega,by omega⟩
 have R0:=hide (tu_start hS O C m)
 have g0:((w.alloc (.cells O.cells 149)).alloc (.cells C.cells 202)).heap[w.heap.size]?=some (.cells O.cells 149 (0,0)):=by
  rw [Below.heap_alloc _ _ _ (by simp)]; exact heap_alloc_new w _
 have o1:((w.alloc (.cells O.cells 149)).alloc (.cells C.cells 202)).cell? ⟨w.heap.size,1,none⟩=some (.int .i64 O.nth):=by rw [cell_of_row _ _ _ _ _ _ g0]; rfl
 have o2:((w.alloc (.cells O.cells 149)).alloc (.cells C.cells 202)).cell? ⟨w.heap.size,2,none⟩=some (.bool O.all):=by rw [cell_of_row _ _ _ _ _ _ g0]; rfl
 have f1:((w.alloc (.cells O.cells 149)).alloc (.cells C.cells 202)).frozen? ⟨w.heap.size,1,none⟩=false:=by simp only [World.frozen?,g0]; simp
 have f2:((w.alloc (.cells O.cells 149)).alloc (.cells C.cells 202)).frozen? ⟨w.heap.size,2,none⟩=false:=by simp only [World.frozen?,g0]; simp
 clear hS g0
 go_enter Tryz.func161,Tryz.ntmps161
 go_upto_region 2 with fail
 generalize ((w.alloc (.cells ((O.cells.setIfInBounds 1 (.int .i64 m)).setIfInBounds 2 (.bool false)) 149)).alloc (.cells C.cells 202))=wa at *
 clear o1 o2 f1 f2 hmx
 go_wp2_with fail
 refine (rhand_any R0.out.sn b).mono ?_
 rintro e w1 ⟨v,rfl,ho,hb1⟩
 have R1:=hide (R0.out.below hb1)
 have N1:=hide (numk_own R0.out.sn hb1 ho)
 obtain ⟨av,cap,rfl⟩:=ho.shape
 obtain ⟨c0,-,-,-⟩:=R1.out.cells
 clear ho hb1 R0
 go_upto_if 22 with fail
 go_cut [8] (fun v wc=>(∃ av cap,v=.slice av (turnQ L b C).length cap)∧TuRel w0 L Es { O with nth:=m,all:=false } C w wc∧NumK w0.heap.size 165 wc v (turnQ L b C))
 case first =>
  by_cases h3:C.kind=3
  ·have kb:(C.kind==3)=true:=by simp [h3]
   have HQ:=hide (show turnQ L b C=reachL L b by unfold turnQ; rw [if_pos h3])
   clear h3
   go_wp2_with fail
   refine (reach_any R1.out.sn b hb).mono ?_
   rintro e w2 ⟨v,rfl,ho,hb2⟩
   have R2:=hide (R1.out.below hb2)
   have N2:=hide (numk_own R1.out.sn hb2 ho)
   obtain ⟨av2,cap2,rfl⟩:=ho.shape
   clear ho hb2 R1 c0
   go_wp2
   go_meet
   rw [HQ.out]
   exact ⟨⟨_,_,rfl⟩,R2.out,N2.out⟩
  ·have kb:(C.kind==3)=false:=by simp [h3]
   have HQ:=hide (show turnQ L b C=handL L b by unfold turnQ; rw [if_neg h3])
   clear h3
   go_wp2
   go_meet
   rw [HQ.out]
   exact ⟨⟨_,_,rfl⟩,R1.out,N1.out⟩
 case rest =>
  obtain ⟨⟨av2,cap2,rfl⟩,R2h,N2h⟩:=hcut
  have R2:=hide R2h
  have N2:=hide N2h
  have hq18:=turnQ_len L b C
  clear R2h N2h R1 N1 c0
  go_wp2_with (refine wl_wanted rfl (wp_load_row 149 (.tmp 6) rfl w.heap.size rfl 149 (Od.cells { O with nth:=m,all:=false }) (0,0) _ R2.out.ord Tryz.underlying149 rfl Tryz.sizeOrder ?_))
  refine (meant_any R2.out.sn N2.out (fun x hx=>turnQ_lt hx) hq18 { O with nth:=m,all:=false } hm0 hm1).mono ?_
  rintro e w3 ⟨v',rfl,hK,hb3⟩
  have R3:=hide (R2.out.below hb3)
  have NK:=hide hK
  obtain ⟨av3,cap3,rfl⟩:=hK.shape
  have HW:=hide (show turnW L b O C=pickT L C.kind (meantL L (turnQ L b C) m false O.name) by unfold turnW turnM; rw [HM.out])
  have HT:=hide (fun x (hx:x ∈ meantL L (turnQ L b C) m false O.name)=>turnQ_lt (meant_mem hx))
  have hml:(meantL L (turnQ L b C) m false O.name).length≤1:=by
   unfold meantL nthL
   rw [if_neg (by simp)]
   split <;> simp
  obtain ⟨k0,k1,k2,k3⟩:=R3.out.cells
  clear hK hb3 R2 N2 hq18 hm0 hm1 HM
  simp only at NK ⊢
  generalize meantL L (turnQ L b C) m false O.name=q at *
  cases q with
  | nil =>
   have HL:=hide (show turnL L b O C=L by unfold turnL; rw [HW.out]; rfl)
   have HE:=hide (show turnE L b O C=[tellE L b noThingS] by unfold turnE; rw [HW.out]; rfl)
   clear NK k0 k1 k2 k3
   go_wp2_with fail
   go_quiet (fail)
   go_wp2_with fail
   refine (rtell_any (R3.out.sn.drewN nq) b hb _ (by omega)).mono ?_
   rintro e w4 ⟨rfl,S4h,T4h⟩
   have S4:=hide S4h
   have T4:=hide ((R3.out.drewN nq).st.trans T4h)
   clear S4h T4h R3
   go_wp2
   exact bodyPost_ret (v:=.tuple #[]) (results_none rfl _ _ _) rfl ⟨rfl,by rw [HL.out,HE.out]; exact S4.out,T4.out⟩
  | cons x r =>
   obtain ⟨i,ei,hi⟩:=HT.out x (List.mem_cons_self ..)
   subst ei
   obtain ⟨bq,off,cap',e,hcell⟩:=NK.out.cell (k:=0) (by simp)
   injection e with e1 e2 e3
   subst e1 e3
   have hr0:r=[]:=List.eq_nil_of_length_eq_zero (by have h:=hml; simp only [List.length_cons] at h; omega)
   subst hr0
   simp only [Nat.add_zero,List.getD_cons_zero,List.length_cons,List.length_nil,Nat.zero_add] at hcell e2 ⊢
   have hii:(i:Int) < 9:=by omega
   have c0:=R3.out.sn.thing i 0 hi (by omega)
   have c1:=R3.out.sn.thing i 1 hi (by omega)
   have c4:=R3.out.sn.thing i 4 hi (by omega)
   simp only [Ld.thingCell,Nat.add_zero] at c0 c1 c4
   clear NK HT e2 hml
   by_cases h3:L.kind i=C.kind
   ·have hk3:(L.kind i != C.kind)=false:=by simp [h3]
    have HV:=hide (show turnW L b O C=some i by rw [HW.out]; unfold pickT; simp [h3])
    clear h3 HW
    by_cases h4:L.on i=C.on
    ·have h4b:(L.on i==C.on)=true:=by simp [h4]
     have HL:=hide (show turnL L b O C=L by unfold turnL; rw [HV.out]; simp [h4])
     have HE:=hide (show turnE L b O C=[tellE L b isSoS] by unfold turnE; rw [HV.out]; simp [h4])
     clear h4 HV
     go_wp2_with fail
     go_quiet (fail)
     go_wp2_with fail
     go_quiet (fail)
     go_wp2_with fail
     go_quiet (fail)
     go_wp2_with fail
     refine (rtell_any (R3.out.sn.drewN _) b hb _ (by omega)).mono ?_
     rintro e w4 ⟨rfl,S4h,T4h⟩
     have S4:=hide S4h
     have T4:=hide ((R3.out.drewN _).st.trans T4h)
     clear S4h T4h R3
     go_wp2
     exact bodyPost_ret (v:=.tuple #[]) (results_none rfl _ _ _) rfl ⟨rfl,by rw [HL.out,HE.out]; exact S4.out,T4.out⟩
    ·have h4b:(L.on i==C.on)=false:=by simp [h4]
     have HL:=hide (show turnL L b O C=L.setOn i C.on by unfold turnL; rw [HV.out]; simp [h4])
     have HE0:turnE L b O C=[allE (if C.behind=true then L.setOn i C.on else L) (turnEv L b i C)]:=by unfold turnE; rw [HV.out]; simp [h4]
     cases h5:C.behind with
     | true =>
      have HE:=hide (show turnE L b O C=[allE (L.setOn i C.on) (turnEv L b i C)] by rw [HE0,if_pos h5])
      have HB:=hide h5
      clear h4 HV HE0 h5
      go_wp2_with fail
      go_quiet (fail)
      go_wp2_with fail
      go_quiet (fail)
      go_wp2_with fail
      go_quiet (fail)
      go_wp2_with fail
      generalize hW4:w3.drewN _=w4
      have R4:=hide (show TuRel w0 L Es { O with nth:=m,all:=false } C w w4 by rw [← hW4]; exact R3.out.drewN _)
      clear hW4 R3 k0 k1 k2 k3 c0 c1 c4 hcell
      refine (revent_lit R4.out.sn C.event b hb).mono ?_
      rintro e w5 ⟨rfl,hb5⟩
      have R5:=hide (R4.out.below hb5)
      have hl5:=R5.out.k1.lt
      have hg5:=R5.out.sn.lt
      obtain ⟨-,-,k2,k3⟩:=R5.out.cells
      have c0:=R5.out.sn.thing i 0 hi (by omega)
      have c4:=R5.out.sn.thing i 4 hi (by omega)
      have f4:=R5.out.sn.soft (84+i*5+4)
      simp only [Ld.thingCell,Nat.add_zero] at c0 c4
      clear hb5 R4
      rw [HB.out] at k3
      have S5:=hide (R5.out.sn.set (x:=.bool C.on) (by omega) (L.up_on i hi C.on))
      have T5:Hid (Stp w0.heap.size 165 w (w5.setCell ⟨w0.heap.size,84+i*5+4,none⟩ (.bool C.on))):=R5.out.st.trans (Stp.put (by omega))
      have S6:=hide (S5.out.alloc (.cells (turnEv L b i C).cells 71))
      have T6:=hide (T5.out.trans (S5.out.stp (below_box _ (.cells (turnEv L b i C).cells 71)) 165))
      clear R5
      go_wp2_with (refine wl_new 71 (.tmp 11) (.tmp 73) rfl rfl _ _ rfl rfl rfl Tryz.sizeEvent rfl (by simp [Value.oneCell']) ?_)
      refine (happens_any S6.out (turnEv L b i C) (by omega)).mono ?_
      rintro e w7 ⟨rfl,S7h,T7h⟩
      have S7:=hide S7h
      have T7:=hide (T6.out.trans T7h)
      clear S7h T7h S6 T6 S5 T5
      go_wp2
      go_end0
      exact ⟨rfl,by rw [HL.out,HE.out]; exact S7.out,T7.out⟩
     | false =>
      have HE:=hide (show turnE L b O C=[allE L (turnEv L b i C)] by rw [HE0,if_neg (by simp [h5])])
      have HB:=hide h5
      clear h4 HV HE0 h5
      go_wp2_with fail
      go_quiet (fail)
      go_wp2_with fail
      go_quiet (fail)
      go_wp2_with fail
      go_quiet (fail)
      go_wp2_with fail
      generalize hW4:w3.drewN _=w4
      have R4:=hide (show TuRel w0 L Es { O with nth:=m,all:=false } C w w4 by rw [← hW4]; exact R3.out.drewN _)
      clear hW4 R3 k0 k1 k2 k3 c0 c1 c4 hcell
      refine (revent_lit R4.out.sn C.event b hb).mono ?_
      rintro e w5 ⟨rfl,hb5⟩
      have R5:=hide (R4.out.below hb5)
      have hl5:=R5.out.k1.lt
      have hg5:=R5.out.sn.lt
      obtain ⟨-,-,k2,k3⟩:=R5.out.cells
      have c0:=R5.out.sn.thing i 0 hi (by omega)
      have c4:=R5.out.sn.thing i 4 hi (by omega)
      have f4:=R5.out.sn.soft (84+i*5+4)
      simp only [Ld.thingCell,Nat.add_zero] at c0 c4
      clear hb5 R4
      rw [HB.out] at k3
      have hA:=below_box w5 (.cells (turnEv L b i C).cells 71)
      have R6:=hide (R5.out.below hA)
      have C6:Hid (Cev (w5.alloc (.cells (turnEv L b i C).cells 71)) w5.heap.size (turnEv L b i C)):=cev_new w5 (turnEv L b i C)
      clear hA R5
      go_wp2_with (first | (refine wl_new 71 (.tmp 11) (.tmp 73) rfl rfl _ _ rfl rfl rfl Tryz.sizeEvent rfl (by simp [Value.oneCell']) ?_) | (refine wl_event (.tmp 11) rfl rfl _ (turnEv L b i C) rfl C6.out ?_))
      refine (happens_any R6.out.sn (turnEv L b i C) (by omega)).mono ?_
      rintro e w7 ⟨rfl,S7h,T7h⟩
      have S7:=hide S7h
      have T7:=hide (R6.out.st.trans T7h)
      have q2:w7.cell? ⟨w.heap.size+1,2,none⟩=some (.bool C.on):=by
       rw [cell_of_row _ _ _ _ _ _ ((T7h.kept R6.out.k1).2.trans R6.out.chg)]; rfl
      have e4:=S7h.thing i 4 hi (by omega)
      have g4:=S7h.soft (84+i*5+4)
      simp only [Ld.thingCell] at e4
      have S8:=hide (S7h.set (x:=.bool C.on) (by omega) (L.up_on i hi C.on))
      have T8:Hid (Stp w0.heap.size 165 w (w7.setCell ⟨w0.heap.size,84+i*5+4,none⟩ (.bool C.on))):=T7.out.trans (Stp.put (by omega))
      clear S7h T7h R6 C6 k2 k3 c0 c4 f4 T7 S7
      go_wp2
      go_end0
      exact ⟨rfl,by rw [HL.out,HE.out]; exact S8.out,T8.out⟩
   ·have hk3:(L.kind i != C.kind)=true:=by simp [h3]
    have HV:=hide (show turnW L b O C=none by rw [HW.out]; unfold pickT; simp [h3])
    have HL:=hide (show turnL L b O C=L by unfold turnL; rw [HV.out])
    have HE:=hide (show turnE L b O C=[tellE L b noThingS] by unfold turnE; rw [HV.out])
    clear h3 HW
    go_wp2_with fail
    go_quiet (fail)
    go_wp2_with fail
    refine (rtell_any (R3.out.sn.drewN nq) b hb _ (by omega)).mono ?_
    rintro e w4 ⟨rfl,S4h,T4h⟩
    have S4:=hide S4h
    have T4:=hide ((R3.out.drewN nq).st.trans T4h)
    clear S4h T4h R3
    go_wp2
    exact bodyPost_ret (v:=.tuple #[]) (results_none rfl _ _ _) rfl ⟨rfl,by rw [HL.out,HE.out]; exact S4.out,T4.out⟩
open Go.RowKit
def notHadS:ByteArray:=⟨#[89,111,117,32,104,97,118,101,32,110,111,32,115,117,99,104,32,116,104,105,110,103,46]⟩
def wornS:ByteArray:=⟨#[89,111,117,32,119,101,97,114,32,105,116,46]⟩
def cannotS:ByteArray:=⟨#[84,104,97,116,32,99,97,110,110,111,116,32,98,101,46]⟩
theorem exec_order {a:Act} {op:Oper} {w:World} (x:Operand) (ho:op.op=.load 149 x) (b:Nat) (hx:a.eval x=.pointer (some ⟨b,0,none⟩)) {O:Od} (hc:w.heap[b]?=some (.cells O.cells 149 (0,0))):(execOp a.eval op).run Tryz.prog w=.ok (.value (.agg O.cells)) w:=by
 have hl:(Instr.loadAt 149 (.pointer (some ⟨b,0,none⟩))).run Tryz.prog w=.ok (.agg O.cells) w:=by
  simp only [Instr.loadAt,Instr.sureAddr,Sem.run_bind,Sem.run_pure,Result.andThen_ok]
  exact run_loadVar_row w b 149 149 O.cells (0,0) _ hc Tryz.underlying149 rfl Tryz.sizeOrder
 unfold execOp
 simp only [ho,hx,Sem.run_bind,hl,Result.andThen_ok,Sem.run_pure]
def pstep (b:Nat) (wh loc:Int) (E:Ev) (s:Ld × List Ev) (i:Int):Ld × List Ev :=
 if s.1.kind i.toNat=2∧s.1.on i.toNat=true then (s.1,s.2++[tellE s.1 b wornS])
 else if wh=2∧i ∈ wayL s.1 loc then (s.1,s.2++[tellE s.1 b cannotS])
 else (moveL s.1 i.toNat wh loc,s.2++[allE (moveL s.1 i.toNat wh loc) { E with thing:=s.1.tname i.toNat }])
def partS (L:Ld) (b:Nat) (wh loc:Int) (E:Ev) (q:List Int):Ld × List Ev:=q.foldl (pstep b wh loc E) (L,[])
theorem part_len (L:Ld) (b:Nat) (wh loc:Int) (E:Ev) (q:List Int):(partS L b wh loc E q).2.length=q.length:=by
 unfold partS
 have:∀ (q:List Int) (s:Ld × List Ev),(q.foldl (pstep b wh loc E) s).2.length=s.2.length+q.length:=by
  intro q
  induction q with
  | nil=>intro s; simp
  | cons a q ih =>
   intro s
   rw [List.foldl_cons,ih]
   unfold pstep
   split
   ·simp; omega
   ·split <;> (simp; omega)
 rw [this]; simp
theorem part_next (L:Ld) (b:Nat) (wh loc:Int) (E:Ev) {q:List Int} {k:Nat} (hk:k < q.length):partS L b wh loc E (q.take (k+1))=pstep b wh loc E (partS L b wh loc E (q.take k)) (q.getD k 0):=by
 unfold partS; rw [take_snoc hk,List.foldl_append]; rfl
def hadL (L:Ld) (b:Nat) (O:Od):List Int:=meantL L (handL L b) O.nth O.all O.name
def partL (L:Ld) (b:Nat) (O:Od) (wh loc:Int) (E:Ev):Ld:=(partS L b wh loc E (hadL L b O)).1
def partE (L:Ld) (b:Nat) (O:Od) (wh loc:Int) (E:Ev):List Ev:=sigE L b (hadL L b O) notHadS++(partS L b wh loc E (hadL L b O)).2
theorem had_lt {L:Ld} {b:Nat} {O:Od} {x:Int} (h:x ∈ hadL L b O):∃ i:Nat,x=(i:Int)∧i < 9:=hand_lt (meant_mem h)
theorem had_len (L:Ld) (b:Nat) (O:Od):(hadL L b O).length≤9:=by
 have h0:=hand_len L b
 have h1:=List.length_filter_le (fits L O.name) (handL L b)
 unfold hadL meantL nthL
 split
 ·omega
 ·split <;> simp
theorem rpart_any {w0:World} {L:Ld} {Es:List Ev} {w:World} (hS:Sn 172 [] w0 L Es w) (b:Nat) (hb:b < 6) (O:Od) (hn0:-9223372036854775808≤O.nth) (hn1:O.nth≤9223372036854775807) (wh loc:Int) (E:Ev) (hlen:Es.length≤900000) :
 Calls Tryz.prog 154 #[.pointer (some ⟨w0.heap.size,0,none⟩),.int .i64 (b:Int),.agg O.cells,.int .i64 wh,.int .i64 loc,.agg E.cells] w fun e w'=>e=.returned (.tuple #[])∧Sn 172 [] w0 (partL L b O wh loc E) (Es++partE L b O wh loc E) w'∧Stp w0.heap.size 165 w w':=by
 have hl:=hS.lt
 have B0:Hid (Below w.heap.size w ((w.alloc (.cells O.cells 149)).alloc (.cells E.cells 71)).drew):=((below_box w (.cells O.cells 149)).alloc (by simp) (.cells E.cells 71)).trans ⟨rfl,rfl,rfl,Nat.le_refl _,fun _ _=>rfl⟩
 have K0:=hide (hS.kept (k:=w.heap.size+1) B0.out (by omega) (by simp [World.drew]))
 have S0:=hide (hS.below B0.out)
 have T0:=hide (Stp.below (o:=165) B0.out hl)
 have C0:Hid (Cev ((w.alloc (.cells O.cells 149)).alloc (.cells E.cells 71)).drew (w.heap.size+1) E):=by
  have h:=cev_new (w.alloc (.cells O.cells 149)) E
  have e:(w.alloc (.cells O.cells 149)).heap.size=w.heap.size+1:=by simp
  rw [e] at h
  exact h
 have G0:Hid (((w.alloc (.cells O.cells 149)).alloc (.cells E.cells 71)).drew.heap[w.heap.size]?=some (.cells O.cells 149 (0,0))):=by
  show ((w.alloc (.cells O.cells 149)).alloc (.cells E.cells 71)).heap[w.heap.size]?=_
  rw [((Below.refl (w.alloc (.cells O.cells 149)).heap.size (w.alloc (.cells O.cells 149))).alloc (Nat.le_refl _) (.cells E.cells 71)).block _ (by simp)]
  exact heap_alloc_new w _
 have HZ:w.heap.size+1 < ((w.alloc (.cells O.cells 149)).alloc (.cells E.cells 71)).drew.heap.size:=by simp [World.drew]
 clear hS B0
 go_enter Tryz.func154,Tryz.ntmps154
 go_wp2_with fail
 refine wp_region_held (S:=fun W=>W.heap[w.heap.size]?=some (.cells O.cells 149 (0,0))) (by kernel_rfl) ?_
 change wpAnyH _ _ _ _ _ _ _ _ ((w.alloc (.cells O.cells 149)).alloc (.cells E.cells 71)).drew
 generalize ((w.alloc (.cells O.cells 149)).alloc (.cells E.cells 71)).drew=W0 at K0 S0 T0 C0 G0 HZ ⊢
 refine tw (i:=0) (d:=some 16) (fuel:=6) (v:=?_) rfl rfl ?_ G0.out ?_
 rotate_left
 ·intro W hW; go_simp; try with_reducible rfl
 simp only [Act.put,sT,List.set]
 refine tw (i:=1) (d:=some 17) (fuel:=5) (v:=?_) rfl rfl ?_ G0.out ?_
 rotate_left
 ·intro W hW; go_simp; try with_reducible rfl
 simp only [Act.put,sT,List.set]
 refine tw (i:=2) (d:=some 18) (fuel:=4) (v:=?_) rfl rfl ?_ G0.out ?_
 rotate_left
 ·intro W hW; go_simp; try with_reducible rfl
 simp only [Act.put,sT,List.set]
 refine tk (i:=4) (d:=some 20) (fuel:=3) (v:=.agg O.cells) rfl rfl (Or.inl ⟨by rfl,fun W hW=>exec_order (.tmp 8) rfl _ rfl hW⟩) G0.out ?_
 simp only [Act.put,sT,List.set]
 refine wpAnyH_all (fuel:=2) (rs:=[3]) (by kernel_rfl) (by simp) ?_
 intro i hi
 obtain rfl:i=3:=by simpa using hi
 clear hi
 refine call_at (d:=some 19) rfl rfl (by rfl) 165 #[.pointer (some ⟨w0.heap.size,0,none⟩),.int .i64 (b:Int)] (by kernel_rfl) ?_
 refine (rhand_any S0.out b).mono ?_
 rintro e w1 ⟨v,rfl,ho,hb1⟩
 have S1:=hide (S0.out.below hb1)
 have P1:=hide (S0.out.stp hb1 165)
 have N1:=hide (numk_own S0.out hb1 ho)
 have G1:=hide (show w1.heap[w.heap.size]?=some (.cells O.cells 149 (0,0)) by rw [hb1.block _ (by omega)]; exact G0.out)
 have K1:=hide (P1.out.kept K0.out).1
 have C1:=hide (K0.out.cev P1.out C0.out)
 have T1:=hide (T0.out.trans P1.out)
 obtain ⟨av,cap,rfl⟩:=ho.shape
 clear ho hb1 P1 S0 T0 C0 G0 K0
 have hsl:=hand_len L b
 refine ⟨_,rfl,G1.out,?_⟩
 simp only [Act.put,sT,List.set]
 refine wpAnyH_all (fuel:=1) (rs:=[5]) (by kernel_rfl) (by simp) ?_
 intro i hi
 obtain rfl:i=5:=by simpa using hi
 clear hi
 refine call_at (d:=some 21) rfl rfl (by rfl) 196 #[.pointer (some ⟨w0.heap.size,0,none⟩),.slice av (handL L b).length cap,.agg O.cells] (by kernel_rfl) ?_
 refine (meant_any S1.out N1.out (fun x hx=>hand_lt hx) (by omega) O hn0 hn1).mono ?_
 rintro e w2 ⟨v',rfl,hK,hb2⟩
 have S2:=hide (S1.out.below hb2)
 have P2:=hide (S1.out.stp hb2 165)
 have N2:=hide hK
 have G2:=hide (show w2.heap[w.heap.size]?=some (.cells O.cells 149 (0,0)) by rw [hb2.block _ ((Array.getElem?_eq_some_iff.1 G1.out).1)]; exact G1.out)
 have K2:=hide (P2.out.kept K1.out).1
 have C2:=hide (K1.out.cev P2.out C1.out)
 have T2:=hide (T1.out.trans P2.out)
 obtain ⟨av2,cap2,rfl⟩:=hK.shape
 clear hK hb2 P2 S1 T1 C1 G1 K1 N1 hsl
 refine ⟨_,rfl,G2.out,?_⟩
 simp only [Act.put,sT,List.set]
 refine tw (i:=6) (d:=some 12) (fuel:=0) (v:=?_) rfl rfl ?_ G2.out ?_
 rotate_left
 ·intro W hW; go_simp; try with_reducible rfl
 simp only [Act.put,sT,List.set]
 refine wpAnyH_done (by kernel_rfl) ?_ _
 have HM:=hide (fun x (hx:x ∈ hadL L b O)=>had_lt hx)
 have hml:=had_len L b O
 have HL:=hide (show partL L b O wh loc E=(partS L b wh loc E (hadL L b O)).1 from rfl)
 have HE:=hide (show partE L b O wh loc E=sigE L b (hadL L b O) notHadS++(partS L b wh loc E (hadL L b O)).2 from rfl)
 change Hid (NumK _ _ _ (.slice av2 (hadL L b O).length cap2) (hadL L b O)) at N2
 rw [show meantL L (handL L b) O.nth O.all O.name=hadL L b O from rfl]
 clear G2
 generalize hadL L b O=q at *
 generalize hn:q.length=n at *
 have HNn:=hide hn
 clear hn
 cases hz:decide (n=0) with
 | true =>
  have hz0:n=0:=by simpa using hz
  subst hz0
  have hq0:q=[]:=List.eq_nil_of_length_eq_zero HNn.out
  have HE2:=hide (show partE L b O wh loc E=[tellE L b notHadS] by rw [HE.out,hq0]; rfl)
  have HL2:=hide (show partL L b O wh loc E=L by rw [HL.out,hq0]; rfl)
  clear hz hq0
  go_wp2_with fail
  refine (rtell_any S2.out b hb _ (by omega)).mono ?_
  rintro e w3 ⟨rfl,S3h,T3h⟩
  have S3:=hide S3h
  have T3:=hide (T2.out.trans T3h)
  clear S3h T3h S2 T2 N2
  go_wp2_with fail
  go_loopw [30] (fun c wr=>c=.int .i64 0∧wr=w3) (fun _ _=>0)
  case atStart=>exact ⟨rfl,rfl⟩
  case round =>
   obtain ⟨rfl,rfl⟩:=hrel
   go_wp2
   go_end0
   exact ⟨rfl,by rw [HL2.out,HE2.out]; exact S3.out,T3.out⟩
 | false =>
  have hz0:n ≠ 0:=by simpa using hz
  have hzi:((n:Int)==0)=false:=by simp; omega
  have hq0:q ≠ []:=fun e=>by have:=HNn.out; rw [e] at this; simp at this; omega
  have HE2:=hide (show partE L b O wh loc E=(partS L b wh loc E q).2 by rw [HE.out]; unfold sigE; rw [if_neg hq0]; rfl)
  clear hz hq0
  go_wp2_with fail
  go_loopw [30] (fun c wr=>∃ k:Nat,k≤n∧c=.int .i64 k∧Sn 172 [] w0 (partS L b wh loc E (q.take k)).1 (Es++(partS L b wh loc E (q.take k)).2) wr∧Stp w0.heap.size 165 w wr∧NumK w0.heap.size 165 wr (.slice av2 n cap2) q∧Kept w0.heap.size 165 wr (w.heap.size+1)∧Cev wr (w.heap.size+1) E) (fun c _=>n - (intOf c).toNat)
  case atStart=>exact ⟨0,by omega,rfl,by simpa [partS] using S2.out,T2.out,N2.out,K2.out,C2.out⟩
  case round =>
   obtain ⟨k,hle,rfl,Rh,Th,Nh,Kh,Ch⟩:=hrel
   have R:=hide Rh
   have TT:=hide Th
   have N:=hide Nh
   have K:=hide Kh
   have C:=hide Ch
   clear Rh Th Nh Kh Ch S2 T2 N2 K2 C2
   by_cases hk:k < n
   ·have hkq:k < q.length:=by rw [HNn.out]; exact hk
    obtain ⟨bq,off,cap',e,hcell⟩:=N.out.cell hkq
    rw [HNn.out] at e
    injection e with e1 e2 e3
    subst e1 e3
    obtain ⟨i,ei,hi⟩:=HM.out _ (getD_mem hkq)
    have HT:=hide (show partS L b wh loc E (q.take (k+1))=pstep b wh loc E (partS L b wh loc E (q.take k)) (i:Int) by rw [part_next L b wh loc E hkq,ei])
    rw [ei] at hcell
    have htl:(partS L b wh loc E (q.take k)).2.length≤9:=by rw [part_len]; simp; omega
    have hii:(i:Int) < 9:=by omega
    clear ei
    generalize partS L b wh loc E (q.take k)=s at *
    have c1:=R.out.thing i 1 hi (by omega)
    have c4:=R.out.thing i 4 hi (by omega)
    simp only [Ld.thingCell] at c1 c4
    by_cases hA:s.1.kind i=2∧s.1.on i=true
    ·have hk2:(s.1.kind i==2)=true:=by simp [hA.1]
     have HV:=hide (show pstep b wh loc E s (i:Int)=(s.1,s.2++[tellE s.1 b wornS]) by unfold pstep; rw [if_pos (by simpa using hA)])
     rw [hA.2] at c4
     clear hA
     go_wp2_with fail
     refine (rtell_any R.out b hb _ (by simp only [List.length_append]; omega)).mono ?_
     rintro e w4 ⟨rfl,S4h,T4h⟩
     have S4:=hide S4h
     have T4:=hide (TT.out.trans T4h)
     have N4:=hide (N.out.step T4h)
     have K4:=hide (T4h.kept K.out).1
     have C4:=hide (K.out.cev T4h C.out)
     clear S4h T4h R TT N K C
     go_wp2
     go_roundw
     case rel=>exact ⟨k+1,by omega,by go_num,by rw [HT.out,HV.out]; have h:=S4.out; rw [List.append_assoc] at h; exact h,T4.out,N4.out,K4.out,C4.out⟩
     case measure=>simp [intOf]; omega
    ·have hA2:(s.1.kind i==2)=false∨((s.1.kind i==2)=true∧s.1.on i=false):=by
      by_cases h:s.1.kind i=2
      ·exact .inr ⟨by simp [h],by cases h4:s.1.on i with
        | false=>rfl
        | true=>exact absurd ⟨h,h4⟩ hA⟩
      ·exact .inl (by simp [h])
     by_cases hw:wh=2
     ·subst hw
      by_cases hI:(i:Int) ∈ wayL s.1 loc
      ·have HV:=hide (show pstep b 2 loc E s (i:Int)=(s.1,s.2++[tellE s.1 b cannotS]) by unfold pstep; rw [if_neg (by simpa using hA),if_pos ⟨rfl,hI⟩])
       have HD:=hide (decide_eq_true hI)
       clear hA hI
       rcases hA2 with hk2 | ⟨hk2,h4⟩
       all_goals
        (try rw [h4] at c4)
        go_wp2_with (refine wl_scene (.tmp 67) rfl rfl rfl R.out ?_)
        refine (inside_any s.1 loc (i:Int) _).mono ?_
        rintro e w3 ⟨rfl,hb3⟩
        rw [HD.out]
        have P3:=hide (R.out.stp hb3 165)
        have R3:=hide (R.out.below hb3)
        clear hb3
        go_wp2_with fail
        refine (rtell_any R3.out b hb _ (by simp only [List.length_append]; omega)).mono ?_
        rintro e w4 ⟨rfl,S4h,T4h⟩
        have S4:=hide S4h
        have X4:=P3.out.trans T4h
        have T4:=hide (TT.out.trans X4)
        have N4:=hide (N.out.step X4)
        have K4:=hide (X4.kept K.out).1
        have C4:=hide (K.out.cev X4 C.out)
        clear S4h T4h X4 P3 R3 R TT N K C
        go_wp2
        go_roundw
        case rel=>exact ⟨k+1,by omega,by go_num,by rw [HT.out,HV.out]; have h:=S4.out; rw [List.append_assoc] at h; exact h,T4.out,N4.out,K4.out,C4.out⟩
        case measure=>simp [intOf]; omega
      ·have HV:=hide (show pstep b 2 loc E s (i:Int)=(moveL s.1 i 2 loc,s.2++[allE (moveL s.1 i 2 loc) { E with thing:=s.1.tname i }]) by unfold pstep; rw [if_neg (by simpa using hA),if_neg (by simpa using hI)]; rfl)
       have HD:=hide (decide_eq_false hI)
       clear hA hI
       rcases hA2 with hk2 | ⟨hk2,h4⟩
       all_goals
        (try rw [h4] at c4)
        go_wp2_with (refine wl_scene (.tmp 67) rfl rfl rfl R.out ?_)
        refine (inside_any s.1 loc (i:Int) _).mono ?_
        rintro e w3 ⟨rfl,hb3⟩
        rw [HD.out]
        have P3:=hide (R.out.stp hb3 165)
        have R3:=hide (R.out.below hb3)
        have C3:=hide (K.out.cev P3.out C.out)
        clear hb3
        go_wp2_with (refine wl_event (.tmp 11) rfl rfl _ E rfl C3.out ?_)
        refine (rmove_any R3.out i hi 2 loc E (by simp only [List.length_append]; omega)).mono ?_
        rintro e w4 ⟨rfl,S4h,T4h⟩
        have S4:=hide S4h
        have X4:=P3.out.trans T4h
        have T4:=hide (TT.out.trans X4)
        have N4:=hide (N.out.step X4)
        have K4:=hide (X4.kept K.out).1
        have C4:=hide (K.out.cev X4 C.out)
        clear S4h T4h X4 P3 R3 R TT N K C C3
        go_wp2
        go_roundw
        case rel=>exact ⟨k+1,by omega,by go_num,by rw [HT.out,HV.out]; have h:=S4.out; rw [List.append_assoc] at h; exact h,T4.out,N4.out,K4.out,C4.out⟩
        case measure=>simp [intOf]; omega
     ·have hwb:(wh==2)=false:=by simp [hw]
      have HV:=hide (show pstep b wh loc E s (i:Int)=(moveL s.1 i wh loc,s.2++[allE (moveL s.1 i wh loc) { E with thing:=s.1.tname i }]) by unfold pstep; rw [if_neg (by simpa using hA),if_neg (by simp [hw])]; rfl)
      clear hA
      rcases hA2 with hk2 | ⟨hk2,h4⟩
      all_goals
       (try rw [h4] at c4)
       go_wp2_with (refine wl_event (.tmp 11) rfl rfl _ E rfl C.out ?_)
       refine (rmove_any R.out i hi wh loc E (by simp only [List.length_append]; omega)).mono ?_
       rintro e w4 ⟨rfl,S4h,T4h⟩
       have S4:=hide S4h
       have T4:=hide (TT.out.trans T4h)
       have N4:=hide (N.out.step T4h)
       have K4:=hide (T4h.kept K.out).1
       have C4:=hide (K.out.cev T4h C.out)
       clear S4h T4h R TT N K C
       go_wp2
       go_roundw
       case rel=>exact ⟨k+1,by omega,by go_num,by rw [HT.out,HV.out]; have h:=S4.out; rw [List.append_assoc] at h; exact h,T4.out,N4.out,K4.out,C4.out⟩
       case measure=>simp [intOf]; omega
   ·have hkn:k=n:=by omega
    subst hkn
    have hall:q.take k=q:=by rw [← HNn.out]; exact List.take_length
    rw [hall] at R
    clear hall
    go_wp2
    go_end0
    exact ⟨rfl,by rw [HL.out,HE2.out]; exact R.out,TT.out⟩
end Go.Proofs.YtncgcejlkmoliaaGreatDoor
