import Derived.Test.YtncgcejlkmoliaaGreatDoorMh16
import Derived.Test.YtncgcejlkmoliaaGreatDoorMh10
import Derived.Test.YtncgcejlkmoliaaGreatDoorMh11
import Derived.Test.YtncgcejlkmoliaaGreatDoorMh08
set_option linter.unusedVariables false
set_option maxRecDepth 100000
set_option maxHeartbeats 16000000
namespace Go.Proofs.YtncgcejlkmoliaaGreatDoor
open Go.RowKit
theorem fight_good {L:Ld} (hg:goodL L=true) (b:Nat) (hb:b < 6) (n:Int) (hn1:1≤n) (hn3:n≤3) (h0:L.foe b ≠ 0):goodL (fightL L b n)=true∧Alike L (fightL L b n):=by
 have hc:foeN L b < 6:=by
  rcases (good_being hg b hb).2.2.2.2 with h | h
  ·exact absurd h h0
  ·have:=amg_pos h.2; unfold foeN; omega
 unfold fightL
 by_cases hm:meets L b=true
 ·rw [if_pos hm]
  have hh:L.here (foeN L b)=true:=by unfold meets at hm; simp at hm; exact hm.1
  have hge:=good_being hg (foeN L b) hc
  have hp:0 < L.health (foeN L b):=by have:=hge.2.2.2.1; rw [hh] at this; simpa using this.symm
  by_cases hd:L.health (foeN L b) - n < 1
  ·rw [if_pos hd]
   have hg2:goodL ((hitL L (foeN L b) n).setHealth (foeN L b) 1)=true:=by unfold hitL; rw [health_twice]; exact good_health hg hc hh (by omega) (by omega)
   exact ⟨die_good _ hc hg2 hh,(al_health L _ _).trans (al_die _ _)⟩
  ·rw [if_neg hd]
   exact ⟨good_health hg hc hh (by omega) (by omega),al_health L _ _⟩
 ·rw [if_neg hm]
  exact ⟨good_foe hg b (.inl rfl),al_foe L b 0⟩
theorem round_good {L:Ld} (hg:goodL L=true) (dr:Nat):∀ k,k≤6→goodL (roundK L dr k).1=true∧Alike L (roundK L dr k).1:=by
 intro k
 induction k with
 | zero=>intro _; exact ⟨hg,Alike.refl L⟩
 | succ k ih =>
  intro hk
  obtain ⟨h1,h2⟩:=ih (by omega)
  simp only [roundK]
  by_cases h0:(roundK L dr k).1.foe k=0
  ·rw [if_pos h0]; exact ⟨h1,h2⟩
  ·rw [if_neg h0]
   have:=fight_good h1 k (by omega) (blowN dr k) (blow_pos dr k).1 (blow_pos dr k).2 h0
   exact ⟨this.1,h2.trans this.2⟩
def drawN (draw:Int):Nat:=((draw.tmod 3+3).tmod 3).toNat
theorem draw_eq (draw:Int):(draw.tmod 3+3).tmod 3=(drawN draw:Int)∧drawN draw < 3∧-3 < draw.tmod 3∧draw.tmod 3 < 3:=by
 have h1:-3 < draw.tmod 3:=Int.lt_tmod_of_pos draw (by decide)
 have h2:draw.tmod 3 < 3:=Int.tmod_lt_of_pos draw (by decide)
 have h3:(draw.tmod 3+3).tmod 3 < 3:=Int.tmod_lt_of_pos _ (by decide)
 have h4:0≤(draw.tmod 3+3).tmod 3:=Int.tmod_nonneg 3 (by omega)
 unfold drawN
 omega
open Go.RowKit
structure Hr (g:Nat) (L:Ld) (v:Value) (W:World):Prop where
 land:W.rangeAt g 0 L.cells.toList
 row:W.cell? ⟨g,165,none⟩=some v
theorem sn_start (L:Ld) (w0:World):Sn 172 [] w0 L [] (w0.alloc (.cells (L.more [] (.slice none 0 0)) 172)) :=
 ⟨⟨_,heap_alloc_new w0 _,World.ownsRow_nil _ _ _ _⟩,below_box w0 _⟩
theorem setRow_off (w:World) (k j:Nat) (cs:Array Value) (h:j ≠ k):(w.setRow k cs).heap[j]?=w.heap[j]?:=by
 unfold World.setRow
 simp only [Array.getElem?_modify]
 rw [if_neg (fun e=>h e.symm)]
theorem Hr.setRow {g k:Nat} {L:Ld} {v:Value} {W:World} (h:Hr g L v W) (hk:g ≠ k) {cs:Array Value}:Hr g L v (W.setRow k cs):=by
 have e:=setRow_off W k g cs hk
 exact ⟨fun j x hx=>by rw [← h.land j x hx]; simp only [World.cell?,e],by rw [← h.row]; simp only [World.cell?,e]⟩
theorem own_setRow {w:World} {base base' n k:Nat} {v:Value} {xs:List Value} {cs:Array Value} (h:w.ownsRow base 71 16 v n xs) (hb:base'≤base∧k < base):(w.setRow k cs).ownsRow base' 71 16 v n xs:=by
 refine ⟨h.1,?_⟩
 rcases h.2 with hn | ⟨g,cap,cur,rfl,h1,h2,h3⟩
 ·exact .inl hn
 ·exact .inr ⟨g,cap,cur,rfl,by omega,by rw [setRow_off _ _ _ _ (by omega)]; exact h2,h3⟩
theorem exec_storeland {a:Act} {op:Oper} {w:World} (x y:Operand) (ho:op.op=.store 43 x y) {k:Nat} {L:Ld} {old:Array Value} (hx:a.eval x=.pointer (some ⟨k,0,none⟩)) (hy:a.eval y=.agg L.cells)
 (hg:w.heap[k]?=some (.cells old 43 (0,0))) (hs:old.size=165):(execOp a.eval op).run Tryz.prog w=.ok .skip (w.setRow k L.cells):=by
 have:=run_storeVar_row (P:=Tryz.prog) w k 43 43 old L.cells hg (by rw [L.size]; exact Tryz.sizeLand) (by rw [hs,L.size]) (land_one L)
 unfold execOp
 simp only [ho,hx,hy,Instr.storeAt,Instr.sureAddr,Sem.run_bind,Sem.run_pure,Result.andThen_ok,this]
theorem do_any (L L':Ld) (Fs:List Ev) (b:Nat) (O:Od) (w:World) (hvb:Vb w) (hwf:Wf L) (hg:goodL L=true) (hb:b < 6) (hh:L.here b=true) (hv0:0≤O.verb) (hv1:O.verb≤20)
 (hact:∀ w0 w,Vb w0→Sn 172 [] w0 L [] w→Calls Tryz.prog 137 #[.pointer (some ⟨w0.heap.size,0,none⟩),.int .i64 (b:Int),.agg O.cells] w fun e w'=>e=.returned (.tuple #[])∧Sn 172 [] w0 L' Fs w'∧Stp w0.heap.size 165 w w') :
 Calls Tryz.prog 125 #[.agg L.cells,.int .i64 (b:Int),.agg O.cells] w fun e w'=>∃ v,e=.returned (.tuple #[.agg L'.cells,v,.int .i64 0])∧w'.ownsRow w.heap.size 71 16 v Fs.length (evc Fs)∧Below w.heap.size w w':=by
 have hz:=(zero_of_info Tryz.zLand).1
 have HA:=hide hact
 have HVB:=hide hvb
 have hbi:(b:Int) < 6:=by omega
 clear hact hvb
 have C0:=hide (((cod_new w L).alloc (.cells O.cells 149)).alloc (.cells zl.cells 43))
 have O0:=hide (show (((w.alloc (.cells L.cells 43)).alloc (.cells O.cells 149)).alloc (.cells zl.cells 43)).heap[w.heap.size+1]?=some (.cells O.cells 149 (0,0)) by
  rw [Below.heap_alloc _ _ _ (by simp)]
  have:=heap_alloc_new (w.alloc (.cells L.cells 43)) (.cells O.cells 149)
  rw [World.size_alloc] at this; exact this)
 have R0:=hide (show (((w.alloc (.cells L.cells 43)).alloc (.cells O.cells 149)).alloc (.cells zl.cells 43)).heap[w.heap.size+2]?=some (.cells zl.cells 43 (0,0)) by
  have:=heap_alloc_new ((w.alloc (.cells L.cells 43)).alloc (.cells O.cells 149)) (.cells zl.cells 43)
  rw [World.size_alloc,World.size_alloc] at this; exact this)
 have B0:=hide (((below_box w (.cells L.cells 43)).alloc (by simp) (.cells O.cells 149)).alloc (by simp; omega) (.cells zl.cells 43))
 go_enter Tryz.func125,Tryz.ntmps125
 go_wp2_with (refine wl_land (.tmp 3) rfl rfl _ L rfl C0.out ?_)
 refine (good_any L _ hwf).mono ?_
 rintro e w1 ⟨rfl,hb1⟩
 have C1:=hide (C0.out.behind hb1 (Nat.le_refl _))
 have O1:=hide (show w1.heap[w.heap.size+1]?=some (.cells O.cells 149 (0,0)) by rw [hb1.block _ (by simp)]; exact O0.out)
 have R1:=hide (show w1.heap[w.heap.size+2]?=some (.cells zl.cells 43 (0,0)) by rw [hb1.block _ (by simp)]; exact R0.out)
 have B1:=hide (B0.out.trans (hb1.mono (by simp; omega)))
 have ch:w1.cell? ⟨w.heap.size,129+b*6+1,none⟩=some (.bool true):=by rw [C1.out.being b 1 hb (by omega)]; simp [Ld.beingCell,hh]
 have cv:w1.cell? ⟨w.heap.size+1,0,none⟩=some (.int .i64 O.verb):=by rw [cell_of_row _ _ _ _ _ _ O1.out]; rfl
 rw [hg]
 clear hb1 C0 O0 R0 B0 hg hh
 go_wp2_with (first | (refine wl_land (.tmp 3) rfl rfl _ L rfl C1.out ?_) | (refine wl_build 172 #[(0,.tmp 41)] rfl ?hh _ _ (built_scene L) ?hv ?_) | (refine wl_wanted rfl (wp_load_row 149 (.tmp 5) rfl (w.heap.size+1) rfl 149 O.cells (0,0) _ (by rw [Below.heap_alloc _ _ _ ((Array.getElem?_eq_some_iff.1 O1.out).1)]; exact O1.out) Tryz.underlying149 rfl Tryz.sizeOrder ?_)))
 refine (HA.out w1 _ (HVB.out.below B1.out (Nat.le_refl _)) (sn_start L w1)).mono ?_
 rintro e w2 ⟨rfl,S2,T2⟩
 obtain ⟨v,hv,ho⟩:=S2.ex
 obtain ⟨av,cap,rfl⟩:=shapeE ho
 have hlt1:w.heap.size+2 < w1.heap.size:=(Array.getElem?_eq_some_iff.1 R1.out).1
 have HR:Hr w1.heap.size L' (.slice av Fs.length cap) w2.drew:=⟨S2.land,by
  show w2.cell? _=_
  rw [cell_of_row _ _ _ _ _ _ hv]; exact more_row L' [] _⟩
 have RR:w2.drew.heap[w.heap.size+1+1]?=some (.cells zl.cells 43 (0,0)):=by
  show w2.heap[w.heap.size+1+1]?=_
  rw [S2.low.block _ (by omega)]; exact R1.out
 have OW:w2.drew.ownsRow (w1.heap.size+1) 71 16 (.slice av Fs.length cap) Fs.length (evc Fs):=ho
 have BB:Below w.heap.size w w2.drew:=(B1.out.trans (S2.low.mono B1.out.size)).drew
 have hne:w1.heap.size ≠ w.heap.size+1+1:=by omega
 clear S2 T2 hv ho ch cv C1 O1 R1 B1 HA
 go_wp2_with fail
 refine wp_region_held (S:=Hr w1.heap.size L' (.slice av Fs.length cap)) (by kernel_rfl) ?_
 change wpAnyH _ _ _ _ _ _ _ _ w2.drew
 generalize w2.drew=W0 at *
 refine tw (i:=0) (d:=some 48) (fuel:=10) (v:=?_) rfl rfl ?_ HR ?_
 rotate_left
 ·intro W hW
  have hc:=hW.row
  go_simp
  try with_reducible rfl
 simp only [Act.put,sT,List.set]
 refine tw (i:=1) (d:=some 49) (fuel:=9) (v:=?_) rfl rfl ?_ HR ?_
 rotate_left
 ·intro W hW
  have hc:=hW.row
  go_simp
  try with_reducible rfl
 simp only [Act.put,sT,List.set]
 refine tw (i:=2) (d:=some 50) (fuel:=8) (v:=?_) rfl rfl ?_ HR ?_
 rotate_left
 ·intro W hW
  have hc:=hW.row
  go_simp
  try with_reducible rfl
 simp only [Act.put,sT,List.set]
 refine tk (i:=3) (d:=some 51) (fuel:=7) (v:=.agg L'.cells) rfl rfl (Or.inl ⟨by rfl,fun W hW=>exec_land' (.tmp 50) rfl rfl hW.land⟩) HR ?_
 simp only [Act.put,sT,List.set]
 refine tw (i:=4) (d:=some 52) (fuel:=6) (v:=?_) rfl rfl ?_ HR ?_
 rotate_left
 ·intro W hW
  have hc:=hW.row
  go_simp
  try with_reducible rfl
 simp only [Act.put,sT,List.set]
 refine tw (i:=5) (d:=some 53) (fuel:=5) (v:=?_) rfl rfl ?_ HR ?_
 rotate_left
 ·intro W hW
  have hc:=hW.row
  go_simp
  try with_reducible rfl
 simp only [Act.put,sT,List.set]
 refine tw (i:=6) (d:=some 54) (fuel:=4) (v:=?_) rfl rfl ?_ HR ?_
 rotate_left
 ·intro W hW
  have hc:=hW.row
  go_simp
  try with_reducible rfl
 simp only [Act.put,sT,List.set]
 refine tw (i:=7) (d:=some 55) (fuel:=3) (v:=?_) rfl rfl ?_ HR ?_
 rotate_left
 ·intro W hW
  have hc:=hW.row
  go_simp
  try with_reducible rfl
 simp only [Act.put,sT,List.set]
 refine wpAnyH_all (fuel:=2) (rs:=[8]) (by kernel_rfl) (by simp) ?_
 intro i hi
 obtain rfl:i=8:=by simpa using hi
 clear hi
 refine skip_at (d:=none) rfl rfl (by rfl) (exec_storeland (.tmp 6) (.tmp 51) rfl (k:=(w.heap.size+1+1)) (L:=L') (old:=zl.cells) rfl rfl RR zl.size) ?_
 have HR2:=HR.setRow hne (cs:=L'.cells)
 refine ⟨HR2,?_⟩
 simp only [Act.put]
 refine tw (i:=9) (d:=some 7) (fuel:=1) (v:=?_) rfl rfl ?_ HR2 ?_
 rotate_left
 ·intro W hW; go_simp; try with_reducible rfl
 simp only [Act.put,sT,List.set]
 refine tw (i:=10) (d:=some 8) (fuel:=0) (v:=?_) rfl rfl ?_ HR2 ?_
 rotate_left
 ·intro W hW; go_simp; try with_reducible rfl
 simp only [Act.put,sT,List.set]
 refine wpAnyH_done (by kernel_rfl) ?_ _
 go_wp2
 refine bodyPost_ret (v:=.tuple #[.agg L'.cells,.slice av Fs.length cap,.int .i64 0]) (res_land rfl _ _ (w.heap.size+1+1) L' _ _ rfl rfl rfl (setRow_heap _ _ _ _ _ _ RR)) rfl ⟨_,rfl,own_setRow OW ⟨by omega,by omega⟩,below_setRow BB (by omega) _⟩
open Go.RowKit
structure RnRel (L:Ld) (w w1:World):Prop where
 cod:Cod w1 w.heap.size L
 res:w1.heap[w.heap.size+1]?=some (.cells zl.cells 43 (0,0))
 low:Below w.heap.size w w1
theorem rn_start (L:Ld) (w:World):RnRel L w ((w.alloc (.cells L.cells 43)).alloc (.cells zl.cells 43)):=by
 refine ⟨(cod_new w L).alloc (.cells zl.cells 43),?_,(below_box w (.cells L.cells 43)).alloc (by simp) (.cells zl.cells 43)⟩
 have:=heap_alloc_new (w.alloc (.cells L.cells 43)) (.cells zl.cells 43)
 rw [World.size_alloc] at this; exact this
theorem RnRel.call {L:Ld} {w w1 w2:World} (h:RnRel L w w1) (hb:Below w1.heap.size w1 w2):RnRel L w w2:=by
 have hl:=(Array.getElem?_eq_some_iff.1 h.res).1
 exact ⟨h.cod.behind hb (Nat.le_refl _),by rw [hb.block _ (by omega)]; exact h.res,h.low.trans (hb.mono h.low.size)⟩
theorem round_any (L:Ld) (draw:Int) (w:World) (L':Ld) (Fs:List Ev) (hX:(roundK L (drawN draw) 6).1=L') (hFs:(roundK L (drawN draw) 6).2=Fs) (hvb:Vb w) (hwf:Wf L) (hf:Fine L) (hg:goodL L=true) :
 Calls Tryz.prog 108 #[.agg L.cells,.int .i64 draw] w fun e w'=>∃ v,e=.returned (.tuple #[.agg L'.cells,v,.int .i64 0])∧w'.ownsRow w.heap.size 71 16 v Fs.length (evc Fs)∧Below w.heap.size w w':=by
 have hz:=(zero_of_info Tryz.zLand).1
 obtain ⟨hdr,hd3,hdl,hdu⟩:=draw_eq draw
 have hwd:wrap64 (draw.tmod 3+3)=draw.tmod 3+3:=by simp only [wrap64]; omega
 have HRG:=hide (round_good hg (drawN draw))
 generalize drawN draw=dr at *
 have HVB:=hide hvb
 have HF:=hide hf
 have HXX:=hide hX
 have HFF:=hide hFs
 have D0:=hide (rn_start L w)
 clear hvb hf hX hFs
 go_enter Tryz.func108,Tryz.ntmps108
 go_wp2_with (refine wl_land (.tmp 2) rfl rfl _ L rfl D0.out.cod ?_)
 refine (good_any L _ hwf).mono ?_
 rintro e w1 ⟨rfl,hb1⟩
 have D1:=hide (D0.out.call hb1)
 rw [hg]
 clear hb1 D0 hg
 go_wp2_with (first | (refine wl_land (.tmp 2) rfl rfl _ L rfl D1.out.cod ?_) | (refine wl_build 172 #[(0,.tmp 17)] rfl ?hh _ _ (built_scene L) ?hv ?_))
 go_loopw [20] (fun c wr=>∃ k:Nat,k≤6∧c=.int .i64 k∧Sn 172 [] w1 (roundK L dr k).1 (roundK L dr k).2 wr) (fun c _=>6 - (intOf c).toNat)
 case atStart=>exact ⟨0,by omega,rfl,sn_start L w1⟩
 case round =>
  obtain ⟨k,hle,rfl,Rh⟩:=hrel
  have R:=hide Rh
  clear Rh
  by_cases hk:k < 6
  ·have hki:(k:Int) < 6:=by omega
   have c5:=R.out.being k 5 hk (by omega)
   simp only [Ld.beingCell] at c5
   have hG:=HRG.out k (by omega)
   have hFk:=hide (hG.2.fine HF.out hG.1)
   have hGk:=hide hG.1
   have hlk:=round_len L dr k
   have V1:=hide (HVB.out.below D1.out.low (Nat.le_refl _))
   by_cases h0:(roundK L dr k).1.foe k=0
   ·have hb0:((roundK L dr k).1.foe k != 0)=false:=by simp [h0]
    have HN:=hide (show roundK L dr (k+1)=roundK L dr k by simp only [roundK]; rw [if_pos h0])
    clear h0 hG
    generalize roundK L dr k=Z at *
    go_wp2
    go_roundw
    case rel=>exact ⟨k+1,by omega,by go_num,by rw [HN.out]; exact R.out⟩
    case measure=>simp [intOf]; omega
   ·have hb0:((roundK L dr k).1.foe k != 0)=true:=by simp [h0]
    have HN:=hide (show roundK L dr (k+1)=(fightL (roundK L dr k).1 k (blowN dr k),(roundK L dr k).2++fightE (roundK L dr k).1 k (blowN dr k)) by simp only [roundK]; rw [if_neg h0])
    have H0:=hide h0
    have hk1:wrap64 ((dr:Int)+(k:Int))=(dr:Int)+(k:Int):=by simp only [wrap64]; omega
    have hk2:((dr:Int)+(k:Int)).tmod 3=(((dr+k) % 3:Nat):Int):=by
     rw [Int.tmod_eq_emod_of_nonneg (by omega)]; omega
    have hk3:wrap64 (1+(((dr+k) % 3:Nat):Int))=1+(((dr+k) % 3:Nat):Int):=by simp only [wrap64]; omega
    have HBN:=hide (show blowN dr k=1+(((dr+k) % 3:Nat):Int) from rfl)
    have hbp:=blow_pos dr k
    clear h0 hG
    generalize roundK L dr k=Z at *
    generalize hq:(((dr+k) % 3:Nat):Int)=q3 at *
    go_wp2_with fail
    have CF:=rfight_any R.out hFk.out hGk.out V1.out k hk (blowN dr k) hbp.1 hbp.2 H0.out (by omega)
    rw [HBN.out] at CF
    refine CF.mono ?_
    clear CF
    rintro e w2 ⟨rfl,S2h,T2h⟩
    have S2:=hide S2h
    clear S2h T2h R
    go_wp2
    go_roundw
    case rel=>exact ⟨k+1,by omega,by go_num,by rw [HN.out,HBN.out]; exact S2.out⟩
    case measure=>simp [intOf]; omega
  ·have hk6:k=6:=by omega
   subst hk6
   have S2:=R.out
   rw [HXX.out,HFF.out] at S2
   obtain ⟨v,hv,ho⟩:=S2.ex
   obtain ⟨av,cap,rfl⟩:=shapeE ho
   have hlt1:w.heap.size+1 < w1.heap.size:=(Array.getElem?_eq_some_iff.1 D1.out.res).1
   have HR:Hr w1.heap.size L' (.slice av Fs.length cap) wr.drew:=⟨S2.land,by
    show wr.cell? _=_
    rw [cell_of_row _ _ _ _ _ _ hv]; exact more_row L' [] _⟩
   have RR:wr.drew.heap[w.heap.size+1]?=some (.cells zl.cells 43 (0,0)):=by
    show wr.heap[w.heap.size+1]?=_
    rw [S2.low.block _ (by omega)]; exact D1.out.res
   have OW:wr.drew.ownsRow (w1.heap.size+1) 71 16 (.slice av Fs.length cap) Fs.length (evc Fs):=ho
   have BB:Below w.heap.size w wr.drew:=(D1.out.low.trans (S2.low.mono D1.out.low.size)).drew
   have hne:w1.heap.size ≠ w.heap.size+1:=by omega
   clear S2 hv ho R D1 HRG
   go_wp2_with fail
   refine wp_region_held (S:=Hr w1.heap.size L' (.slice av Fs.length cap)) (by kernel_rfl) ?_
   change wpAnyH _ _ _ _ _ _ _ _ wr.drew
   generalize wr.drew=W0 at *
   refine tw (i:=0) (d:=some 41) (fuel:=10) (v:=?_) rfl rfl ?_ HR ?_
   rotate_left
   ·intro W hW
    have hc:=hW.row
    go_simp
    try with_reducible rfl
   simp only [Act.put,sT,List.set]
   refine tw (i:=1) (d:=some 42) (fuel:=9) (v:=?_) rfl rfl ?_ HR ?_
   rotate_left
   ·intro W hW
    have hc:=hW.row
    go_simp
    try with_reducible rfl
   simp only [Act.put,sT,List.set]
   refine tw (i:=2) (d:=some 43) (fuel:=8) (v:=?_) rfl rfl ?_ HR ?_
   rotate_left
   ·intro W hW
    have hc:=hW.row
    go_simp
    try with_reducible rfl
   simp only [Act.put,sT,List.set]
   refine tk (i:=3) (d:=some 44) (fuel:=7) (v:=.agg L'.cells) rfl rfl (Or.inl ⟨by rfl,fun W hW=>exec_land' (.tmp 43) rfl rfl hW.land⟩) HR ?_
   simp only [Act.put,sT,List.set]
   refine tw (i:=4) (d:=some 45) (fuel:=6) (v:=?_) rfl rfl ?_ HR ?_
   rotate_left
   ·intro W hW
    have hc:=hW.row
    go_simp
    try with_reducible rfl
   simp only [Act.put,sT,List.set]
   refine tw (i:=5) (d:=some 46) (fuel:=5) (v:=?_) rfl rfl ?_ HR ?_
   rotate_left
   ·intro W hW
    have hc:=hW.row
    go_simp
    try with_reducible rfl
   simp only [Act.put,sT,List.set]
   refine tw (i:=6) (d:=some 47) (fuel:=4) (v:=?_) rfl rfl ?_ HR ?_
   rotate_left
   ·intro W hW
    have hc:=hW.row
    go_simp
    try with_reducible rfl
   simp only [Act.put,sT,List.set]
   refine tw (i:=7) (d:=some 48) (fuel:=3) (v:=?_) rfl rfl ?_ HR ?_
   rotate_left
   ·intro W hW
    have hc:=hW.row
    go_simp
    try with_reducible rfl
   simp only [Act.put,sT,List.set]
   refine wpAnyH_all (fuel:=2) (rs:=[8]) (by kernel_rfl) (by simp) ?_
   intro i hi
   obtain rfl:i=8:=by simpa using hi
   clear hi
   refine skip_at (d:=none) rfl rfl (by rfl) (exec_storeland (.tmp 4) (.tmp 44) rfl (k:=(w.heap.size+1)) (L:=L') (old:=zl.cells) rfl rfl RR zl.size) ?_
   have HR2:=HR.setRow hne (cs:=L'.cells)
   refine ⟨HR2,?_⟩
   simp only [Act.put]
   refine tw (i:=9) (d:=some 5) (fuel:=1) (v:=?_) rfl rfl ?_ HR2 ?_
   rotate_left
   ·intro W hW; go_simp; try with_reducible rfl
   simp only [Act.put,sT,List.set]
   refine tw (i:=10) (d:=some 6) (fuel:=0) (v:=?_) rfl rfl ?_ HR2 ?_
   rotate_left
   ·intro W hW; go_simp; try with_reducible rfl
   simp only [Act.put,sT,List.set]
   refine wpAnyH_done (by kernel_rfl) ?_ _
   go_wp2
   refine bodyPost_ret (v:=.tuple #[.agg L'.cells,.slice av Fs.length cap,.int .i64 0]) (res_land rfl _ _ (w.heap.size+1) L' _ _ rfl rfl rfl (setRow_heap _ _ _ _ _ _ RR)) rfl ⟨_,rfl,own_setRow OW ⟨by omega,by omega⟩,below_setRow BB (by omega) _⟩
open Go.RowKit
def vacA (L:Ld):Int × Bool:=if L.here 2=false then (2,true) else if L.here 3=false then (3,true) else if L.here 4=false then (4,true) else if L.here 5=false then (5,true) else (0,false)
def NoVac (L:Ld) (k:Nat):Prop:=∀ j,2≤j→j < k→L.here j=true
theorem vac_at {L:Ld} {k:Nat} (h2:2≤k) (hk:k < 6) (hn:NoVac L k) (h:L.here k=false):vacA L=((k:Int),true):=by
 rcases (by omega:k=2∨k=3∨k=4∨k=5) with rfl | rfl | rfl | rfl
 ·simp [vacA,h]
 ·simp [vacA,h,hn 2 (by omega) (by omega)]
 ·simp [vacA,h,hn 2 (by omega) (by omega),hn 3 (by omega) (by omega)]
 ·simp [vacA,h,hn 2 (by omega) (by omega),hn 3 (by omega) (by omega),hn 4 (by omega) (by omega)]
theorem vac_none {L:Ld} (hn:NoVac L 6):vacA L=(0,false):=by
 simp [vacA,hn 2 (by omega) (by omega),hn 3 (by omega) (by omega),hn 4 (by omega) (by omega),hn 5 (by omega) (by omega)]
theorem rfree_any (L:Ld) (w:World) :
 Calls Tryz.prog 174 #[.agg L.cells] w fun e w'=>e=.returned (.tuple #[.int .i64 (vacA L).1,.bool (vacA L).2])∧Below w.heap.size w w':=by
 have HC:=hide (cod_new w L)
 have HB:=hide (below_box w (.cells L.cells 43))
 go_enter Tryz.func174,Tryz.ntmps174
 go_upto_region 1 with fail
 generalize w.alloc (.cells L.cells 43)=wa at *
 go_wp2_with fail
 go_loop [4] (fun v=>∃ k:Nat,v=.int .i64 k∧2≤k∧k≤6∧Hid (NoVac L k)) (fun v=>6 - (intOf v).toNat)
 case atStart=>exact ⟨2,rfl,by omega,by omega,fun j h1 h2=>by omega⟩
 case round =>
  obtain ⟨k,rfl,h2,hk,HN⟩:=hrel
  by_cases hlt:k < 6
  ·have c1:=HC.out.being k 1 hlt (by omega)
   simp only [Ld.beingCell] at c1
   have hki:(k:Int) < 6:=by omega
   cases hh:L.here k with
   | true =>
    have HNN:Hid (NoVac L (k+1)):=fun j h1 h2=>by
     by_cases e:j=k
     ·subst e; exact hh
     ·exact HN.out j h1 (by omega)
    rw [hh] at c1
    clear hh
    go_wp2
    exact ⟨⟨k+1,by go_num,by omega,hlt,HNN.out⟩,by simp [intOf]; omega⟩
   | false =>
    have HV:=hide (vac_at h2 hlt HN.out hh)
    rw [hh] at c1
    clear hh
    go_wp2
    go_ret2
    exact ⟨ret_dir HV.out.symm,HB.out⟩
  ·have hkk:k=6:=by omega
   subst hkk
   have HV:=hide (vac_none HN.out)
   go_wp2
   go_ret2
   exact ⟨ret_dir HV.out.symm,HB.out⟩
def okC (c:UInt8):Bool:=decide (97≤c.toNat)&&decide (c.toNat≤122)
def someoneT:ByteArray:=⟨#[115,111,109,101,111,110,101]⟩
def youT:ByteArray:=⟨#[121,111,117]⟩
def namedB (s:ByteArray):Bool:=if s=⟨#[]⟩ then false else if 8 < s.size then false else if s=someoneT then false else if s=youT then false else s.data.toList.all okC
theorem text_eq {s:ByteArray} {l:List UInt8} {t:ByteArray} (ht:t.data.toList=l):(s.toList==l)=decide (s=t):=by
 rw [Lib.toList_data,← ht]
 by_cases h:s=t
 ·subst h; simp
 ·rw [decide_eq_false h]
  simp only [beq_eq_false_iff_ne,ne_eq]
  intro e
  exact h (ByteArray.ext (Array.toList_inj.1 e))
theorem byte_at {s:ByteArray} {k:Nat} (hk:k < s.size):∃ c:UInt8,(∀ h,(s[k]'h).toNat=c.toNat)∧s.data.toList.take (k+1)=s.data.toList.take k++[c]:=by
 have hl:k < s.data.toList.length:=by simpa using hk
 refine ⟨s.data.toList[k],fun h=>rfl,?_⟩
 rw [List.take_add_one,List.getElem?_eq_getElem hl]; rfl
theorem rnamed_any (s:ByteArray) (w:World) (hs:s.size≤140737488355328):Calls Tryz.prog 30 #[.string s] w fun e w'=>e=.returned (.bool (namedB s))∧w'=w:=by
 by_cases h0:s=⟨#[]⟩
 ·have HV:=hide (show namedB s=false by unfold namedB; rw [if_pos h0])
  have b0:s.toList.isEmpty=true:=by rw [empty_iff]; simpa using h0
  clear h0
  go_enter Tryz.func30,Tryz.ntmps30
  go_wp2
  go_ret
  exact ⟨ret_bool HV.out.symm,rfl⟩
 have b0:s.toList.isEmpty=false:=by rw [empty_iff]; simpa using h0
 by_cases h8:8 < s.size
 ·have HV:=hide (show namedB s=false by unfold namedB; rw [if_neg h0,if_pos h8])
  have b8:decide ((8:Int) < (s.size:Int))=true:=by simp; omega
  clear h0
  go_enter Tryz.func30,Tryz.ntmps30
  go_wp2
  go_ret
  exact ⟨ret_bool HV.out.symm,rfl⟩
 have b8:decide ((8:Int) < (s.size:Int))=false:=by simp; omega
 by_cases hS:s=someoneT
 ·have HV:=hide (show namedB s=false by unfold namedB; rw [if_neg h0,if_neg h8,if_pos hS])
  have bS:(s.toList==[115,111,109,101,111,110,101])=true:=by rw [text_eq (l:=[115,111,109,101,111,110,101]) (t:=someoneT) rfl]; exact decide_eq_true hS
  clear h0 hS
  go_enter Tryz.func30,Tryz.ntmps30
  go_wp2
  go_ret
  exact ⟨ret_bool HV.out.symm,rfl⟩
 have bS:(s.toList==[115,111,109,101,111,110,101])=false:=by rw [text_eq (l:=[115,111,109,101,111,110,101]) (t:=someoneT) rfl]; exact decide_eq_false hS
 by_cases hY:s=youT
 ·have HV:=hide (show namedB s=false by unfold namedB; rw [if_neg h0,if_neg h8,if_neg hS,if_pos hY])
  have bY:(s.toList==[121,111,117])=true:=by rw [text_eq (l:=[121,111,117]) (t:=youT) rfl]; exact decide_eq_true hY
  clear h0 hS hY
  go_enter Tryz.func30,Tryz.ntmps30
  go_wp2
  go_ret
  exact ⟨ret_bool HV.out.symm,rfl⟩
 have bY:(s.toList==[121,111,117])=false:=by rw [text_eq (l:=[121,111,117]) (t:=youT) rfl]; exact decide_eq_false hY
 have HV:=hide (show namedB s=s.data.toList.all okC by unfold namedB; rw [if_neg h0,if_neg h8,if_neg hS,if_neg hY])
 clear h0 hS hY
 have hsz:s.data.toList.length=s.size:=by simp
 have HZ:=hide hsz
 clear hsz
 go_enter Tryz.func30,Tryz.ntmps30
 go_wp2_with fail
 go_loop [21] (fun v=>∃ k:Nat,v=.int .i64 k∧k≤s.size∧Hid ((s.data.toList.take k).all okC=true)) (fun v=>s.size - (intOf v).toNat)
 case atStart=>exact ⟨0,rfl,by omega,by show _=_; simp⟩
 case round =>
  obtain ⟨k,rfl,hk,HN⟩:=hrel
  by_cases hlt:k < s.size
  ·obtain ⟨c,hg,ht⟩:=byte_at (s:=s) (k:=k) hlt
   have hc:=c.toNat_lt
   obtain ⟨x,hx⟩:∃ x:Nat,x=c.toNat:=⟨_,rfl⟩
   have HX:=hide hx
   rw [← hx] at hg hc
   clear hx
   by_cases ho:97≤x∧x≤122
   ·have HNN:Hid ((s.data.toList.take (k+1)).all okC=true):=by
     show _=_
     rw [ht,List.all_append,HN.out]
     simp [okC,← HX.out,ho.1,ho.2]
    have d1:decide ((x:Int) < 97)=false:=by simp; omega
    have d2:decide ((122:Int) < (x:Int))=false:=by simp; omega
    clear ht ho
    go_wp2
    exact ⟨⟨k+1,by go_num,hlt,HNN.out⟩,by simp [intOf]; omega⟩
   ·have HF:=hide (show s.data.toList.all okC=false by
     have e:s.data.toList=s.data.toList.take (k+1)++s.data.toList.drop (k+1):=(List.take_append_drop ..).symm
     rw [e,List.all_append,ht,List.all_append]
     have:okC c=false:=by
      unfold okC; rw [← HX.out]
      by_cases h1:97≤x
      ·simp [h1]; omega
      ·simp [h1]
     simp [this])
    have hd:(x:Int) < 97∨(122:Int) < (x:Int):=by omega
    clear ht ho
    rcases hd with hd | hd
    ·go_wp2
     go_ret
     exact ⟨ret_bool (by rw [HV.out,HF.out]),rfl⟩
    ·have d1:decide ((x:Int) < 97)=false:=by simp; omega
     go_wp2
     go_ret
     exact ⟨ret_bool (by rw [HV.out,HF.out]),rfl⟩
  ·have hkk:k=s.size:=by omega
   subst hkk
   have HF:=hide (show s.data.toList.all okC=true by have:=HN.out; rw [← HZ.out,List.take_length] at this; exact this)
   go_wp2
   go_ret
   exact ⟨ret_bool (by rw [HV.out,HF.out]),rfl⟩
open Go.RowKit
def hasName (L:Ld) (nm:ByteArray) (b:Nat):Bool:=L.here b&&decide (L.bname b=nm)
def takenL (L:Ld) (nm:ByteArray):Bool:=(List.range 6).any (hasName L nm)
theorem rtaken_any (L:Ld) (nm:ByteArray) (w:World):Calls Tryz.prog 173 #[.agg L.cells,.string nm] w fun e w'=>e=.returned (.bool (takenL L nm))∧Below w.heap.size w w':=by
 go_enter Tryz.func173,Tryz.ntmps173
 go_wp2_with (refine wl_beings (.tmp 7) rfl rfl _ L rfl (cod_new w L) ?_)
 go_loopw [9] (fun c wr=>∃ k:Nat,k≤6∧c=.int .i64 k∧Below w.heap.size w wr∧∀ r,r < k→hasName L nm r=false) (fun c _=>6 - (intOf c).toNat)
 case atStart=>exact ⟨0,by omega,rfl,below_box w _,fun r h=>by omega⟩
 case round =>
  obtain ⟨k,hle,rfl,R,hall⟩:=hrel
  have HR:=hide R
  have HA:=hide hall
  clear R hall
  by_cases hk:k < 6
  ·have B1:=hide (HR.out.alloc HR.out.size (.cells (L.bcells k) 40))
   have G:=heap_alloc_new wr (.cells (L.bcells k) 40)
   have g0:(wr.alloc (.cells (L.bcells k) 40)).cell? ⟨wr.heap.size,0,none⟩=some (.string (L.bname k)):=by rw [cell_of_row _ _ _ _ _ _ G]; rfl
   have g1:(wr.alloc (.cells (L.bcells k) 40)).cell? ⟨wr.heap.size,1,none⟩=some (.bool (L.here k)):=by rw [cell_of_row _ _ _ _ _ _ G]; rfl
   clear G
   have hte:=toList_eq (a:=L.bname k) (b:=nm)
   cases hh:L.here k with
   | false =>
    have HN:=hide (show ∀ r,r < k+1→hasName L nm r=false from fun r hr=>by
     rcases Nat.lt_or_ge r k with h | h
     ·exact HA.out r h
     ·rw [show r=k by omega]; unfold hasName; rw [hh]; rfl)
    rw [hh] at g1
    clear hh
    go_wp2_with (first | (refine wl_ibeing (.tmp 8) (.tmp 9) rfl rfl k L rfl rfl hk ?_) | (refine wl_newB (.tmp 6) (.tmp 11) rfl rfl _ k L rfl rfl rfl rfl ?_))
    go_roundw
    case rel=>exact ⟨k+1,by omega,by go_num,B1.out,HN.out⟩
    case measure=>simp [intOf]; omega
   | true =>
    rw [hh] at g1
    by_cases hn:L.bname k=nm
    ·have HV:=hide (show takenL L nm=true by
      unfold takenL
      rw [List.any_eq_true]
      exact ⟨k,List.mem_range.2 hk,by unfold hasName; rw [hh,decide_eq_true hn]; rfl⟩)
     have hb:((L.bname k).toList==nm.toList)=true:=by rw [hte]; exact decide_eq_true hn
     clear hh hn hte
     go_wp2_with (first | (refine wl_ibeing (.tmp 8) (.tmp 9) rfl rfl k L rfl rfl hk ?_) | (refine wl_newB (.tmp 6) (.tmp 11) rfl rfl _ k L rfl rfl rfl rfl ?_))
     go_ret
     exact ⟨ret_bool HV.out.symm,B1.out⟩
    ·have HN:=hide (show ∀ r,r < k+1→hasName L nm r=false from fun r hr=>by
      rcases Nat.lt_or_ge r k with h | h
      ·exact HA.out r h
      ·rw [show r=k by omega]; unfold hasName; rw [hh,decide_eq_false hn]; rfl)
     have hb:((L.bname k).toList==nm.toList)=false:=by rw [hte]; exact decide_eq_false hn
     clear hh hn hte
     go_wp2_with (first | (refine wl_ibeing (.tmp 8) (.tmp 9) rfl rfl k L rfl rfl hk ?_) | (refine wl_newB (.tmp 6) (.tmp 11) rfl rfl _ k L rfl rfl rfl rfl ?_))
     go_roundw
     case rel=>exact ⟨k+1,by omega,by go_num,B1.out,HN.out⟩
     case measure=>simp [intOf]; omega
  ·have hkk:k=6:=by omega
   subst hkk
   have HV:=hide (show takenL L nm=false by
    unfold takenL
    rw [List.any_eq_false]
    intro r hr
    rw [HA.out r (List.mem_range.1 hr)]; simp)
   go_wp2
   go_ret
   exact ⟨ret_bool HV.out.symm,HR.out⟩
end Go.Proofs.YtncgcejlkmoliaaGreatDoor
