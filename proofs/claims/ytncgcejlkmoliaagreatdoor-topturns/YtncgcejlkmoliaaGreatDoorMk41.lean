import Derived.Test.YtncgcejlkmoliaaGreatDoorMk40
set_option linter.unusedVariables false
set_option maxRecDepth 100000
set_option maxHeartbeats 16000000
namespace Go.Proofs.YtncgcejlkmoliaaGreatDoor.Ho
open Go.RowKit
theorem among_any (i:Int) (w:World):Calls Tryz.prog 82 #[.int .i64 i] w fun e w'=>e=.returned (.bool (decide (0≤i)&&decide (i < 4)))∧w'=w:=by
 by_cases h0:0≤i
 ·have hd:decide (0≤i)=true:=by simpa using h0
  rw [hd]
  go_enter Tryz.func82,Tryz.ntmps82
  go_wp2
  all_goals go_ret
  all_goals refine ⟨ret_bool ?_,rfl⟩
  all_goals first | rfl | (simp_all; done) | (simp_all; omega)
 ·have hd:decide (0≤i)=false:=by simpa using h0
  rw [hd]
  go_enter Tryz.func82,Tryz.ntmps82
  go_wp2
  all_goals go_ret
  all_goals refine ⟨ret_bool ?_,rfl⟩
  all_goals first | rfl | (simp_all; done) | (simp_all; omega)
def Ab (g:Nat) (a:Ac) (w:World):Prop:=w.heap[g]?=some (.cells a.cells 23 (0,0))
theorem Ab.cells {g:Nat} {a:Ac} {w:World} (h:Ab g a w):w.cell? ⟨g,0,none⟩=some (.int .i64 a.kind)∧w.cell? ⟨g,1,none⟩=some (.int .i64 a.seat)∧w.cell? ⟨g,2,none⟩=some (.int .i64 a.num)∧w.cell? ⟨g,3,none⟩=some (.string a.bytes):=by
 unfold Ab at h
 refine ⟨?_,?_,?_,?_⟩ <;> (rw [cell_of_row _ _ _ _ _ _ h]; rfl)
theorem refused_any {W0:World} {lab:Nat→Nat} {w:World} {hb:Nat} {M:Hm} (h:HoC W0 lab w hb M) (a:Ac) :
 Calls Tryz.prog 55 #[.pointer (some ⟨hb,0,none⟩),.agg a.cells] w fun e w'=>e=.returned (.int .i64 (refusedM M a))∧Below w.heap.size w w':=by
 obtain ⟨p,vl,hV⟩:=h
 have B1:=below_box w (.cells a.cells 23)
 have A1:=(show Ab w.heap.size a (w.alloc (.cells a.cells 23)) from heap_alloc_new w _).cells
 obtain ⟨c0,c1,c2,c3⟩:=A1
 have V:=hide (hV.below B1)
 have BB:=hide B1
 clear hV B1 c2 c3
 by_cases hk1:a.kind < 1
 ·have HE:Hid (refusedM M a=5):=hide (by unfold refusedM; rw [if_pos (.inl hk1)])
  go_enter Tryz.func55,Tryz.ntmps55
  go_wp2
  go_ret
  exact ⟨by rw [HE.out]; rfl,BB.out⟩
 by_cases hk5:5 < a.kind
 ·have HE:Hid (refusedM M a=5):=hide (by unfold refusedM; rw [if_pos (.inr hk5)])
  go_enter Tryz.func55,Tryz.ntmps55
  go_wp2
  go_ret
  exact ⟨by rw [HE.out]; rfl,BB.out⟩
 by_cases h5:a.kind=5
 ·have HE:Hid (refusedM M a=0):=hide (by unfold refusedM; rw [if_neg (by omega),if_pos h5])
  have hb5:(a.kind==5)=true:=by rw [h5]; rfl
  clear h5
  go_enter Tryz.func55,Tryz.ntmps55
  go_wp2
  go_ret
  exact ⟨by rw [HE.out]; rfl,BB.out⟩
 have hb5:(a.kind==5)=false:=by simpa using h5
 have hR:refusedM M a=if a.seat < 0∨3 < a.seat then 2 else if (M.seat a.seat.toNat).isNone=decide (a.kind=1) then 0 else 3:=by unfold refusedM; rw [if_neg (by omega),if_neg h5]
 have CA:=hide (fun w'=>among_any a.seat w')
 by_cases hs:a.seat < 0∨3 < a.seat
 ·rw [if_pos hs] at hR
  have HE:=hide hR
  have hf:(decide (0≤a.seat)&&decide (a.seat < 4))=false:=by
   rw [Bool.and_eq_false_iff,decide_eq_false_iff_not,decide_eq_false_iff_not]; omega
  rw [hf] at CA
  clear hs hf hR h5
  go_enter Tryz.func55,Tryz.ntmps55
  go_wp2_with (go_at_call 82; refine (CA.out _).mono ?_; rintro e w2 ⟨rfl,rfl⟩)
  go_ret
  exact ⟨by rw [HE.out]; rfl,BB.out⟩
 ·rw [if_neg hs] at hR
  obtain ⟨i,hi⟩:∃ i:Nat,a.seat=(i:Int):=⟨a.seat.toNat,by omega⟩
  rw [hi] at c1 hR CA
  rw [Int.toNat_natCast] at hR
  have hi4:i < 4:=by omega
  have hii:(i:Int) < 4:=by omega
  have hf:(decide (0≤(i:Int))&&decide ((i:Int) < 4))=true:=by simp; omega
  rw [hf] at CA
  have cp:=V.out.ptr i hi4
  cases hS:M.seat i with
  | none =>
   rw [V.out.free hi4 hS] at cp
   rw [hS] at hR
   by_cases h1:a.kind=1
   ·have hb1:(a.kind==1)=true:=by rw [h1]; rfl
    have HE:=hide (hR.trans (if_pos (by simp [h1])))
    clear hs hf hR h5 h1 hi hS
    go_enter Tryz.func55,Tryz.ntmps55
    go_wp2_with (go_at_call 82; refine (CA.out _).mono ?_; rintro e w2 ⟨rfl,rfl⟩)
    go_quiet (fail)
    go_wp2
    go_ret
    exact ⟨by rw [HE.out]; rfl,below_drewN BB.out _⟩
   ·have hb1:(a.kind==1)=false:=by simpa using h1
    have HE:=hide (hR.trans (if_neg (by simp [h1])))
    clear hs hf hR h5 h1 hi hS
    go_enter Tryz.func55,Tryz.ntmps55
    go_wp2_with (go_at_call 82; refine (CA.out _).mono ?_; rintro e w2 ⟨rfl,rfl⟩)
    go_quiet (fail)
    go_wp2
    go_ret
    exact ⟨by rw [HE.out]; rfl,below_drewN BB.out _⟩
  | some S =>
   obtain ⟨kk,vq,vp,vt,hp,hSL⟩:=V.out.at' hi4 hS
   rw [hp] at cp
   rw [hS] at hR
   by_cases h1:a.kind=1
   ·have hb1:(a.kind==1)=true:=by rw [h1]; rfl
    have HE:=hide (hR.trans (if_neg (by simp [h1])))
    clear hs hf hR h5 h1 hi hS hp hSL
    go_enter Tryz.func55,Tryz.ntmps55
    go_wp2_with (go_at_call 82; refine (CA.out _).mono ?_; rintro e w2 ⟨rfl,rfl⟩)
    go_quiet (fail)
    go_wp2
    go_ret
    exact ⟨by rw [HE.out]; rfl,below_drewN BB.out _⟩
   ·have hb1:(a.kind==1)=false:=by simpa using h1
    have HE:=hide (hR.trans (if_pos (by simp [h1])))
    clear hs hf hR h5 h1 hi hS hp hSL
    go_enter Tryz.func55,Tryz.ntmps55
    go_wp2_with (go_at_call 82; refine (CA.out _).mono ?_; rintro e w2 ⟨rfl,rfl⟩)
    go_quiet (fail)
    go_wp2
    go_ret
    exact ⟨by rw [HE.out]; rfl,below_drewN BB.out _⟩
theorem exec_one {ty:TypeId} (hi:(Tryz.prog.info? ty).map (·.size)=some 1) {a:Act} {op:Oper} {w:World} (x y:Operand) (ho:op.op=.store ty x y) {hb o:Nat} {v:Value} (hx:a.eval x=.pointer (some ⟨hb,o,none⟩)) (hy:a.eval y=v) {cs:Array Value} {T:TypeId} (hc:w.heap[hb]?=some (.cells cs T (0,0))) (hsz:o < cs.size) (hv:v.oneCell'=true) :
 (execOp a.eval op).run Tryz.prog w=.ok .skip (w.setCells hb o [v]):=by
 have ht:=there_of (n:=1) (o:=o) hc (by omega)
 have hr:(storeVar ty ⟨hb,o,none⟩ v).run Tryz.prog w=.ok () (w.setCells hb o [v]):=by
  have:=run_storeCells_cells (P:=Tryz.prog) hb o [v] 0 w (fun j hj=>by simpa using (ht j (by simpa using hj)).1) (fun j hj=>by simpa using (ht j (by simpa using hj)).2) (fun u hu=>by simp at hu; subst hu; exact hv)
  cases hq:Tryz.prog.info? ty with
  | none=>simp [hq] at hi
  | some i =>
   have hs:1=i.size:=by simp [hq] at hi; omega
   simp only [Nat.add_zero] at this
   simp [storeVar,sizeOf,typeInfo,hq,cells_one hv,← hs,this]
 unfold execOp
 simp only [ho,hx,hy,Instr.storeAt,Instr.sureAddr,Sem.run_bind,Sem.run_pure,Result.andThen_ok,hr]
theorem exec_ptr {a:Act} {op:Oper} {w:World} (x:Operand) (ho:op.op=.load 96 x) {k o:Nat} {v:Option Addr} (hx:a.eval x=.pointer (some ⟨k,o,none⟩)) (hc:w.cell? ⟨k,o,none⟩=some (.pointer v)) :
 (execOp a.eval op).run Tryz.prog w=.ok (.value (.pointer v)) w:=by
 unfold execOp
 simp only [ho,hx]
 go_simp
def Aw (g:Nat) (i:Nat) (a:Ac) (W:World):Prop:=W.cell? ⟨g,1,none⟩=some (.int .i64 (i:Int))∧W.cell? ⟨g,2,none⟩=some (.int .i64 a.num)∧W.cell? ⟨g,3,none⟩=some (.string a.bytes)
theorem Aw.same {g i:Nat} {a:Ac} {W W':World} (h:Aw g i a W) (e:W'.heap[g]?=W.heap[g]?):Aw g i a W':=by
 unfold Aw at *
 simp only [World.cell?,e] at *
 exact h
theorem Aw.lt {g i:Nat} {a:Ac} {W:World} (h:Aw g i a W):g < W.heap.size:=cell_lt h.1
theorem Aw.call {g i:Nat} {a:Ac} {W W':World} (h:Aw g i a W) (hB:Below W.heap.size W W'):Aw g i a W':=h.same (hB.block _ h.lt)
theorem Aw.upd {g i k:Nat} {a:Ac} {W W':World} (h:Aw g i a W) (hu:Upd k W W') (hk:g ≠ k):Aw g i a W':=h.same (hu.block _ hk)
theorem Aw.seat {g i k:Nat} {a:Ac} {W W':World} {vq vp vt vq' vp' vt':Value} {S':Se} (h:Aw g i a W) (hs:SeP k W vq vp vt W' S' vq' vp' vt') (hk:g ≠ k) (ht:vt.ownBlock ≠ some g):Aw g i a W':=h.same (hs.block _ h.lt hk ht)
theorem act_any {W0:World} (hvb:Vb W0) (hai:Ai W0) {lab:Nat→Nat} {w:World} {hb:Nat} {M:Hm} (h:HoC W0 lab w hb M) {N:Nat} (hI:Iv N M) (hN:N+2000≤1000000) (a:Ac) (hr:refusedM M a=0) (hz:a.bytes.size≤140737488351232) :
 Calls Tryz.prog 56 #[.pointer (some ⟨hb,0,none⟩),.agg a.cells] w fun e w'=>e=.returned (.string (actM M a).2)∧∃ lab',HoC W0 lab' w' hb (actM M a).1∧Gr lab lab' w w':=by
 obtain ⟨p,vl,hV⟩:=h
 have B1:=below_box w (.cells a.cells 23)
 have A1:=(show Ab w.heap.size a (w.alloc (.cells a.cells 23)) from heap_alloc_new w _).cells
 obtain ⟨c0,c1,c2,c3⟩:=A1
 have V0:=hide (hV.below B1)
 have G0:=hide (Gr.below (lab:=lab) B1)
 have HI:=hide hI
 have HA:Hid (actM M a=if a.kind=5 then (pulseM M a.num,nilB) else if a.kind=1 then (M.put a.seat.toNat (some newS),nilB) else match M.seat a.seat.toNat with | none=>(M,nilB) | some S=>if a.kind=2 then (M.put a.seat.toNat (some (feedS S a.bytes.data.toList)),nilB) else if a.kind=3 then (M.put a.seat.toNat (some (Ho.takeS S a.num)),outS S a.num) else (leaveM M a.seat.toNat,nilB)):=hide rfl
 have hl9:lab w.heap.size=9:=hV.out _ (Nat.le_refl _)
 have hab:w.heap.size ≠ hb:=by have:=hV.lt; omega
 have hR:¬ (a.kind < 1∨5 < a.kind):=fun e=>by unfold refusedM at hr; rw [if_pos e] at hr; omega
 generalize actM M a=R at *
 clear hV B1 hI
 by_cases h5:a.kind=5
 ·rw [if_pos h5] at HA
  have hb1:(a.kind==1)=false:=by rw [h5]; rfl
  have hb2:(a.kind==2)=false:=by rw [h5]; rfl
  have hb3:(a.kind==3)=false:=by rw [h5]; rfl
  have hb4:(a.kind==4)=false:=by rw [h5]; rfl
  have hb5:(a.kind==5)=true:=by rw [h5]; rfl
  have CP:=hide (pulse_any hvb hai ⟨_,_,V0.out⟩ HI.out (by omega) a.num)
  clear h5 hr hR
  go_enter Tryz.func56,Tryz.ntmps56
  go_wp2_with fail
  refine CP.out.mono ?_
  rintro e w2 ⟨rfl,lab2,H2,G2⟩
  have G3:=hide (G0.out.trans G2)
  clear CP G2 G0 V0
  go_wp2
  go_ret
  exact ⟨by rw [HA.out]; rfl,lab2,by rw [HA.out]; exact H2,G3.out⟩
 rw [if_neg h5] at HA
 have hr2:¬ (a.seat < 0∨3 < a.seat)∧(M.seat a.seat.toNat).isNone=decide (a.kind=1):=by
  unfold refusedM at hr
  rw [if_neg hR,if_neg h5] at hr
  by_cases e:a.seat < 0∨3 < a.seat
  ·rw [if_pos e] at hr; omega
  ·rw [if_neg e] at hr
   by_cases e2:(M.seat a.seat.toNat).isNone=decide (a.kind=1)
   ·exact ⟨e,e2⟩
   ·rw [if_neg e2] at hr; omega
 obtain ⟨i,hii⟩:∃ i:Nat,a.seat=(i:Int):=⟨a.seat.toNat,by omega⟩
 have hi:i < 4:=by omega
 have hiz:(i:Int) < 4:=by omega
 obtain ⟨_,hr3⟩:=hr2
 rw [hii,Int.toNat_natCast] at HA hr3
 rw [hii] at c1
 have BD:Below (w.alloc (.cells a.cells 23)).heap.size (w.alloc (.cells a.cells 23)) (w.alloc (.cells a.cells 23)).drew:=(Below.refl _ _).drew
 have V:=hide (V0.out.below BD)
 have HR:Aw w.heap.size i a (w.alloc (.cells a.cells 23)).drew:=⟨c1,c2,c3⟩
 have GD:=hide (G0.out.trans (Gr.below (lab:=lab) BD))
 by_cases h1:a.kind=1
 ·rw [if_pos h1] at HA
  have hb1:(a.kind==1)=true:=by rw [h1]; rfl
  have hnone:M.seat i=none:=by rw [h1] at hr3; simpa using hr3
  clear h1 hr hR h5 hii hr3 BD
  go_enter Tryz.func56,Tryz.ntmps56
  go_wp2_with fail
  refine wp_region_held (S:=Aw w.heap.size i a) (by kernel_rfl) ?_
  change wpAnyH _ _ _ _ _ _ _ _ (w.alloc (.cells a.cells 23)).drew
  generalize (w.alloc (.cells a.cells 23)).drew=Z at *
  refine tw (i:=0) (d:=some 9) (fuel:=7) (v:=?_) rfl rfl ?_ HR ?_
  rotate_left
  ·intro W hW
   have hc1:=hW.1
   have hc2:=hW.2.1
   have hc3:=hW.2.2
   go_simp
   try with_reducible rfl
  simp only [Act.put,sT,List.set]
  refine tw (i:=1) (d:=some 10) (fuel:=6) (v:=?_) rfl rfl ?_ HR ?_
  rotate_left
  ·intro W hW
   have hc1:=hW.1
   have hc2:=hW.2.1
   have hc3:=hW.2.2
   go_simp
   try with_reducible rfl
  simp only [Act.put,sT,List.set]
  refine tw (i:=2) (d:=some 11) (fuel:=5) (v:=?_) rfl rfl ?_ HR ?_
  rotate_left
  ·intro W hW
   have hc1:=hW.1
   have hc2:=hW.2.1
   have hc3:=hW.2.2
   go_simp
   try with_reducible rfl
  simp only [Act.put,sT,List.set]
  refine tw (i:=4) (d:=some 13) (fuel:=4) (v:=?_) rfl rfl ?_ HR ?_
  rotate_left
  ·intro W hW
   have hc1:=hW.1
   have hc2:=hW.2.1
   have hc3:=hW.2.2
   go_simp
   try with_reducible rfl
  simp only [Act.put,sT,List.set]
  refine tw (i:=5) (d:=some 14) (fuel:=3) (v:=?_) rfl rfl ?_ HR ?_
  rotate_left
  ·intro W hW
   have hc1:=hW.1
   have hc2:=hW.2.1
   have hc3:=hW.2.2
   go_simp
   try with_reducible rfl
  simp only [Act.put,sT,List.set]
  refine wpAnyH_all (fuel:=2) (rs:=[3]) (by kernel_rfl) (by simp) ?_
  intro i hi
  obtain rfl:i=3:=by simpa using hi
  clear hi
  refine call_at (d:=some 12) rfl rfl (by rfl) 83 #[] (by kernel_rfl) ?_
  refine (newSeat_any Z).mono ?_
  rintro e x1 ⟨rfl,vq,vp,vt,hSV,hbn,hfq,hfp⟩
  have HR1:=HR.call hbn
  have C1:=hide ((hbn.block _ V.out.lt).trans V.out.cell)
  refine ⟨_,rfl,HR1,?_⟩
  simp only [Act.put,sT,List.set]
  refine tw (i:=6) (d:=some 15) (fuel:=1) (v:=?_) rfl rfl ?_ HR1 ?_
  rotate_left
  ·intro W hW
   have hc1:=hW.1
   have hc2:=hW.2.1
   have hc3:=hW.2.2
   go_simp
   try with_reducible rfl
  simp only [Act.put,sT,List.set]
  refine wpAnyH_all (fuel:=0) (rs:=[7]) (by kernel_rfl) (by simp) ?_
  intro i hi
  obtain rfl:i=7:=by simpa using hi
  clear hi
  refine skip_at (d:=none) rfl rfl (by rfl) (exec_one (v:=.pointer (some ⟨Z.heap.size,0,none⟩)) Tryz.sizePSeat (.tmp 15) (.tmp 12) rfl rfl rfl C1.out (by rw [more_size]; simp [pre]; omega) rfl) ?_
  have g1:=over_heap hb 102 [.pointer (some ⟨Z.heap.size,0,none⟩)] x1 _ (165+i) C1.out
  have u1:=over_upd hb [.pointer (some ⟨Z.heap.size,0,none⟩)] x1 (165+i)
  rw [show over (M.L.more (pre p M.acts) vl) (165+i) [.pointer (some ⟨Z.heap.size,0,none⟩)]=_ from set_ptr M.L p M.acts vl (.pointer (some ⟨Z.heap.size,0,none⟩)) i hi] at g1
  generalize x1.setCells hb (165+i) [.pointer (some ⟨Z.heap.size,0,none⟩)]=W1 at *
  have HR2:=HR1.upd u1 hab
  refine ⟨HR2,?_⟩
  simp only [Act.put]
  refine wpAnyH_done (by kernel_rfl) ?_ _
  obtain ⟨lab2,V2,G2⟩:=V.out.come hi hSV rfl hbn hfq hfp g1 u1
  have V3:=hide V2
  have G3:=hide (GD.out.trans G2)
  clear V2 G2 g1 u1 hSV hfq hfp C1 HR HR1 HR2 V V0 G0 GD c0 c1 c2 c3
  go_wp2
  go_ret
  exact ⟨by rw [HA.out]; rfl,lab2,⟨_,_,by rw [HA.out]; exact V3.out⟩,G3.out⟩
 ·rw [if_neg h1] at HA
  have hb1:(a.kind==1)=false:=by simpa using h1
  have hsome:∃ S,M.seat i=some S:=by
   rw [show decide (a.kind=1)=false by simpa using h1] at hr3
   exact Option.isSome_iff_exists.1 (by cases hx:M.seat i with | none=>rw [hx] at hr3; simp at hr3 | some S=>rfl)
  obtain ⟨S,hS⟩:=hsome
  rw [hS] at HA
  simp only at HA
  obtain ⟨kk,vq,vp,vt,hp,hSL⟩:=V.out.at' hi hS
  have PTR:(w.alloc (.cells a.cells 23)).drew.cell? ⟨hb,165+i,none⟩=some (.pointer (some ⟨kk,0,none⟩)):=by rw [V.out.ptr i hi,hp]
  have hSo:=HI.out.sv.seat i S hi hS
  have hakk:w.heap.size ≠ kk:=by rintro e; have:=hSL.lk; rw [← e,hl9] at this; omega
  have haot:vt.ownBlock ≠ some w.heap.size:=fun e=>by have:=hSL.lt _ e; rw [hl9] at this; omega
  have SL:=hide hSL
  have HP:=hide hp
  have HS:=hide hS
  clear hSL hp hS hr3 BD
  by_cases h2:a.kind=2
  ·rw [if_pos h2] at HA
   have hb2:(a.kind==2)=true:=by rw [h2]; rfl
   have CF:=hide (feed_any SL.out.v hSo.1 (by omega) a.bytes hz)
   clear h1 h2 hr hR h5 hii
   go_enter Tryz.func56,Tryz.ntmps56
   go_wp2_with fail
   refine wp_region_held (S:=Aw w.heap.size i a) (by kernel_rfl) ?_
   change wpAnyH _ _ _ _ _ _ _ _ (w.alloc (.cells a.cells 23)).drew
   generalize (w.alloc (.cells a.cells 23)).drew=Z at *
   refine tw (i:=0) (d:=some 18) (fuel:=9) (v:=?_) rfl rfl ?_ HR ?_
   rotate_left
   ·intro W hW
    have hc1:=hW.1
    have hc2:=hW.2.1
    have hc3:=hW.2.2
    have hc4:=hW.2.2
    go_simp
    try with_reducible rfl
   simp only [Act.put,sT,List.set]
   refine tw (i:=1) (d:=some 19) (fuel:=8) (v:=?_) rfl rfl ?_ HR ?_
   rotate_left
   ·intro W hW
    have hc1:=hW.1
    have hc2:=hW.2.1
    have hc3:=hW.2.2
    have hc4:=hW.2.2
    go_simp
    try with_reducible rfl
   simp only [Act.put,sT,List.set]
   refine tw (i:=2) (d:=some 20) (fuel:=7) (v:=?_) rfl rfl ?_ HR ?_
   rotate_left
   ·intro W hW
    have hc1:=hW.1
    have hc2:=hW.2.1
    have hc3:=hW.2.2
    have hc4:=hW.2.2
    go_simp
    try with_reducible rfl
   simp only [Act.put,sT,List.set]
   refine tw (i:=3) (d:=some 21) (fuel:=6) (v:=?_) rfl rfl ?_ HR ?_
   rotate_left
   ·intro W hW
    have hc1:=hW.1
    have hc2:=hW.2.1
    have hc3:=hW.2.2
    have hc4:=hW.2.2
    go_simp
    try with_reducible rfl
   simp only [Act.put,sT,List.set]
   refine tw (i:=4) (d:=some 22) (fuel:=5) (v:=?_) rfl rfl ?_ HR ?_
   rotate_left
   ·intro W hW
    have hc1:=hW.1
    have hc2:=hW.2.1
    have hc3:=hW.2.2
    have hc4:=hW.2.2
    go_simp
    try with_reducible rfl
   simp only [Act.put,sT,List.set]
   refine tw (i:=5) (d:=some 23) (fuel:=4) (v:=?_) rfl rfl ?_ HR ?_
   rotate_left
   ·intro W hW
    have hc1:=hW.1
    have hc2:=hW.2.1
    have hc3:=hW.2.2
    have hc4:=hW.2.2
    go_simp
    try with_reducible rfl
   simp only [Act.put,sT,List.set]
   refine tw (i:=7) (d:=some 25) (fuel:=3) (v:=?_) rfl rfl ?_ HR ?_
   rotate_left
   ·intro W hW
    have hc1:=hW.1
    have hc2:=hW.2.1
    have hc3:=hW.2.2
    have hc4:=hW.2.2
    go_simp
    try with_reducible rfl
   simp only [Act.put,sT,List.set]
   refine tw (i:=8) (d:=some 26) (fuel:=2) (v:=?_) rfl rfl ?_ HR ?_
   rotate_left
   ·intro W hW
    have hc1:=hW.1
    have hc2:=hW.2.1
    have hc3:=hW.2.2
    have hc4:=hW.2.2
    go_simp
    try with_reducible rfl
   simp only [Act.put,sT,List.set]
   refine wpAnyH_all (fuel:=1) (rs:=[6]) (by kernel_rfl) (by simp) ?_
   intro i hi
   obtain rfl:i=6:=by simpa using hi
   clear hi
   refine run_at (d:=some 24) rfl rfl (by rfl) (exec_ptr (.tmp 23) rfl rfl PTR) ?_
   refine ⟨HR,?_⟩
   simp only [Act.put,sT,List.set]
   refine wpAnyH_all (fuel:=0) (rs:=[9]) (by kernel_rfl) (by simp) ?_
   intro i hi
   obtain rfl:i=9:=by simpa using hi
   clear hi
   refine call_at (d:=some 27) rfl rfl (by rfl) 84 #[.pointer (some ⟨kk,0,none⟩),.string a.bytes] (by kernel_rfl) ?_
   refine (CF.out).mono ?_
   rintro e x1 ⟨rfl,vq1,vp1,vt1,K1⟩
   have HR1:=HR.seat K1 hakk haot
   refine ⟨_,rfl,HR1,?_⟩
   simp only [Act.put,sT,List.set]
   refine wpAnyH_done (by kernel_rfl) ?_ _
   obtain ⟨lab2,V2,G2⟩:=V.out.step hi HP.out SL.out K1
   have V3:=hide V2
   have G3:=hide (GD.out.trans G2)
   clear V2 G2 K1 HR HR1 V V0 G0 GD c0 c1 c2 c3 PTR CF SL
   go_wp2
   go_ret
   exact ⟨by rw [HA.out]; rfl,lab2,⟨_,_,by rw [HA.out]; exact V3.out⟩,G3.out⟩
  ·rw [if_neg h2] at HA
   have hb2:(a.kind==2)=false:=by simpa using h2
   by_cases h3:a.kind=3
   ·rw [if_pos h3] at HA
    have hb3:(a.kind==3)=true:=by rw [h3]; rfl
    have CF:=hide (take_any SL.out.v (ok_small hSo.1.pg) a.num)
    clear h1 h2 h3 hr hR h5 hii
    go_enter Tryz.func56,Tryz.ntmps56
    go_wp2_with fail
    refine wp_region_held (S:=Aw w.heap.size i a) (by kernel_rfl) ?_
    change wpAnyH _ _ _ _ _ _ _ _ (w.alloc (.cells a.cells 23)).drew
    generalize (w.alloc (.cells a.cells 23)).drew=Z at *
    refine tw (i:=0) (d:=some 30) (fuel:=10) (v:=?_) rfl rfl ?_ HR ?_
    rotate_left
    ·intro W hW
     have hc1:=hW.1
     have hc2:=hW.2.1
     have hc3:=hW.2.2
     go_simp
     try with_reducible rfl
    simp only [Act.put,sT,List.set]
    refine tw (i:=1) (d:=some 31) (fuel:=9) (v:=?_) rfl rfl ?_ HR ?_
    rotate_left
    ·intro W hW
     have hc1:=hW.1
     have hc2:=hW.2.1
     have hc3:=hW.2.2
     go_simp
     try with_reducible rfl
    simp only [Act.put,sT,List.set]
    refine tw (i:=2) (d:=some 32) (fuel:=8) (v:=?_) rfl rfl ?_ HR ?_
    rotate_left
    ·intro W hW
     have hc1:=hW.1
     have hc2:=hW.2.1
     have hc3:=hW.2.2
     go_simp
     try with_reducible rfl
    simp only [Act.put,sT,List.set]
    refine tw (i:=3) (d:=some 33) (fuel:=7) (v:=?_) rfl rfl ?_ HR ?_
    rotate_left
    ·intro W hW
     have hc1:=hW.1
     have hc2:=hW.2.1
     have hc3:=hW.2.2
     go_simp
     try with_reducible rfl
    simp only [Act.put,sT,List.set]
    refine tw (i:=4) (d:=some 34) (fuel:=6) (v:=?_) rfl rfl ?_ HR ?_
    rotate_left
    ·intro W hW
     have hc1:=hW.1
     have hc2:=hW.2.1
     have hc3:=hW.2.2
     go_simp
     try with_reducible rfl
    simp only [Act.put,sT,List.set]
    refine tw (i:=5) (d:=some 35) (fuel:=5) (v:=?_) rfl rfl ?_ HR ?_
    rotate_left
    ·intro W hW
     have hc1:=hW.1
     have hc2:=hW.2.1
     have hc3:=hW.2.2
     go_simp
     try with_reducible rfl
    simp only [Act.put,sT,List.set]
    refine tw (i:=7) (d:=some 37) (fuel:=4) (v:=?_) rfl rfl ?_ HR ?_
    rotate_left
    ·intro W hW
     have hc1:=hW.1
     have hc2:=hW.2.1
     have hc3:=hW.2.2
     go_simp
     try with_reducible rfl
    simp only [Act.put,sT,List.set]
    refine tw (i:=8) (d:=some 38) (fuel:=3) (v:=?_) rfl rfl ?_ HR ?_
    rotate_left
    ·intro W hW
     have hc1:=hW.1
     have hc2:=hW.2.1
     have hc3:=hW.2.2
     go_simp
     try with_reducible rfl
    simp only [Act.put,sT,List.set]
    refine wpAnyH_all (fuel:=2) (rs:=[6]) (by kernel_rfl) (by simp) ?_
    intro i hi
    obtain rfl:i=6:=by simpa using hi
    clear hi
    refine run_at (d:=some 36) rfl rfl (by rfl) (exec_ptr (.tmp 35) rfl rfl PTR) ?_
    refine ⟨HR,?_⟩
    simp only [Act.put,sT,List.set]
    refine wpAnyH_all (fuel:=1) (rs:=[9]) (by kernel_rfl) (by simp) ?_
    intro i hi
    obtain rfl:i=9:=by simpa using hi
    clear hi
    refine call_at (d:=some 39) rfl rfl (by rfl) 85 #[.pointer (some ⟨kk,0,none⟩),.int .i64 a.num] (by kernel_rfl) ?_
    refine (CF.out).mono ?_
    rintro e x1 ⟨rfl,vp1,K1⟩
    have HR1:=HR.seat K1 hakk haot
    refine ⟨_,rfl,HR1,?_⟩
    simp only [Act.put,sT,List.set]
    refine tw (i:=10) (d:=some 4) (fuel:=0) (v:=?_) rfl rfl ?_ HR1 ?_
    rotate_left
    ·intro W hW
     have hc1:=hW.1
     have hc2:=hW.2.1
     have hc3:=hW.2.2
     go_simp
     try with_reducible rfl
    simp only [Act.put,sT,List.set]
    refine wpAnyH_done (by kernel_rfl) ?_ _
    obtain ⟨lab2,V2,G2⟩:=V.out.step hi HP.out SL.out K1
    have V3:=hide V2
    have G3:=hide (GD.out.trans G2)
    clear V2 G2 K1 HR HR1 V V0 G0 GD c0 c1 c2 c3 PTR CF SL
    go_wp2
    go_ret
    exact ⟨by rw [HA.out]; rfl,lab2,⟨_,_,by rw [HA.out]; exact V3.out⟩,G3.out⟩
   ·rw [if_neg h3] at HA
    have h4:a.kind=4:=by omega
    have hb3:(a.kind==3)=false:=by simpa using h3
    have hb4:(a.kind==4)=true:=by rw [h4]; rfl
    have CL:=hide (leave_any hvb hai ⟨_,_,V0.out⟩ HI.out (by omega) hi HS.out)
    clear h1 h2 h3 h4 hr hR h5 hii HR PTR V GD
    go_enter Tryz.func56,Tryz.ntmps56
    go_wp2_with fail
    refine CL.out.mono ?_
    rintro e w2 ⟨rfl,lab2,H2,G2⟩
    have G3:=hide (G0.out.trans G2)
    clear CL G2 G0 V0
    go_wp2
    go_ret
    exact ⟨by rw [HA.out]; rfl,lab2,by rw [HA.out]; exact H2,G3.out⟩
open Go.RowKit
def repC (c:Int) (s:ByteArray):Array Value:=#[.int .i64 c,.string s]
theorem Tryz.sizeReply:(Tryz.prog.info? 29).map (·.size)=some 2:=by kernel_rfl
theorem Tryz.sizeAct:(Tryz.prog.info? 23).map (·.size)=some 4:=by kernel_rfl
theorem one_rep (c:Int) (s:ByteArray):(repC c s).all (·.oneCell')=true:=by
 rw [Array.all_eq_true_iff_forall_mem]
 intro u hu
 simp only [repC,List.mem_toArray,List.mem_cons,List.not_mem_nil,or_false] at hu
 rcases hu with rfl | rfl <;> rfl
theorem set_acts (L:Ld) (p:Nat→Value) (n m:Nat) (vl:Value):(L.more (pre p n) vl).setIfInBounds 169 (.int .i64 (m:Int))=L.more (pre p m) vl:=by
 apply Array.ext_getElem?
 intro k
 rw [Array.getElem?_setIfInBounds]
 by_cases e:169=k
 ·subst e
  rw [if_pos rfl,if_pos (by rw [more_size]; simp [pre])]
  exact (more_pre L (pre p m) vl 4 (by simp [pre])).symm
 ·rw [if_neg e]
  by_cases h:k < 165
  ·rw [more_get _ _ _ k h,more_get _ _ _ k h]
  ·by_cases h2:k < 169
   ·obtain ⟨j,rfl⟩:∃ j,k=165+j:=⟨k - 165,by omega⟩
    have hj:j < 4:=by omega
    rw [more_pre _ _ _ j (by simp [pre]; omega),more_pre _ _ _ j (by simp [pre]; omega)]
    match j,hj with
    | 0,_ | 1,_ | 2,_ | 3,_=>rfl
   ·by_cases h3:k=170
    ·subst h3
     exact (more_row L (pre p n) vl).trans (more_row L (pre p m) vl).symm
    ·rw [Array.getElem?_eq_none (by rw [more_size]; simp [pre]; omega),Array.getElem?_eq_none (by rw [more_size]; simp [pre]; omega)]
section
variable {W0:World} {lab lab':Nat→Nat} {w w' W:World} {hb k:Nat} {M:Hm} {p:Nat→Value} {vl:Value}
theorem HoV.other (h:HoV W0 lab w hb M p vl) (hu:Upd k w W) (hk:lab k=9) (hk0:W0.heap.size≤k):HoV W0 lab W hb M p vl :=
 h.frame hu.os hu.tape hu.output (by rw [hu.size]; exact Nat.le_refl _) (fun n hn=>hu.block n (by omega)) fun n hn hl=>hu.block n (by rintro rfl; exact hl hk)
theorem HoC.other (h:HoC W0 lab w hb M) (hu:Upd k w W) (hk:lab k=9) (hk0:W0.heap.size≤k):HoC W0 lab W hb M:=by
 obtain ⟨p,vl,h⟩:=h; exact ⟨p,vl,h.other hu hk hk0⟩
theorem Gr.other (h:Gr lab lab' w w') (hu:Upd k w' W) (hk:w.heap.size≤k):Gr lab lab' w W :=
 ⟨hu.os.trans h.os,hu.tape.trans h.tape,hu.output.trans h.output,by rw [hu.size]; exact h.size,h.old,fun n hn hl=>(hu.block n (by omega)).trans (h.same n hn hl)⟩
theorem HoC.below (h:HoC W0 lab w hb M) (hB:Below w.heap.size w w'):HoC W0 lab w' hb M:=by
 obtain ⟨p,vl,h⟩:=h; exact ⟨p,vl,h.below hB⟩
theorem HoC.low (h:HoC W0 lab w hb M):Below W0.heap.size W0 w:=by obtain ⟨p,vl,h⟩:=h; exact h.low
theorem HoC.outs (h:HoC W0 lab w hb M):∀ n,w.heap.size≤n→lab n=9:=by obtain ⟨p,vl,h⟩:=h; exact h.out
end
structure Bx (a:Ac) (g:Nat) (lab:Nat→Nat) (W:World):Prop where
 l1:lab g=9
 l2:lab (g+1)=9
 h1:W.heap[g]?=some (.cells a.cells 23 (0,0))
 h2:W.heap[g+1]?=some (.cells (repC 0 ⟨#[]⟩) 29 (0,0))
section
variable {a:Ac} {g:Nat} {lab lab':Nat→Nat} {W W':World}
theorem Bx.step (h:Bx a g lab W) (hG:Gr lab lab' W W'):Bx a g lab' W':=by
 have e1:=(Array.getElem?_eq_some_iff.1 h.h1).1
 have e2:=(Array.getElem?_eq_some_iff.1 h.h2).1
 exact ⟨(hG.old _ e1).trans h.l1,(hG.old _ e2).trans h.l2,(hG.same _ e1 (.inr h.l1)).trans h.h1,(hG.same _ e2 (.inr h.l2)).trans h.h2⟩
end
theorem do_house {W0:World} (hvb:Vb W0) (hai:Ai W0) {lab:Nat→Nat} {w:World} {hb:Nat} {M:Hm} (h:HoC W0 lab w hb M) (hI:Iv 1000 M) (hac:M.acts≤400) (a:Ac) (hz:a.bytes.size≤140737488351232) :
 Calls Tryz.prog 17 #[.pointer (some ⟨hb,0,none⟩),.agg a.cells] w fun e w'=>e=.returned (.agg (repC (doM M a).2.1 (doM M a).2.2))∧∃ lab',HoC W0 lab' w' hb (doM M a).1∧Gr lab lab' w w':=by
 have hlow0:=h.low.size
 have B0:=(below_box w (.cells a.cells 23)).alloc (by simp) (.cells #[.int .i64 0,.string ⟨#[]⟩] 29)
 have X0:=hide (show Bx a w.heap.size lab ((w.alloc (.cells a.cells 23)).alloc (.cells #[.int .i64 0,.string ⟨#[]⟩] 29)) from ⟨h.outs _ (Nat.le_refl _),h.outs _ (by omega),by
  rw [Below.heap_alloc _ _ _ (by simp)]; exact heap_alloc_new w _,by
  have:=heap_alloc_new (w.alloc (.cells a.cells 23)) (.cells #[.int .i64 0,.string ⟨#[]⟩] 29)
  rw [World.size_alloc] at this; exact this⟩)
 have H0:=hide (h.below B0)
 have G0:=hide (Gr.below (lab:=lab) B0)
 obtain ⟨p,vl,hV⟩:=H0.out
 have c169:=hV.acts
 have V:=hide hV
 have HI:=hide hI
 have HD:Hid (doM M a=if 400≤M.acts then (M,4,nilB) else if refusedM (forgetM M) a=0 then (flowM (actM { forgetM M with acts:=M.acts+1 } a).1,0,(actM { forgetM M with acts:=M.acts+1 } a).2) else ({ forgetM M with acts:=M.acts+1 },refusedM (forgetM M) a,nilB)):=hide rfl
 generalize doM M a=R at *
 clear hV B0 h hI
 by_cases h4:400≤M.acts
 ·rw [if_pos h4] at HD
  have h4i:(400:Int)≤(M.acts:Int):=by omega
  have C0:=hide X0.out.h2
  go_enter Tryz.func17,Tryz.ntmps17
  go_wp2_with (refine wl_over 29 (.tmp 4) (.tmp 17) rfl rfl (w.heap.size+1) 0 (repC 4 ⟨#[]⟩) _ _ 29 rfl rfl C0.out (by show 0+2≤2; omega) Tryz.sizeReply (one_rep _ _) (show over (repC 0 ⟨#[]⟩) 0 (repC 4 ⟨#[]⟩).toList=repC 4 ⟨#[]⟩ from rfl) ?_; intro W1 g1 u1)
  refine bodyPost_ret (v:=.agg (repC 4 ⟨#[]⟩)) (results_cell_row rfl _ _ (w.heap.size+1) 29 (repC 4 ⟨#[]⟩) (0,0) _ rfl g1 Tryz.underlying29 rfl Tryz.sizeReply) rfl ⟨by rw [HD.out]; rfl,lab,?_,G0.out.other u1 (by omega)⟩
  rw [HD.out]
  exact H0.out.other u1 X0.out.l2 (by omega)
 ·rw [if_neg h4] at HD
  have h4i:¬ (400:Int)≤(M.acts:Int):=by omega
  have hac2:((M.acts:Int)+1)=((M.acts+1:Nat):Int):=by omega
  have C0:=hide V.out.cell
  have SA:=hide (set_acts M.L p M.acts (M.acts+1) vl)
  rw [← hac2] at SA
  clear hac2
  have h0i:(0:Int)≤(M.acts:Int):=by omega
  have h1i:(M.acts:Int) < 400:=by omega
  go_enter Tryz.func17,Tryz.ntmps17
  go_upto_region 6 with (refine wl_over1 3 (.tmp 24) (.tmp 22) rfl rfl hb 169 (.int .i64 ((M.acts:Int)+1)) _ (M.L.more (pre p (M.acts+1)) vl) 102 rfl rfl C0.out (by rw [more_size]; simp [pre]) Tryz.sizeInt rfl SA.out ?_; intro W1 g1 u1)
  obtain ⟨A1,G1⟩:=V.out.own (M':={ M with acts:=M.acts+1 }) (p':=p) (vl':=vl) u1 g1 V.out.row V.out.lr V.out.seats
  have X1:=hide (X0.out.step G1)
  have CF:=hide (forget_any (M:={ M with acts:=M.acts+1 }) ⟨_,_,A1⟩)
  have G2:=hide (G0.out.trans G1)
  clear A1 G1 g1 u1 C0 V H0 G0 X0 c169
  go_upto_region 7 with fail
  refine CF.out.mono ?_
  rintro e w2 ⟨rfl,lab2,H2,G2'⟩
  have X2:=hide (X1.out.step G2')
  have G3:=hide (G2.out.trans G2')
  have H2':HoC W0 lab2 w2 hb { forgetM M with acts:=M.acts+1 }:=H2
  have CR:=hide (refused_any H2' a)
  have C2:=hide X2.out.h1
  have HI2:=hide (HI.out.forget (M.acts+1))
  clear CF G2' X1 G2 HI H2
  replace H2':=hide H2'
  go_upto_region 8 with (refine wl_wanted rfl (wp_load_row 23 (.tmp 3) rfl w.heap.size rfl 23 a.cells (0,0) _ C2.out Tryz.underlying23 rfl Tryz.sizeAct ?_))
  refine CR.out.mono ?_
  rintro e w3 ⟨rfl,hb3⟩
  have H3:=hide (H2'.out.below hb3)
  have X3:=hide (X2.out.step (Gr.below (lab:=lab2) hb3))
  have G4:=hide (G3.out.trans (Gr.below (lab:=lab2) hb3))
  have hRR:refusedM { forgetM M with acts:=M.acts+1 } a=refusedM (forgetM M) a:=rfl
  rw [hRR]
  generalize hcd:refusedM (forgetM M) a=cd at *
  clear CR hb3 H2' X2 G3 C2
  generalize hMM:({ forgetM M with acts:=M.acts+1 }:Hm)=Mf at *
  by_cases hc0:cd=0
  ·rw [if_pos hc0] at HD
   subst hc0
   have CA:=hide (act_any hvb hai H3.out HI2.out (by omega) a hRR hz)
   have HI3:=hide (HI2.out.act hRR)
   have C3:=hide X3.out.h1
   generalize actM Mf a=R1 at *
   obtain ⟨M1,out⟩:=R1
   simp only at HD CA HI3
   clear H3
   go_upto_region 11 with (refine wl_wanted rfl (wp_load_row 23 (.tmp 3) rfl w.heap.size rfl 23 a.cells (0,0) _ C3.out Tryz.underlying23 rfl Tryz.sizeAct ?_))
   refine CA.out.mono ?_
   rintro e w4 ⟨rfl,lab4,H4,G4'⟩
   have X4:=hide (X3.out.step G4')
   have G5:=hide (G4.out.trans G4')
   have CL:=hide (flows_any hvb hai H4 HI3.out (by omega))
   clear CA G4' X3 G4 C3 H4
   go_upto_region 12 with fail
   refine CL.out.mono ?_
   rintro e w5 ⟨rfl,lab5,H5,G5'⟩
   have X5:=hide (X4.out.step G5')
   have G6:=hide (G5.out.trans G5')
   have C5:=hide X5.out.h2
   clear CL G5' X4 G5
   go_wp2_with (refine wl_over 29 (.tmp 4) (.tmp 40) rfl rfl (w.heap.size+1) 0 (repC 0 out) _ _ 29 rfl rfl C5.out (by show 0+2≤2; omega) Tryz.sizeReply (one_rep _ _) (show over (repC 0 ⟨#[]⟩) 0 (repC 0 out).toList=repC 0 out from rfl) ?_; intro W6 g6 u6)
   refine bodyPost_ret (v:=.agg (repC 0 out)) (results_cell_row rfl _ _ (w.heap.size+1) 29 (repC 0 out) (0,0) _ rfl g6 Tryz.underlying29 rfl Tryz.sizeReply) rfl ⟨by rw [HD.out],lab5,?_,G6.out.other u6 (by omega)⟩
   rw [HD.out]
   exact H5.other u6 X5.out.l2 (by omega)
  ·rw [if_neg hc0] at HD
   have hcb:(cd != 0)=true:=by simpa using hc0
   have C3:=hide X3.out.h2
   clear hc0
   go_wp2_with (refine wl_over 29 (.tmp 4) (.tmp 33) rfl rfl (w.heap.size+1) 0 (repC cd ⟨#[]⟩) _ _ 29 rfl rfl C3.out (by show 0+2≤2; omega) Tryz.sizeReply (one_rep _ _) (show over (repC 0 ⟨#[]⟩) 0 (repC cd ⟨#[]⟩).toList=repC cd ⟨#[]⟩ from rfl) ?_; intro W6 g6 u6)
   refine bodyPost_ret (v:=.agg (repC cd ⟨#[]⟩)) (results_cell_row rfl _ _ (w.heap.size+1) 29 (repC cd ⟨#[]⟩) (0,0) _ rfl g6 Tryz.underlying29 rfl Tryz.sizeReply) rfl ⟨by rw [HD.out]; rfl,lab2,?_,G4.out.other u6 (by omega)⟩
   rw [HD.out]
   exact H3.out.other u6 X3.out.l2 (by omega)
end Go.Proofs.YtncgcejlkmoliaaGreatDoor.Ho
