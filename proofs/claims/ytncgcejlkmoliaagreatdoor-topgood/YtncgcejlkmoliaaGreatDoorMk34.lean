import Derived.Test.YtncgcejlkmoliaaGreatDoorMk32
import Derived.Test.YtncgcejlkmoliaaGreatDoorMk33
set_option linter.unusedVariables false
set_option maxRecDepth 100000
set_option maxHeartbeats 16000000
namespace Go.Proofs.YtncgcejlkmoliaaGreatDoor.Ho
open Go.RowKit
theorem wf_of {L:Ld} (h:Fine L):Wf L:=by
 refine ⟨fun r d hr hd=>?_,fun b hb=>?_⟩
 ·rcases h.exit r d hr hd with e | ⟨t,ht,e⟩ <;> rw [e] <;> omega
 ·rcases h.foe b hb with e | ⟨t,ht,e⟩ <;> rw [e] <;> omega
theorem ruleDo {L:Ld} {b:Nat} {O:Od} {w:World} (hvb:Vb w) (hf:Fine L) (hg:goodL L=true) (hb:b < 6) (hh:L.here b=true) (hO:OdOk O) (h0:0≤O.verb) (h1:O.verb≤20) :
 Calls Tryz.prog 125 #[.agg L.cells,.int .i64 (b:Int),.agg O.cells] w fun e w'=>∃ v,e=.returned (.tuple #[.agg (actL L b O).cells,v,.int .i64 0])∧w'.ownsRow w.heap.size 71 16 v (actE L b O).length (evc (actE L b O))∧Below w.heap.size w w' :=
 do_any L (actL L b O) (actE L b O) b O w hvb (wf_of hf) hg hb hh h0 h1 (fun w0 w hv hS=>act_any hS hf hg hv b hb O hO h0 h1 (by simp))
theorem exec_order {a:Act} {op:Oper} {w:World} (x:Operand) (ho:op.op=.load 149 x) {g:Nat} {O:Od} (hx:a.eval x=.pointer (some ⟨g,0,none⟩)) (hc:w.heap[g]?=some (.cells O.cells 149 (0,0))) :
 (execOp a.eval op).run Tryz.prog w=.ok (.value (.agg O.cells)) w:=by
 have hl:(Instr.loadAt 149 (.pointer (some ⟨g,0,none⟩))).run Tryz.prog w=.ok (.agg O.cells) w:=by
  simp only [Instr.loadAt,Instr.sureAddr,Sem.run_bind,Sem.run_pure,Result.andThen_ok]
  exact run_loadVar_row w g 149 149 O.cells (0,0) _ hc Tryz.underlying149 rfl Tryz.sizeOrder
 unfold execOp
 simp only [ho,hx,Sem.run_bind,hl,Result.andThen_ok,Sem.run_pure]
theorem exec_alloc {a:Act} {op:Oper} {w:World} (ho:op.op=.alloc 43):(execOp a.eval op).run Tryz.prog w=.ok (.value (.pointer (some ⟨w.heap.size,0,none⟩))) (w.alloc (.cells zl.cells 43)):=by
 have hz:=(zero_of_info Tryz.zLand).1
 unfold execOp
 simp only [ho]
 go_simp
 try rfl
def Lo (hb:Nat) (L:Ld) (g:Nat) (cs:Array Value) (T:TypeId) (W:World):Prop:=W.rangeAt hb 0 L.cells.toList∧W.heap[g]?=some (.cells cs T (0,0))
theorem Lo.lt {hb:Nat} {L:Ld} {g:Nat} {cs:Array Value} {T:TypeId} {W:World} (h:Lo hb L g cs T W):hb < W.heap.size:=cell_lt (h.1 0 (L.cellAt 0) (by rw [Array.getElem?_toList,L.get 0 (by omega)]))
theorem Lo.call {hb:Nat} {L:Ld} {g:Nat} {cs:Array Value} {T:TypeId} {W W':World} (h:Lo hb L g cs T W) (hB:Below W.heap.size W W'):Lo hb L g cs T W':=by
 refine ⟨fun j v hj=>?_,(hB.block _ (Array.getElem?_eq_some_iff.1 h.2).1).trans h.2⟩
 rw [← h.1 j v hj]
 simp only [World.cell?,hB.block _ h.lt]
theorem Lo.setRow {hb:Nat} {L:Ld} {g k:Nat} {cs cs':Array Value} {T:TypeId} {W:World} (h:Lo hb L g cs' T W) (h1:hb ≠ k) (h2:g ≠ k):Lo hb L g cs' T (W.setRow k cs):=by
 have e1:=setRow_off W k hb cs h1
 have e2:=setRow_off W k g cs h2
 exact ⟨fun j v hj=>by rw [← h.1 j v hj]; simp only [World.cell?,e1],e2.trans h.2⟩
structure Ans (w wc:World) (X:Ld) (Fs:List Ev) (nb:Nat) (v:Value):Prop where
 cod:Cod wc nb X
 row:wc.ownsRow w.heap.size 71 16 v Fs.length (evc Fs)
 low:Below w.heap.size w wc
section
variable {w Z x1:World} {X:Ld} {Fs:List Ev} {v:Value}
theorem own_weak {w:World} {B B' T sz n:Nat} {v:Value} {xs:List Value} (h:w.ownsRow B T sz v n xs) (hB:B'≤B):w.ownsRow B' T sz v n xs:=by
 refine ⟨h.1,?_⟩
 rcases h.2 with hn | ⟨g,cap,cur,e,h1,h2⟩
 ·exact .inl hn
 ·exact .inr ⟨g,cap,cur,e,Nat.le_trans hB h1,h2⟩
theorem ans_a (hZ:Below w.heap.size w Z) (ho:x1.ownsRow Z.heap.size 71 16 v Fs.length (evc Fs)) (hb:Below Z.heap.size Z x1):Ans w ((x1.alloc (.cells zl.cells 43)).setRow x1.heap.size X.cells) X Fs x1.heap.size v:=by
 rw [World.setRow_alloc_new]
 have hB:Below w.heap.size w x1:=hZ.trans (hb.mono hZ.size)
 exact ⟨cod_new x1 X,own_same (own_weak ho hZ.size) fun g hg=>Below.heap_alloc _ _ _ (own_lt ho g hg).2,hB.alloc hB.size _⟩
theorem ans_b (hZ:Below w.heap.size w Z) (ho:x1.ownsRow (Z.alloc (.cells zl.cells 43)).heap.size 71 16 v Fs.length (evc Fs)) (hb:Below (Z.alloc (.cells zl.cells 43)).heap.size (Z.alloc (.cells zl.cells 43)) x1)
 (hz:x1.heap[Z.heap.size]?=some (.cells zl.cells 43 (0,0))):Ans w (x1.setRow Z.heap.size X.cells) X Fs Z.heap.size v:=by
 have hs:=hZ.size
 have h1:Below w.heap.size w (Z.alloc (.cells zl.cells 43)):=hZ.alloc hZ.size _
 have hB:Below w.heap.size w x1:=h1.trans (hb.mono h1.size)
 exact ⟨setRow_heap x1 _ _ _ _ _ hz,own_same (own_weak ho (by simp; omega)) fun g hg=>setRow_off _ _ _ _ (by have:=own_lt ho g hg; simp at this; omega),below_setRow hB hs _⟩
end
theorem order_any {W0:World} (hvb:Vb W0) (hai:Ai W0) {lab:Nat→Nat} {w:World} {hb:Nat} {M:Hm} (h:HoC W0 lab w hb M) (b:Nat) (O:Od) (hb6:b < 6) (hh:M.L.here b=true) (hg:goodL M.L=true) (hf:Fine M.L) (hO:OdOk O) (h0:0≤O.verb) (h1:O.verb≤20)
 (hE:∀ E ∈ actE M.L b O,Hr E) {N:Nat} (hs:Sv N M) (hN:N+(actE M.L b O).length≤1000000) :
 Calls Tryz.prog 106 #[.pointer (some ⟨hb,0,none⟩),.int .i64 (b:Int),.agg O.cells] w fun e w'=>e=.returned (.tuple #[])∧∃ lab',HoC W0 lab' w' hb (hapM M (actL M.L b O) (actE M.L b O))∧Gr lab lab' w w':=by
 obtain ⟨p,vl,hV⟩:=h
 have hBx:=below_box w (.cells O.cells 149)
 have hBZ:Below w.heap.size w (w.alloc (.cells O.cells 149)).drew:=hBx.drew
 have HR:Lo hb M.L w.heap.size O.cells 149 (w.alloc (.cells O.cells 149)).drew:=⟨((hV.below hBx).below ((Below.refl _ _).drew)).land,heap_alloc_new w _⟩
 have CD:=hide (fun (x:World) (hx:Below W0.heap.size W0 x)=>ruleDo (w:=x) (hvb.below hx (Nat.le_refl _)) hf hg hb6 hh hO h0 h1)
 have hlow:Below W0.heap.size W0 (w.alloc (.cells O.cells 149)).drew:=hV.low.trans (hBZ.mono hV.low.size)
 have hhb:hb < w.heap.size:=hV.lt
 have hzz:w.heap.size < (w.alloc (.cells O.cells 149)).drew.heap.size:=by show _ < (w.alloc _).heap.size; simp
 have V:=hide hV
 clear hV hBx
 generalize hX:actL M.L b O=X at *
 generalize hF:actE M.L b O=Fs at *
 go_enter Tryz.func106,Tryz.ntmps106
 go_upto_region 1 with fail
 go_cut [6,7] (fun p6 v7 wc=>∃ nb,p6=.pointer (some ⟨nb,0,none⟩)∧∃ v,v7=v∧Ans w wc X Fs nb v)
 case first =>
  replace CD:=hide (show ∀ x:World,Below W0.heap.size W0 x→_ from CD.out)
  go_wp2_with fail
  refine wp_region_held (S:=Lo hb M.L w.heap.size O.cells 149) (by kernel_rfl) ?_
  change wpAnyH _ _ _ _ _ _ _ _ (w.alloc (.cells O.cells 149)).drew
  generalize (w.alloc (.cells O.cells 149)).drew=Z at *
  refine tw (i:=0) (d:=some 10) (fuel:=14) (v:=?_) rfl rfl ?_ HR ?_
  rotate_left
  ·intro W hW
   go_simp
   try with_reducible rfl
  simp only [Act.put,sT,List.set]
  refine tw (i:=1) (d:=some 11) (fuel:=13) (v:=?_) rfl rfl ?_ HR ?_
  rotate_left
  ·intro W hW
   go_simp
   try with_reducible rfl
  simp only [Act.put,sT,List.set]
  refine tw (i:=2) (d:=some 12) (fuel:=12) (v:=?_) rfl rfl ?_ HR ?_
  rotate_left
  ·intro W hW
   go_simp
   try with_reducible rfl
  simp only [Act.put,sT,List.set]
  refine tk (i:=3) (d:=some 13) (fuel:=11) (v:=.agg M.L.cells) rfl rfl (Or.inl ⟨by rfl,fun W hW=>exec_land' (.tmp 12) rfl rfl hW.1⟩) HR ?_
  simp only [Act.put,sT,List.set]
  refine tw (i:=4) (d:=some 14) (fuel:=10) (v:=?_) rfl rfl ?_ HR ?_
  rotate_left
  ·intro W hW
   go_simp
   try with_reducible rfl
  simp only [Act.put,sT,List.set]
  refine tk (i:=5) (d:=some 15) (fuel:=9) (v:=.agg O.cells) rfl rfl (Or.inl ⟨by rfl,fun W hW=>exec_order (.tmp 5) rfl rfl hW.2⟩) HR ?_
  simp only [Act.put,sT,List.set]
  refine wpAnyH_all (fuel:=8) (rs:=[6,11]) (by kernel_rfl) (by simp) ?_
  intro i hi
  have hi2:i=6∨i=11:=by simpa using hi
  clear hi
  rcases hi2 with rfl | rfl
  ·refine call_at (d:=some 16) rfl rfl (by rfl) 125 #[.agg M.L.cells,.int .i64 (b:Int),.agg O.cells] (by kernel_rfl) ?_
   refine (CD.out Z hlow).mono ?_
   rintro e x1 ⟨v,rfl,ho1,hb1⟩
   obtain ⟨av,cap,rfl⟩:=shapeE ho1
   have HR1:=HR.call hb1
   refine ⟨_,rfl,HR1,?_⟩
   simp only [Act.put,sT,List.set]
   refine tw (i:=7) (d:=some 9) (fuel:=7) (v:=?_) rfl rfl ?_ HR1 ?_
   rotate_left
   ·intro W hW; go_simp; try with_reducible rfl
   simp only [Act.put,sT,List.set]
   refine tw (i:=8) (d:=some 17) (fuel:=6) (v:=?_) rfl rfl ?_ HR1 ?_
   rotate_left
   ·intro W hW; go_simp; try with_reducible rfl
   simp only [Act.put,sT,List.set]
   refine tw (i:=9) (d:=some 18) (fuel:=5) (v:=?_) rfl rfl ?_ HR1 ?_
   rotate_left
   ·intro W hW; go_simp; try with_reducible rfl
   simp only [Act.put,sT,List.set]
   refine tw (i:=10) (d:=some 19) (fuel:=4) (v:=?_) rfl rfl ?_ HR1 ?_
   rotate_left
   ·intro W hW; go_simp; try with_reducible rfl
   simp only [Act.put,sT,List.set]
   refine wpAnyH_all (fuel:=3) (rs:=[11]) (by kernel_rfl) (by simp) ?_
   intro i hi
   obtain rfl:i=11:=by simpa using hi
   clear hi
   refine run_at (d:=some 6) (v:=.pointer (some ⟨x1.heap.size,0,none⟩)) (w':=x1.alloc (.cells zl.cells 43)) rfl rfl (by rfl) (exec_alloc rfl) ?_
   have HR2:=HR1.call (below_box x1 (.cells zl.cells 43))
   refine ⟨HR2,?_⟩
   simp only [Act.put,sT,List.set]
   refine wpAnyH_all (fuel:=2) (rs:=[12]) (by kernel_rfl) (by simp) ?_
   intro i hi
   obtain rfl:i=12:=by simpa using hi
   clear hi
   refine skip_at (d:=none) rfl rfl (by rfl) (exec_storeland (.tmp 6) (.tmp 17) rfl (k:=x1.heap.size) (L:=X) (old:=zl.cells) rfl rfl (heap_alloc_new x1 _) zl.size) ?_
   have AZ:=hide (ans_a (X:=X) hBZ ho1 hb1)
   have HRz:=HR2.setRow (by have:=hb1.size; omega) (by have:=hb1.size; omega) (k:=x1.heap.size) (cs:=X.cells)
   refine ⟨HRz,?_⟩
   simp only [Act.put]
   refine tw (i:=13) (d:=some 7) (fuel:=1) (v:=?_) rfl rfl ?_ HRz ?_
   rotate_left
   ·intro W hW; go_simp; try with_reducible rfl
   simp only [Act.put,sT,List.set]
   refine tw (i:=14) (d:=some 8) (fuel:=0) (v:=?_) rfl rfl ?_ HRz ?_
   rotate_left
   ·intro W hW; go_simp; try with_reducible rfl
   simp only [Act.put,sT,List.set]
   refine wpAnyH_done (by kernel_rfl) ?_ _
   go_wp2_with fail
   go_meet
   exact ⟨_,rfl,_,rfl,AZ.out⟩
  ·refine run_at (d:=some 6) (v:=.pointer (some ⟨Z.heap.size,0,none⟩)) (w':=Z.alloc (.cells zl.cells 43)) rfl rfl (by rfl) (exec_alloc rfl) ?_
   have HR1:=HR.call (below_box Z (.cells zl.cells 43))
   refine ⟨HR1,?_⟩
   simp only [Act.put,sT,List.set]
   refine wpAnyH_all (fuel:=7) (rs:=[6]) (by kernel_rfl) (by simp) ?_
   intro i hi
   obtain rfl:i=6:=by simpa using hi
   clear hi
   refine call_at (d:=some 16) rfl rfl (by rfl) 125 #[.agg M.L.cells,.int .i64 (b:Int),.agg O.cells] (by kernel_rfl) ?_
   refine (CD.out (Z.alloc (.cells zl.cells 43)) (hlow.alloc hlow.size _)).mono ?_
   rintro e x1 ⟨v,rfl,ho1,hb1⟩
   obtain ⟨av,cap,rfl⟩:=shapeE ho1
   have HR2:=HR1.call hb1
   refine ⟨_,rfl,HR2,?_⟩
   simp only [Act.put,sT,List.set]
   refine tw (i:=7) (d:=some 9) (fuel:=6) (v:=?_) rfl rfl ?_ HR2 ?_
   rotate_left
   ·intro W hW; go_simp; try with_reducible rfl
   simp only [Act.put,sT,List.set]
   refine tw (i:=8) (d:=some 17) (fuel:=5) (v:=?_) rfl rfl ?_ HR2 ?_
   rotate_left
   ·intro W hW; go_simp; try with_reducible rfl
   simp only [Act.put,sT,List.set]
   refine tw (i:=9) (d:=some 18) (fuel:=4) (v:=?_) rfl rfl ?_ HR2 ?_
   rotate_left
   ·intro W hW; go_simp; try with_reducible rfl
   simp only [Act.put,sT,List.set]
   refine tw (i:=10) (d:=some 19) (fuel:=3) (v:=?_) rfl rfl ?_ HR2 ?_
   rotate_left
   ·intro W hW; go_simp; try with_reducible rfl
   simp only [Act.put,sT,List.set]
   refine wpAnyH_all (fuel:=2) (rs:=[12]) (by kernel_rfl) (by simp) ?_
   intro i hi
   obtain rfl:i=12:=by simpa using hi
   clear hi
   have hz0:x1.heap[Z.heap.size]?=some (.cells zl.cells 43 (0,0)):=(hb1.block _ (by simp)).trans (heap_alloc_new Z _)
   refine skip_at (d:=none) rfl rfl (by rfl) (exec_storeland (.tmp 6) (.tmp 17) rfl (k:=Z.heap.size) (L:=X) (old:=zl.cells) rfl rfl hz0 zl.size) ?_
   have AZ:=hide (ans_b (X:=X) hBZ ho1 hb1 hz0)
   have HRz:=HR2.setRow (by omega) (by omega) (k:=Z.heap.size) (cs:=X.cells)
   refine ⟨HRz,?_⟩
   simp only [Act.put]
   refine tw (i:=13) (d:=some 7) (fuel:=1) (v:=?_) rfl rfl ?_ HRz ?_
   rotate_left
   ·intro W hW; go_simp; try with_reducible rfl
   simp only [Act.put,sT,List.set]
   refine tw (i:=14) (d:=some 8) (fuel:=0) (v:=?_) rfl rfl ?_ HRz ?_
   rotate_left
   ·intro W hW; go_simp; try with_reducible rfl
   simp only [Act.put,sT,List.set]
   refine wpAnyH_done (by kernel_rfl) ?_ _
   go_wp2_with fail
   go_meet
   exact ⟨_,rfl,_,rfl,AZ.out⟩
 case rest =>
  obtain ⟨nb,rfl,v,rfl,hA⟩:=hcut
  have CH:=hide (happens_any hvb hai (lab:=lab) (w:=wc) (hb:=hb) (M:=M) ⟨p,vl,V.out.below hA.low⟩ X Fs _ hA.row (fun g hg=>V.out.out g (own_lt hA.row g hg).1) hE hs hN)
  have LA:=hide hA.cod
  have GA:=hide (Gr.below (lab:=lab) hA.low)
  clear hA HR hBZ hlow V hzz
  go_wp2_with (refine wl_land (.tmp 6) rfl rfl _ X rfl LA.out ?_)
  refine CH.out.mono ?_
  rintro e w2 ⟨rfl,lab',H',G'⟩
  have G2:=hide (GA.out.trans G')
  clear G' GA LA CH
  go_wp2
  go_end0
  exact ⟨rfl,lab',H',G2.out⟩
open Go.RowKit
def heardsS (Es:List Ev) (S:Se):Se:=Es.foldl (fun S E=>heardS E S) S
theorem hearS_keeps (E:Ev) (S:Se):(hearS E S).being=S.being∧(hearS E S).lin=S.lin∧(hearS E S).tel=S.tel:=by
 unfold hearS
 split
 ·exact ⟨rfl,rfl,rfl⟩
 ·exact ⟨rfl,rfl,rfl⟩
theorem heardS_keeps (E:Ev) (S:Se):(heardS E S).being=S.being∧(heardS E S).lin=S.lin∧(heardS E S).tel=S.tel:=by
 unfold heardS
 split
 ·exact hearS_keeps E S
 ·exact ⟨rfl,rfl,rfl⟩
theorem heardsS_keeps (Es:List Ev):∀ S:Se,(heardsS Es S).being=S.being∧(heardsS Es S).lin=S.lin∧(heardsS Es S).tel=S.tel:=by
 induction Es with
 | nil=>intro S; exact ⟨rfl,rfl,rfl⟩
 | cons E Es ih =>
  intro S
  have h1:=heardS_keeps E S
  have h2:=ih (heardS E S)
  exact ⟨h2.1.trans h1.1,h2.2.1.trans h1.2.1,h2.2.2.trans h1.2.2⟩
theorem hears_eq (M:Hm) (Es:List Ev):hearsM M Es={ M with last:=M.last++Es,seat:=fun i=>(M.seat i).map (heardsS Es) }:=by
 induction Es generalizing M with
 | nil =>
  show M=_
  cases M with
  | mk L seat acts last =>
   simp only [List.append_nil]
   congr
   funext i
   cases seat i <;> rfl
 | cons E Es ih =>
  show hearsM (hearM E M) Es=_
  rw [ih]
  simp only [hearM,List.append_assoc,List.singleton_append]
  congr
  funext i
  cases M.seat i <;> rfl
theorem hap_eq (M:Hm) (X:Ld) (Es:List Ev):hapM M X Es={ M with L:=X,last:=M.last++Es,seat:=fun i=>(M.seat i).map (heardsS Es) }:=by
 unfold hapM; rw [hears_eq]
theorem plays_eq {S T:Se} (h:T.being=S.being):plays T=plays S:=by unfold plays; rw [h]
structure Iv (N:Nat) (M:Hm):Prop where
 good:goodL M.L=true
 nm:Nm M.L
 sv:Sv N M
 play:∀ i S,i < 4→M.seat i=some S→plays S=true→∃ b:Nat,S.being=(b:Int)∧2≤b∧b < 6∧M.L.here b=true
 one:∀ i j S T,i < 4→j < 4→M.seat i=some S→M.seat j=some T→plays S=true→S.being=T.being→i=j
 all:∀ b:Nat,2≤b→b < 6→M.L.here b=true→∃ i S,i < 4∧M.seat i=some S∧S.being=(b:Int)
 named:∀ b:Nat,2≤b→b < 6→M.L.here b=true→namedB (M.L.bname b)=true
 uniq:∀ b c:Nat,2≤b→b < 6→c < 6→b ≠ c→M.L.here b=true→M.L.here c=true→M.L.bname b ≠ M.L.bname c
section
variable {N:Nat} {M:Hm}
theorem Iv.fine (h:Iv N M):Fine M.L:=h.nm.fine h.good
theorem Iv.mono (h:Iv N M) {N':Nat} (hN:N≤N'):Iv N' M :=
 ⟨h.good,h.nm,⟨fun i S hi hS=>⟨(h.sv.seat i S hi hS).1,Nat.le_trans (h.sv.seat i S hi hS).2 hN⟩,Nat.le_trans h.sv.last hN⟩,h.play,h.one,h.all,h.named,h.uniq⟩
theorem Iv.put (h:Iv N M) {i:Nat} (hi:i < 4) {S S':Se} (hS:M.seat i=some S) (hb:S'.being=S.being) (hok:SeOk S') {N':Nat} (hN:N≤N') (ht:S'.told.length≤N'):Iv N' (M.put i (some S')):=by
 have back:∀ j T,j < 4→(M.put i (some S')).seat j=some T→∃ T0,M.seat j=some T0∧T.being=T0.being:=fun j T hj e=>by
  simp only [Hm.put] at e
  by_cases e2:j=i
  ·subst e2
   rw [if_pos rfl] at e; injection e with e; subst e
   exact ⟨S,hS,hb⟩
  ·rw [if_neg e2] at e; exact ⟨T,e,rfl⟩
 refine ⟨h.good,h.nm,⟨fun j T hj e=>?_,Nat.le_trans h.sv.last hN⟩,fun j T hj e hp=>?_,fun j k T U hj hk e1 e2 hp hbe=>?_,fun b h1 h2 h3=>?_,h.named,h.uniq⟩
 ·simp only [Hm.put] at e
  by_cases e2:j=i
  ·subst e2
   rw [if_pos rfl] at e; injection e with e; subst e
   exact ⟨hok,ht⟩
  ·rw [if_neg e2] at e
   exact ⟨(h.sv.seat j T hj e).1,Nat.le_trans (h.sv.seat j T hj e).2 hN⟩
 ·obtain ⟨T0,e0,eb⟩:=back j T hj e
  obtain ⟨b,hb2,h3⟩:=h.play j T0 hj e0 (by rw [← plays_eq eb]; exact hp)
  exact ⟨b,eb.trans hb2,h3⟩
 ·obtain ⟨T0,e0,eb⟩:=back j T hj e1
  obtain ⟨U0,f0,fb⟩:=back k U hk e2
  exact h.one j k T0 U0 hj hk e0 f0 (by rw [← plays_eq eb]; exact hp) (by rw [← eb,← fb]; exact hbe)
 ·obtain ⟨j,T,hj,e,eb⟩:=h.all b h1 h2 h3
  by_cases e2:j=i
  ·subst e2
   rw [hS] at e; injection e with e; subst e
   exact ⟨j,S',hj,by simp [Hm.put],hb.trans eb⟩
  ·exact ⟨j,T,hj,by simp [Hm.put,e2,e],eb⟩
theorem Iv.hap (h:Iv N M) {X:Ld} {Es:List Ev} (hg:goodL X=true) (hN:Nm X) (hB:Bh M.L X) (hE:All Es):Iv (N+Es.length) (hapM M X Es):=by
 have hs:Sv (N+Es.length) (hapM M X Es):=Sv.hears (M:={ M with L:=X }) ⟨h.sv.seat,h.sv.last⟩ Es fun E hE2=>(hE E hE2).hr
 have back:∀ j T,j < 4→(hapM M X Es).seat j=some T→∃ T0,M.seat j=some T0∧T.being=T0.being:=fun j T hj e=>by
  rw [hap_eq] at e
  simp only [Option.map_eq_some_iff] at e
  obtain ⟨T0,e0,rfl⟩:=e
  exact ⟨T0,e0,(heardsS_keeps Es T0).1⟩
 have hL:(hapM M X Es).L=X:=by rw [hap_eq]
 have hp2:∀ c:Nat,2≤c→c < 6→X.bname c=M.L.bname c∧X.here c=M.L.here c:=fun c h2 h6=>by
  rcases hB c h6 with e | e
  ·exact e
  ·omega
 refine ⟨by rw [hL]; exact hg,by rw [hL]; exact hN,hs,fun j T hj e hp=>?_,fun j k T U hj hk e1 e2 hp hbe=>?_,fun b h1 h2 h3=>?_,fun b h1 h2 h3=>?_,fun b c h1 h2 h6 hne h3 h4=>?_⟩
 ·obtain ⟨T0,e0,eb⟩:=back j T hj e
  obtain ⟨b,hb2,h3,h4,h5⟩:=h.play j T0 hj e0 (by rw [← plays_eq eb]; exact hp)
  exact ⟨b,eb.trans hb2,h3,h4,by rw [hL,(hp2 b h3 h4).2]; exact h5⟩
 ·obtain ⟨T0,e0,eb⟩:=back j T hj e1
  obtain ⟨U0,f0,fb⟩:=back k U hk e2
  exact h.one j k T0 U0 hj hk e0 f0 (by rw [← plays_eq eb]; exact hp) (by rw [← eb,← fb]; exact hbe)
 ·rw [hL,(hp2 b h1 h2).2] at h3
  obtain ⟨j,T,hj,e,eb⟩:=h.all b h1 h2 h3
  exact ⟨j,heardsS Es T,hj,by rw [hap_eq]; simp [e],(heardsS_keeps Es T).1.trans eb⟩
 ·rw [hL,(hp2 b h1 h2).2] at h3
  rw [hL,(hp2 b h1 h2).1]; exact h.named b h1 h2 h3
 ·rw [hL] at h3 h4 ⊢
  rw [(hp2 b h1 h2).2] at h3
  rw [(hp2 b h1 h2).1]
  rcases hB c h6 with ⟨e1,e2⟩ | ⟨_,e1,e2⟩
  ·rw [e1]; exact h.uniq b c h1 h2 h6 hne h3 (by rw [← e2]; exact h4)
  ·rw [e2] at h4; simp at h4
theorem refuses_ok {L:Ld} {b:Nat} {O:Od} (hg:goodL L=true) (hb:b < 6) (hh:L.here b=true) (h0:0≤O.verb) (h1:O.verb≤20):refuses L (b:Int) O.verb=0:=by
 unfold refuses
 rw [if_neg (by simp [hg]),if_neg (by rw [amg_mk (by omega) (by omega)]; simp),if_neg (by simpa using hh),if_neg (by omega)]
theorem order_eq {b:Nat} {O:Od} (hg:goodL M.L=true) (hb:b < 6) (hh:M.L.here b=true) (h0:0≤O.verb) (h1:O.verb≤20):orderM M (b:Int) O=hapM M (actL M.L b O) (actE M.L b O):=by
 unfold orderM
 rw [if_pos (refuses_ok hg hb hh h0 h1)]; rfl
theorem Iv.order (h:Iv N M) {b:Nat} (hb:b < 6) (hh:M.L.here b=true) {O:Od} (hO:OdT O) (hq:O.verb ≠ 20):Iv (N+100) (orderM M (b:Int) O):=by
 rw [order_eq h.good hb hh hO.v0 hO.v1]
 have hx:=act_bh (L:=M.L) (b:=b) hO.v0 hO.v1 hq
 have hl:=act_len M.L b O
 exact (h.hap (act_kp h.good hb hh O hO.v0 hO.v1).good (act_nm h.nm h.good hb hh hO hq) (fun c hc=>.inl ⟨by rw [hx.1],by rw [hx.2]⟩) (act_tx h.good h.nm hb hh O hO)).mono (by omega)
theorem Iv.round (h:Iv N M) (n:Int):Iv (N+100) (roundM M n):=by
 unfold roundM
 have hG:=round_good h.good (drawN n) 6 (Nat.le_refl _)
 have hB:=round_bh M.L (drawN n) 6
 have hl:=round_len M.L (drawN n) 6
 exact (h.hap hG.1 (bh_nm h.nm hB hG.2) hB (round_tx h.nm h.good (drawN n) 6 (Nat.le_refl _))).mono (by omega)
theorem Iv.leave (h:Iv N M) {i:Nat} (hi:i < 4) {S:Se} (hS:M.seat i=some S):Iv (N+100) (leaveM M i)∧(leaveM M i).seat i=none∧∀ j,j < 4→j ≠ i→((leaveM M i).seat j).isSome=(M.seat j).isSome:=by
 unfold leaveM
 rw [hS]
 simp only
 have gone:∀ j T,(M.put i none).seat j=some T→j ≠ i∧M.seat j=some T:=fun j T e=>by
  simp only [Hm.put] at e
  by_cases e2:j=i
  ·rw [if_pos e2] at e; simp at e
  ·rw [if_neg e2] at e; exact ⟨e2,e⟩
 cases hp:plays S with
 | false =>
  rw [if_neg (by simp)]
  refine ⟨⟨h.good,h.nm,⟨fun j T hj e=>?_,by have:=h.sv.last; show M.last.length≤_; omega⟩,fun j T hj e hp=>?_,fun j k T U hj hk e1 e2 hp hbe=>?_,fun b h1 h2 h3=>?_,h.named,h.uniq⟩,by simp [Hm.put],fun j hj hne=>by simp [Hm.put,hne]⟩
  ·have:=h.sv.seat j T hj (gone j T e).2
   exact ⟨this.1,by omega⟩
  ·exact h.play j T hj (gone j T e).2 hp
  ·exact h.one j k T U hj hk (gone j T e1).2 (gone k U e2).2 hp hbe
  ·obtain ⟨j,T,hj,e,eb⟩:=h.all b h1 h2 h3
   refine ⟨j,T,hj,?_,eb⟩
   simp only [Hm.put]
   rw [if_neg,e]
   rintro rfl
   rw [hS] at e; injection e with e; subst e
   unfold plays at hp
   rw [eb] at hp
   have:(((b:Nat):Int) != -1)=true:=by simp only [bne_iff_ne,ne_eq]; omega
   rw [this] at hp; simp at hp
 | true =>
  rw [if_pos rfl]
  obtain ⟨b,hbe,h2,h6,hh⟩:=h.play i S hi hS hp
  rw [hbe,show orderM (M.put i none) (b:Int) quitO=hapM (M.put i none) (actL M.L b quitO) (actE M.L b quitO) from order_eq (M:=M.put i none) h.good h6 hh (by decide) (by decide)]
  have hq:=quit_bh M.L b
  have hkp:=act_kp h.good h6 hh quitO (by decide) (by decide)
  have hE:=act_tx h.good h.nm h6 hh quitO odt_quit
  have hl:=act_len M.L b quitO
  have hs:Sv (N+(actE M.L b quitO).length) (hapM (M.put i none) (actL M.L b quitO) (actE M.L b quitO)):=Sv.hears (M:={ M.put i none with L:=actL M.L b quitO }) ⟨fun j T hj e=>h.sv.seat j T hj (gone j T e).2,h.sv.last⟩ _ fun E hE2=>(hE E hE2).hr
  have back:∀ j T,j < 4→(hapM (M.put i none) (actL M.L b quitO) (actE M.L b quitO)).seat j=some T→∃ T0,j ≠ i∧M.seat j=some T0∧T.being=T0.being:=fun j T hj e=>by
   rw [hap_eq] at e
   simp only [Option.map_eq_some_iff] at e
   obtain ⟨T0,e0,rfl⟩:=e
   exact ⟨T0,(gone j T0 e0).1,(gone j T0 e0).2,(heardsS_keeps _ T0).1⟩
  have hL:(hapM (M.put i none) (actL M.L b quitO) (actE M.L b quitO)).L=actL M.L b quitO:=by rw [hap_eq]
  refine ⟨⟨by rw [hL]; exact hkp.good,by rw [hL]; exact quit_nm h.nm h.good h6 hh,⟨fun j T hj e=>⟨(hs.seat j T hj e).1,by have:=(hs.seat j T hj e).2; omega⟩,by have:=hs.last; omega⟩,fun j T hj e hp=>?_,fun j k T U hj hk e1 e2 hp hbe=>?_,fun c h1 h2 h3=>?_,fun c h1 h2 h3=>?_,fun c d h1 h2 hd hne h3 h4=>?_⟩,?_,fun j hj hne=>?_⟩
  ·obtain ⟨T0,hne,e0,eb⟩:=back j T hj e
   have hpT:plays T0=true:=by rw [← plays_eq eb]; exact hp
   obtain ⟨c,hc,h3,h4,h5⟩:=h.play j T0 hj e0 hpT
   refine ⟨c,eb.trans hc,h3,h4,?_⟩
   rw [hL,(hq c).2,if_neg,h5]
   rintro rfl
   exact hne (h.one j i T0 S hj hi e0 hS hpT (hc.trans hbe.symm))
  ·obtain ⟨T0,_,e0,eb⟩:=back j T hj e1
   obtain ⟨U0,_,f0,fb⟩:=back k U hk e2
   exact h.one j k T0 U0 hj hk e0 f0 (by rw [← plays_eq eb]; exact hp) (by rw [← eb,← fb]; exact hbe)
  ·rw [hL,(hq c).2] at h3
   by_cases e:c=b
   ·rw [if_pos e] at h3; simp at h3
   ·rw [if_neg e] at h3
    obtain ⟨j,T,hj,e1,eb⟩:=h.all c h1 h2 h3
    have hne:j ≠ i:=by
     rintro rfl
     rw [hS] at e1; injection e1 with e1; subst e1
     rw [hbe] at eb
     exact e (by omega)
    exact ⟨j,heardsS (actE M.L b quitO) T,hj,by rw [hap_eq]; simp [Hm.put,hne,e1],(heardsS_keeps _ T).1.trans eb⟩
  ·rw [hL,(hq c).2] at h3
   by_cases e:c=b
   ·rw [if_pos e] at h3; simp at h3
   ·rw [if_neg e] at h3
    rw [hL,(hq c).1,if_neg e]; exact h.named c h1 h2 h3
  ·rw [hL,(hq c).2] at h3
   rw [hL,(hq d).2] at h4
   by_cases e:c=b
   ·rw [if_pos e] at h3; simp at h3
   by_cases f:d=b
   ·rw [if_pos f] at h4; simp at h4
   rw [if_neg e] at h3
   rw [if_neg f] at h4
   rw [hL,(hq c).1,(hq d).1,if_neg e,if_neg f]
   exact h.uniq c d h1 h2 hd hne h3 h4
  ·rw [hap_eq]; simp [Hm.put]
  ·rw [hap_eq]; simp [Hm.put,hne]
theorem Iv.enter (h:Iv N M) {i:Nat} (hi:i < 4) {S:Se} (hS:M.seat i=some S) (hp:plays S=false) (nm:ByteArray):Iv (N+100) (enterM M i S nm):=by
 unfold enterM
 have hSo:=h.sv.seat i S hi hS
 by_cases hb0:bars M.L nm=0
 ·rw [if_pos hb0]
  obtain ⟨hg,hn,ht,k,hv,h2,h6,hh⟩:=bars_nil hb0
  rw [hv]
  simp only [Int.toNat_natCast]
  show Iv (N+100) (hapM (M.put i (some { S with being:=(k:Int) })) (entL M.L nm k) (beginE (entL M.L nm k) k))
  have hE:=ent_tx h.nm hg (named_T hn) h6 hh
  have hl:=begin_len (entL M.L nm k) k
  have hq:=ent_bh M.L nm k
  have hs0:Sv N (M.put i (some { S with being:=(k:Int) })):=⟨fun j T hj e=>by
   simp only [Hm.put] at e
   by_cases e2:j=i
   ·subst e2
    rw [if_pos rfl] at e; injection e with e; subst e
    exact ⟨hSo.1.is _,hSo.2⟩
   ·rw [if_neg e2] at e; exact h.sv.seat j T hj e,h.sv.last⟩
  have hs:Sv (N+(beginE (entL M.L nm k) k).length) (hapM (M.put i (some { S with being:=(k:Int) })) (entL M.L nm k) (beginE (entL M.L nm k) k)):=Sv.hears (M:={ M.put i (some { S with being:=(k:Int) }) with L:=entL M.L nm k }) ⟨hs0.seat,hs0.last⟩ _ fun E hE2=>(hE E hE2).hr
  have nobody:∀ j T,j < 4→M.seat j=some T→T.being ≠ (k:Int):=fun j T hj e hbe=>by
   have hpT:plays T=true:=by unfold plays; rw [hbe]; simp only [bne_iff_ne,ne_eq]; omega
   obtain ⟨c,hc,h3,h4,h5⟩:=h.play j T hj e hpT
   have:c=k:=by omega
   subst this
   rw [hh] at h5; simp at h5
  have back:∀ j T,j < 4→(hapM (M.put i (some { S with being:=(k:Int) })) (entL M.L nm k) (beginE (entL M.L nm k) k)).seat j=some T→(j=i∧T.being=(k:Int))∨(j ≠ i∧∃ T0,M.seat j=some T0∧T.being=T0.being):=fun j T hj e=>by
   rw [hap_eq] at e
   simp only [Option.map_eq_some_iff,Hm.put] at e
   obtain ⟨T0,e0,rfl⟩:=e
   by_cases e2:j=i
   ·rw [if_pos e2] at e0; injection e0 with e0; subst e0
    exact .inl ⟨e2,(heardsS_keeps _ _).1⟩
   ·rw [if_neg e2] at e0
    exact .inr ⟨e2,T0,e0,(heardsS_keeps _ T0).1⟩
  have hL:(hapM (M.put i (some { S with being:=(k:Int) })) (entL M.L nm k) (beginE (entL M.L nm k) k)).L=entL M.L nm k:=by rw [hap_eq]
  refine ⟨by rw [hL]; exact ent_good hg h6 hh nm,by rw [hL]; exact ent_nm h.nm (named_T hn) k,⟨fun j T hj e=>⟨(hs.seat j T hj e).1,by have:=(hs.seat j T hj e).2; omega⟩,by have:=hs.last; omega⟩,fun j T hj e hpT=>?_,fun j l T U hj hk e1 e2 hpT hbe=>?_,fun c h1 h2 h3=>?_,fun c h1 h2 h3=>?_,fun c d h1 h2 hd hne h3 h4=>?_⟩
  ·rcases back j T hj e with ⟨e1,eb⟩ | ⟨hne,T0,e0,eb⟩
   ·exact ⟨k,eb,h2,h6,by rw [hL,(hq k).2,if_pos rfl]⟩
   ·obtain ⟨c,hc,h3,h4,h5⟩:=h.play j T0 hj e0 (by rw [← plays_eq eb]; exact hpT)
    exact ⟨c,eb.trans hc,h3,h4,by rw [hL,(hq c).2]; split; rfl; exact h5⟩
  ·rcases back j T hj e1 with ⟨f1,eb⟩ | ⟨hne,T0,e0,eb⟩
   ·rcases back l U hk e2 with ⟨f2,fb⟩ | ⟨hne2,U0,f0,fb⟩
    ·rw [f1,f2]
    ·exact absurd (fb.symm.trans (hbe.symm.trans eb)) (nobody l U0 hk f0)
   ·rcases back l U hk e2 with ⟨f2,fb⟩ | ⟨hne2,U0,f0,fb⟩
    ·exact absurd (eb.symm.trans (hbe.trans fb)) (nobody j T0 hj e0)
    ·exact h.one j l T0 U0 hj hk e0 f0 (by rw [← plays_eq eb]; exact hpT) (by rw [← eb,← fb]; exact hbe)
  ·rw [hL,(hq c).2] at h3
   by_cases e:c=k
   ·subst e
    exact ⟨i,heardsS (beginE (entL M.L nm c) c) { S with being:=(c:Int) },hi,by rw [hap_eq]; simp [Hm.put],(heardsS_keeps _ _).1⟩
   ·rw [if_neg e] at h3
    obtain ⟨j,T,hj,e1,eb⟩:=h.all c h1 h2 h3
    have hne:j ≠ i:=by
     rintro rfl
     rw [hS] at e1; injection e1 with e1; subst e1
     unfold plays at hp
     rw [eb] at hp
     have:(((c:Nat):Int) != -1)=true:=by simp only [bne_iff_ne,ne_eq]; omega
     rw [this] at hp; simp at hp
    exact ⟨j,heardsS (beginE (entL M.L nm k) k) T,hj,by rw [hap_eq]; simp [Hm.put,hne,e1],(heardsS_keeps _ T).1.trans eb⟩
  ·rw [hL,(hq c).2] at h3
   rw [hL,(hq c).1]
   by_cases e:c=k
   ·rw [if_pos e]; exact hn
   ·rw [if_neg e] at h3 ⊢; exact h.named c h1 h2 h3
  ·have free:∀ x:Nat,x < 6→M.L.here x=true→M.L.bname x ≠ nm:=fun x hx hhx e=>by
    have:takenL M.L nm=true:=List.any_eq_true.2 ⟨x,by simp [hx],by simp [hasName,hhx,e]⟩
    rw [ht] at this; simp at this
   rw [hL,(hq c).2] at h3
   rw [hL,(hq d).2] at h4
   rw [hL,(hq c).1,(hq d).1]
   by_cases e:c=k
   ·rw [if_pos e,if_neg (fun f=>hne (e.trans f.symm))]
    rw [if_neg (fun f=>hne (e.trans f.symm))] at h4
    exact fun f=>free d hd h4 f.symm
   ·rw [if_neg e] at h3 ⊢
    by_cases f:d=k
    ·rw [if_pos f]; exact free c h2 h3
    ·rw [if_neg f] at h4 ⊢
     exact h.uniq c d h1 h2 hd hne h3 h4
 ·rw [if_neg hb0]
  have tl:∀ s:ByteArray,(tellS S s).told.length≤N+100:=fun s=>by
   unfold tellS
   simp only
   have:=hSo.2
   split
   ·omega
   ·simp; omega
  split
  ·exact h.put (S':=tellS S noRoomT) (N':=N+100) hi hS rfl (hSo.1.tell (by decide)) (by omega) (tl _)
  ·exact h.put (S':=tellS S noNameT) (N':=N+100) hi hS rfl (hSo.1.tell (by decide)) (by omega) (tl _)
end
end Go.Proofs.YtncgcejlkmoliaaGreatDoor.Ho
