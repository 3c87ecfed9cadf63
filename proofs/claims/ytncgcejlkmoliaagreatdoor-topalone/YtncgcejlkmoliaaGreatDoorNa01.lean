import Derived.Test.YtncgcejlkmoliaaGreatDoorMh00
import Derived.Test.YtncgcejlkmoliaaGreatDoorMh01
import Derived.Test.YtncgcejlkmoliaaGreatDoorMh02
import Derived.Test.YtncgcejlkmoliaaGreatDoorMh03
import Derived.Test.YtncgcejlkmoliaaGreatDoorMh04
import Derived.Test.YtncgcejlkmoliaaGreatDoorMh05
import Derived.Test.YtncgcejlkmoliaaGreatDoorMh06
import Derived.Test.YtncgcejlkmoliaaGreatDoorMh07
import Derived.Test.YtncgcejlkmoliaaGreatDoorMh08
import Derived.Test.YtncgcejlkmoliaaGreatDoorMh09
import Derived.Test.YtncgcejlkmoliaaGreatDoorMh10
import Derived.Test.YtncgcejlkmoliaaGreatDoorMh11
import Derived.Test.YtncgcejlkmoliaaGreatDoorMh12
import Derived.Test.YtncgcejlkmoliaaGreatDoorMh13
import Derived.Test.YtncgcejlkmoliaaGreatDoorMh14
import Derived.Test.YtncgcejlkmoliaaGreatDoorMh15
import Derived.Test.YtncgcejlkmoliaaGreatDoorMh16
import Derived.Test.YtncgcejlkmoliaaGreatDoorMh17
import Derived.Test.YtncgcejlkmoliaaGreatDoorMh18
import Derived.Test.YtncgcejlkmoliaaGreatDoorMh19
import Derived.Test.YtncgcejlkmoliaaGreatDoorMh20
import Derived.Test.YtncgcejlkmoliaaGreatDoorMh21
import Derived.Test.YtncgcejlkmoliaaGreatDoorMh22
import Derived.Test.YtncgcejlkmoliaaGreatDoorMh46
import Derived.Test.YtncgcejlkmoliaaGreatDoorMh23
import Derived.Test.YtncgcejlkmoliaaGreatDoorMk24
import Derived.Test.YtncgcejlkmoliaaGreatDoorMk25
import Derived.Test.YtncgcejlkmoliaaGreatDoorMh26
import Derived.Test.YtncgcejlkmoliaaGreatDoorMk27
import Derived.Test.YtncgcejlkmoliaaGreatDoorMh28
import Derived.Test.YtncgcejlkmoliaaGreatDoorMk29
import Derived.Test.YtncgcejlkmoliaaGreatDoorMk30
import Derived.Test.YtncgcejlkmoliaaGreatDoorMk31
import Derived.Test.YtncgcejlkmoliaaGreatDoorMk32
import Derived.Test.YtncgcejlkmoliaaGreatDoorMk33
import Derived.Test.YtncgcejlkmoliaaGreatDoorMk34
import Derived.Test.YtncgcejlkmoliaaGreatDoorMk35
import Derived.Test.YtncgcejlkmoliaaGreatDoorMh45
import Derived.Test.YtncgcejlkmoliaaGreatDoorMh36
import Derived.Test.YtncgcejlkmoliaaGreatDoorMh37
import Derived.Test.YtncgcejlkmoliaaGreatDoorMh38
import Derived.Test.YtncgcejlkmoliaaGreatDoorMk39
import Derived.Test.YtncgcejlkmoliaaGreatDoorMk40
import Derived.Test.YtncgcejlkmoliaaGreatDoorMk41
import Derived.Test.YtncgcejlkmoliaaGreatDoorMk42
import Derived.Test.YtncgcejlkmoliaaGreatDoorMk43
import Derived.Test.YtncgcejlkmoliaaGreatDoorMk44
import Derived.Test.YtncgcejlkmoliaaGreatDoorNa00
set_option linter.unusedVariables false
set_option maxRecDepth 100000
set_option maxHeartbeats 16000000
namespace Go.Proofs.YtncgcejlkmoliaaGreatDoor.Ho
open Go.RowKit
theorem exec_over {a:Act} {op:Oper} {w:World} (ty:TypeId) (x y:Operand) (ho:op.op=.store ty x y) {k o:Nat} {vs cs:Array Value} {T:TypeId} (hx:a.eval x=.pointer (some ⟨k,o,none⟩)) (hy:a.eval y=.agg vs) (hg:w.heap[k]?=some (.cells cs T (0,0))) (hb:o+vs.size≤cs.size)
 (hi:(Tryz.prog.info? ty).map (·.size)=some vs.size) (h1:vs.all (·.oneCell')=true):(execOp a.eval op).run Tryz.prog w=.ok .skip (w.setCells k o vs.toList):=by
 have hr:=run_storeVar_mid (P:=Tryz.prog) w k o ty vs (there_of hg hb) hi h1
 unfold execOp
 simp only [ho,hx,hy,Instr.storeAt,Instr.sureAddr,Sem.run_bind,Sem.run_pure,Result.andThen_ok,hr]
theorem exec_mid {x:Act} {op:Oper} {w:World} {T:TypeId} {D:TypeDesc} {cs:Array Value} (y:Operand) (ho:op.op=.load T y) {b o:Nat} (hx:x.eval y=.pointer (some ⟨b,o,none⟩)) (hc:w.rangeAt b o cs.toList) (hT:Tryz.prog.underlying T=some D) (hD:D.isRow=true) (hs:(Tryz.prog.info? T).map (·.size)=some cs.toList.length):(execOp x.eval op).run Tryz.prog w=.ok (.value (.agg cs)) w:=by
 have:=run_loadVar_mid (P:=Tryz.prog) w b o T cs.toList D hc hT hD hs
 rw [Array.toArray_toList] at this
 unfold execOp
 simp only [ho,hx,Instr.loadAt,Instr.sureAddr,Sem.run_bind,Sem.run_pure,Result.andThen_ok,this]
structure AlR (M:Hm) (b7 b8 b9:Nat) (k:Nat) (pv qv:Nat→Value) (wr:World):Prop where
 p:wr.heap[b7]?=some (.cells (gr 5 fun i j=>if i < k then pgC (pageOf (seatAt M i)) (pv i) j else pgC Pa.zp (.slice none 0 0) j) 88 (0,0))
 l:wr.heap[b8]?=some (.cells (gr 4 fun i j=>if i < k then lnC (lineOf (seatAt M i)) (qv i) j else lnC Li.zl (.slice none 0 0) j) 89 (0,0))
 s:wr.heap[b9]?=some (.cells (i4 fun i=>if i < k then (stateOf (seatAt M i)).1 else 0) 69 (0,0))
 op:∀ i:Nat,i < k→wr.ownsRow (b9+1) 9 1 (pv i) (pageOf (seatAt M i)).wait.length (scells (pageOf (seatAt M i)).wait)
 oq:∀ i:Nat,i < k→wr.ownsRow (b9+1) 9 1 (qv i) (lineOf (seatAt M i)).q.length (scells (lineOf (seatAt M i)).q)
theorem own_base {w:World} {b b' n T sz:Nat} {v:Value} {xs:List Value} (h:w.ownsRow b T sz v n xs) (hb:b'≤b):w.ownsRow b' T sz v n xs:=by
 refine ⟨h.1,?_⟩
 rcases h.2 with hn | ⟨g,cap,cur,rfl,h1,h2⟩
 ·exact .inl hn
 ·exact .inr ⟨g,cap,cur,rfl,Nat.le_trans hb h1,h2⟩
theorem AlR.same {M:Hm} {b7 b8 b9 k:Nat} {pv qv:Nat→Value} {w w':World} (h:AlR M b7 b8 b9 k pv qv w) (hs:∀ n,n < w.heap.size→(n=b7∨n=b8∨b9≤n)→w'.heap[n]?=w.heap[n]?):AlR M b7 b8 b9 k pv qv w' :=
 ⟨(hs _ (Array.getElem?_eq_some_iff.1 h.p).1 (.inl rfl)).trans h.p,(hs _ (Array.getElem?_eq_some_iff.1 h.l).1 (.inr (.inl rfl))).trans h.l,(hs _ (Array.getElem?_eq_some_iff.1 h.s).1 (.inr (.inr (Nat.le_refl _)))).trans h.s,
   fun i hi=>own_same (h.op i hi) fun g hg=>hs g (own_lt (h.op i hi) g hg).2 (.inr (.inr (by have:=(own_lt (h.op i hi) g hg).1; omega))),
   fun i hi=>own_same (h.oq i hi) fun g hg=>hs g (own_lt (h.oq i hi) g hg).2 (.inr (.inr (by have:=(own_lt (h.oq i hi) g hg).1; omega)))⟩
theorem AlR.below {M:Hm} {b7 b8 b9 k:Nat} {pv qv:Nat→Value} {w w':World} (h:AlR M b7 b8 b9 k pv qv w) (hb:Below w.heap.size w w'):AlR M b7 b8 b9 k pv qv w':=h.same fun n hn _=>hb.block n hn
theorem aloneW {v:Value} {l:List Ac} {w:World} (hvb:Vb w) (hai:Ai w) (hl:Rac w v l) (hsz:∀ a ∈ l,a.bytes.size≤140737488351232) (a:Ac) (ha:a.bytes.size≤140737488351232) :
 Calls Tryz.prog 11 #[v,.agg a.cells] w fun e w'=>e=.returned (.bool true)∧Below w.heap.size w w':=by
 have z1:=(zero_of_info Tryz.zPages).1
 have z2:=(zero_of_info Tryz.zLines).1
 have z3:=(zero_of_info Tryz.zInts4).1
 have B0:=below_box w (.cells a.cells 23)
 have hvb0:=hvb.below B0 (Nat.le_refl _)
 have hai0:=hai.below B0
 have hl0:=hl.below B0
 have AB0:=hide (heap_alloc_new w (.cells a.cells 23))
 have hwlt:w.heap.size < (w.alloc (.cells a.cells 23)).heap.size:=by simp
 obtain ⟨iv,_⟩:=run_iv (l.take 150) iv_new (by decide)
 have st:=run_st (l.take 150) iv_new st_new
 have hac:=lt_of_take (l:=l)
 have P1:=hide (playq hvb0 hai0 hl0 hsz (Below.refl _ _))
 have DO:=hide (fun lab (w':World) hb (H:HoC (w.alloc (.cells a.cells 23)) lab w' hb (runM newM (l.take 150)))=>do_house hvb0 hai0 H iv (by omega) a ha)
 have AL:=hide (fun h5=>do_alone iv st hac (a:=a) h5)
 have SM:=hide (iv_small iv)
 have SM2:=hide (iv_small (iv.does a))
 have HB0:=hide B0
 obtain ⟨av,cap,rfl,_⟩:=hl
 clear hvb hai hsz iv hac ha hvb0 hai0 hl0 st B0
 generalize runM newM (l.take 150)=M at *
 go_enter Tryz.func11,Tryz.ntmps11
 go_wp2_with fail
 generalize w.alloc (.cells a.cells 23)=w0 at *
 refine P1.out.mono ?_
 rintro e w1 ⟨hb1,lab1,rfl,H1⟩
 have A1:=hide ((H1.low.block _ hwlt).trans AB0.out)
 have ca:=(act_cell A1.out).1
 have HH:=hide H1
 have hs1:=H1.low.size
 clear P1 H1 AB0
 by_cases h5:a.kind=5
 ·rw [h5] at ca
  have B:=hide (HB0.out.trans (HH.out.low.mono (Nat.le_of_lt hwlt)))
  go_wp2
  go_ret
  exact ⟨rfl,B.out⟩
 have h5b:(a.kind==5)=false:=by simp [h5]
 have AL2:=hide (AL.out h5)
 clear AL h5
 unfold i4 at z3
 go_upto_region 10 with fail
 have C7:=heap_alloc_new w1 (.cells (gr 5 fun _ j=>pgC Pa.zp (.slice none 0 0) j) 88)
 have C8:=heap_alloc_new (w1.alloc (.cells (gr 5 fun _ j=>pgC Pa.zp (.slice none 0 0) j) 88)) (.cells (gr 4 fun _ j=>lnC Li.zl (.slice none 0 0) j) 89)
 have C9:=heap_alloc_new ((w1.alloc (.cells (gr 5 fun _ j=>pgC Pa.zp (.slice none 0 0) j) 88)).alloc (.cells (gr 4 fun _ j=>lnC Li.zl (.slice none 0 0) j) 89)) (.cells (i4 fun _=>0) 69)
 have BB:=((below_box w1 (.cells (gr 5 fun _ j=>pgC Pa.zp (.slice none 0 0) j) 88)).alloc (by simp) (.cells (gr 4 fun _ j=>lnC Li.zl (.slice none 0 0) j) 89)).alloc (by simp; omega) (.cells (i4 fun _=>0) 69)
 rw [World.size_alloc] at C8 C9
 rw [World.size_alloc] at C9
 have D7:=(Below.heap_alloc _ (.cells (i4 fun _=>0) 69) w1.heap.size (by simp; omega)).trans ((Below.heap_alloc (w1.alloc (.cells (gr 5 fun _ j=>pgC Pa.zp (.slice none 0 0) j) 88)) (.cells (gr 4 fun _ j=>lnC Li.zl (.slice none 0 0) j) 89) w1.heap.size (by simp)).trans C7)
 have D8:=(Below.heap_alloc ((w1.alloc (.cells (gr 5 fun _ j=>pgC Pa.zp (.slice none 0 0) j) 88)).alloc (.cells (gr 4 fun _ j=>lnC Li.zl (.slice none 0 0) j) 89)) (.cells (i4 fun _=>0) 69) (w1.heap.size+1) (by simp)).trans C8
 have A2:=hide ((BB.block _ (Nat.lt_of_lt_of_le hwlt hs1)).trans A1.out)
 have H2:=hide (HH.out.below BB)
 have R0:Hid (AlR M w1.heap.size (w1.heap.size+1) (w1.heap.size+1+1) 0 (fun _=>undef) (fun _=>undef) (((w1.alloc (.cells (gr 5 fun _ j=>pgC Pa.zp (.slice none 0 0) j) 88)).alloc (.cells (gr 4 fun _ j=>lnC Li.zl (.slice none 0 0) j) 89)).alloc (.cells (i4 fun _=>0) 69))) :=
  hide ⟨by rw [D7]; simp,by rw [D8]; simp,by rw [C9]; simp,fun i hi=>by omega,fun i hi=>by omega⟩
 have L9:=hide (fun n (hn:w1.heap.size≤n)=>HH.out.outs n hn)
 have hs2:=BB.size
 have hba:w.heap.size < w1.heap.size:=Nat.lt_of_lt_of_le hwlt hs1
 change Code.wp _ _ _ _ (((w1.alloc (.cells (gr 5 fun _ j=>pgC Pa.zp (.slice none 0 0) j) 88)).alloc (.cells (gr 4 fun _ j=>lnC Li.zl (.slice none 0 0) j) 89)).alloc (.cells (i4 fun _=>0) 69))
 clear C7 C8 C9 D7 D8 BB HH A1 ca h5b z1 z2 z3
 generalize (((w1.alloc (.cells (gr 5 fun _ j=>pgC Pa.zp (.slice none 0 0) j) 88)).alloc (.cells (gr 4 fun _ j=>lnC Li.zl (.slice none 0 0) j) 89)).alloc (.cells (i4 fun _=>0) 69))=w2 at *
 generalize hb7:w1.heap.size=b7 at *
 generalize hb8:b7+1=b8 at *
 generalize hb9:b8+1=b9 at *
 have E78:b7 ≠ b8∧b7 ≠ b9∧b8 ≠ b9∧b7 < b9∧b8 < b9∧w0.heap.size≤b7∧w.heap.size < b7∧b7 < b8:=by omega
 clear hb7 hb8 hb9 hs1 hba
 go_loopw [26] (fun i wr=>∃ (k:Nat) (pv qv:Nat→Value),k≤4∧i=.int .i64 (k:Int)∧HoC w0 lab1 wr hb1 M∧wr.heap[w.heap.size]?=some (.cells a.cells 23 (0,0))∧AlR M b7 b8 b9 k pv qv wr) (fun i _=>4 - (intOf i).toNat)
 case atStart=>exact ⟨0,_,_,by omega,rfl,H2.out,A2.out,R0.out⟩
 case round =>
  obtain ⟨k,pv,qv,hk,rfl,Hk,Ak,Rk⟩:=hrel
  clear H2 A2 R0
  by_cases hk4:k < 4
  ·have hki:(k:Int) < 4:=by omega
   obtain ⟨f6,f7⟩:=SM.out k hk4
   have h7:b7 < wr.heap.size:=(Array.getElem?_eq_some_iff.1 Rk.p).1
   have h8:b8 < wr.heap.size:=(Array.getElem?_eq_some_iff.1 Rk.l).1
   have h9:b9 < wr.heap.size:=(Array.getElem?_eq_some_iff.1 Rk.s).1
   have har:w.heap.size < wr.heap.size:=(Array.getElem?_eq_some_iff.1 Ak).1
   have KH:=hide Hk
   have K7:=hide Rk.p
   have K8:=hide Rk.l
   have KA:=hide Ak
   have KR:=hide Rk
   clear Hk Ak Rk
   go_upto_region 12 with fail
   refine wp_region_held (S:=fun _=>True) (by kernel_rfl) ?_
   change wpAnyH _ _ _ _ _ _ _ _ wr.drew
   have B3:Below wr.heap.size wr wr.drew:=(Below.refl _ _).drew
   generalize wr.drew=W4 at *
   refine tw (i:=0) (d:=some 29) (fuel:=11) (v:=?_) rfl rfl ?_ trivial ?_
   rotate_left
   ·intro W hW
    go_simp
    try with_reducible rfl
   simp only [Act.put,sT,List.set]
   refine tw (i:=1) (d:=some 30) (fuel:=10) (v:=?_) rfl rfl ?_ trivial ?_
   rotate_left
   ·intro W hW
    go_simp
    try with_reducible rfl
   simp only [Act.put,sT,List.set]
   refine tw (i:=2) (d:=some 31) (fuel:=9) (v:=?_) rfl rfl ?_ trivial ?_
   rotate_left
   ·intro W hW
    go_simp
    try with_reducible rfl
   simp only [Act.put,sT,List.set]
   refine tw (i:=3) (d:=some 32) (fuel:=8) (v:=?_) rfl rfl ?_ trivial ?_
   rotate_left
   ·intro W hW
    go_simp
    try with_reducible rfl
   simp only [Act.put,sT,List.set]
   refine tw (i:=5) (d:=some 34) (fuel:=7) (v:=?_) rfl rfl ?_ trivial ?_
   rotate_left
   ·intro W hW
    go_simp
    try with_reducible rfl
   simp only [Act.put,sT,List.set]
   refine tw (i:=6) (d:=some 35) (fuel:=6) (v:=?_) rfl rfl ?_ trivial ?_
   rotate_left
   ·intro W hW
    go_simp
    try with_reducible rfl
   simp only [Act.put,sT,List.set]
   refine wpAnyH_all (fuel:=5) (rs:=[4]) (by kernel_rfl) (by simp) ?_
   intro i hi
   obtain rfl:i=4:=by simpa using hi
   clear hi
   refine call_at (d:=some 33) rfl rfl (by rfl) 22 #[.pointer (some ⟨hb1,0,none⟩),.int .i64 (k:Int)] (by kernel_rfl) ?_
   refine (page_any (KH.out.below B3) (k:Int) f6).mono ?_
   rintro e x1 ⟨pv',rfl,op',bp⟩
   refine ⟨_,rfl,trivial,?_⟩
   simp only [Act.put,sT,List.set]
   refine tw (i:=8) (d:=some 37) (fuel:=4) (v:=?_) rfl rfl ?_ trivial ?_
   rotate_left
   ·intro W hW
    go_simp
    try with_reducible rfl
   simp only [Act.put,sT,List.set]
   refine wpAnyH_all (fuel:=3) (rs:=[7]) (by kernel_rfl) (by simp) ?_
   intro i hi
   obtain rfl:i=7:=by simpa using hi
   clear hi
   refine call_at (d:=some 36) rfl rfl (by rfl) 24 #[.pointer (some ⟨hb1,0,none⟩),.int .i64 (k:Int)] (by kernel_rfl) ?_
   refine (line_any ((KH.out.below B3).below bp) (k:Int) f7).mono ?_
   rintro e x2 ⟨qv',rfl,oq',bq⟩
   have BX:=B3.trans ((bp.trans (bq.mono bp.size)).mono B3.size)
   have X7:=(BX.block _ h7).trans K7.out
   have X8:=(BX.block _ h8).trans K8.out
   obtain ⟨avp,capp,rfl⟩:=own_shape op'
   obtain ⟨avq,capq,rfl⟩:=own_shape oq'
   refine ⟨_,rfl,trivial,?_⟩
   simp only [Act.put,sT,List.set]
   refine wpAnyH_all (fuel:=2) (rs:=[9]) (by kernel_rfl) (by simp) ?_
   intro i hi
   obtain rfl:i=9:=by simpa using hi
   clear hi
   refine skip_at (d:=none) rfl rfl (by rfl) (exec_over 51 (.tmp 37) (.tmp 33) rfl rfl rfl X7 (by rw [gr_size]; show k*5+5≤20; omega) Tryz.sizePage (one_pg rfl)) ?_
   have Y7:=over_heap b7 88 ((pageOf (seatAt M (k:Int))).cells (.slice avp (pageOf (seatAt M (k:Int))).wait.length capp)).toList x2 _ (k*5) X7
   have U7:=over_upd b7 ((pageOf (seatAt M (k:Int))).cells (.slice avp (pageOf (seatAt M (k:Int))).wait.length capp)).toList x2 (k*5)
   rw [gr_over (n:=5) (by omega) _ _ rfl hk4] at Y7
   generalize x2.setCells b7 (k*5) ((pageOf (seatAt M (k:Int))).cells (.slice avp (pageOf (seatAt M (k:Int))).wait.length capp)).toList=x3 at Y7 U7 ⊢
   refine ⟨trivial,?_⟩
   simp only [Act.put]
   refine tw (i:=10) (d:=some 38) (fuel:=1) (v:=?_) rfl rfl ?_ trivial ?_
   rotate_left
   ·intro W hW
    go_simp
    try with_reducible rfl
   simp only [Act.put,sT,List.set]
   refine wpAnyH_all (fuel:=0) (rs:=[11]) (by kernel_rfl) (by simp) ?_
   intro i hi
   obtain rfl:i=11:=by simpa using hi
   clear hi
   refine skip_at (d:=none) rfl rfl (by rfl) (exec_over 55 (.tmp 38) (.tmp 36) rfl rfl rfl ((U7.block _ (by omega)).trans X8) (by rw [gr_size]; show k*4+4≤16; omega) Tryz.sizeLine (one_lin rfl)) ?_
   have Y8:=over_heap b8 89 ((lineOf (seatAt M (k:Int))).cells (.slice avq (lineOf (seatAt M (k:Int))).q.length capq)).toList x3 _ (k*4) ((U7.block _ (by omega)).trans X8)
   have U8:=over_upd b8 ((lineOf (seatAt M (k:Int))).cells (.slice avq (lineOf (seatAt M (k:Int))).q.length capq)).toList x3 (k*4)
   rw [gr_over (n:=4) (by omega) _ _ rfl hk4] at Y8
   generalize x3.setCells b8 (k*4) ((lineOf (seatAt M (k:Int))).cells (.slice avq (lineOf (seatAt M (k:Int))).q.length capq)).toList=x4 at Y8 U8 ⊢
   refine ⟨trivial,?_⟩
   simp only [Act.put]
   refine wpAnyH_done (by kernel_rfl) ?_ _
   have B5:Below wr.heap.size wr x2:=BX
   have H5:=hide (((KH.out.below B5).other U7 (L9.out b7 (Nat.le_refl _)) E78.2.2.2.2.2.1).other U8 (L9.out b8 (by omega)) (by omega))
   have A5:=hide ((U8.block _ (by omega)).trans ((U7.block _ (by omega)).trans ((B5.block _ har).trans KA.out)))
   have N5:Hid (AlR M b7 b8 b9 k pv qv wr→∃ pv' qv',(∀ V W,Below x4.heap.size x4 V→Upd b9 V W→W.heap[b9]?=some (.cells (i4 fun i=>if i < k+1 then (stateOf (seatAt M i)).1 else 0) 69 (0,0))→AlR M b7 b8 b9 (k+1) pv' qv' W)):=hide (fun hR=>by
    have hx2:wr.heap.size≤x2.heap.size:=B5.size
    refine ⟨fun i=>if i=k then .slice avp (pageOf (seatAt M (k:Int))).wait.length capp else pv i,fun i=>if i=k then .slice avq (lineOf (seatAt M (k:Int))).q.length capq else qv i,fun V W hV hU hW=>?_⟩
    have hsz4:x4.heap.size=x2.heap.size:=by rw [U8.size,U7.size]
    have same:∀ n,n < x2.heap.size→b9 < n→W.heap[n]?=x2.heap[n]?:=fun n hn hb=>by rw [hU.block n (by omega),hV.block n (by omega),U8.block n (by omega),U7.block n (by omega)]
    refine ⟨?_,?_,hW,fun i hi=>?_,fun i hi=>?_⟩
    ·refine (hU.block _ E78.2.1).trans ((hV.block _ (by omega)).trans ((U8.block _ E78.1).trans (Y7.trans ?_)))
     rw [gr_congr (n:=5) (d:=fun i j=>if i < k+1 then pgC (pageOf (seatAt M i)) (if i=k then .slice avp (pageOf (seatAt M (k:Int))).wait.length capp else pv i) j else pgC Pa.zp (.slice none 0 0) j)]
     intro i j hi hj
     by_cases e:i=k
     ·subst e; rw [if_pos rfl,if_pos (by omega),if_pos rfl]; rfl
     ·rw [if_neg e,if_neg e]
      by_cases e2:i < k
      ·rw [if_pos e2,if_pos (by omega)]
      ·rw [if_neg e2,if_neg (by omega)]
    ·refine (hU.block _ E78.2.2.1).trans ((hV.block _ (by omega)).trans (Y8.trans ?_))
     rw [gr_congr (n:=4) (d:=fun i j=>if i < k+1 then lnC (lineOf (seatAt M i)) (if i=k then .slice avq (lineOf (seatAt M (k:Int))).q.length capq else qv i) j else lnC Li.zl (.slice none 0 0) j)]
     intro i j hi hj
     by_cases e:i=k
     ·subst e; rw [if_pos rfl,if_pos (by omega),if_pos rfl]; rfl
     ·rw [if_neg e,if_neg e]
      by_cases e2:i < k
      ·rw [if_pos e2,if_pos (by omega)]
      ·rw [if_neg e2,if_neg (by omega)]
    ·by_cases e:i=k
     ·subst e
      rw [if_pos rfl]
      have o1:=own_base (own_same op' (w':=x2) fun g hg=>bq.block g (own_lt op' g hg).2) (b':=b9+1) (by have:=B3.size; omega)
      exact own_same o1 fun g hg=>same g (own_lt o1 g hg).2 (by have:=(own_lt o1 g hg).1; omega)
     ·rw [if_neg e]
      have o1:=own_same (hR.op i (by omega)) (w':=x2) fun g hg=>B5.block g (own_lt (hR.op i (by omega)) g hg).2
      exact own_same o1 fun g hg=>same g (own_lt o1 g hg).2 (by have:=(own_lt o1 g hg).1; omega)
    ·by_cases e:i=k
     ·subst e
      rw [if_pos rfl]
      have o1:=own_base oq' (b':=b9+1) (by have:=B3.size; have:=bp.size; omega)
      exact own_same o1 fun g hg=>same g (own_lt o1 g hg).2 (by have:=(own_lt o1 g hg).1; omega)
     ·rw [if_neg e]
      have o1:=own_same (hR.oq i (by omega)) (w':=x2) fun g hg=>B5.block g (own_lt (hR.oq i (by omega)) g hg).2
      exact own_same o1 fun g hg=>same g (own_lt o1 g hg).2 (by have:=(own_lt o1 g hg).1; omega))
   have S5:Hid (x4.heap[b9]?=some (.cells (i4 fun i=>if i < k then (stateOf (seatAt M i)).1 else 0) 69 (0,0))):=hide ((U8.block _ (by omega)).trans ((U7.block _ (by omega)).trans ((B5.block _ h9).trans KR.out.s)))
   obtain ⟨pv2,qv2,NN⟩:=N5.out KR.out
   have NN2:=hide NN
   have CS:=hide (state_any H5.out (k:Int))
   have h94:b9 < x4.heap.size:=(Array.getElem?_eq_some_iff.1 S5.out).1
   have h74:w.heap.size < x4.heap.size:=(Array.getElem?_eq_some_iff.1 A5.out).1
   clear N5 NN KH K7 K8 KA KR Y7 Y8 U7 U8 X7 X8 BX bp bq op' oq' B5 B3
   generalize hst:stateOf (seatAt M (k:Int))=sst at *
   have HST:=hide hst
   clear hst
   go_upto_region 14 with (first | (go_at_call 16; refine CS.out.mono ?_; rintro e w6 ⟨rfl,b6⟩) | (refine wl_over1 3 (.tmp 46) (.tmp 44) rfl rfl b9 k (.int .i64 sst.1) _ _ 69 rfl rfl ((b6.block _ h94).trans S5.out) (by show k < 4; omega) Tryz.sizeInt rfl (i4_set _ hk4 _) ?_; intro W7 g7 u7))
   have fin:i4 (fun j=>if j=k then sst.1 else if j < k then (stateOf (seatAt M j)).1 else 0)=i4 (fun j=>if j < k+1 then (stateOf (seatAt M j)).1 else 0):=by
    refine i4_congr fun j hj=>?_
    by_cases e:j=k
    ·subst e; rw [if_pos rfl,if_pos (by omega),HST.out]
    ·rw [if_neg e]
     by_cases e2:j < k
     ·rw [if_pos e2,if_pos (by omega)]
     ·rw [if_neg e2,if_neg (by omega)]
   rw [fin] at g7
   have H7:=hide ((H5.out.below b6).other u7 (L9.out b9 (by omega)) (by omega))
   have A7:=hide ((u7.block _ (by omega)).trans ((b6.block _ h74).trans A5.out))
   have R7:=hide (NN2.out _ _ b6 u7 g7)
   clear S5 NN2 CS H5 A5 b6 u7 g7 fin
   go_wp2
   exact ⟨⟨k+1,pv2,qv2,by omega,by go_num,H7.out,A7.out,R7.out⟩,by simp [intOf]; omega⟩
  ·obtain rfl:k=4:=by omega
   have D:=hide (DO.out lab1 wr hb1 Hk)
   have LW:=hide (Hk.base _ hwlt)
   have har:w.heap.size < wr.heap.size:=(Array.getElem?_eq_some_iff.1 Ak).1
   have RR:=hide Rk
   have RA:=hide Ak
   clear Hk Rk Ak DO
   go_upto_region 16 with (first | (refine wl_wanted rfl (wp_load_row 23 (.tmp 3) rfl w.heap.size rfl 23 a.cells (0,0) _ RA.out Tryz.underlying23 rfl Tryz.sizeAct ?_)) | (go_at_call 17; refine D.out.mono ?_; rintro e w6 ⟨rfl,lab6,H6,G6⟩; simp only [repC]))
   have R6:=hide (RR.out.same fun n hn hor=>G6.same n hn (.inr (L9.out n (by omega))))
   have A6:=hide ((G6.same _ har (.inr LW.out)).trans RA.out)
   have HH6:=hide H6
   have ca:=(act_cell A6.out).2
   clear D LW RR RA H6 G6
   generalize hM2:(doM M a).1=M2 at *
   clear hM2
   have FIN:Hid (∀ i:Nat,i < 4→(i:Int) ≠ a.seat→(0≤a.seat∧a.seat < 4→¬ ((stateOf (seatAt M2 a.seat)).1=0∧(stateOf (seatAt M a.seat)).1 ≠ 0))→Sm (seatAt M i) (seatAt M2 i)):=hide (fun i hi hne hno=>by
    rcases AL2.out with ⟨hr,hsome,hnone⟩ | h
    ·exfalso
     refine hno hr ⟨by rw [hnone]; rfl,fun e=>?_⟩
     cases hS:seatAt M a.seat with
     | none=>rw [hS] at hsome; cases hsome
     | some S =>
      rw [hS] at e
      simp only [stateOf] at e
      split at e
      ·exact absurd e (show ¬ (2:Int)=0 by decide)
      ·exact absurd e (show ¬ (1:Int)=0 by decide)
    ·exact h i hi hne)
   clear AL2
   generalize wr=wz at *
   clear wr
   by_cases hr:0≤a.seat∧a.seat < 4
   ·obtain ⟨t,et⟩:∃ t:Nat,a.seat=(t:Int):=⟨a.seat.toNat,by omega⟩
    have ht4:t < 4:=by omega
    have hti:(t:Int) < 4:=by omega
    have htn:0≤(t:Int):=by omega
    rw [et] at ca FIN
    have c9:=i4_cell R6.out.s ht4
    rw [if_pos ht4] at c9
    have CS:=hide (state_any HH6.out (t:Int))
    have h9:b9 < w6.heap.size:=(Array.getElem?_eq_some_iff.1 R6.out.s).1
    have har6:w.heap.size < w6.heap.size:=(Array.getElem?_eq_some_iff.1 A6.out).1
    generalize hS1:stateOf (seatAt M2 (t:Int))=s1 at *
    generalize hS0:(stateOf (seatAt M (t:Int))).1=s0 at *
    have HS1:=hide hS1
    have HS0:=hide hS0
    clear hS1 hS0 hr
    go_upto_region 18 with (go_at_call 16; refine CS.out.mono ?_; rintro e w7 ⟨rfl,b7'⟩)
    have c97:=(b7'.cell (p:=⟨b9,t,none⟩) h9).trans c9
    have ca7:=(b7'.cell (p:=⟨w.heap.size,1,none⟩) har6).trans ca
    have R7:=hide (R6.out.below b7')
    have A7:=hide ((b7'.block _ har6).trans A6.out)
    have H7:=hide (HH6.out.below b7')
    clear R6 A6 HH6 CS b7' c9 ca
    by_cases e1:s1.1=0
    ·by_cases e0:s0=0
     ·have e1b:(s1.1==0)=true:=by simp [e1]
      have e0b:(s0 != 0)=false:=by simp [e0]
      have FF:Hid (∀ i:Nat,i < 4→(i:Int) ≠ (t:Int)→Sm (seatAt M i) (seatAt M2 i)):=hide (fun i hi hne=>FIN.out i hi hne fun _ h=>h.2 e0)
      clear FIN e1 e0
      go_upto_region 21 with fail
      clear ca7 c97 e1b e0b
      go_loopw [75] (fun i wr=>∃ k:Nat,k≤4∧i=.int .i64 (k:Int)∧HoC w0 lab6 wr hb1 M2∧wr.heap[w.heap.size]?=some (.cells a.cells 23 (0,0))∧AlR M b7 b8 b9 4 pv qv wr) (fun i _=>4 - (intOf i).toNat)
      case atStart=>exact ⟨0,by omega,rfl,H7.out,A7.out,R7.out⟩
      case round =>
       obtain ⟨k,hk,rfl,Hk,Ak,Rk⟩:=hrel
       clear H7 A7 R7
       by_cases hk4:k < 4
       ·have hki:(k:Int) < 4:=by omega
        have CS:=hide (state_any Hk (k:Int))
        have KH:=hide Hk
        have KA:=hide Ak
        have KR:=hide Rk
        have h7:b7 < wr.heap.size:=(Array.getElem?_eq_some_iff.1 Rk.p).1
        have h8:b8 < wr.heap.size:=(Array.getElem?_eq_some_iff.1 Rk.l).1
        have h9:b9 < wr.heap.size:=(Array.getElem?_eq_some_iff.1 Rk.s).1
        have har:w.heap.size < wr.heap.size:=(Array.getElem?_eq_some_iff.1 Ak).1
        clear Hk Ak Rk
        by_cases e:(k:Int)=(t:Int)
        ·obtain rfl:k=t:=by omega
         go_upto_region 24 with (go_at_call 16; refine CS.out.mono ?_; rintro e w8 ⟨rfl,b8'⟩)
         have ca:=(act_cell ((b8'.block _ har).trans KA.out)).2
         have H9:=hide (KH.out.below b8')
         have A9:=hide ((b8'.block _ har).trans KA.out)
         have R9:=hide (KR.out.below b8')
         rw [et] at ca
         clear CS KH KA KR b8'
         go_quiet (fail)
         go_wp2
         exact ⟨⟨k+1,by omega,by go_num,H9.out.below (below_drewN (Below.refl _ _) _),A9.out,R9.out.below (below_drewN (Below.refl _ _) _)⟩,by simp [intOf]; omega⟩
        ·obtain ⟨m1,m2,m3⟩:=FF.out k hk4 e
         have m1':=hide (congrArg Prod.fst m1)
         have c9:=hide (i4_cell KR.out.s hk4)
         rw [if_pos hk4] at c9
         have r7:=hide (gr_range KR.out.p hk4 ((pageOf (seatAt M (k:Int))).cells (pv k)) rfl (fun j _=>by rw [if_pos hk4]; rfl))
         have r8:=hide (gr_range KR.out.l hk4 ((lineOf (seatAt M (k:Int))).cells (qv k)) rfl (fun j _=>by rw [if_pos hk4]; rfl))
         have OP0:=hide (KR.out.op k hk4)
         have OQ0:=hide (KR.out.oq k hk4)
         have CP0:=hide (fun W (hb:Below wr.heap.size wr W)=>page_any (KH.out.below hb) (k:Int) (SM2.out k hk4).1)
         have CQ0:=hide (fun W (hb:Below wr.heap.size wr W)=>line_any (KH.out.below hb) (k:Int) (SM2.out k hk4).2)
         rw [← m2] at CP0
         rw [← m3] at CQ0
         rw [← m1] at CS
         obtain ⟨ap,cp,hpv⟩:=own_shape OP0.out
         obtain ⟨aq,cq,hqv⟩:=own_shape OQ0.out
         clear m1 m2 m3
         generalize hsst:stateOf (seatAt M (k:Int))=sst at *
         clear hsst
         generalize hPP:pageOf (seatAt M (k:Int))=PP at *
         generalize hQQ:lineOf (seatAt M (k:Int))=QQ at *
         clear hPP hQQ
         generalize pv k=pp at *
         generalize qv k=qq at *
         clear hpv hqv
         go_upto_region 24 with (go_at_call 16; refine CS.out.mono ?_; rintro e w8 ⟨rfl,b8'⟩)
         have ca:=hide (act_cell ((b8'.block _ har).trans KA.out)).2
         rw [et] at ca
         have SS:Hid (∀ W,Below w8.heap.size w8 W→W.cell? ⟨w.heap.size,1,none⟩=some (.int .i64 (t:Int))∧W.cell? ⟨b9,k,none⟩=some (.int .i64 sst.1)∧W.rangeAt b7 (k*5) (PP.cells pp).toList∧W.rangeAt b8 (k*4) (QQ.cells qq).toList):=hide (fun W hb=>by
          have hs8:=b8'.size
          exact ⟨(hb.cell (p:=⟨w.heap.size,1,none⟩) (Nat.lt_of_lt_of_le har hs8)).trans ca.out,(hb.cell (p:=⟨b9,k,none⟩) (Nat.lt_of_lt_of_le h9 hs8)).trans ((b8'.cell (p:=⟨b9,k,none⟩) h9).trans c9.out),
           fun j u hj=>(hb.cell (p:=⟨b7,k*5+j,none⟩) (Nat.lt_of_lt_of_le h7 hs8)).trans ((b8'.cell (p:=⟨b7,k*5+j,none⟩) h7).trans (r7.out j u hj)),
           fun j u hj=>(hb.cell (p:=⟨b8,k*4+j,none⟩) (Nat.lt_of_lt_of_le h8 hs8)).trans ((b8'.cell (p:=⟨b8,k*4+j,none⟩) h8).trans (r8.out j u hj))⟩)
         have CP:=hide (fun W (hb:Below w8.heap.size w8 W)=>CP0.out W (b8'.trans (hb.mono b8'.size)))
         have CQ:=hide (fun W (hb:Below w8.heap.size w8 W)=>CQ0.out W (b8'.trans (hb.mono b8'.size)))
         have OP:=hide (fun W (hb:Below w8.heap.size w8 W)=>own_same OP0.out (w':=W) fun g hg=>(b8'.trans (hb.mono b8'.size)).block g (own_lt OP0.out g hg).2)
         have OQ:=hide (fun W (hb:Below w8.heap.size w8 W)=>own_same OQ0.out (w':=W) fun g hg=>(b8'.trans (hb.mono b8'.size)).block g (own_lt OQ0.out g hg).2)
         have H9:=hide (KH.out.below b8')
         have A9:=hide ((b8'.block _ har).trans KA.out)
         have R9:=hide (KR.out.below b8')
         have ne:((k:Int) != (t:Int))=true:=by simpa using e
         clear CS KH KA KR CP0 CQ0 OP0 OQ0 r7 r8 c9 ca b8' m1' e
         refine wp_region_held (S:=fun W=>W.cell? ⟨w.heap.size,1,none⟩=some (.int .i64 (t:Int))∧W.cell? ⟨b9,k,none⟩=some (.int .i64 sst.1)∧W.rangeAt b7 (k*5) (PP.cells pp).toList∧W.rangeAt b8 (k*4) (QQ.cells qq).toList) (by kernel_rfl) ?_
         change wpAnyH _ _ _ _ _ _ _ _ w8.drew
         have BZ:Below w8.heap.size w8 w8.drew:=(Below.refl _ _).drew
         generalize w8.drew=W4 at *
         have HS:=SS.out _ BZ
         refine tw (i:=0) (d:=some 84) (fuel:=30) (v:=?_) rfl rfl ?_ HS ?_
         rotate_left
         ·intro W hW
          obtain ⟨ca,c9,r7,r8⟩:=hW
          go_simp
          try with_reducible rfl
         simp only [Act.put,sT,List.set]
         refine tw (i:=1) (d:=some 85) (fuel:=29) (v:=?_) rfl rfl ?_ HS ?_
         rotate_left
         ·intro W hW
          obtain ⟨ca,c9,r7,r8⟩:=hW
          go_simp
          try with_reducible rfl
         simp only [Act.put,sT,List.set]
         refine tw (i:=2) (d:=some 86) (fuel:=28) (v:=?_) rfl rfl ?_ HS ?_
         rotate_left
         ·intro W hW
          obtain ⟨ca,c9,r7,r8⟩:=hW
          go_simp
          try with_reducible rfl
         simp only [Act.put,sT,List.set]
         refine tw (i:=3) (d:=some 87) (fuel:=27) (v:=?_) rfl rfl ?_ HS ?_
         rotate_left
         ·intro W hW
          obtain ⟨ca,c9,r7,r8⟩:=hW
          go_simp
          try with_reducible rfl
         simp only [Act.put,sT,List.set]
         refine tw (i:=4) (d:=some 88) (fuel:=26) (v:=?_) rfl rfl ?_ HS ?_
         rotate_left
         ·intro W hW
          obtain ⟨ca,c9,r7,r8⟩:=hW
          go_simp
          try with_reducible rfl
         simp only [Act.put,sT,List.set]
         refine tw (i:=5) (d:=some 89) (fuel:=25) (v:=?_) rfl rfl ?_ HS ?_
         rotate_left
         ·intro W hW
          obtain ⟨ca,c9,r7,r8⟩:=hW
          go_simp
          try with_reducible rfl
         simp only [Act.put,sT,List.set]
         refine tw (i:=6) (d:=some 90) (fuel:=24) (v:=?_) rfl rfl ?_ HS ?_
         rotate_left
         ·intro W hW
          obtain ⟨ca,c9,r7,r8⟩:=hW
          go_simp
          try with_reducible rfl
         simp only [Act.put,sT,List.set]
         refine tw (i:=7) (d:=some 91) (fuel:=23) (v:=?_) rfl rfl ?_ HS ?_
         rotate_left
         ·intro W hW
          obtain ⟨ca,c9,r7,r8⟩:=hW
          go_simp
          try with_reducible rfl
         simp only [Act.put,sT,List.set]
         refine tw (i:=8) (d:=some 92) (fuel:=22) (v:=?_) rfl rfl ?_ HS ?_
         rotate_left
         ·intro W hW
          obtain ⟨ca,c9,r7,r8⟩:=hW
          go_simp
          try with_reducible rfl
         simp only [Act.put,sT,List.set]
         refine tw (i:=9) (d:=some 93) (fuel:=21) (v:=?_) rfl rfl ?_ HS ?_
         rotate_left
         ·intro W hW
          obtain ⟨ca,c9,r7,r8⟩:=hW
          go_simp
          try with_reducible rfl
         simp only [Act.put,sT,List.set]
         refine tw (i:=10) (d:=some 94) (fuel:=20) (v:=?_) rfl rfl ?_ HS ?_
         rotate_left
         ·intro W hW
          obtain ⟨ca,c9,r7,r8⟩:=hW
          go_simp
          try with_reducible rfl
         simp only [Act.put,sT,List.set]
         refine tw (i:=11) (d:=some 95) (fuel:=19) (v:=?_) rfl rfl ?_ HS ?_
         rotate_left
         ·intro W hW
          obtain ⟨ca,c9,r7,r8⟩:=hW
          go_simp
          try with_reducible rfl
         simp only [Act.put,sT,List.set]
         refine tw (i:=12) (d:=some 96) (fuel:=18) (v:=?_) rfl rfl ?_ HS ?_
         rotate_left
         ·intro W hW
          obtain ⟨ca,c9,r7,r8⟩:=hW
          go_simp
          try with_reducible rfl
         simp only [Act.put,sT,List.set]
         refine tk (i:=13) (d:=some 97) (fuel:=17) (v:=.agg (PP.cells pp)) rfl rfl (Or.inl ⟨by rfl,fun W hW=>exec_mid (.tmp 96) rfl rfl hW.2.2.1 Tryz.underlying51 rfl Tryz.sizePage⟩) HS ?_
         simp only [Act.put,sT,List.set]
         refine tw (i:=14) (d:=some 98) (fuel:=16) (v:=?_) rfl rfl ?_ HS ?_
         rotate_left
         ·intro W hW
          obtain ⟨ca,c9,r7,r8⟩:=hW
          go_simp
          try with_reducible rfl
         simp only [Act.put,sT,List.set]
         refine tw (i:=15) (d:=some 99) (fuel:=15) (v:=?_) rfl rfl ?_ HS ?_
         rotate_left
         ·intro W hW
          obtain ⟨ca,c9,r7,r8⟩:=hW
          go_simp
          try with_reducible rfl
         simp only [Act.put,sT,List.set]
         refine wpAnyH_all (fuel:=14) (rs:=[16]) (by kernel_rfl) (by simp) ?_
         intro i hi
         obtain rfl:i=16:=by simpa using hi
         clear hi
         refine call_at (d:=some 100) rfl rfl (by rfl) 22 #[.pointer (some ⟨hb1,0,none⟩),.int .i64 (k:Int)] (by kernel_rfl) ?_
         refine (CP.out _ BZ).mono ?_
         rintro e y1 ⟨v1,rfl,o1,b1⟩
         have BZ1:=BZ.trans (b1.mono BZ.size)
         have HS1:=SS.out _ BZ1
         refine ⟨_,rfl,HS1,?_⟩
         simp only [Act.put,sT,List.set]
         refine wpAnyH_all (fuel:=13) (rs:=[17]) (by kernel_rfl) (by simp) ?_
         intro i hi
         obtain rfl:i=17:=by simpa using hi
         clear hi
         refine call_at (d:=some 101) rfl rfl (by rfl) 43 #[.agg (PP.cells pp),.agg (PP.cells v1)] (by kernel_rfl) ?_
         refine (samepage_eq PP pp v1 y1 (reads_own (OP.out _ BZ1)) (reads_own o1)).mono ?_
         rintro e y2 ⟨rfl,b2⟩
         have BZ2:=BZ1.trans (b2.mono BZ1.size)
         have HS2:=SS.out _ BZ2
         refine ⟨_,rfl,HS2,?_⟩
         simp only [Act.put,sT,List.set]
         refine tw (i:=18) (d:=some 102) (fuel:=12) (v:=?_) rfl rfl ?_ HS2 ?_
         rotate_left
         ·intro W hW
          obtain ⟨ca,c9,r7,r8⟩:=hW
          go_simp
          try with_reducible rfl
         simp only [Act.put,sT,List.set]
         refine tw (i:=19) (d:=some 103) (fuel:=11) (v:=?_) rfl rfl ?_ HS2 ?_
         rotate_left
         ·intro W hW
          obtain ⟨ca,c9,r7,r8⟩:=hW
          go_simp
          try with_reducible rfl
         simp only [Act.put,sT,List.set]
         refine tw (i:=20) (d:=some 104) (fuel:=10) (v:=?_) rfl rfl ?_ HS2 ?_
         rotate_left
         ·intro W hW
          obtain ⟨ca,c9,r7,r8⟩:=hW
          go_simp
          try with_reducible rfl
         simp only [Act.put,sT,List.set]
         refine tw (i:=21) (d:=some 105) (fuel:=9) (v:=?_) rfl rfl ?_ HS2 ?_
         rotate_left
         ·intro W hW
          obtain ⟨ca,c9,r7,r8⟩:=hW
          go_simp
          try with_reducible rfl
         simp only [Act.put,sT,List.set]
         refine tw (i:=22) (d:=some 106) (fuel:=8) (v:=?_) rfl rfl ?_ HS2 ?_
         rotate_left
         ·intro W hW
          obtain ⟨ca,c9,r7,r8⟩:=hW
          go_simp
          try with_reducible rfl
         simp only [Act.put,sT,List.set]
         refine tk (i:=23) (d:=some 107) (fuel:=7) (v:=.agg (QQ.cells qq)) rfl rfl (Or.inl ⟨by rfl,fun W hW=>exec_mid (.tmp 106) rfl rfl hW.2.2.2 Tryz.underlying55 rfl Tryz.sizeLine⟩) HS2 ?_
         simp only [Act.put,sT,List.set]
         refine tw (i:=24) (d:=some 108) (fuel:=6) (v:=?_) rfl rfl ?_ HS2 ?_
         rotate_left
         ·intro W hW
          obtain ⟨ca,c9,r7,r8⟩:=hW
          go_simp
          try with_reducible rfl
         simp only [Act.put,sT,List.set]
         refine tw (i:=25) (d:=some 109) (fuel:=5) (v:=?_) rfl rfl ?_ HS2 ?_
         rotate_left
         ·intro W hW
          obtain ⟨ca,c9,r7,r8⟩:=hW
          go_simp
          try with_reducible rfl
         simp only [Act.put,sT,List.set]
         refine wpAnyH_all (fuel:=4) (rs:=[26]) (by kernel_rfl) (by simp) ?_
         intro i hi
         obtain rfl:i=26:=by simpa using hi
         clear hi
         refine call_at (d:=some 110) rfl rfl (by rfl) 24 #[.pointer (some ⟨hb1,0,none⟩),.int .i64 (k:Int)] (by kernel_rfl) ?_
         refine (CQ.out _ BZ2).mono ?_
         rintro e y3 ⟨v3,rfl,o3,b3⟩
         have BZ3:=BZ2.trans (b3.mono BZ2.size)
         have HS3:=SS.out _ BZ3
         refine ⟨_,rfl,HS3,?_⟩
         simp only [Act.put,sT,List.set]
         refine wpAnyH_all (fuel:=3) (rs:=[27]) (by kernel_rfl) (by simp) ?_
         intro i hi
         obtain rfl:i=27:=by simpa using hi
         clear hi
         refine call_at (d:=some 111) rfl rfl (by rfl) 44 #[.agg (QQ.cells qq),.agg (QQ.cells v3)] (by kernel_rfl) ?_
         refine (sameline_eq QQ qq v3 y3 (reads_own (OQ.out _ BZ3)) (reads_own o3)).mono ?_
         rintro e y4 ⟨rfl,b4⟩
         have BZ4:=BZ3.trans (b4.mono BZ3.size)
         have HS4:=SS.out _ BZ4
         refine ⟨_,rfl,HS4,?_⟩
         simp only [Act.put,sT,List.set]
         refine tw (i:=28) (d:=some 112) (fuel:=2) (v:=?_) rfl rfl ?_ HS4 ?_
         rotate_left
         ·intro W hW
          obtain ⟨ca,c9,r7,r8⟩:=hW
          go_simp
          try with_reducible rfl
         simp only [Act.put,sT,List.set]
         refine tw (i:=29) (d:=some 113) (fuel:=1) (v:=?_) rfl rfl ?_ HS4 ?_
         rotate_left
         ·intro W hW
          obtain ⟨ca,c9,r7,r8⟩:=hW
          go_simp
          try with_reducible rfl
         simp only [Act.put,sT,List.set]
         refine tw (i:=30) (d:=some 114) (fuel:=0) (v:=?_) rfl rfl ?_ HS4 ?_
         rotate_left
         ·intro W hW
          obtain ⟨ca,c9,r7,r8⟩:=hW
          go_simp
          try with_reducible rfl
         simp only [Act.put,sT,List.set]
         refine wpAnyH_done (by kernel_rfl) ?_ _
         have H10:=hide (H9.out.below BZ4)
         have A10:=hide ((BZ4.block _ (Array.getElem?_eq_some_iff.1 A9.out).1).trans A9.out)
         have R10:=hide (R9.out.below BZ4)
         clear HS HS1 HS2 HS3 HS4 BZ BZ1 BZ2 BZ3 BZ4 b1 b2 b3 b4 o1 o3 SS CP CQ OP OQ H9 A9 R9
         go_wp2
         exact ⟨⟨k+1,by omega,by go_num,H10.out,A10.out,R10.out⟩,by simp [intOf]; omega⟩
       ·obtain rfl:k=4:=by omega
        have B:=hide (HB0.out.trans (Hk.low.mono (Nat.le_of_lt hwlt)))
        clear Hk Ak Rk
        go_wp2
        go_ret
        exact ⟨rfl,B.out⟩
     ·have e1b:(s1.1==0)=true:=by simp [e1]
      have e0b:(s0 != 0)=true:=by simp [e0]
      have B:=hide (HB0.out.trans (H7.out.low.mono (Nat.le_of_lt hwlt)))
      go_wp2
      go_ret
      exact ⟨rfl,B.out⟩
    ·have e1b:(s1.1==0)=false:=by simp [e1]
     have FF:Hid (∀ i:Nat,i < 4→(i:Int) ≠ (t:Int)→Sm (seatAt M i) (seatAt M2 i)):=hide (fun i hi hne=>FIN.out i hi hne fun _ h=>e1 h.1)
     clear FIN e1 c97
     go_upto_region 21 with fail
     clear ca7 e1b
     go_loopw [75] (fun i wr=>∃ k:Nat,k≤4∧i=.int .i64 (k:Int)∧HoC w0 lab6 wr hb1 M2∧wr.heap[w.heap.size]?=some (.cells a.cells 23 (0,0))∧AlR M b7 b8 b9 4 pv qv wr) (fun i _=>4 - (intOf i).toNat)
     case atStart=>exact ⟨0,by omega,rfl,H7.out,A7.out,R7.out⟩
     case round =>
      obtain ⟨k,hk,rfl,Hk,Ak,Rk⟩:=hrel
      clear H7 A7 R7
      by_cases hk4:k < 4
      ·have hki:(k:Int) < 4:=by omega
       have CS:=hide (state_any Hk (k:Int))
       have KH:=hide Hk
       have KA:=hide Ak
       have KR:=hide Rk
       have h7:b7 < wr.heap.size:=(Array.getElem?_eq_some_iff.1 Rk.p).1
       have h8:b8 < wr.heap.size:=(Array.getElem?_eq_some_iff.1 Rk.l).1
       have h9:b9 < wr.heap.size:=(Array.getElem?_eq_some_iff.1 Rk.s).1
       have har:w.heap.size < wr.heap.size:=(Array.getElem?_eq_some_iff.1 Ak).1
       clear Hk Ak Rk
       by_cases e:(k:Int)=(t:Int)
       ·obtain rfl:k=t:=by omega
        go_upto_region 24 with (go_at_call 16; refine CS.out.mono ?_; rintro e w8 ⟨rfl,b8'⟩)
        have ca:=(act_cell ((b8'.block _ har).trans KA.out)).2
        have H9:=hide (KH.out.below b8')
        have A9:=hide ((b8'.block _ har).trans KA.out)
        have R9:=hide (KR.out.below b8')
        rw [et] at ca
        clear CS KH KA KR b8'
        go_quiet (fail)
        go_wp2
        exact ⟨⟨k+1,by omega,by go_num,H9.out.below (below_drewN (Below.refl _ _) _),A9.out,R9.out.below (below_drewN (Below.refl _ _) _)⟩,by simp [intOf]; omega⟩
       ·obtain ⟨m1,m2,m3⟩:=FF.out k hk4 e
        have m1':=hide (congrArg Prod.fst m1)
        have c9:=hide (i4_cell KR.out.s hk4)
        rw [if_pos hk4] at c9
        have r7:=hide (gr_range KR.out.p hk4 ((pageOf (seatAt M (k:Int))).cells (pv k)) rfl (fun j _=>by rw [if_pos hk4]; rfl))
        have r8:=hide (gr_range KR.out.l hk4 ((lineOf (seatAt M (k:Int))).cells (qv k)) rfl (fun j _=>by rw [if_pos hk4]; rfl))
        have OP0:=hide (KR.out.op k hk4)
        have OQ0:=hide (KR.out.oq k hk4)
        have CP0:=hide (fun W (hb:Below wr.heap.size wr W)=>page_any (KH.out.below hb) (k:Int) (SM2.out k hk4).1)
        have CQ0:=hide (fun W (hb:Below wr.heap.size wr W)=>line_any (KH.out.below hb) (k:Int) (SM2.out k hk4).2)
        rw [← m2] at CP0
        rw [← m3] at CQ0
        rw [← m1] at CS
        obtain ⟨ap,cp,hpv⟩:=own_shape OP0.out
        obtain ⟨aq,cq,hqv⟩:=own_shape OQ0.out
        clear m1 m2 m3
        generalize hsst:stateOf (seatAt M (k:Int))=sst at *
        clear hsst
        generalize hPP:pageOf (seatAt M (k:Int))=PP at *
        generalize hQQ:lineOf (seatAt M (k:Int))=QQ at *
        clear hPP hQQ
        generalize pv k=pp at *
        generalize qv k=qq at *
        clear hpv hqv
        go_upto_region 24 with (go_at_call 16; refine CS.out.mono ?_; rintro e w8 ⟨rfl,b8'⟩)
        have ca:=hide (act_cell ((b8'.block _ har).trans KA.out)).2
        rw [et] at ca
        have SS:Hid (∀ W,Below w8.heap.size w8 W→W.cell? ⟨w.heap.size,1,none⟩=some (.int .i64 (t:Int))∧W.cell? ⟨b9,k,none⟩=some (.int .i64 sst.1)∧W.rangeAt b7 (k*5) (PP.cells pp).toList∧W.rangeAt b8 (k*4) (QQ.cells qq).toList):=hide (fun W hb=>by
         have hs8:=b8'.size
         exact ⟨(hb.cell (p:=⟨w.heap.size,1,none⟩) (Nat.lt_of_lt_of_le har hs8)).trans ca.out,(hb.cell (p:=⟨b9,k,none⟩) (Nat.lt_of_lt_of_le h9 hs8)).trans ((b8'.cell (p:=⟨b9,k,none⟩) h9).trans c9.out),
          fun j u hj=>(hb.cell (p:=⟨b7,k*5+j,none⟩) (Nat.lt_of_lt_of_le h7 hs8)).trans ((b8'.cell (p:=⟨b7,k*5+j,none⟩) h7).trans (r7.out j u hj)),
          fun j u hj=>(hb.cell (p:=⟨b8,k*4+j,none⟩) (Nat.lt_of_lt_of_le h8 hs8)).trans ((b8'.cell (p:=⟨b8,k*4+j,none⟩) h8).trans (r8.out j u hj))⟩)
        have CP:=hide (fun W (hb:Below w8.heap.size w8 W)=>CP0.out W (b8'.trans (hb.mono b8'.size)))
        have CQ:=hide (fun W (hb:Below w8.heap.size w8 W)=>CQ0.out W (b8'.trans (hb.mono b8'.size)))
        have OP:=hide (fun W (hb:Below w8.heap.size w8 W)=>own_same OP0.out (w':=W) fun g hg=>(b8'.trans (hb.mono b8'.size)).block g (own_lt OP0.out g hg).2)
        have OQ:=hide (fun W (hb:Below w8.heap.size w8 W)=>own_same OQ0.out (w':=W) fun g hg=>(b8'.trans (hb.mono b8'.size)).block g (own_lt OQ0.out g hg).2)
        have H9:=hide (KH.out.below b8')
        have A9:=hide ((b8'.block _ har).trans KA.out)
        have R9:=hide (KR.out.below b8')
        have ne:((k:Int) != (t:Int))=true:=by simpa using e
        clear CS KH KA KR CP0 CQ0 OP0 OQ0 r7 r8 c9 ca b8' m1' e
        refine wp_region_held (S:=fun W=>W.cell? ⟨w.heap.size,1,none⟩=some (.int .i64 (t:Int))∧W.cell? ⟨b9,k,none⟩=some (.int .i64 sst.1)∧W.rangeAt b7 (k*5) (PP.cells pp).toList∧W.rangeAt b8 (k*4) (QQ.cells qq).toList) (by kernel_rfl) ?_
        change wpAnyH _ _ _ _ _ _ _ _ w8.drew
        have BZ:Below w8.heap.size w8 w8.drew:=(Below.refl _ _).drew
        generalize w8.drew=W4 at *
        have HS:=SS.out _ BZ
        refine tw (i:=0) (d:=some 84) (fuel:=30) (v:=?_) rfl rfl ?_ HS ?_
        rotate_left
        ·intro W hW
         obtain ⟨ca,c9,r7,r8⟩:=hW
         go_simp
         try with_reducible rfl
        simp only [Act.put,sT,List.set]
        refine tw (i:=1) (d:=some 85) (fuel:=29) (v:=?_) rfl rfl ?_ HS ?_
        rotate_left
        ·intro W hW
         obtain ⟨ca,c9,r7,r8⟩:=hW
         go_simp
         try with_reducible rfl
        simp only [Act.put,sT,List.set]
        refine tw (i:=2) (d:=some 86) (fuel:=28) (v:=?_) rfl rfl ?_ HS ?_
        rotate_left
        ·intro W hW
         obtain ⟨ca,c9,r7,r8⟩:=hW
         go_simp
         try with_reducible rfl
        simp only [Act.put,sT,List.set]
        refine tw (i:=3) (d:=some 87) (fuel:=27) (v:=?_) rfl rfl ?_ HS ?_
        rotate_left
        ·intro W hW
         obtain ⟨ca,c9,r7,r8⟩:=hW
         go_simp
         try with_reducible rfl
        simp only [Act.put,sT,List.set]
        refine tw (i:=4) (d:=some 88) (fuel:=26) (v:=?_) rfl rfl ?_ HS ?_
        rotate_left
        ·intro W hW
         obtain ⟨ca,c9,r7,r8⟩:=hW
         go_simp
         try with_reducible rfl
        simp only [Act.put,sT,List.set]
        refine tw (i:=5) (d:=some 89) (fuel:=25) (v:=?_) rfl rfl ?_ HS ?_
        rotate_left
        ·intro W hW
         obtain ⟨ca,c9,r7,r8⟩:=hW
         go_simp
         try with_reducible rfl
        simp only [Act.put,sT,List.set]
        refine tw (i:=6) (d:=some 90) (fuel:=24) (v:=?_) rfl rfl ?_ HS ?_
        rotate_left
        ·intro W hW
         obtain ⟨ca,c9,r7,r8⟩:=hW
         go_simp
         try with_reducible rfl
        simp only [Act.put,sT,List.set]
        refine tw (i:=7) (d:=some 91) (fuel:=23) (v:=?_) rfl rfl ?_ HS ?_
        rotate_left
        ·intro W hW
         obtain ⟨ca,c9,r7,r8⟩:=hW
         go_simp
         try with_reducible rfl
        simp only [Act.put,sT,List.set]
        refine tw (i:=8) (d:=some 92) (fuel:=22) (v:=?_) rfl rfl ?_ HS ?_
        rotate_left
        ·intro W hW
         obtain ⟨ca,c9,r7,r8⟩:=hW
         go_simp
         try with_reducible rfl
        simp only [Act.put,sT,List.set]
        refine tw (i:=9) (d:=some 93) (fuel:=21) (v:=?_) rfl rfl ?_ HS ?_
        rotate_left
        ·intro W hW
         obtain ⟨ca,c9,r7,r8⟩:=hW
         go_simp
         try with_reducible rfl
        simp only [Act.put,sT,List.set]
        refine tw (i:=10) (d:=some 94) (fuel:=20) (v:=?_) rfl rfl ?_ HS ?_
        rotate_left
        ·intro W hW
         obtain ⟨ca,c9,r7,r8⟩:=hW
         go_simp
         try with_reducible rfl
        simp only [Act.put,sT,List.set]
        refine tw (i:=11) (d:=some 95) (fuel:=19) (v:=?_) rfl rfl ?_ HS ?_
        rotate_left
        ·intro W hW
         obtain ⟨ca,c9,r7,r8⟩:=hW
         go_simp
         try with_reducible rfl
        simp only [Act.put,sT,List.set]
        refine tw (i:=12) (d:=some 96) (fuel:=18) (v:=?_) rfl rfl ?_ HS ?_
        rotate_left
        ·intro W hW
         obtain ⟨ca,c9,r7,r8⟩:=hW
         go_simp
         try with_reducible rfl
        simp only [Act.put,sT,List.set]
        refine tk (i:=13) (d:=some 97) (fuel:=17) (v:=.agg (PP.cells pp)) rfl rfl (Or.inl ⟨by rfl,fun W hW=>exec_mid (.tmp 96) rfl rfl hW.2.2.1 Tryz.underlying51 rfl Tryz.sizePage⟩) HS ?_
        simp only [Act.put,sT,List.set]
        refine tw (i:=14) (d:=some 98) (fuel:=16) (v:=?_) rfl rfl ?_ HS ?_
        rotate_left
        ·intro W hW
         obtain ⟨ca,c9,r7,r8⟩:=hW
         go_simp
         try with_reducible rfl
        simp only [Act.put,sT,List.set]
        refine tw (i:=15) (d:=some 99) (fuel:=15) (v:=?_) rfl rfl ?_ HS ?_
        rotate_left
        ·intro W hW
         obtain ⟨ca,c9,r7,r8⟩:=hW
         go_simp
         try with_reducible rfl
        simp only [Act.put,sT,List.set]
        refine wpAnyH_all (fuel:=14) (rs:=[16]) (by kernel_rfl) (by simp) ?_
        intro i hi
        obtain rfl:i=16:=by simpa using hi
        clear hi
        refine call_at (d:=some 100) rfl rfl (by rfl) 22 #[.pointer (some ⟨hb1,0,none⟩),.int .i64 (k:Int)] (by kernel_rfl) ?_
        refine (CP.out _ BZ).mono ?_
        rintro e y1 ⟨v1,rfl,o1,b1⟩
        have BZ1:=BZ.trans (b1.mono BZ.size)
        have HS1:=SS.out _ BZ1
        refine ⟨_,rfl,HS1,?_⟩
        simp only [Act.put,sT,List.set]
        refine wpAnyH_all (fuel:=13) (rs:=[17]) (by kernel_rfl) (by simp) ?_
        intro i hi
        obtain rfl:i=17:=by simpa using hi
        clear hi
        refine call_at (d:=some 101) rfl rfl (by rfl) 43 #[.agg (PP.cells pp),.agg (PP.cells v1)] (by kernel_rfl) ?_
        refine (samepage_eq PP pp v1 y1 (reads_own (OP.out _ BZ1)) (reads_own o1)).mono ?_
        rintro e y2 ⟨rfl,b2⟩
        have BZ2:=BZ1.trans (b2.mono BZ1.size)
        have HS2:=SS.out _ BZ2
        refine ⟨_,rfl,HS2,?_⟩
        simp only [Act.put,sT,List.set]
        refine tw (i:=18) (d:=some 102) (fuel:=12) (v:=?_) rfl rfl ?_ HS2 ?_
        rotate_left
        ·intro W hW
         obtain ⟨ca,c9,r7,r8⟩:=hW
         go_simp
         try with_reducible rfl
        simp only [Act.put,sT,List.set]
        refine tw (i:=19) (d:=some 103) (fuel:=11) (v:=?_) rfl rfl ?_ HS2 ?_
        rotate_left
        ·intro W hW
         obtain ⟨ca,c9,r7,r8⟩:=hW
         go_simp
         try with_reducible rfl
        simp only [Act.put,sT,List.set]
        refine tw (i:=20) (d:=some 104) (fuel:=10) (v:=?_) rfl rfl ?_ HS2 ?_
        rotate_left
        ·intro W hW
         obtain ⟨ca,c9,r7,r8⟩:=hW
         go_simp
         try with_reducible rfl
        simp only [Act.put,sT,List.set]
        refine tw (i:=21) (d:=some 105) (fuel:=9) (v:=?_) rfl rfl ?_ HS2 ?_
        rotate_left
        ·intro W hW
         obtain ⟨ca,c9,r7,r8⟩:=hW
         go_simp
         try with_reducible rfl
        simp only [Act.put,sT,List.set]
        refine tw (i:=22) (d:=some 106) (fuel:=8) (v:=?_) rfl rfl ?_ HS2 ?_
        rotate_left
        ·intro W hW
         obtain ⟨ca,c9,r7,r8⟩:=hW
         go_simp
         try with_reducible rfl
        simp only [Act.put,sT,List.set]
        refine tk (i:=23) (d:=some 107) (fuel:=7) (v:=.agg (QQ.cells qq)) rfl rfl (Or.inl ⟨by rfl,fun W hW=>exec_mid (.tmp 106) rfl rfl hW.2.2.2 Tryz.underlying55 rfl Tryz.sizeLine⟩) HS2 ?_
        simp only [Act.put,sT,List.set]
        refine tw (i:=24) (d:=some 108) (fuel:=6) (v:=?_) rfl rfl ?_ HS2 ?_
        rotate_left
        ·intro W hW
         obtain ⟨ca,c9,r7,r8⟩:=hW
         go_simp
         try with_reducible rfl
        simp only [Act.put,sT,List.set]
        refine tw (i:=25) (d:=some 109) (fuel:=5) (v:=?_) rfl rfl ?_ HS2 ?_
        rotate_left
        ·intro W hW
         obtain ⟨ca,c9,r7,r8⟩:=hW
         go_simp
         try with_reducible rfl
        simp only [Act.put,sT,List.set]
        refine wpAnyH_all (fuel:=4) (rs:=[26]) (by kernel_rfl) (by simp) ?_
        intro i hi
        obtain rfl:i=26:=by simpa using hi
        clear hi
        refine call_at (d:=some 110) rfl rfl (by rfl) 24 #[.pointer (some ⟨hb1,0,none⟩),.int .i64 (k:Int)] (by kernel_rfl) ?_
        refine (CQ.out _ BZ2).mono ?_
        rintro e y3 ⟨v3,rfl,o3,b3⟩
        have BZ3:=BZ2.trans (b3.mono BZ2.size)
        have HS3:=SS.out _ BZ3
        refine ⟨_,rfl,HS3,?_⟩
        simp only [Act.put,sT,List.set]
        refine wpAnyH_all (fuel:=3) (rs:=[27]) (by kernel_rfl) (by simp) ?_
        intro i hi
        obtain rfl:i=27:=by simpa using hi
        clear hi
        refine call_at (d:=some 111) rfl rfl (by rfl) 44 #[.agg (QQ.cells qq),.agg (QQ.cells v3)] (by kernel_rfl) ?_
        refine (sameline_eq QQ qq v3 y3 (reads_own (OQ.out _ BZ3)) (reads_own o3)).mono ?_
        rintro e y4 ⟨rfl,b4⟩
        have BZ4:=BZ3.trans (b4.mono BZ3.size)
        have HS4:=SS.out _ BZ4
        refine ⟨_,rfl,HS4,?_⟩
        simp only [Act.put,sT,List.set]
        refine tw (i:=28) (d:=some 112) (fuel:=2) (v:=?_) rfl rfl ?_ HS4 ?_
        rotate_left
        ·intro W hW
         obtain ⟨ca,c9,r7,r8⟩:=hW
         go_simp
         try with_reducible rfl
        simp only [Act.put,sT,List.set]
        refine tw (i:=29) (d:=some 113) (fuel:=1) (v:=?_) rfl rfl ?_ HS4 ?_
        rotate_left
        ·intro W hW
         obtain ⟨ca,c9,r7,r8⟩:=hW
         go_simp
         try with_reducible rfl
        simp only [Act.put,sT,List.set]
        refine tw (i:=30) (d:=some 114) (fuel:=0) (v:=?_) rfl rfl ?_ HS4 ?_
        rotate_left
        ·intro W hW
         obtain ⟨ca,c9,r7,r8⟩:=hW
         go_simp
         try with_reducible rfl
        simp only [Act.put,sT,List.set]
        refine wpAnyH_done (by kernel_rfl) ?_ _
        have H10:=hide (H9.out.below BZ4)
        have A10:=hide ((BZ4.block _ (Array.getElem?_eq_some_iff.1 A9.out).1).trans A9.out)
        have R10:=hide (R9.out.below BZ4)
        clear HS HS1 HS2 HS3 HS4 BZ BZ1 BZ2 BZ3 BZ4 b1 b2 b3 b4 o1 o3 SS CP CQ OP OQ H9 A9 R9
        go_wp2
        exact ⟨⟨k+1,by omega,by go_num,H10.out,A10.out,R10.out⟩,by simp [intOf]; omega⟩
      ·obtain rfl:k=4:=by omega
       have B:=hide (HB0.out.trans (Hk.low.mono (Nat.le_of_lt hwlt)))
       clear Hk Ak Rk
       go_wp2
       go_ret
       exact ⟨rfl,B.out⟩
   ·have FF:Hid (∀ i:Nat,i < 4→(i:Int) ≠ a.seat→Sm (seatAt M i) (seatAt M2 i)):=hide (fun i hi hne=>FIN.out i hi hne fun h=>absurd h hr)
    have R7:=R6
    have A7:=A6
    have H7:=HH6
    clear FIN R6 A6 HH6
    by_cases hr0:0≤a.seat
    ·have hr4:¬ a.seat < 4:=by omega
     clear hr
     go_upto_region 21 with fail
     clear ca hr0 hr4
     generalize et:a.seat=t at *
     go_loopw [75] (fun i wr=>∃ k:Nat,k≤4∧i=.int .i64 (k:Int)∧HoC w0 lab6 wr hb1 M2∧wr.heap[w.heap.size]?=some (.cells a.cells 23 (0,0))∧AlR M b7 b8 b9 4 pv qv wr) (fun i _=>4 - (intOf i).toNat)
     case atStart=>exact ⟨0,by omega,rfl,H7.out,A7.out,R7.out⟩
     case round =>
      obtain ⟨k,hk,rfl,Hk,Ak,Rk⟩:=hrel
      clear H7 A7 R7
      by_cases hk4:k < 4
      ·have hki:(k:Int) < 4:=by omega
       have CS:=hide (state_any Hk (k:Int))
       have KH:=hide Hk
       have KA:=hide Ak
       have KR:=hide Rk
       have h7:b7 < wr.heap.size:=(Array.getElem?_eq_some_iff.1 Rk.p).1
       have h8:b8 < wr.heap.size:=(Array.getElem?_eq_some_iff.1 Rk.l).1
       have h9:b9 < wr.heap.size:=(Array.getElem?_eq_some_iff.1 Rk.s).1
       have har:w.heap.size < wr.heap.size:=(Array.getElem?_eq_some_iff.1 Ak).1
       clear Hk Ak Rk
       by_cases e:(k:Int)=t
       ·obtain rfl:t=(k:Int):=e.symm
        go_upto_region 24 with (go_at_call 16; refine CS.out.mono ?_; rintro e w8 ⟨rfl,b8'⟩)
        have ca:=(act_cell ((b8'.block _ har).trans KA.out)).2
        have H9:=hide (KH.out.below b8')
        have A9:=hide ((b8'.block _ har).trans KA.out)
        have R9:=hide (KR.out.below b8')
        rw [et] at ca
        clear CS KH KA KR b8'
        go_quiet (fail)
        go_wp2
        exact ⟨⟨k+1,by omega,by go_num,H9.out.below (below_drewN (Below.refl _ _) _),A9.out,R9.out.below (below_drewN (Below.refl _ _) _)⟩,by simp [intOf]; omega⟩
       ·obtain ⟨m1,m2,m3⟩:=FF.out k hk4 e
        have m1':=hide (congrArg Prod.fst m1)
        have c9:=hide (i4_cell KR.out.s hk4)
        rw [if_pos hk4] at c9
        have r7:=hide (gr_range KR.out.p hk4 ((pageOf (seatAt M (k:Int))).cells (pv k)) rfl (fun j _=>by rw [if_pos hk4]; rfl))
        have r8:=hide (gr_range KR.out.l hk4 ((lineOf (seatAt M (k:Int))).cells (qv k)) rfl (fun j _=>by rw [if_pos hk4]; rfl))
        have OP0:=hide (KR.out.op k hk4)
        have OQ0:=hide (KR.out.oq k hk4)
        have CP0:=hide (fun W (hb:Below wr.heap.size wr W)=>page_any (KH.out.below hb) (k:Int) (SM2.out k hk4).1)
        have CQ0:=hide (fun W (hb:Below wr.heap.size wr W)=>line_any (KH.out.below hb) (k:Int) (SM2.out k hk4).2)
        rw [← m2] at CP0
        rw [← m3] at CQ0
        rw [← m1] at CS
        obtain ⟨ap,cp,hpv⟩:=own_shape OP0.out
        obtain ⟨aq,cq,hqv⟩:=own_shape OQ0.out
        clear m1 m2 m3
        generalize hsst:stateOf (seatAt M (k:Int))=sst at *
        clear hsst
        generalize hPP:pageOf (seatAt M (k:Int))=PP at *
        generalize hQQ:lineOf (seatAt M (k:Int))=QQ at *
        clear hPP hQQ
        generalize pv k=pp at *
        generalize qv k=qq at *
        clear hpv hqv
        go_upto_region 24 with (go_at_call 16; refine CS.out.mono ?_; rintro e w8 ⟨rfl,b8'⟩)
        have ca:=hide (act_cell ((b8'.block _ har).trans KA.out)).2
        rw [et] at ca
        have SS:Hid (∀ W,Below w8.heap.size w8 W→W.cell? ⟨w.heap.size,1,none⟩=some (.int .i64 t)∧W.cell? ⟨b9,k,none⟩=some (.int .i64 sst.1)∧W.rangeAt b7 (k*5) (PP.cells pp).toList∧W.rangeAt b8 (k*4) (QQ.cells qq).toList):=hide (fun W hb=>by
         have hs8:=b8'.size
         exact ⟨(hb.cell (p:=⟨w.heap.size,1,none⟩) (Nat.lt_of_lt_of_le har hs8)).trans ca.out,(hb.cell (p:=⟨b9,k,none⟩) (Nat.lt_of_lt_of_le h9 hs8)).trans ((b8'.cell (p:=⟨b9,k,none⟩) h9).trans c9.out),
          fun j u hj=>(hb.cell (p:=⟨b7,k*5+j,none⟩) (Nat.lt_of_lt_of_le h7 hs8)).trans ((b8'.cell (p:=⟨b7,k*5+j,none⟩) h7).trans (r7.out j u hj)),
          fun j u hj=>(hb.cell (p:=⟨b8,k*4+j,none⟩) (Nat.lt_of_lt_of_le h8 hs8)).trans ((b8'.cell (p:=⟨b8,k*4+j,none⟩) h8).trans (r8.out j u hj))⟩)
        have CP:=hide (fun W (hb:Below w8.heap.size w8 W)=>CP0.out W (b8'.trans (hb.mono b8'.size)))
        have CQ:=hide (fun W (hb:Below w8.heap.size w8 W)=>CQ0.out W (b8'.trans (hb.mono b8'.size)))
        have OP:=hide (fun W (hb:Below w8.heap.size w8 W)=>own_same OP0.out (w':=W) fun g hg=>(b8'.trans (hb.mono b8'.size)).block g (own_lt OP0.out g hg).2)
        have OQ:=hide (fun W (hb:Below w8.heap.size w8 W)=>own_same OQ0.out (w':=W) fun g hg=>(b8'.trans (hb.mono b8'.size)).block g (own_lt OQ0.out g hg).2)
        have H9:=hide (KH.out.below b8')
        have A9:=hide ((b8'.block _ har).trans KA.out)
        have R9:=hide (KR.out.below b8')
        have ne:((k:Int) != t)=true:=by simpa using e
        clear CS KH KA KR CP0 CQ0 OP0 OQ0 r7 r8 c9 ca b8' m1' e
        refine wp_region_held (S:=fun W=>W.cell? ⟨w.heap.size,1,none⟩=some (.int .i64 t)∧W.cell? ⟨b9,k,none⟩=some (.int .i64 sst.1)∧W.rangeAt b7 (k*5) (PP.cells pp).toList∧W.rangeAt b8 (k*4) (QQ.cells qq).toList) (by kernel_rfl) ?_
        change wpAnyH _ _ _ _ _ _ _ _ w8.drew
        have BZ:Below w8.heap.size w8 w8.drew:=(Below.refl _ _).drew
        generalize w8.drew=W4 at *
        have HS:=SS.out _ BZ
        refine tw (i:=0) (d:=some 84) (fuel:=30) (v:=?_) rfl rfl ?_ HS ?_
        rotate_left
        ·intro W hW
         obtain ⟨ca,c9,r7,r8⟩:=hW
         go_simp
         try with_reducible rfl
        simp only [Act.put,sT,List.set]
        refine tw (i:=1) (d:=some 85) (fuel:=29) (v:=?_) rfl rfl ?_ HS ?_
        rotate_left
        ·intro W hW
         obtain ⟨ca,c9,r7,r8⟩:=hW
         go_simp
         try with_reducible rfl
        simp only [Act.put,sT,List.set]
        refine tw (i:=2) (d:=some 86) (fuel:=28) (v:=?_) rfl rfl ?_ HS ?_
        rotate_left
        ·intro W hW
         obtain ⟨ca,c9,r7,r8⟩:=hW
         go_simp
         try with_reducible rfl
        simp only [Act.put,sT,List.set]
        refine tw (i:=3) (d:=some 87) (fuel:=27) (v:=?_) rfl rfl ?_ HS ?_
        rotate_left
        ·intro W hW
         obtain ⟨ca,c9,r7,r8⟩:=hW
         go_simp
         try with_reducible rfl
        simp only [Act.put,sT,List.set]
        refine tw (i:=4) (d:=some 88) (fuel:=26) (v:=?_) rfl rfl ?_ HS ?_
        rotate_left
        ·intro W hW
         obtain ⟨ca,c9,r7,r8⟩:=hW
         go_simp
         try with_reducible rfl
        simp only [Act.put,sT,List.set]
        refine tw (i:=5) (d:=some 89) (fuel:=25) (v:=?_) rfl rfl ?_ HS ?_
        rotate_left
        ·intro W hW
         obtain ⟨ca,c9,r7,r8⟩:=hW
         go_simp
         try with_reducible rfl
        simp only [Act.put,sT,List.set]
        refine tw (i:=6) (d:=some 90) (fuel:=24) (v:=?_) rfl rfl ?_ HS ?_
        rotate_left
        ·intro W hW
         obtain ⟨ca,c9,r7,r8⟩:=hW
         go_simp
         try with_reducible rfl
        simp only [Act.put,sT,List.set]
        refine tw (i:=7) (d:=some 91) (fuel:=23) (v:=?_) rfl rfl ?_ HS ?_
        rotate_left
        ·intro W hW
         obtain ⟨ca,c9,r7,r8⟩:=hW
         go_simp
         try with_reducible rfl
        simp only [Act.put,sT,List.set]
        refine tw (i:=8) (d:=some 92) (fuel:=22) (v:=?_) rfl rfl ?_ HS ?_
        rotate_left
        ·intro W hW
         obtain ⟨ca,c9,r7,r8⟩:=hW
         go_simp
         try with_reducible rfl
        simp only [Act.put,sT,List.set]
        refine tw (i:=9) (d:=some 93) (fuel:=21) (v:=?_) rfl rfl ?_ HS ?_
        rotate_left
        ·intro W hW
         obtain ⟨ca,c9,r7,r8⟩:=hW
         go_simp
         try with_reducible rfl
        simp only [Act.put,sT,List.set]
        refine tw (i:=10) (d:=some 94) (fuel:=20) (v:=?_) rfl rfl ?_ HS ?_
        rotate_left
        ·intro W hW
         obtain ⟨ca,c9,r7,r8⟩:=hW
         go_simp
         try with_reducible rfl
        simp only [Act.put,sT,List.set]
        refine tw (i:=11) (d:=some 95) (fuel:=19) (v:=?_) rfl rfl ?_ HS ?_
        rotate_left
        ·intro W hW
         obtain ⟨ca,c9,r7,r8⟩:=hW
         go_simp
         try with_reducible rfl
        simp only [Act.put,sT,List.set]
        refine tw (i:=12) (d:=some 96) (fuel:=18) (v:=?_) rfl rfl ?_ HS ?_
        rotate_left
        ·intro W hW
         obtain ⟨ca,c9,r7,r8⟩:=hW
         go_simp
         try with_reducible rfl
        simp only [Act.put,sT,List.set]
        refine tk (i:=13) (d:=some 97) (fuel:=17) (v:=.agg (PP.cells pp)) rfl rfl (Or.inl ⟨by rfl,fun W hW=>exec_mid (.tmp 96) rfl rfl hW.2.2.1 Tryz.underlying51 rfl Tryz.sizePage⟩) HS ?_
        simp only [Act.put,sT,List.set]
        refine tw (i:=14) (d:=some 98) (fuel:=16) (v:=?_) rfl rfl ?_ HS ?_
        rotate_left
        ·intro W hW
         obtain ⟨ca,c9,r7,r8⟩:=hW
         go_simp
         try with_reducible rfl
        simp only [Act.put,sT,List.set]
        refine tw (i:=15) (d:=some 99) (fuel:=15) (v:=?_) rfl rfl ?_ HS ?_
        rotate_left
        ·intro W hW
         obtain ⟨ca,c9,r7,r8⟩:=hW
         go_simp
         try with_reducible rfl
        simp only [Act.put,sT,List.set]
        refine wpAnyH_all (fuel:=14) (rs:=[16]) (by kernel_rfl) (by simp) ?_
        intro i hi
        obtain rfl:i=16:=by simpa using hi
        clear hi
        refine call_at (d:=some 100) rfl rfl (by rfl) 22 #[.pointer (some ⟨hb1,0,none⟩),.int .i64 (k:Int)] (by kernel_rfl) ?_
        refine (CP.out _ BZ).mono ?_
        rintro e y1 ⟨v1,rfl,o1,b1⟩
        have BZ1:=BZ.trans (b1.mono BZ.size)
        have HS1:=SS.out _ BZ1
        refine ⟨_,rfl,HS1,?_⟩
        simp only [Act.put,sT,List.set]
        refine wpAnyH_all (fuel:=13) (rs:=[17]) (by kernel_rfl) (by simp) ?_
        intro i hi
        obtain rfl:i=17:=by simpa using hi
        clear hi
        refine call_at (d:=some 101) rfl rfl (by rfl) 43 #[.agg (PP.cells pp),.agg (PP.cells v1)] (by kernel_rfl) ?_
        refine (samepage_eq PP pp v1 y1 (reads_own (OP.out _ BZ1)) (reads_own o1)).mono ?_
        rintro e y2 ⟨rfl,b2⟩
        have BZ2:=BZ1.trans (b2.mono BZ1.size)
        have HS2:=SS.out _ BZ2
        refine ⟨_,rfl,HS2,?_⟩
        simp only [Act.put,sT,List.set]
        refine tw (i:=18) (d:=some 102) (fuel:=12) (v:=?_) rfl rfl ?_ HS2 ?_
        rotate_left
        ·intro W hW
         obtain ⟨ca,c9,r7,r8⟩:=hW
         go_simp
         try with_reducible rfl
        simp only [Act.put,sT,List.set]
        refine tw (i:=19) (d:=some 103) (fuel:=11) (v:=?_) rfl rfl ?_ HS2 ?_
        rotate_left
        ·intro W hW
         obtain ⟨ca,c9,r7,r8⟩:=hW
         go_simp
         try with_reducible rfl
        simp only [Act.put,sT,List.set]
        refine tw (i:=20) (d:=some 104) (fuel:=10) (v:=?_) rfl rfl ?_ HS2 ?_
        rotate_left
        ·intro W hW
         obtain ⟨ca,c9,r7,r8⟩:=hW
         go_simp
         try with_reducible rfl
        simp only [Act.put,sT,List.set]
        refine tw (i:=21) (d:=some 105) (fuel:=9) (v:=?_) rfl rfl ?_ HS2 ?_
        rotate_left
        ·intro W hW
         obtain ⟨ca,c9,r7,r8⟩:=hW
         go_simp
         try with_reducible rfl
        simp only [Act.put,sT,List.set]
        refine tw (i:=22) (d:=some 106) (fuel:=8) (v:=?_) rfl rfl ?_ HS2 ?_
        rotate_left
        ·intro W hW
         obtain ⟨ca,c9,r7,r8⟩:=hW
         go_simp
         try with_reducible rfl
        simp only [Act.put,sT,List.set]
        refine tk (i:=23) (d:=some 107) (fuel:=7) (v:=.agg (QQ.cells qq)) rfl rfl (Or.inl ⟨by rfl,fun W hW=>exec_mid (.tmp 106) rfl rfl hW.2.2.2 Tryz.underlying55 rfl Tryz.sizeLine⟩) HS2 ?_
        simp only [Act.put,sT,List.set]
        refine tw (i:=24) (d:=some 108) (fuel:=6) (v:=?_) rfl rfl ?_ HS2 ?_
        rotate_left
        ·intro W hW
         obtain ⟨ca,c9,r7,r8⟩:=hW
         go_simp
         try with_reducible rfl
        simp only [Act.put,sT,List.set]
        refine tw (i:=25) (d:=some 109) (fuel:=5) (v:=?_) rfl rfl ?_ HS2 ?_
        rotate_left
        ·intro W hW
         obtain ⟨ca,c9,r7,r8⟩:=hW
         go_simp
         try with_reducible rfl
        simp only [Act.put,sT,List.set]
        refine wpAnyH_all (fuel:=4) (rs:=[26]) (by kernel_rfl) (by simp) ?_
        intro i hi
        obtain rfl:i=26:=by simpa using hi
        clear hi
        refine call_at (d:=some 110) rfl rfl (by rfl) 24 #[.pointer (some ⟨hb1,0,none⟩),.int .i64 (k:Int)] (by kernel_rfl) ?_
        refine (CQ.out _ BZ2).mono ?_
        rintro e y3 ⟨v3,rfl,o3,b3⟩
        have BZ3:=BZ2.trans (b3.mono BZ2.size)
        have HS3:=SS.out _ BZ3
        refine ⟨_,rfl,HS3,?_⟩
        simp only [Act.put,sT,List.set]
        refine wpAnyH_all (fuel:=3) (rs:=[27]) (by kernel_rfl) (by simp) ?_
        intro i hi
        obtain rfl:i=27:=by simpa using hi
        clear hi
        refine call_at (d:=some 111) rfl rfl (by rfl) 44 #[.agg (QQ.cells qq),.agg (QQ.cells v3)] (by kernel_rfl) ?_
        refine (sameline_eq QQ qq v3 y3 (reads_own (OQ.out _ BZ3)) (reads_own o3)).mono ?_
        rintro e y4 ⟨rfl,b4⟩
        have BZ4:=BZ3.trans (b4.mono BZ3.size)
        have HS4:=SS.out _ BZ4
        refine ⟨_,rfl,HS4,?_⟩
        simp only [Act.put,sT,List.set]
        refine tw (i:=28) (d:=some 112) (fuel:=2) (v:=?_) rfl rfl ?_ HS4 ?_
        rotate_left
        ·intro W hW
         obtain ⟨ca,c9,r7,r8⟩:=hW
         go_simp
         try with_reducible rfl
        simp only [Act.put,sT,List.set]
        refine tw (i:=29) (d:=some 113) (fuel:=1) (v:=?_) rfl rfl ?_ HS4 ?_
        rotate_left
        ·intro W hW
         obtain ⟨ca,c9,r7,r8⟩:=hW
         go_simp
         try with_reducible rfl
        simp only [Act.put,sT,List.set]
        refine tw (i:=30) (d:=some 114) (fuel:=0) (v:=?_) rfl rfl ?_ HS4 ?_
        rotate_left
        ·intro W hW
         obtain ⟨ca,c9,r7,r8⟩:=hW
         go_simp
         try with_reducible rfl
        simp only [Act.put,sT,List.set]
        refine wpAnyH_done (by kernel_rfl) ?_ _
        have H10:=hide (H9.out.below BZ4)
        have A10:=hide ((BZ4.block _ (Array.getElem?_eq_some_iff.1 A9.out).1).trans A9.out)
        have R10:=hide (R9.out.below BZ4)
        clear HS HS1 HS2 HS3 HS4 BZ BZ1 BZ2 BZ3 BZ4 b1 b2 b3 b4 o1 o3 SS CP CQ OP OQ H9 A9 R9
        go_wp2
        exact ⟨⟨k+1,by omega,by go_num,H10.out,A10.out,R10.out⟩,by simp [intOf]; omega⟩
      ·obtain rfl:k=4:=by omega
       have B:=hide (HB0.out.trans (Hk.low.mono (Nat.le_of_lt hwlt)))
       clear Hk Ak Rk
       go_wp2
       go_ret
       exact ⟨rfl,B.out⟩
    ·clear hr
     go_upto_region 21 with fail
     clear ca hr0
     generalize et:a.seat=t at *
     go_loopw [75] (fun i wr=>∃ k:Nat,k≤4∧i=.int .i64 (k:Int)∧HoC w0 lab6 wr hb1 M2∧wr.heap[w.heap.size]?=some (.cells a.cells 23 (0,0))∧AlR M b7 b8 b9 4 pv qv wr) (fun i _=>4 - (intOf i).toNat)
     case atStart=>exact ⟨0,by omega,rfl,H7.out,A7.out,R7.out⟩
     case round =>
      obtain ⟨k,hk,rfl,Hk,Ak,Rk⟩:=hrel
      clear H7 A7 R7
      by_cases hk4:k < 4
      ·have hki:(k:Int) < 4:=by omega
       have CS:=hide (state_any Hk (k:Int))
       have KH:=hide Hk
       have KA:=hide Ak
       have KR:=hide Rk
       have h7:b7 < wr.heap.size:=(Array.getElem?_eq_some_iff.1 Rk.p).1
       have h8:b8 < wr.heap.size:=(Array.getElem?_eq_some_iff.1 Rk.l).1
       have h9:b9 < wr.heap.size:=(Array.getElem?_eq_some_iff.1 Rk.s).1
       have har:w.heap.size < wr.heap.size:=(Array.getElem?_eq_some_iff.1 Ak).1
       clear Hk Ak Rk
       by_cases e:(k:Int)=t
       ·obtain rfl:t=(k:Int):=e.symm
        go_upto_region 24 with (go_at_call 16; refine CS.out.mono ?_; rintro e w8 ⟨rfl,b8'⟩)
        have ca:=(act_cell ((b8'.block _ har).trans KA.out)).2
        have H9:=hide (KH.out.below b8')
        have A9:=hide ((b8'.block _ har).trans KA.out)
        have R9:=hide (KR.out.below b8')
        rw [et] at ca
        clear CS KH KA KR b8'
        go_quiet (fail)
        go_wp2
        exact ⟨⟨k+1,by omega,by go_num,H9.out.below (below_drewN (Below.refl _ _) _),A9.out,R9.out.below (below_drewN (Below.refl _ _) _)⟩,by simp [intOf]; omega⟩
       ·obtain ⟨m1,m2,m3⟩:=FF.out k hk4 e
        have m1':=hide (congrArg Prod.fst m1)
        have c9:=hide (i4_cell KR.out.s hk4)
        rw [if_pos hk4] at c9
        have r7:=hide (gr_range KR.out.p hk4 ((pageOf (seatAt M (k:Int))).cells (pv k)) rfl (fun j _=>by rw [if_pos hk4]; rfl))
        have r8:=hide (gr_range KR.out.l hk4 ((lineOf (seatAt M (k:Int))).cells (qv k)) rfl (fun j _=>by rw [if_pos hk4]; rfl))
        have OP0:=hide (KR.out.op k hk4)
        have OQ0:=hide (KR.out.oq k hk4)
        have CP0:=hide (fun W (hb:Below wr.heap.size wr W)=>page_any (KH.out.below hb) (k:Int) (SM2.out k hk4).1)
        have CQ0:=hide (fun W (hb:Below wr.heap.size wr W)=>line_any (KH.out.below hb) (k:Int) (SM2.out k hk4).2)
        rw [← m2] at CP0
        rw [← m3] at CQ0
        rw [← m1] at CS
        obtain ⟨ap,cp,hpv⟩:=own_shape OP0.out
        obtain ⟨aq,cq,hqv⟩:=own_shape OQ0.out
        clear m1 m2 m3
        generalize hsst:stateOf (seatAt M (k:Int))=sst at *
        clear hsst
        generalize hPP:pageOf (seatAt M (k:Int))=PP at *
        generalize hQQ:lineOf (seatAt M (k:Int))=QQ at *
        clear hPP hQQ
        generalize pv k=pp at *
        generalize qv k=qq at *
        clear hpv hqv
        go_upto_region 24 with (go_at_call 16; refine CS.out.mono ?_; rintro e w8 ⟨rfl,b8'⟩)
        have ca:=hide (act_cell ((b8'.block _ har).trans KA.out)).2
        rw [et] at ca
        have SS:Hid (∀ W,Below w8.heap.size w8 W→W.cell? ⟨w.heap.size,1,none⟩=some (.int .i64 t)∧W.cell? ⟨b9,k,none⟩=some (.int .i64 sst.1)∧W.rangeAt b7 (k*5) (PP.cells pp).toList∧W.rangeAt b8 (k*4) (QQ.cells qq).toList):=hide (fun W hb=>by
         have hs8:=b8'.size
         exact ⟨(hb.cell (p:=⟨w.heap.size,1,none⟩) (Nat.lt_of_lt_of_le har hs8)).trans ca.out,(hb.cell (p:=⟨b9,k,none⟩) (Nat.lt_of_lt_of_le h9 hs8)).trans ((b8'.cell (p:=⟨b9,k,none⟩) h9).trans c9.out),
          fun j u hj=>(hb.cell (p:=⟨b7,k*5+j,none⟩) (Nat.lt_of_lt_of_le h7 hs8)).trans ((b8'.cell (p:=⟨b7,k*5+j,none⟩) h7).trans (r7.out j u hj)),
          fun j u hj=>(hb.cell (p:=⟨b8,k*4+j,none⟩) (Nat.lt_of_lt_of_le h8 hs8)).trans ((b8'.cell (p:=⟨b8,k*4+j,none⟩) h8).trans (r8.out j u hj))⟩)
        have CP:=hide (fun W (hb:Below w8.heap.size w8 W)=>CP0.out W (b8'.trans (hb.mono b8'.size)))
        have CQ:=hide (fun W (hb:Below w8.heap.size w8 W)=>CQ0.out W (b8'.trans (hb.mono b8'.size)))
        have OP:=hide (fun W (hb:Below w8.heap.size w8 W)=>own_same OP0.out (w':=W) fun g hg=>(b8'.trans (hb.mono b8'.size)).block g (own_lt OP0.out g hg).2)
        have OQ:=hide (fun W (hb:Below w8.heap.size w8 W)=>own_same OQ0.out (w':=W) fun g hg=>(b8'.trans (hb.mono b8'.size)).block g (own_lt OQ0.out g hg).2)
        have H9:=hide (KH.out.below b8')
        have A9:=hide ((b8'.block _ har).trans KA.out)
        have R9:=hide (KR.out.below b8')
        have ne:((k:Int) != t)=true:=by simpa using e
        clear CS KH KA KR CP0 CQ0 OP0 OQ0 r7 r8 c9 ca b8' m1' e
        refine wp_region_held (S:=fun W=>W.cell? ⟨w.heap.size,1,none⟩=some (.int .i64 t)∧W.cell? ⟨b9,k,none⟩=some (.int .i64 sst.1)∧W.rangeAt b7 (k*5) (PP.cells pp).toList∧W.rangeAt b8 (k*4) (QQ.cells qq).toList) (by kernel_rfl) ?_
        change wpAnyH _ _ _ _ _ _ _ _ w8.drew
        have BZ:Below w8.heap.size w8 w8.drew:=(Below.refl _ _).drew
        generalize w8.drew=W4 at *
        have HS:=SS.out _ BZ
        refine tw (i:=0) (d:=some 84) (fuel:=30) (v:=?_) rfl rfl ?_ HS ?_
        rotate_left
        ·intro W hW
         obtain ⟨ca,c9,r7,r8⟩:=hW
         go_simp
         try with_reducible rfl
        simp only [Act.put,sT,List.set]
        refine tw (i:=1) (d:=some 85) (fuel:=29) (v:=?_) rfl rfl ?_ HS ?_
        rotate_left
        ·intro W hW
         obtain ⟨ca,c9,r7,r8⟩:=hW
         go_simp
         try with_reducible rfl
        simp only [Act.put,sT,List.set]
        refine tw (i:=2) (d:=some 86) (fuel:=28) (v:=?_) rfl rfl ?_ HS ?_
        rotate_left
        ·intro W hW
         obtain ⟨ca,c9,r7,r8⟩:=hW
         go_simp
         try with_reducible rfl
        simp only [Act.put,sT,List.set]
        refine tw (i:=3) (d:=some 87) (fuel:=27) (v:=?_) rfl rfl ?_ HS ?_
        rotate_left
        ·intro W hW
         obtain ⟨ca,c9,r7,r8⟩:=hW
         go_simp
         try with_reducible rfl
        simp only [Act.put,sT,List.set]
        refine tw (i:=4) (d:=some 88) (fuel:=26) (v:=?_) rfl rfl ?_ HS ?_
        rotate_left
        ·intro W hW
         obtain ⟨ca,c9,r7,r8⟩:=hW
         go_simp
         try with_reducible rfl
        simp only [Act.put,sT,List.set]
        refine tw (i:=5) (d:=some 89) (fuel:=25) (v:=?_) rfl rfl ?_ HS ?_
        rotate_left
        ·intro W hW
         obtain ⟨ca,c9,r7,r8⟩:=hW
         go_simp
         try with_reducible rfl
        simp only [Act.put,sT,List.set]
        refine tw (i:=6) (d:=some 90) (fuel:=24) (v:=?_) rfl rfl ?_ HS ?_
        rotate_left
        ·intro W hW
         obtain ⟨ca,c9,r7,r8⟩:=hW
         go_simp
         try with_reducible rfl
        simp only [Act.put,sT,List.set]
        refine tw (i:=7) (d:=some 91) (fuel:=23) (v:=?_) rfl rfl ?_ HS ?_
        rotate_left
        ·intro W hW
         obtain ⟨ca,c9,r7,r8⟩:=hW
         go_simp
         try with_reducible rfl
        simp only [Act.put,sT,List.set]
        refine tw (i:=8) (d:=some 92) (fuel:=22) (v:=?_) rfl rfl ?_ HS ?_
        rotate_left
        ·intro W hW
         obtain ⟨ca,c9,r7,r8⟩:=hW
         go_simp
         try with_reducible rfl
        simp only [Act.put,sT,List.set]
        refine tw (i:=9) (d:=some 93) (fuel:=21) (v:=?_) rfl rfl ?_ HS ?_
        rotate_left
        ·intro W hW
         obtain ⟨ca,c9,r7,r8⟩:=hW
         go_simp
         try with_reducible rfl
        simp only [Act.put,sT,List.set]
        refine tw (i:=10) (d:=some 94) (fuel:=20) (v:=?_) rfl rfl ?_ HS ?_
        rotate_left
        ·intro W hW
         obtain ⟨ca,c9,r7,r8⟩:=hW
         go_simp
         try with_reducible rfl
        simp only [Act.put,sT,List.set]
        refine tw (i:=11) (d:=some 95) (fuel:=19) (v:=?_) rfl rfl ?_ HS ?_
        rotate_left
        ·intro W hW
         obtain ⟨ca,c9,r7,r8⟩:=hW
         go_simp
         try with_reducible rfl
        simp only [Act.put,sT,List.set]
        refine tw (i:=12) (d:=some 96) (fuel:=18) (v:=?_) rfl rfl ?_ HS ?_
        rotate_left
        ·intro W hW
         obtain ⟨ca,c9,r7,r8⟩:=hW
         go_simp
         try with_reducible rfl
        simp only [Act.put,sT,List.set]
        refine tk (i:=13) (d:=some 97) (fuel:=17) (v:=.agg (PP.cells pp)) rfl rfl (Or.inl ⟨by rfl,fun W hW=>exec_mid (.tmp 96) rfl rfl hW.2.2.1 Tryz.underlying51 rfl Tryz.sizePage⟩) HS ?_
        simp only [Act.put,sT,List.set]
        refine tw (i:=14) (d:=some 98) (fuel:=16) (v:=?_) rfl rfl ?_ HS ?_
        rotate_left
        ·intro W hW
         obtain ⟨ca,c9,r7,r8⟩:=hW
         go_simp
         try with_reducible rfl
        simp only [Act.put,sT,List.set]
        refine tw (i:=15) (d:=some 99) (fuel:=15) (v:=?_) rfl rfl ?_ HS ?_
        rotate_left
        ·intro W hW
         obtain ⟨ca,c9,r7,r8⟩:=hW
         go_simp
         try with_reducible rfl
        simp only [Act.put,sT,List.set]
        refine wpAnyH_all (fuel:=14) (rs:=[16]) (by kernel_rfl) (by simp) ?_
        intro i hi
        obtain rfl:i=16:=by simpa using hi
        clear hi
        refine call_at (d:=some 100) rfl rfl (by rfl) 22 #[.pointer (some ⟨hb1,0,none⟩),.int .i64 (k:Int)] (by kernel_rfl) ?_
        refine (CP.out _ BZ).mono ?_
        rintro e y1 ⟨v1,rfl,o1,b1⟩
        have BZ1:=BZ.trans (b1.mono BZ.size)
        have HS1:=SS.out _ BZ1
        refine ⟨_,rfl,HS1,?_⟩
        simp only [Act.put,sT,List.set]
        refine wpAnyH_all (fuel:=13) (rs:=[17]) (by kernel_rfl) (by simp) ?_
        intro i hi
        obtain rfl:i=17:=by simpa using hi
        clear hi
        refine call_at (d:=some 101) rfl rfl (by rfl) 43 #[.agg (PP.cells pp),.agg (PP.cells v1)] (by kernel_rfl) ?_
        refine (samepage_eq PP pp v1 y1 (reads_own (OP.out _ BZ1)) (reads_own o1)).mono ?_
        rintro e y2 ⟨rfl,b2⟩
        have BZ2:=BZ1.trans (b2.mono BZ1.size)
        have HS2:=SS.out _ BZ2
        refine ⟨_,rfl,HS2,?_⟩
        simp only [Act.put,sT,List.set]
        refine tw (i:=18) (d:=some 102) (fuel:=12) (v:=?_) rfl rfl ?_ HS2 ?_
        rotate_left
        ·intro W hW
         obtain ⟨ca,c9,r7,r8⟩:=hW
         go_simp
         try with_reducible rfl
        simp only [Act.put,sT,List.set]
        refine tw (i:=19) (d:=some 103) (fuel:=11) (v:=?_) rfl rfl ?_ HS2 ?_
        rotate_left
        ·intro W hW
         obtain ⟨ca,c9,r7,r8⟩:=hW
         go_simp
         try with_reducible rfl
        simp only [Act.put,sT,List.set]
        refine tw (i:=20) (d:=some 104) (fuel:=10) (v:=?_) rfl rfl ?_ HS2 ?_
        rotate_left
        ·intro W hW
         obtain ⟨ca,c9,r7,r8⟩:=hW
         go_simp
         try with_reducible rfl
        simp only [Act.put,sT,List.set]
        refine tw (i:=21) (d:=some 105) (fuel:=9) (v:=?_) rfl rfl ?_ HS2 ?_
        rotate_left
        ·intro W hW
         obtain ⟨ca,c9,r7,r8⟩:=hW
         go_simp
         try with_reducible rfl
        simp only [Act.put,sT,List.set]
        refine tw (i:=22) (d:=some 106) (fuel:=8) (v:=?_) rfl rfl ?_ HS2 ?_
        rotate_left
        ·intro W hW
         obtain ⟨ca,c9,r7,r8⟩:=hW
         go_simp
         try with_reducible rfl
        simp only [Act.put,sT,List.set]
        refine tk (i:=23) (d:=some 107) (fuel:=7) (v:=.agg (QQ.cells qq)) rfl rfl (Or.inl ⟨by rfl,fun W hW=>exec_mid (.tmp 106) rfl rfl hW.2.2.2 Tryz.underlying55 rfl Tryz.sizeLine⟩) HS2 ?_
        simp only [Act.put,sT,List.set]
        refine tw (i:=24) (d:=some 108) (fuel:=6) (v:=?_) rfl rfl ?_ HS2 ?_
        rotate_left
        ·intro W hW
         obtain ⟨ca,c9,r7,r8⟩:=hW
         go_simp
         try with_reducible rfl
        simp only [Act.put,sT,List.set]
        refine tw (i:=25) (d:=some 109) (fuel:=5) (v:=?_) rfl rfl ?_ HS2 ?_
        rotate_left
        ·intro W hW
         obtain ⟨ca,c9,r7,r8⟩:=hW
         go_simp
         try with_reducible rfl
        simp only [Act.put,sT,List.set]
        refine wpAnyH_all (fuel:=4) (rs:=[26]) (by kernel_rfl) (by simp) ?_
        intro i hi
        obtain rfl:i=26:=by simpa using hi
        clear hi
        refine call_at (d:=some 110) rfl rfl (by rfl) 24 #[.pointer (some ⟨hb1,0,none⟩),.int .i64 (k:Int)] (by kernel_rfl) ?_
        refine (CQ.out _ BZ2).mono ?_
        rintro e y3 ⟨v3,rfl,o3,b3⟩
        have BZ3:=BZ2.trans (b3.mono BZ2.size)
        have HS3:=SS.out _ BZ3
        refine ⟨_,rfl,HS3,?_⟩
        simp only [Act.put,sT,List.set]
        refine wpAnyH_all (fuel:=3) (rs:=[27]) (by kernel_rfl) (by simp) ?_
        intro i hi
        obtain rfl:i=27:=by simpa using hi
        clear hi
        refine call_at (d:=some 111) rfl rfl (by rfl) 44 #[.agg (QQ.cells qq),.agg (QQ.cells v3)] (by kernel_rfl) ?_
        refine (sameline_eq QQ qq v3 y3 (reads_own (OQ.out _ BZ3)) (reads_own o3)).mono ?_
        rintro e y4 ⟨rfl,b4⟩
        have BZ4:=BZ3.trans (b4.mono BZ3.size)
        have HS4:=SS.out _ BZ4
        refine ⟨_,rfl,HS4,?_⟩
        simp only [Act.put,sT,List.set]
        refine tw (i:=28) (d:=some 112) (fuel:=2) (v:=?_) rfl rfl ?_ HS4 ?_
        rotate_left
        ·intro W hW
         obtain ⟨ca,c9,r7,r8⟩:=hW
         go_simp
         try with_reducible rfl
        simp only [Act.put,sT,List.set]
        refine tw (i:=29) (d:=some 113) (fuel:=1) (v:=?_) rfl rfl ?_ HS4 ?_
        rotate_left
        ·intro W hW
         obtain ⟨ca,c9,r7,r8⟩:=hW
         go_simp
         try with_reducible rfl
        simp only [Act.put,sT,List.set]
        refine tw (i:=30) (d:=some 114) (fuel:=0) (v:=?_) rfl rfl ?_ HS4 ?_
        rotate_left
        ·intro W hW
         obtain ⟨ca,c9,r7,r8⟩:=hW
         go_simp
         try with_reducible rfl
        simp only [Act.put,sT,List.set]
        refine wpAnyH_done (by kernel_rfl) ?_ _
        have H10:=hide (H9.out.below BZ4)
        have A10:=hide ((BZ4.block _ (Array.getElem?_eq_some_iff.1 A9.out).1).trans A9.out)
        have R10:=hide (R9.out.below BZ4)
        clear HS HS1 HS2 HS3 HS4 BZ BZ1 BZ2 BZ3 BZ4 b1 b2 b3 b4 o1 o3 SS CP CQ OP OQ H9 A9 R9
        go_wp2
        exact ⟨⟨k+1,by omega,by go_num,H10.out,A10.out,R10.out⟩,by simp [intOf]; omega⟩
      ·obtain rfl:k=4:=by omega
       have B:=hide (HB0.out.trans (Hk.low.mono (Nat.le_of_lt hwlt)))
       clear Hk Ak Rk
       go_wp2
       go_ret
       exact ⟨rfl,B.out⟩
end Go.Proofs.YtncgcejlkmoliaaGreatDoor.Ho
