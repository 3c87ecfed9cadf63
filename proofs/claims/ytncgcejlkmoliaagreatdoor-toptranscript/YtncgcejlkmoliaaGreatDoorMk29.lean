import Derived.Test.YtncgcejlkmoliaaGreatDoorMk27
import Derived.Test.YtncgcejlkmoliaaGreatDoorMk25
import Derived.Test.YtncgcejlkmoliaaGreatDoorMh28
set_option linter.unusedVariables false
set_option maxRecDepth 100000
set_option maxHeartbeats 16000000
namespace Go.Proofs.YtncgcejlkmoliaaGreatDoor.Ho
open Go.RowKit
theorem Tryz.sizePage:(Tryz.prog.info? 51).map (·.size)=some 5:=by kernel_rfl
theorem Tryz.sizeLine:(Tryz.prog.info? 55).map (·.size)=some 4:=by kernel_rfl
theorem Tryz.sizeTelnet:(Tryz.prog.info? 79).map (·.size)=some 10:=by kernel_rfl
theorem Tryz.sizeStrs:(Tryz.prog.info? 47).map (·.size)=some 1:=by kernel_rfl
theorem Tryz.sizeInt:(Tryz.prog.info? 3).map (·.size)=some 1:=by kernel_rfl
theorem Tryz.zPage:(Tryz.prog.info? 51).map (fun i=>(i.zero,i.size))=some (some (.agg (Pa.zp.cells (.slice none 0 0))),5):=by kernel_rfl
theorem Tryz.zLine:(Tryz.prog.info? 55).map (fun i=>(i.zero,i.size))=some (some (.agg (Li.zl.cells (.slice none 0 0))),4):=by kernel_rfl
theorem Tryz.zTelnet:(Tryz.prog.info? 79).map (fun i=>(i.zero,i.size))=some (some Te.zt.val,10):=by kernel_rfl
section
variable {ops:Array Oper} {rest:List Oper} {op:Oper} {a:Act} {w:World} {Q:Exit→Act→World→Prop} {k:Nat} {S:Se} {vq vp vt:Value}
theorem SeV.rpage (h:w.heap[k]?=some (.cells (S.cells vq vp vt) 99 (0,0))):w.rangeAt k 14 (S.pg.cells vp).toList :=
 range_of h fun j v hj=>by
  match j,hj with
  | 0,hj | 1,hj | 2,hj | 3,hj | 4,hj=>exact hj
  | j+5,hj=>simp [Pa.Pg.cells] at hj
theorem SeV.rlin (h:w.heap[k]?=some (.cells (S.cells vq vp vt) 99 (0,0))):w.rangeAt k 10 (S.lin.cells vq).toList :=
 range_of h fun j v hj=>by
  match j,hj with
  | 0,hj | 1,hj | 2,hj | 3,hj=>exact hj
  | j+4,hj=>simp [Li.Lin.cells] at hj
theorem SeV.rtel (h:w.heap[k]?=some (.cells (S.cells vq vp vt) 99 (0,0))):w.rangeAt k 0 S.tel.cells.toList :=
 range_of h fun j v hj=>by
  match j,hj with
  | 0,hj | 1,hj | 2,hj | 3,hj | 4,hj | 5,hj | 6,hj | 7,hj | 8,hj | 9,hj=>exact hj
  | j+10,hj=>simp [Te.Tel.cells] at hj
theorem SeV.one (h:w.heap[k]?=some (.cells (S.cells vq vp vt) 99 (0,0))) (o:Nat):w.cell? ⟨k,o,none⟩=(S.cells vq vp vt)[o]?:=by
 simp [World.cell?,h]
theorem wl_lpage (x:Operand) (ho:op.op=.load 51 x) (hw:Region.wanted op (yielded ops a.tmps)=true) (hx:a.eval x=.pointer (some ⟨k,14,none⟩)) (hc:w.heap[k]?=some (.cells (S.cells vq vp vt) 99 (0,0)))
 (h:wpList Tryz.prog ops Q rest (a.put op.dst (.agg (S.pg.cells vp))) w):wpList Tryz.prog ops Q (op::rest) a w :=
 wl_mid 51 x ho hw k 14 (S.pg.cells vp).toList _ hx (SeV.rpage hc) Tryz.underlying51 rfl Tryz.sizePage h
theorem wl_llin (x:Operand) (ho:op.op=.load 55 x) (hw:Region.wanted op (yielded ops a.tmps)=true) (hx:a.eval x=.pointer (some ⟨k,10,none⟩)) (hc:w.heap[k]?=some (.cells (S.cells vq vp vt) 99 (0,0)))
 (h:wpList Tryz.prog ops Q rest (a.put op.dst (.agg (S.lin.cells vq))) w):wpList Tryz.prog ops Q (op::rest) a w :=
 wl_mid 55 x ho hw k 10 (S.lin.cells vq).toList _ hx (SeV.rlin hc) Tryz.underlying55 rfl Tryz.sizeLine h
theorem wl_ltel (x:Operand) (ho:op.op=.load 79 x) (hw:Region.wanted op (yielded ops a.tmps)=true) (hx:a.eval x=.pointer (some ⟨k,0,none⟩)) (hc:w.heap[k]?=some (.cells (S.cells vq vp vt) 99 (0,0)))
 (h:wpList Tryz.prog ops Q rest (a.put op.dst S.tel.val) w):wpList Tryz.prog ops Q (op::rest) a w :=
 wl_mid 79 x ho hw k 0 S.tel.cells.toList _ hx (SeV.rtel hc) Tryz.underlying79 rfl Tryz.sizeTelnet h
theorem one_pg {P:Pa.Pg} {v:Value} (hv:v.oneCell'=true):(P.cells v).all (·.oneCell')=true:=by
 rw [Array.all_eq_true_iff_forall_mem]
 intro u hu
 simp only [Pa.Pg.cells,List.mem_toArray,List.mem_cons,List.not_mem_nil,or_false] at hu
 rcases hu with rfl | rfl | rfl | rfl | rfl <;> first | exact hv | rfl
theorem one_lin {P:Li.Lin} {v:Value} (hv:v.oneCell'=true):(P.cells v).all (·.oneCell')=true:=by
 rw [Array.all_eq_true_iff_forall_mem]
 intro u hu
 simp only [Li.Lin.cells,List.mem_toArray,List.mem_cons,List.not_mem_nil,or_false] at hu
 rcases hu with rfl | rfl | rfl | rfl <;> first | exact hv | rfl
theorem one_tel {t:Te.Tel}:t.cells.all (·.oneCell')=true:=by
 rw [Array.all_eq_true_iff_forall_mem]
 intro u hu
 simp only [Te.Tel.cells,List.mem_toArray,List.mem_cons,List.not_mem_nil,or_false] at hu
 rcases hu with rfl | rfl | rfl | rfl | rfl | rfl | rfl | rfl | rfl | rfl <;> rfl
theorem wl_spage (x y:Operand) (ho:op.op=.store 51 x y) (hw:Region.wanted op (yielded ops a.tmps)=true) (P:Pa.Pg) (v:Value) (hv:v.oneCell'=true) (hx:a.eval x=.pointer (some ⟨k,14,none⟩)) (hy:a.eval y=.agg (P.cells v)) (hc:w.heap[k]?=some (.cells (S.cells vq vp vt) 99 (0,0)))
 (h:∀ W,W.heap[k]?=some (.cells (({ S with pg:=P }:Se).cells vq v vt) 99 (0,0))→Upd k w W→wpList Tryz.prog ops Q rest (a.put op.dst undef) W):wpList Tryz.prog ops Q (op::rest) a w :=
 wl_over 51 x y ho hw k 14 (P.cells v) _ _ 99 hx hy hc (by show 14+5≤21; omega) Tryz.sizePage (one_pg hv) rfl h
theorem wl_slin (x y:Operand) (ho:op.op=.store 55 x y) (hw:Region.wanted op (yielded ops a.tmps)=true) (P:Li.Lin) (v:Value) (hv:v.oneCell'=true) (hx:a.eval x=.pointer (some ⟨k,10,none⟩)) (hy:a.eval y=.agg (P.cells v)) (hc:w.heap[k]?=some (.cells (S.cells vq vp vt) 99 (0,0)))
 (h:∀ W,W.heap[k]?=some (.cells (({ S with lin:=P }:Se).cells v vp vt) 99 (0,0))→Upd k w W→wpList Tryz.prog ops Q rest (a.put op.dst undef) W):wpList Tryz.prog ops Q (op::rest) a w :=
 wl_over 55 x y ho hw k 10 (P.cells v) _ _ 99 hx hy hc (by show 10+4≤21; omega) Tryz.sizeLine (one_lin hv) rfl h
theorem wl_stel (x y:Operand) (ho:op.op=.store 79 x y) (hw:Region.wanted op (yielded ops a.tmps)=true) (t:Te.Tel) (hx:a.eval x=.pointer (some ⟨k,0,none⟩)) (hy:a.eval y=t.val) (hc:w.heap[k]?=some (.cells (S.cells vq vp vt) 99 (0,0)))
 (h:∀ W,W.heap[k]?=some (.cells (({ S with tel:=t }:Se).cells vq vp vt) 99 (0,0))→Upd k w W→wpList Tryz.prog ops Q rest (a.put op.dst undef) W):wpList Tryz.prog ops Q (op::rest) a w :=
 wl_over 79 x y ho hw k 0 t.cells _ _ 99 hx hy hc (by show 0+10≤21; omega) Tryz.sizeTelnet one_tel (by simp [over,Se.cells,Te.Tel.cells]) h
theorem wl_stold (x y:Operand) (ho:op.op=.store 47 x y) (hw:Region.wanted op (yielded ops a.tmps)=true) (v:Value) (hv:v.oneCell'=true) (hx:a.eval x=.pointer (some ⟨k,20,none⟩)) (hy:a.eval y=v) (hc:w.heap[k]?=some (.cells (S.cells vq vp vt) 99 (0,0)))
 (h:∀ W,W.heap[k]?=some (.cells (S.cells vq vp v) 99 (0,0))→Upd k w W→wpList Tryz.prog ops Q rest (a.put op.dst undef) W):wpList Tryz.prog ops Q (op::rest) a w :=
 wl_over1 47 x y ho hw k 20 v _ _ 99 hx hy hc (by show 20 < 21; omega) Tryz.sizeStrs hv rfl h
theorem wl_sbeing (x y:Operand) (ho:op.op=.store 3 x y) (hw:Region.wanted op (yielded ops a.tmps)=true) (b:Int) (hx:a.eval x=.pointer (some ⟨k,19,none⟩)) (hy:a.eval y=.int .i64 b) (hc:w.heap[k]?=some (.cells (S.cells vq vp vt) 99 (0,0)))
 (h:∀ W,W.heap[k]?=some (.cells (({ S with being:=b }:Se).cells vq vp vt) 99 (0,0))→Upd k w W→wpList Tryz.prog ops Q rest (a.put op.dst undef) W):wpList Tryz.prog ops Q (op::rest) a w :=
 wl_over1 3 x y ho hw k 19 (.int .i64 b) _ _ 99 hx hy hc (by show 19 < 21; omega) Tryz.sizeInt rfl rfl h
end
theorem plays_any {w:World} {k:Nat} {S:Se} {vq vp vt:Value} (h:w.heap[k]?=some (.cells (S.cells vq vp vt) 99 (0,0))) :
 Calls Tryz.prog 53 #[.pointer (some ⟨k,0,none⟩)] w fun e w'=>e=.returned (.bool (plays S))∧w'=w:=by
 have c19:w.cell? ⟨k,19,none⟩=some (.int .i64 S.being):=SeV.one h 19
 clear h
 go_enter Tryz.func53,Tryz.ntmps53
 go_wp2
 go_ret
 exact ⟨rfl,rfl⟩
theorem slice_one {w:World} {v:Value} {q:List ByteArray} (h:Reads w v q):v.oneCell'=true:=by
 obtain ⟨av,cap,rfl,_⟩:=h; rfl
theorem own_one {w:World} {base T sz n:Nat} {v:Value} {xs:List Value} (h:w.ownsRow base T sz v n xs):v.oneCell'=true:=by
 rcases h.2 with ⟨rfl,_⟩ | ⟨g,cap,cur,rfl,_⟩ <;> rfl
theorem SeV.paged {w w1 W:World} {k:Nat} {S:Se} {vq vp vt v:Value} {P:Pa.Pg} (h:SeV w k S vq vp vt) (hb:Below w.heap.size w w1) (hr:Reads w1 v P.wait) (hf:Far (w.heap.size+2) v)
 (hW:W.heap[k]?=some (.cells (({ S with pg:=P }:Se).cells vq v vt) 99 (0,0))) (hu:Upd k w1 W):SeP k w vq vp vt W { S with pg:=P } vq v vt:=by
 have h1:=(h.below hb).v
 have hk:=h.lt
 refine ⟨h1.page (w0:=w) hW hu hr (.inr (hf.mono (by omega))) hk (fun g hg=>(own_lt h.t g hg).2),hu.os.trans hb.os,hu.tape.trans hb.tape,hu.output.trans hb.output,by rw [hu.size]; exact hb.size,fun n hn hne _=>by rw [hu.block n hne]; exact hb.block n hn,.inl rfl,.inl rfl,.inr (hf.mono (by omega))⟩
theorem send_any {w:World} {k:Nat} {S:Se} {vq vp vt:Value} (h:SeV w k S vq vp vt) (hs:Pa.Small S.pg) (s:ByteArray) (hz:s.size≤maxLen) :
 Calls Tryz.prog 102 #[.pointer (some ⟨k,0,none⟩),.string s] w fun e w'=>e=.returned (.tuple #[])∧∃ vp',SeP k w vq vp vt w' (sendS S s) vq vp' vt:=by
 have H:=hide h
 clear h
 go_enter Tryz.func102,Tryz.ntmps102
 go_wp2_with (refine wl_lpage (.tmp 8) rfl rfl rfl H.out.cell ?_)
 refine (Pa.send_any S.pg s vp w H.out.p hs hz).mono ?_
 rintro e w1 ⟨v1,rfl,hr1,hf1,hb1⟩
 have C1:=hide ((hb1.block _ H.out.lt).trans H.out.cell)
 have hv1:=slice_one hr1
 have K:=hide (fun W hW hu=>SeV.paged (W:=W) H.out hb1 (P:=Pa.sendR S.pg s) (by rw [show (Pa.sendR S.pg s).wait=S.pg.wait by unfold Pa.sendR; split <;> simp [Pa.sent_wait]]; exact hr1) hf1 hW hu)
 clear hr1 hf1 hb1 H
 go_wp2_with (refine wl_spage (.tmp 15) (.tmp 12) rfl rfl _ _ hv1 rfl rfl C1.out ?_; intro W g1 u1)
 go_end0
 exact ⟨rfl,_,K.out W g1 u1⟩
open Go.RowKit
theorem SeV.more {W w3 W2:World} {k:Nat} {S:Se} {vq vp vt v3:Value} {o:Obj} {s:ByteArray} (h:SeV W k S vq vp vt) (ho:w3.ownsRow (k+1) 9 1 v3 (S.told.length+1) (scells S.told++scells [s])) (hg:(W.alloc o).grownBy w3 vt.ownBlock)
 (hv:v3.ownBlock=vt.ownBlock∨v3.ownBlock=some (W.heap.size+1)) (hW:W2.heap[k]?=some (.cells (S.cells vq vp v3) 99 (0,0))) (hu:Upd k w3 W2):SeP k W vq vp vt W2 { S with told:=S.told++[s] } vq vp v3:=by
 have hk:=h.lt
 have hb:∀ n,n < W.heap.size→n ≠ k→vt.ownBlock ≠ some n→W2.heap[n]?=W.heap[n]?:=fun n hn hne ht=>by
  rw [hu.block n hne,hg.block n (by simp; omega) (fun e=>ht e.symm),Below.heap_alloc _ _ _ hn]
 have hq:0 < S.lin.q.length→∀ b off n c,vq=.slice (some ⟨b,off,none⟩) n c→W2.heap[b]?=W.heap[b]?:=fun h0 b off n c e=>hb b (h.q.lt h0 b off n c e) (h.qk h0 b off n c e) (fun ht=>h.qt b ht h0 b off n c e rfl)
 have hp:0 < S.pg.wait.length→∀ b off n c,vp=.slice (some ⟨b,off,none⟩) n c→W2.heap[b]?=W.heap[b]?:=fun h0 b off n c e=>hb b (h.p.lt h0 b off n c e) (h.pk h0 b off n c e) (fun ht=>h.pt b ht h0 b off n c e rfl)
 refine ⟨⟨hW,Reads.same h.q hq,Reads.same h.p hp,?_,h.qk,h.pk,fun g e=>?_,fun g e=>?_⟩,?_,?_,?_,?_,hb,?_,.inl rfl,.inl rfl⟩
 ·have:=own_same ho (w':=W2) fun g e=>hu.block g (by have:=own_lt ho g e; omega)
  simpa [scells] using this
 ·rcases hv with e2 | e2
  ·exact h.qt g (by rw [← e2]; exact e)
  ·rw [e2] at e; injection e with e; subst e
   exact off_old h.q (by omega)
 ·rcases hv with e2 | e2
  ·exact h.pt g (by rw [← e2]; exact e)
  ·rw [e2] at e; injection e with e; subst e
   exact off_old h.p (by omega)
 ·rw [hu.os,hg.os]; rfl
 ·rw [hu.tape,hg.tape]; rfl
 ·rw [hu.output,hg.output]; rfl
 ·rw [hu.size]; have:=hg.size; simp at this; omega
 ·rcases hv with e2 | e2
  ·exact .inl e2
  ·exact .inr (.inr ⟨_,e2,by omega⟩)
theorem tell_any {w:World} {k:Nat} {S:Se} {vq vp vt:Value} (h:SeV w k S vq vp vt) (hs:Pa.Small S.pg) (hl:S.told.length≤1000000) (s:ByteArray) :
 Calls Tryz.prog 103 #[.pointer (some ⟨k,0,none⟩),.string s] w fun e w'=>e=.returned (.tuple #[])∧∃ vp' vt',SeP k w vq vp vt w' (tellS S s) vq vp' vt':=by
 have H:=hide h
 obtain ⟨i0,hi0,hz0,hz1,hz2⟩:=info_parts Tryz.info9
 clear h
 go_enter Tryz.func103,Tryz.ntmps103
 go_upto_region 1 with (refine wl_lpage (.tmp 8) rfl rfl rfl H.out.cell ?_)
 refine (Pa.tell_any S.pg s vp w H.out.p hs).mono ?_
 rintro e w1 ⟨v1,rfl,hr1,hf1,hb1⟩
 have C1:=hide ((hb1.block _ H.out.lt).trans H.out.cell)
 have hv1:=slice_one hr1
 have K:=hide (fun W hW hu=>SeV.paged (W:=W) H.out hb1 (P:=Pa.tellP S.pg s) hr1 hf1 hW hu)
 have HT:Hid (tellS S s={ S with pg:=Pa.tellP S.pg s,told:=if (Pa.tellP S.pg s).cut=true then S.told else S.told++[s] }):=hide rfl
 generalize Pa.tellP S.pg s=P at *
 clear hr1 hf1 hb1 H
 go_upto_region 1 with (refine wl_spage (.tmp 15) (.tmp 12) rfl rfl _ _ hv1 rfl rfl C1.out ?_; intro W g1 u1)
 have K1:=hide (K.out W g1 u1)
 have c18:W.cell? ⟨k,18,none⟩=some (.bool P.cut):=SeV.one g1 18
 have c20:W.cell? ⟨k,20,none⟩=some vt:=SeV.one g1 20
 clear K C1
 cases hc:P.cut with
 | true =>
  rw [hc] at c18 HT
  clear c20 hc
  go_wp2
  go_end0
  exact ⟨rfl,_,_,by rw [HT.out]; exact K1.out⟩
 | false =>
  rw [hc] at c18 HT
  have hlt:=K1.out.v.lt
  have A1:=K1.out.v.t
  have G1:=hide ((Below.heap_alloc W (.cells #[.string s] 9) _ hlt).trans g1)
  clear hc
  go_wp2_with (at_builtin; refine wpList_append_own_at _ rfl (.tmp 26) (.tmp 28) 47 rfl (k+1) 9 i0 (.string ⟨#[]⟩) 1 16 Tryz.underlying47 hi0 hz0 hz1 hz2 rfl (by decide) _ S.told.length (scells S.told) rfl (A1.alloc _) ⟨W.heap.size,0,none⟩ 1 1 (scells [s]) rfl ?a1 ?a2 (scells_one _) ?a3 ?a4 ?a5 ?_)
  case a1=>rfl
  case a2 =>
   intro j u hj
   cases j with
   | zero=>simp [scells] at hj; subst hj; rfl
   | succ j=>simp [scells] at hj
  case a3=>unfold maxLen; omega
  case a4=>omega
  case a5=>omega
  intro v3 w3 ho3 hg3 _ hv3
  have C3:=hide ((hg3.block k (by simp; omega) (fun e=>by have:=own_lt A1 k e.symm; omega)).trans G1.out)
  have hv3':=own_one ho3
  have K2:=hide (fun W2 hW hu=>K1.out.trans (SeV.more (W2:=W2) K1.out.v ho3 hg3 hv3 hW hu))
  clear ho3 hg3 hv3 G1 A1 K1 g1 u1
  go_wp2_with (refine wl_stold (.tmp 31) (.tmp 29) rfl rfl _ hv3' rfl rfl C3.out ?_; intro W2 g2 u2)
  go_end0
  exact ⟨rfl,_,_,by rw [HT.out]; exact K2.out W2 g2 u2⟩
open Go.RowKit
structure Hh (k g:Nat) (E:Ev) (S:Se) (W:World):Prop where
 cev:Cev W g E
 being:W.cell? ⟨k,19,none⟩=some (.int .i64 S.being)
theorem Hh.call {k g:Nat} {E:Ev} {S:Se} {W W':World} (h:Hh k g E S W) (hb:Below W.heap.size W W'):Hh k g E S W' :=
 ⟨h.cev.behind hb (Nat.le_refl _),by rw [hb.cell (p:=⟨k,19,none⟩) (cell_lt h.being)]; exact h.being⟩
theorem tell_two (E:Ev) (S:Se):∃ (t:ByteArray) (ok:Bool),tellA (tellL E S.being)=.tuple #[.string t,.bool ok]∧hearS E S=if ok=true then tellS S t else S:=by
 unfold hearS
 cases tellL E S.being with
 | none=>exact ⟨⟨#[]⟩,false,rfl,rfl⟩
 | some t=>exact ⟨bs t,true,rfl,rfl⟩
theorem hear_any {w:World} {k:Nat} {S:Se} {vq vp vt:Value} (h:SeV w k S vq vp vt) (hs:Pa.Small S.pg) (hl:S.told.length≤1000000) (E:Ev) (hE:Fit E) (hv:Vb w) (ha:∀ w',Below w.heap.size w w'→Ai w') :
 Calls Tryz.prog 130 #[.pointer (some ⟨k,0,none⟩),.agg E.cells] w fun e w'=>e=.returned (.tuple #[])∧∃ vp' vt',SeP k w vq vp vt w' (hearS E S) vq vp' vt':=by
 have H:=hide h
 have HV:=hide hv
 have HA:=ha
 have HR:Hh k w.heap.size E S (w.alloc (.cells E.cells 71)).drew:=⟨cev_new w E,by
  show (w.alloc (.cells E.cells 71)).cell? _=_
  rw [World.cell?_alloc_past _ _ _ h.lt]; exact SeV.one h.cell 19⟩
 have BB:Below w.heap.size w (w.alloc (.cells E.cells 71)).drew:=((Below.refl _ _).alloc (Nat.le_refl _) _).drew
 clear h hv ha
 go_enter Tryz.func130,Tryz.ntmps130
 go_wp2_with fail
 refine wp_region_held (S:=Hh k w.heap.size E S) (by kernel_rfl) ?_
 change wpAnyH _ _ _ _ _ _ _ _ (w.alloc (.cells E.cells 71)).drew
 generalize (w.alloc (.cells E.cells 71)).drew=W0 at HR BB ⊢
 refine tk (i:=0) (d:=some 7) (fuel:=10) (v:=.agg E.cells) rfl rfl (Or.inl ⟨by rfl,fun W hW=>exec_event (.tmp 3) rfl _ rfl hW.cev⟩) HR ?_
 simp only [Act.put,sT,List.set]
 refine tw (i:=1) (d:=some 8) (fuel:=9) (v:=?_) rfl rfl ?_ HR ?_
 rotate_left
 ·intro W hW
  have hc:=hW.being
  go_simp
  try with_reducible rfl
 simp only [Act.put,sT,List.set]
 refine tw (i:=2) (d:=some 9) (fuel:=8) (v:=?_) rfl rfl ?_ HR ?_
 rotate_left
 ·intro W hW
  have hc:=hW.being
  go_simp
  try with_reducible rfl
 simp only [Act.put,sT,List.set]
 refine tw (i:=3) (d:=some 10) (fuel:=7) (v:=?_) rfl rfl ?_ HR ?_
 rotate_left
 ·intro W hW
  have hc:=hW.being
  go_simp
  try with_reducible rfl
 simp only [Act.put,sT,List.set]
 refine tw (i:=4) (d:=some 11) (fuel:=6) (v:=?_) rfl rfl ?_ HR ?_
 rotate_left
 ·intro W hW
  have hc:=hW.being
  go_simp
  try with_reducible rfl
 simp only [Act.put,sT,List.set]
 refine wpAnyH_all (fuel:=5) (rs:=[5]) (by kernel_rfl) (by simp) ?_
 intro i hi
 obtain rfl:i=5:=by simpa using hi
 clear hi
 refine call_at (d:=some 12) rfl rfl (by rfl) 35 #[.agg E.cells,.int .i64 S.being] (by kernel_rfl) ?_
 refine (tell_fit E S.being _ (HV.out.below BB (Nat.le_refl _)) (HA _ BB) hE).mono ?_
 rintro e x1 ⟨rfl,hb⟩
 have B1:=hide (BB.trans (hb.mono BB.size))
 have HR1:=HR.call hb
 clear hb
 obtain ⟨t,ok,hTA,hHT⟩:=tell_two E S
 rw [hTA]
 have HT:=hide hHT
 clear hTA hHT
 refine ⟨_,rfl,HR1,?_⟩
 simp only [Act.put,sT,List.set]
 refine tw (i:=6) (d:=some 6) (fuel:=4) (v:=?_) rfl rfl ?_ HR1 ?_
 rotate_left
 ·intro W hW
  have hc:=hW.being
  go_simp
  try with_reducible rfl
 simp only [Act.put,sT,List.set]
 refine tw (i:=7) (d:=some 13) (fuel:=3) (v:=?_) rfl rfl ?_ HR1 ?_
 rotate_left
 ·intro W hW
  have hc:=hW.being
  go_simp
  try with_reducible rfl
 simp only [Act.put,sT,List.set]
 refine tw (i:=8) (d:=some 14) (fuel:=2) (v:=?_) rfl rfl ?_ HR1 ?_
 rotate_left
 ·intro W hW
  have hc:=hW.being
  go_simp
  try with_reducible rfl
 simp only [Act.put,sT,List.set]
 refine tw (i:=9) (d:=some 4) (fuel:=1) (v:=?_) rfl rfl ?_ HR1 ?_
 rotate_left
 ·intro W hW
  have hc:=hW.being
  go_simp
  try with_reducible rfl
 simp only [Act.put,sT,List.set]
 refine tw (i:=10) (d:=some 5) (fuel:=0) (v:=?_) rfl rfl ?_ HR1 ?_
 rotate_left
 ·intro W hW
  have hc:=hW.being
  go_simp
  try with_reducible rfl
 simp only [Act.put,sT,List.set]
 refine wpAnyH_done (by kernel_rfl) ?_ _
 have K1:=hide (H.out.below B1.out)
 clear HR HR1 BB HV HA
 cases ok with
 | false =>
  go_wp2
  go_end0
  exact ⟨rfl,_,_,by rw [HT.out]; exact K1.out⟩
 | true =>
  go_wp2_with fail
  refine (tell_any K1.out.v hs hl t).mono ?_
  rintro e x2 ⟨rfl,vp2,vt2,K2⟩
  have K3:=hide (K1.out.trans K2)
  clear K2 K1
  go_wp2
  go_end0
  exact ⟨rfl,_,_,by rw [HT.out]; exact K3.out⟩
open Go.RowKit
theorem take_any {w:World} {k:Nat} {S:Se} {vq vp vt:Value} (h:SeV w k S vq vp vt) (hs:Pa.Small S.pg) (n:Int) :
 Calls Tryz.prog 85 #[.pointer (some ⟨k,0,none⟩),.int .i64 n] w fun e w'=>e=.returned (.string (outS S n))∧∃ vp',SeP k w vq vp vt w' (takeS S n) vq vp' vt:=by
 have H:=hide h
 clear h
 have HO:Hid (outS S n=S.pg.ring.extract 0 (Pa.kOf S.pg n)):=hide rfl
 have HT:Hid (takeS S n={ S with pg:=Pa.takeP S.pg n }):=hide rfl
 go_enter Tryz.func85,Tryz.ntmps85
 go_upto_region 2 with (refine wl_lpage (.tmp 10) rfl rfl rfl H.out.cell ?_)
 refine (Pa.take_any S.pg n vp w H.out.p hs).mono ?_
 rintro e w1 ⟨v1,rfl,hr1,hf1,hb1⟩
 have C1:=hide (((Below.heap_alloc w1 (.cells ((Pa.takeP S.pg n).cells v1) 51) _ (Nat.lt_of_lt_of_le H.out.lt hb1.size)).trans (hb1.block _ H.out.lt)).trans H.out.cell)
 have hv1:=slice_one hr1
 have R1:Reads w1 v1 (Pa.takeP S.pg n).wait:=hr1
 have K:=hide (fun W hW hu=>SeV.paged (W:=W) H.out (hb1.alloc hb1.size (.cells ((Pa.takeP S.pg n).cells v1) 51)) (P:=Pa.takeP S.pg n) (R1.alloc _) hf1 hW hu)
 generalize Pa.takeP S.pg n=P at *
 generalize S.pg.ring.extract 0 (Pa.kOf S.pg n)=O at *
 have P0:=hide (heap_alloc_new w1 (.cells (P.cells v1) 51))
 have hz:=(zero_of_info Tryz.zPage).1
 clear hr1 hf1 hb1 H R1
 go_wp2_with (first | (refine wl_new 51 (.tmp 5) (.tmp 14) rfl rfl _ _ rfl rfl rfl Tryz.sizePage rfl (one_pg hv1) ?_) | (refine wl_wanted rfl (wp_load_row 51 (.tmp 5) rfl w1.heap.size rfl 51 (P.cells v1) (0,0) _ P0.out Tryz.underlying51 rfl Tryz.sizePage ?_)) | (refine wl_spage (.tmp 19) (.tmp 17) rfl rfl _ _ hv1 rfl rfl C1.out ?_; intro W g1 u1))
 go_ret
 exact ⟨by rw [HO.out]; rfl,_,by rw [HT.out]; exact K.out W g1 u1⟩
theorem seat_cell {k o:Nat} {v:Value} {W W':World} (h:W.cell? ⟨k,o,none⟩=some v) (hb:Below W.heap.size W W'):W'.cell? ⟨k,o,none⟩=some v:=by
 rw [hb.cell (p:=⟨k,o,none⟩) (cell_lt h)]; exact h
theorem exec_page {a:Act} {op:Oper} {w:World} (x:Operand) (ho:op.op=.load 51 x) {k:Nat} {S:Se} {vq vp vt:Value} (hx:a.eval x=.pointer (some ⟨k,14,none⟩)) (hc:w.heap[k]?=some (.cells (S.cells vq vp vt) 99 (0,0))) :
 (execOp a.eval op).run Tryz.prog w=.ok (.value (.agg (S.pg.cells vp))) w:=by
 have hl:(Instr.loadAt 51 (.pointer (some ⟨k,14,none⟩))).run Tryz.prog w=.ok (.agg (S.pg.cells vp)) w:=by
  simp only [Instr.loadAt,Instr.sureAddr,Sem.run_bind,Sem.run_pure,Result.andThen_ok]
  exact run_loadVar_mid (P:=Tryz.prog) w k 14 51 (S.pg.cells vp).toList _ (SeV.rpage hc) Tryz.underlying51 rfl Tryz.sizePage
 unfold execOp
 simp only [ho,hx,Sem.run_bind,hl,Result.andThen_ok,Sem.run_pure]
theorem over_page (S:Se) (vq vp vt v:Value) (P:Pa.Pg):over (S.cells vq vp vt) 14 (P.cells v).toList=({ S with pg:=P }:Se).cells vq v vt:=rfl
theorem over_lin (S:Se) (vq vp vt v:Value) (P:Li.Lin):over (S.cells vq vp vt) 10 (P.cells v).toList=({ S with lin:=P }:Se).cells v vp vt:=rfl
theorem exec_spage {a:Act} {op:Oper} {w:World} (x y:Operand) (ho:op.op=.store 51 x y) {k:Nat} {S:Se} {vq vp vt v:Value} {P:Pa.Pg} (hx:a.eval x=.pointer (some ⟨k,14,none⟩)) (hy:a.eval y=.agg (P.cells v)) (hc:w.heap[k]?=some (.cells (S.cells vq vp vt) 99 (0,0))) (hv:v.oneCell'=true) :
 (execOp a.eval op).run Tryz.prog w=.ok .skip (w.setCells k 14 (P.cells v).toList):=by
 have:=run_storeAt_mid (P:=Tryz.prog) w k 14 51 (P.cells v) (there_of hc (by show 14+5≤21; omega)) Tryz.sizePage (one_pg hv)
 unfold execOp
 simp only [ho,hx,hy,Sem.run_bind,this,Result.andThen_ok,Sem.run_pure]
theorem exec_slin {a:Act} {op:Oper} {w:World} (x y:Operand) (ho:op.op=.store 55 x y) {k:Nat} {S:Se} {vq vp vt v:Value} {P:Li.Lin} (hx:a.eval x=.pointer (some ⟨k,10,none⟩)) (hy:a.eval y=.agg (P.cells v)) (hc:w.heap[k]?=some (.cells (S.cells vq vp vt) 99 (0,0))) (hv:v.oneCell'=true) :
 (execOp a.eval op).run Tryz.prog w=.ok .skip (w.setCells k 10 (P.cells v).toList):=by
 have:=run_storeAt_mid (P:=Tryz.prog) w k 10 55 (P.cells v) (there_of hc (by show 10+4≤21; omega)) Tryz.sizeLine (one_lin hv)
 unfold execOp
 simp only [ho,hx,hy,Sem.run_bind,this,Result.andThen_ok,Sem.run_pure]
theorem exec_line {a:Act} {op:Oper} {w:World} (x:Operand) (ho:op.op=.load 55 x) {g:Nat} {P:Li.Lin} {v:Value} (hx:a.eval x=.pointer (some ⟨g,0,none⟩)) (hc:w.heap[g]?=some (.cells (P.cells v) 55 (0,0))) :
 (execOp a.eval op).run Tryz.prog w=.ok (.value (.agg (P.cells v))) w:=by
 have hl:(Instr.loadAt 55 (.pointer (some ⟨g,0,none⟩))).run Tryz.prog w=.ok (.agg (P.cells v)) w:=by
  simp only [Instr.loadAt,Instr.sureAddr,Sem.run_bind,Sem.run_pure,Result.andThen_ok]
  exact run_loadVar_row w g 55 55 (P.cells v) (0,0) _ hc Tryz.underlying55 rfl Tryz.sizeLine
 unfold execOp
 simp only [ho,hx,Sem.run_bind,hl,Result.andThen_ok,Sem.run_pure]
theorem flow_any {w:World} {k:Nat} {S:Se} {vq vp vt:Value} (h:SeV w k S vq vp vt) (hs:Pa.Small S.pg) (hall:Pa.goodP S.pg=true→∀ s ∈ S.pg.wait,s.size≤1048576) :
 Calls Tryz.prog 110 #[.pointer (some ⟨k,0,none⟩)] w fun e w'=>e=.returned (.bool (!(flowS S).pg.cut))∧∃ vp',SeP k w vq vp vt w' (flowS S) vq vp' vt:=by
 have K0:=hide (h.below ((Below.refl w.heap.size w).drew))
 have C0:=hide (show w.drew.heap[k]?=some (.cells (S.cells vq vp vt) 99 (0,0)) from h.cell)
 have HR:w.drew.cell? ⟨k,9,none⟩=some (.int .i64 S.tel.height):=SeV.one h.cell 9
 clear h
 go_enter Tryz.func110,Tryz.ntmps110
 go_wp2_with fail
 refine wp_region_held (S:=fun W=>W.cell? ⟨k,9,none⟩=some (.int .i64 S.tel.height)) (by kernel_rfl) ?_
 change wpAnyH _ _ _ _ _ _ _ _ w.drew
 generalize w.drew=W0 at *
 refine tw (i:=0) (d:=some 4) (fuel:=16) (v:=?_) rfl rfl ?_ HR ?_
 rotate_left
 ·intro W hW
  have hc:=hW
  go_simp
  try with_reducible rfl
 simp only [Act.put,sT,List.set]
 refine tw (i:=1) (d:=some 5) (fuel:=15) (v:=?_) rfl rfl ?_ HR ?_
 rotate_left
 ·intro W hW
  have hc:=hW
  go_simp
  try with_reducible rfl
 simp only [Act.put,sT,List.set]
 refine tw (i:=2) (d:=some 6) (fuel:=14) (v:=?_) rfl rfl ?_ HR ?_
 rotate_left
 ·intro W hW
  have hc:=hW
  go_simp
  try with_reducible rfl
 simp only [Act.put,sT,List.set]
 refine tw (i:=3) (d:=some 7) (fuel:=13) (v:=?_) rfl rfl ?_ HR ?_
 rotate_left
 ·intro W hW
  have hc:=hW
  go_simp
  try with_reducible rfl
 simp only [Act.put,sT,List.set]
 refine tw (i:=5) (d:=some 9) (fuel:=12) (v:=?_) rfl rfl ?_ HR ?_
 rotate_left
 ·intro W hW
  have hc:=hW
  go_simp
  try with_reducible rfl
 simp only [Act.put,sT,List.set]
 refine tw (i:=6) (d:=some 10) (fuel:=11) (v:=?_) rfl rfl ?_ HR ?_
 rotate_left
 ·intro W hW
  have hc:=hW
  go_simp
  try with_reducible rfl
 simp only [Act.put,sT,List.set]
 refine tw (i:=7) (d:=some 11) (fuel:=10) (v:=?_) rfl rfl ?_ HR ?_
 rotate_left
 ·intro W hW
  have hc:=hW
  go_simp
  try with_reducible rfl
 simp only [Act.put,sT,List.set]
 refine tw (i:=8) (d:=some 12) (fuel:=9) (v:=?_) rfl rfl ?_ HR ?_
 rotate_left
 ·intro W hW
  have hc:=hW
  go_simp
  try with_reducible rfl
 simp only [Act.put,sT,List.set]
 refine tw (i:=9) (d:=some 13) (fuel:=8) (v:=?_) rfl rfl ?_ HR ?_
 rotate_left
 ·intro W hW
  have hc:=hW
  go_simp
  try with_reducible rfl
 simp only [Act.put,sT,List.set]
 refine wpAnyH_all (fuel:=7) (rs:=[4]) (by kernel_rfl) (by simp) ?_
 intro i hi
 obtain rfl:i=4:=by simpa using hi
 clear hi
 refine run_at (d:=some 8) rfl rfl (by rfl) (exec_page (.tmp 7) rfl rfl C0.out) ?_
 refine ⟨HR,?_⟩
 simp only [Act.put,sT,List.set]
 refine wpAnyH_all (fuel:=6) (rs:=[10]) (by kernel_rfl) (by simp) ?_
 intro i hi
 obtain rfl:i=10:=by simpa using hi
 clear hi
 refine call_at (d:=some 14) rfl rfl (by rfl) 131 #[.agg (S.pg.cells vp),.int .i64 S.tel.height] (by kernel_rfl) ?_
 refine (Pa.flow_any S.pg S.tel.height vp _ K0.out.v.p hs hall).mono ?_
 rintro e x1 ⟨v1,rfl,hr1,hf1,hb1⟩
 have HR1:=seat_cell HR hb1
 have C1:=hide ((hb1.block _ K0.out.v.lt).trans C0.out)
 have hv1:=slice_one hr1
 have KK:=hide (fun W hW hu=>K0.out.trans (SeV.paged (W:=W) K0.out.v hb1 (P:=Pa.flowR S.pg S.tel.height) hr1 hf1 hW hu))
 have HT:Hid (flowS S={ S with pg:=Pa.flowR S.pg S.tel.height }):=hide rfl
 generalize Pa.flowR S.pg S.tel.height=P at *
 generalize Pa.flowE S.pg S.tel.height=C at *
 clear hr1 hf1 hb1
 refine ⟨_,rfl,HR1,?_⟩
 simp only [Act.put,sT,List.set]
 refine tw (i:=11) (d:=some 3) (fuel:=5) (v:=?_) rfl rfl ?_ HR1 ?_
 rotate_left
 ·intro W hW
  have hc:=hW
  go_simp
  try with_reducible rfl
 simp only [Act.put,sT,List.set]
 refine tw (i:=12) (d:=some 15) (fuel:=4) (v:=?_) rfl rfl ?_ HR1 ?_
 rotate_left
 ·intro W hW
  have hc:=hW
  go_simp
  try with_reducible rfl
 simp only [Act.put,sT,List.set]
 refine tw (i:=13) (d:=some 16) (fuel:=3) (v:=?_) rfl rfl ?_ HR1 ?_
 rotate_left
 ·intro W hW
  have hc:=hW
  go_simp
  try with_reducible rfl
 simp only [Act.put,sT,List.set]
 refine tw (i:=14) (d:=some 17) (fuel:=2) (v:=?_) rfl rfl ?_ HR1 ?_
 rotate_left
 ·intro W hW
  have hc:=hW
  go_simp
  try with_reducible rfl
 simp only [Act.put,sT,List.set]
 refine tw (i:=15) (d:=some 18) (fuel:=1) (v:=?_) rfl rfl ?_ HR1 ?_
 rotate_left
 ·intro W hW
  have hc:=hW
  go_simp
  try with_reducible rfl
 simp only [Act.put,sT,List.set]
 refine wpAnyH_all (fuel:=0) (rs:=[16]) (by kernel_rfl) (by simp) ?_
 intro i hi
 obtain rfl:i=16:=by simpa using hi
 clear hi
 refine skip_at (d:=none) rfl rfl (by rfl) (exec_spage (.tmp 18) (.tmp 15) rfl rfl rfl C1.out hv1) ?_
 have g1:=over_heap k 99 (P.cells v1).toList x1 _ 14 C1.out
 rw [over_page] at g1
 have u1:=over_upd k (P.cells v1).toList x1 14
 generalize x1.setCells k 14 (P.cells v1).toList=W1 at *
 have HR2:W1.cell? ⟨k,9,none⟩=some (.int .i64 S.tel.height):=SeV.one g1 9
 refine ⟨HR2,?_⟩
 simp only [Act.put]
 refine wpAnyH_done (by kernel_rfl) ?_ _
 have K1:=hide (KK.out W1 g1 u1)
 have c18:W1.cell? ⟨k,18,none⟩=some (.bool P.cut):=SeV.one g1 18
 clear HR HR1 HR2 KK C0 C1 g1 u1
 go_wp2
 go_ret
 exact ⟨by rw [HT.out]; rfl,_,by rw [HT.out]; exact K1.out⟩
end Go.Proofs.YtncgcejlkmoliaaGreatDoor.Ho
