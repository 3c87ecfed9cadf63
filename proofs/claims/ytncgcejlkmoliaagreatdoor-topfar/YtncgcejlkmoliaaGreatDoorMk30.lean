import Derived.Test.YtncgcejlkmoliaaGreatDoorMk29
import Derived.Test.YtncgcejlkmoliaaGreatDoorMk27
import Derived.Test.YtncgcejlkmoliaaGreatDoorMk25
set_option linter.unusedVariables false
set_option maxRecDepth 100000
set_option maxHeartbeats 16000000
namespace Go.Proofs.YtncgcejlkmoliaaGreatDoor.Ho
open Go.RowKit
section
variable {w w' W:World} {k B:Nat} {S S' S'':Se} {vq vp vt vq' vp' vt' vq'' vp'' v:Value}
theorem SeV.setL {P:Li.Lin} (h:SeV w k S vq vp vt) (hr:Reads w v P.q) (hf:Far B v) (hk:k < B) (ht:∀ g,vt.ownBlock=some g→g < B) (hW:W.heap[k]?=some (.cells (({ S with lin:=P }:Se).cells v vp vt) 99 (0,0))) (hu:Upd k w W):SeV W k { S with lin:=P } v vp vt :=
 ⟨hW,Reads.same hr fun h0 b off n c e=>hu.block b (by have:=hf b off n c e; omega),Reads.same h.p fun h0 b off n c e=>hu.block b (h.pk h0 b off n c e),own_same h.t fun g hg=>hu.block g (by have:=own_lt h.t g hg; omega),off_far hf hk,h.pk,fun g hg=>off_far hf (ht g hg),h.pt⟩
theorem SeV.setP {P:Pa.Pg} (h:SeV w k S vq vp vt) (hr:Reads w v P.wait) (hf:Far B v) (hk:k < B) (ht:∀ g,vt.ownBlock=some g→g < B) (hW:W.heap[k]?=some (.cells (({ S with pg:=P }:Se).cells vq v vt) 99 (0,0))) (hu:Upd k w W):SeV W k { S with pg:=P } vq v vt :=
 ⟨hW,Reads.same h.q fun h0 b off n c e=>hu.block b (h.qk h0 b off n c e),Reads.same hr fun h0 b off n c e=>hu.block b (by have:=hf b off n c e; omega),own_same h.t fun g hg=>hu.block g (by have:=own_lt h.t g hg; omega),h.qk,off_far hf hk,h.qt,fun g hg=>off_far hf (ht g hg)⟩
theorem SeV.setT {S':Se} (h:SeV w k S vq vp vt) (e1:S'.lin.q=S.lin.q) (e2:S'.pg.wait=S.pg.wait) (e3:S'.told=S.told) (hW:W.heap[k]?=some (.cells (S'.cells vq vp vt) 99 (0,0))) (hu:Upd k w W):SeV W k S' vq vp vt:=by
 refine ⟨hW,?_,?_,?_,?_,?_,fun g hg=>?_,fun g hg=>?_⟩
 ·rw [e1]; exact Reads.same h.q fun h0 b off n c e=>hu.block b (h.qk h0 b off n c e)
 ·rw [e2]; exact Reads.same h.p fun h0 b off n c e=>hu.block b (h.pk h0 b off n c e)
 ·rw [e3]; exact own_same h.t fun g hg=>hu.block g (by have:=own_lt h.t g hg; omega)
 ·rw [e1]; exact h.qk
 ·rw [e2]; exact h.pk
 ·rw [e1]; exact h.qt g hg
 ·rw [e2]; exact h.pt g hg
theorem SeP.upd (h:SeP k w vq vp vt w' S' vq' vp' vt') (hu:Upd k w' W) (hV:SeV W k S'' vq'' vp'' vt') (fq:vq''=vq∨Far w.heap.size vq'') (fp:vp''=vp∨Far w.heap.size vp''):SeP k w vq vp vt W S'' vq'' vp'' vt' :=
 ⟨hV,hu.os.trans h.os,hu.tape.trans h.tape,hu.output.trans h.output,by rw [hu.size]; exact h.size,fun n hn hk ht=>by rw [hu.block n hk]; exact h.block n hn hk ht,h.row,fq,fp⟩
end
theorem next_none {w:World} {k:Nat} {S:Se} {vq vp vt:Value} (h:SeV w k S vq vp vt) (hq:S.lin.q=[]) :
 Calls Tryz.prog 126 #[.pointer (some ⟨k,0,none⟩)] w fun e w'=>e=.returned (.tuple #[.string ⟨#[]⟩,.bool false])∧SeP k w vq vp vt w' S vq vp vt:=by
 have H:=hide h
 have hz:=(zero_of_info Tryz.zLine).1
 clear h
 go_enter Tryz.func126,Tryz.ntmps126
 go_upto_region 2 with (refine wl_llin (.tmp 11) rfl rfl rfl H.out.cell ?_)
 refine (Li.next_nil S.lin vq w H.out.q hq).mono ?_
 rintro e w1 ⟨v1,rfl,hr1,hb1⟩
 have hv1:=slice_one (show Reads w1 v1 S.lin.q from hr1)
 have K1:=hide (H.out.below (hb1.alloc hb1.size (.cells (S.lin.cells v1) 55)))
 clear hr1 hb1 H
 go_wp2_with (refine wl_new 55 (.tmp 4) (.tmp 14) rfl rfl _ _ rfl rfl rfl Tryz.sizeLine rfl (one_lin hv1) ?_)
 go_ret2
 exact ⟨rfl,K1.out⟩
theorem next_some {w:World} {k:Nat} {S:Se} {vq vp vt:Value} (h:SeV w k S vq vp vt) (hs:Pa.Small S.pg) (f:ByteArray) (r:List ByteArray) (hq:S.lin.q=f::r) (hlen:S.lin.q.length≤6) (ak:Bool) (hak:S.pg.asking=ak) :
 Calls Tryz.prog 126 #[.pointer (some ⟨k,0,none⟩)] w fun e w'=>e=.returned (if ak=true then .tuple #[.string ⟨#[]⟩,.bool false] else .tuple #[.string f,.bool true])∧∃ vq' vp',SeP k w vq vp vt w' (popS S r) vq' vp' vt:=by
 have H:=hide h
 have hz:=(zero_of_info Tryz.zLine).1
 have hkB:=h.lt
 have htB:∀ g,vt.ownBlock=some g→g < w.heap.size:=fun g hg=>(own_lt h.t g hg).2
 have HTB:=hide htB
 clear h htB
 go_enter Tryz.func126,Tryz.ntmps126
 go_upto_region 2 with (refine wl_llin (.tmp 11) rfl rfl rfl H.out.cell ?_)
 refine (Li.next_cons S.lin vq w H.out.q f r hq (by omega)).mono ?_
 rintro e w1 ⟨v0,rfl,hr1,hb1,hf0⟩
 have hr0:Reads (w1.alloc (.cells (({ S.lin with q:=r }:Li.Lin).cells v0) 55)).drew v0 r:=(show Reads w1 v0 r from hr1).alloc _
 have hv0:=slice_one hr0
 have BB:=((hb1.alloc hb1.size (.cells (({ S.lin with q:=r }:Li.Lin).cells v0) 55)).drew)
 have K0:=hide (H.out.below BB)
 have hB0:w.heap.size≤(w1.alloc (.cells (({ S.lin with q:=r }:Li.Lin).cells v0) 55)).drew.heap.size:=BB.size
 have C0:=hide ((BB.block _ hkB).trans H.out.cell)
 have HR:(w1.alloc (.cells (({ S.lin with q:=r }:Li.Lin).cells v0) 55)).drew.heap[w1.heap.size]?=some (.cells (({ S.lin with q:=r }:Li.Lin).cells v0) 55 (0,0)):=heap_alloc_new w1 _
 have hgk:w1.heap.size ≠ k:=by have:=hb1.size; omega
 have c16:(w1.alloc (.cells (({ S.lin with q:=r }:Li.Lin).cells v0) 55)).cell? ⟨k,16,none⟩=some (.bool ak):=by rw [← hak]; exact SeV.one (w:=w1.alloc _) C0.out 16
 have HP:Hid (popS S r={ S with lin:={ S.lin with q:=r },pg:=Pa.turnP S.pg }):=hide rfl
 clear hr1 hb1 BB H hq hak
 go_wp2_with (refine wl_new 55 (.tmp 4) (.tmp 14) rfl rfl _ _ rfl rfl rfl Tryz.sizeLine rfl (one_lin hv0) ?_)
 have htB:=HTB.out
 clear c16 HTB
 refine wp_region_held (S:=fun W=>W.heap[w1.heap.size]?=some (.cells (({ S.lin with q:=r }:Li.Lin).cells v0) 55 (0,0))) (by kernel_rfl) ?_
 change wpAnyH _ _ _ _ _ _ _ _ (w1.alloc (.cells (({ S.lin with q:=r }:Li.Lin).cells v0) 55)).drew
 generalize (w1.alloc (.cells (({ S.lin with q:=r }:Li.Lin).cells v0) 55)).drew=W0 at *
 generalize w1.heap.size=g at *
 refine tw (i:=0) (d:=some 24) (fuel:=13) (v:=?_) rfl rfl ?_ HR ?_
 rotate_left
 ·intro W hW
  go_simp
  try with_reducible rfl
 simp only [Act.put,sT,List.set]
 refine tw (i:=1) (d:=some 25) (fuel:=12) (v:=?_) rfl rfl ?_ HR ?_
 rotate_left
 ·intro W hW
  go_simp
  try with_reducible rfl
 simp only [Act.put,sT,List.set]
 refine tk (i:=2) (d:=some 26) (fuel:=11) (v:=.agg (({ S.lin with q:=r }:Li.Lin).cells v0)) rfl rfl (Or.inl ⟨by rfl,fun W hW=>exec_line (.tmp 4) rfl rfl hW⟩) HR ?_
 simp only [Act.put,sT,List.set]
 refine tw (i:=3) (d:=some 27) (fuel:=10) (v:=?_) rfl rfl ?_ HR ?_
 rotate_left
 ·intro W hW
  go_simp
  try with_reducible rfl
 simp only [Act.put,sT,List.set]
 refine tw (i:=4) (d:=some 28) (fuel:=9) (v:=?_) rfl rfl ?_ HR ?_
 rotate_left
 ·intro W hW
  go_simp
  try with_reducible rfl
 simp only [Act.put,sT,List.set]
 refine tw (i:=5) (d:=some 29) (fuel:=8) (v:=?_) rfl rfl ?_ HR ?_
 rotate_left
 ·intro W hW
  go_simp
  try with_reducible rfl
 simp only [Act.put,sT,List.set]
 refine wpAnyH_all (fuel:=7) (rs:=[6]) (by kernel_rfl) (by simp) ?_
 intro i hi
 obtain rfl:i=6:=by simpa using hi
 clear hi
 refine run_at (d:=some 30) rfl rfl (by rfl) (exec_page (.tmp 29) rfl rfl C0.out) ?_
 refine ⟨HR,?_⟩
 simp only [Act.put,sT,List.set]
 refine wpAnyH_all (fuel:=6) (rs:=[7]) (by kernel_rfl) (by simp) ?_
 intro i hi
 obtain rfl:i=7:=by simpa using hi
 clear hi
 refine call_at (d:=some 31) rfl rfl (by rfl) 139 #[.agg (S.pg.cells vp)] (by kernel_rfl) ?_
 refine (Pa.turn_any S.pg vp _ K0.out.v.p hs).mono ?_
 rintro e x1 ⟨v1,rfl,hr1,hf1,hb1⟩
 have HR1:x1.heap[g]?=_:=(hb1.block _ (Array.getElem?_eq_some_iff.1 HR).1).trans HR
 have C1:=hide ((hb1.block _ K0.out.v.lt).trans C0.out)
 have hv1:=slice_one hr1
 have K1:=hide (K0.out.trans (K0.out.v.below hb1))
 have RL:=hide (hr0.below hb1 (Nat.le_refl _))
 have RP:=hide hr1
 have FP:=hide (hf1.mono (Nat.le_trans hB0 (Nat.le_add_right _ 2)))
 clear hr1 hf1 hb1
 refine ⟨_,rfl,HR1,?_⟩
 simp only [Act.put,sT,List.set]
 refine tw (i:=8) (d:=some 32) (fuel:=5) (v:=?_) rfl rfl ?_ HR1 ?_
 rotate_left
 ·intro W hW
  go_simp
  try with_reducible rfl
 simp only [Act.put,sT,List.set]
 refine tw (i:=9) (d:=some 33) (fuel:=4) (v:=?_) rfl rfl ?_ HR1 ?_
 rotate_left
 ·intro W hW
  go_simp
  try with_reducible rfl
 simp only [Act.put,sT,List.set]
 refine wpAnyH_all (fuel:=3) (rs:=[10]) (by kernel_rfl) (by simp) ?_
 intro i hi
 obtain rfl:i=10:=by simpa using hi
 clear hi
 refine skip_at (d:=none) rfl rfl (by rfl) (exec_slin (.tmp 33) (.tmp 26) rfl rfl rfl C1.out hv0) ?_
 have g1:=over_heap k 99 (({ S.lin with q:=r }:Li.Lin).cells v0).toList x1 _ 10 C1.out
 rw [over_lin] at g1
 have u1:=over_upd k (({ S.lin with q:=r }:Li.Lin).cells v0).toList x1 10
 generalize x1.setCells k 10 (({ S.lin with q:=r }:Li.Lin).cells v0).toList=W1 at *
 have V1:=hide (K1.out.v.setL RL.out hf0 hkB htB g1 u1)
 have HR2:W1.heap[g]?=_:=(u1.block _ hgk).trans HR1
 have K2:=hide (K1.out.upd u1 V1.out (.inr hf0) (.inl rfl))
 have RP2:=hide (Reads.same RP.out fun h0 b off n c e=>u1.block b (by have:=FP.out b off n c e; omega))
 refine ⟨HR2,?_⟩
 simp only [Act.put]
 refine tw (i:=11) (d:=some 34) (fuel:=2) (v:=?_) rfl rfl ?_ HR2 ?_
 rotate_left
 ·intro W hW
  go_simp
  try with_reducible rfl
 simp only [Act.put,sT,List.set]
 refine tw (i:=12) (d:=some 35) (fuel:=1) (v:=?_) rfl rfl ?_ HR2 ?_
 rotate_left
 ·intro W hW
  go_simp
  try with_reducible rfl
 simp only [Act.put,sT,List.set]
 refine wpAnyH_all (fuel:=0) (rs:=[13]) (by kernel_rfl) (by simp) ?_
 intro i hi
 obtain rfl:i=13:=by simpa using hi
 clear hi
 refine skip_at (d:=none) rfl rfl (by rfl) (exec_spage (.tmp 35) (.tmp 31) rfl rfl rfl g1 hv1) ?_
 have g2:=over_heap k 99 ((Pa.turnP S.pg).cells v1).toList W1 _ 14 g1
 rw [over_page] at g2
 have u2:=over_upd k ((Pa.turnP S.pg).cells v1).toList W1 14
 generalize W1.setCells k 14 ((Pa.turnP S.pg).cells v1).toList=W2 at *
 have V2:=hide (V1.out.setP (P:=Pa.turnP S.pg) RP2.out FP.out hkB htB g2 u2)
 have HR3:W2.heap[g]?=_:=(u2.block _ hgk).trans HR2
 have K3:=hide (K2.out.upd u2 V2.out (.inr hf0) (.inr FP.out))
 refine ⟨HR3,?_⟩
 simp only [Act.put]
 refine wpAnyH_done (by kernel_rfl) ?_ _
 clear HR HR1 HR2 HR3 K2 V1 V2 C0 C1 K0 K1 RL RP RP2 g1 g2 u1 u2
 cases ak with
 | true =>
  go_wp2
  go_ret2
  exact ⟨rfl,_,_,by rw [HP.out]; exact K3.out⟩
 | false =>
  go_wp2
  go_ret2
  exact ⟨rfl,_,_,by rw [HP.out]; exact K3.out⟩
open Go.RowKit
theorem ok_small {P:Pa.Pg} (h:Pa.Ok P):Pa.Small P:=by
 have h1:=h.ring
 have h2:=h.lo
 have h3:=h.hi
 have h4:=h.len
 exact ⟨by omega,by omega,by omega,by omega⟩
theorem ok_zp:Pa.Ok Pa.zp:=⟨by decide,by decide,by decide,by decide,by simp [Pa.zp]⟩
theorem ok_sent {P:Pa.Pg} (h:Pa.Ok P) (s:ByteArray):Pa.Ok (Pa.sentP P s) :=
 ⟨Pa.sent_ring _ _ h.ring,by rw [Pa.sent_shown]; exact h.lo,by rw [Pa.sent_shown]; exact h.hi,by rw [Pa.sent_wait]; exact h.len,by rw [Pa.sent_wait]; exact h.all⟩
theorem ok_send {P:Pa.Pg} (h:Pa.Ok P) (s:ByteArray):Pa.Ok (Pa.sendR P s):=by
 unfold Pa.sendR
 split
 ·exact ok_sent h s
 ·exact h
theorem ok_tell {P:Pa.Pg} (h:Pa.Ok P) {s:ByteArray} (hs:s.size≤1048576):Pa.Ok (Pa.tellP P s):=by
 unfold Pa.tellP
 split
 ·split
  ·exact ⟨h.ring,h.lo,h.hi,h.len,h.all⟩
  ·refine ⟨h.ring,h.lo,h.hi,?_,?_⟩
   ·have:=h.len
    simp only [List.length_append,List.length_cons,List.length_nil]; omega
   ·intro x hx
    rcases List.mem_append.1 hx with hx | hx
    ·exact h.all x hx
    ·simp at hx; subst hx; exact hs
 ·exact h
theorem ok_take {P:Pa.Pg} (h:Pa.Ok P) (n:Int):Pa.Ok (Pa.takeP P n):=by
 refine ⟨?_,h.lo,h.hi,h.len,h.all⟩
 have:=h.ring
 show (P.ring.extract _ _).size≤700
 rw [ByteArray.size_extract]; omega
theorem ok_turn {P:Pa.Pg} (h:Pa.Ok P):Pa.Ok (Pa.turnP P):=⟨h.ring,by show (0:Int)≤0; omega,by show (0:Int)≤200; omega,h.len,h.all⟩
theorem ok_flowL (h:Int):∀ (q:List ByteArray) (P:Pa.Pg),P.wait=q→Pa.Ok P→Pa.Ok (Pa.flowL h q P):=by
 intro q
 induction q with
 | nil=>intro P _ hP; exact hP
 | cons f r ih =>
  intro P hw hP
  unfold Pa.flowL
  split
  ·exact hP
  ·split
   ·exact Pa.ok_asked hP
   ·exact ih _ (by unfold Pa.shownP; rw [Pa.sent_wait]) (Pa.ok_shown hP hw)
theorem ok_flow {P:Pa.Pg} (hP:Pa.Ok P) (h:Int):Pa.Ok (Pa.flowR P h):=by
 unfold Pa.flowR
 split
 ·exact ok_flowL h _ P rfl hP
 ·exact hP
structure SeOk (S:Se):Prop where
 tel:Te.Fine S.tel
 lin:Li.Fine S.lin
 pg:Pa.Ok S.pg
section
variable {S:Se}
theorem SeOk.send (h:SeOk S) (s:ByteArray):SeOk (sendS S s):=⟨h.tel,h.lin,ok_send h.pg s⟩
theorem SeOk.tell (h:SeOk S) {s:ByteArray} (hs:s.size≤1048576):SeOk (tellS S s):=⟨h.tel,h.lin,ok_tell h.pg hs⟩
theorem SeOk.got (h:SeOk S) (l:List UInt8):SeOk (gotS S l):=⟨Te.fine_feed h.tel l,Li.fine_feed h.lin _,ok_send h.pg _⟩
theorem SeOk.feed (h:SeOk S) (l:List UInt8):SeOk (feedS S l):=by
 unfold feedS
 split
 ·exact (h.got l).tell (by decide)
 ·exact h.got l
theorem SeOk.take (h:SeOk S) (n:Int):SeOk (takeS S n):=⟨h.tel,h.lin,ok_take h.pg n⟩
theorem SeOk.flow (h:SeOk S):SeOk (flowS S):=⟨h.tel,h.lin,ok_flow h.pg _⟩
theorem SeOk.pop (h:SeOk S) {f:ByteArray} {r:List ByteArray} (hq:S.lin.q=f::r):SeOk (popS S r):=by
 refine ⟨h.tel,⟨h.lin.ret,?_,h.lin.now,fun s hs=>h.lin.all s (by rw [hq]; exact List.mem_cons_of_mem _ hs)⟩,ok_turn h.pg⟩
 have:=h.lin.len
 rw [hq] at this
 simp only [List.length_cons] at this
 show r.length≤6
 omega
theorem SeOk.is (h:SeOk S) (b:Int):SeOk { S with being:=b }:=⟨h.tel,h.lin,h.pg⟩
theorem SeOk.untold (h:SeOk S):SeOk { S with told:=[] }:=⟨h.tel,h.lin,h.pg⟩
theorem fine_hello:Te.Fine helloT:=⟨by decide,by decide,by decide,fun _=>rfl,fun h=>absurd h (by decide),fun _=>rfl,by decide,by decide,rfl,rfl,by decide,by decide,by decide,by decide⟩
theorem fine_zl:Li.Fine Li.zl:=⟨fun h=>by simp [Li.zl] at h,by decide,Li.gtext_nil,fun s hs=>by simp [Li.zl] at hs⟩
theorem ok_new:SeOk newS:=(SeOk.send (S:={ zS with tel:=helloT }) ⟨fine_hello,fine_zl,ok_zp⟩ _).tell (by decide)
end
open Go.RowKit
theorem feed_any {w:World} {k:Nat} {S:Se} {vq vp vt:Value} (h:SeV w k S vq vp vt) (hS:SeOk S) (hl:S.told.length≤1000000) (s:ByteArray) (hz:s.size≤140737488351232) :
 Calls Tryz.prog 84 #[.pointer (some ⟨k,0,none⟩),.string s] w fun e w'=>e=.returned (.tuple #[])∧∃ vq' vp' vt',SeP k w vq vp vt w' (feedS S s.data.toList) vq' vp' vt':=by
 have H:=hide h
 have hz1:=(zero_of_info Tryz.zLine).1
 have hz2:=(zero_of_info Tryz.zTelnet).1
 have hlen:=Te.feed_len S.tel s.data.toList
 have hssz:s.data.toList.length=s.size:=by rw [Array.length_toList]; rfl
 have HF:Hid (feedS S s.data.toList=if 0 < (Li.feedL S.lin (Te.feedL S.tel s.data.toList).2.1).2 then tellS (gotS S s.data.toList) fastT else gotS S s.data.toList):=hide rfl
 have HG:Hid (gotS S s.data.toList={ sendS { S with tel:=(Te.feedL S.tel s.data.toList).1 } (bs (Te.feedL S.tel s.data.toList).2.2) with lin:=(Li.feedL S.lin (Te.feedL S.tel s.data.toList).2.1).1 }):=hide rfl
 have CT:=hide (fun w'=>Te.feed_good S.tel s w' hS.tel hz)
 have HO:=hide (hS.got s.data.toList)
 clear h
 generalize gotS S s.data.toList=G at *
 generalize feedS S s.data.toList=F at *
 obtain ⟨T,hT⟩:∃ T,(Te.feedL S.tel s.data.toList).1=T:=⟨_,rfl⟩
 obtain ⟨X,hX⟩:∃ X,(Te.feedL S.tel s.data.toList).2.1=X:=⟨_,rfl⟩
 obtain ⟨Y,hY⟩:∃ Y,(Te.feedL S.tel s.data.toList).2.2=Y:=⟨_,rfl⟩
 rw [hT,hX,hY] at CT
 rw [hT,hX,hY] at HG
 rw [hX] at HF
 rw [hX,hY] at hlen
 clear hT hX hY
 have hXs:(ByteArray.mk X.toArray).size≤maxLen:=by
  have:(ByteArray.mk X.toArray).size=X.length:=by simp [ByteArray.size]
  unfold maxLen; omega
 have hYs:(ByteArray.mk Y.toArray).size≤maxLen:=by
  have:(ByteArray.mk Y.toArray).size=Y.length:=by simp [ByteArray.size]
  unfold maxLen; omega
 go_enter Tryz.func84,Tryz.ntmps84
 go_upto_region 1 with (refine wl_ltel (.tmp 14) rfl rfl rfl H.out.cell ?_)
 refine (CT.out w).mono ?_
 rintro e w1 ⟨rfl,hb1⟩
 have B1:=hb1.alloc hb1.size (.cells T.cells 79)
 have K1:=hide (H.out.below B1)
 have C1:=hide K1.out.v.cell
 have T1:=hide (heap_alloc_new w1 (.cells T.cells 79))
 clear hb1 B1 H CT
 go_upto_region 2 with (first | (refine wl_new 79 (.tmp 4) (.tmp 18) rfl rfl _ T.cells rfl rfl rfl Tryz.sizeTelnet rfl one_tel ?_) | (refine wl_wanted rfl (wp_load_row 79 (.tmp 4) rfl w1.heap.size rfl 79 T.cells (0,0) _ T1.out Tryz.underlying79 rfl Tryz.sizeTelnet ?_)) | (refine wl_stel (.tmp 25) (.tmp 23) rfl rfl T rfl rfl C1.out ?_; intro W1 g1 u1))
 have K2:=hide (K1.out.upd u1 (K1.out.v.setT (S':={ S with tel:=T }) rfl rfl rfl g1 u1) (.inl rfl) (.inl rfl))
 clear g1 u1 C1 T1 K1
 go_upto_region 3 with fail
 refine (send_any K2.out.v (ok_small hS.pg) ⟨Y.toArray⟩ hYs).mono ?_
 rintro e w2 ⟨rfl,vp2,K3'⟩
 have K3:=hide (K2.out.trans K3')
 have C3:=hide K3.out.v.cell
 have hkB:=K2.out.v.lt
 have htB:∀ g,vt.ownBlock=some g→g < w2.heap.size:=fun g hg=>(own_lt K3.out.v.t g hg).2
 have HTB:=hide htB
 have hk2:=K3.out.v.lt
 clear K3' K2 htB
 go_upto_region 4 with (refine wl_llin (.tmp 32) rfl rfl rfl C3.out ?_)
 refine (Li.feed_good S.lin vq ⟨X.toArray⟩ w2 K3.out.v.q hS.lin hXs).mono ?_
 rintro e w3 ⟨v3,rfl,hr3,hb3,hf3⟩
 have hXd:(ByteArray.mk X.toArray).data.toList=X:=by simp
 rw [hXd] at hr3 ⊢
 clear hXd
 generalize Li.feedL S.lin X=q at *
 obtain ⟨N,n⟩:=q
 simp only at hr3 HG HF ⊢
 have B3:=hb3.alloc hb3.size (.cells (N.cells v3) 55)
 have hv3:=slice_one (show Reads w3 v3 N.q from hr3)
 have K4:=hide (K3.out.trans (K3.out.v.below B3))
 have C4:=hide K4.out.v.cell
 have T4:=hide (heap_alloc_new w3 (.cells (N.cells v3) 55))
 have R4:=hide ((show Reads w3 v3 N.q from hr3).alloc (.cells (N.cells v3) 55))
 have F4:Hid (Far w2.heap.size v3):=hide hf3
 have hs2:=K3.out.size
 clear hb3 B3 hr3 hf3 C3 K3
 go_upto_region 5 with (first | (refine wl_new 55 (.tmp 8) (.tmp 36) rfl rfl _ _ rfl rfl rfl Tryz.sizeLine rfl (one_lin hv3) ?_) | (refine wl_wanted rfl (wp_load_row 55 (.tmp 8) rfl w3.heap.size rfl 55 (N.cells v3) (0,0) _ T4.out Tryz.underlying55 rfl Tryz.sizeLine ?_)) | (refine wl_slin (.tmp 42) (.tmp 40) rfl rfl N v3 hv3 rfl rfl C4.out ?_; intro W4 g4 u4))
 have V5:=K4.out.v.setL R4.out F4.out hk2 HTB.out g4 u4
 have K5:=hide (K4.out.upd u4 V5 (.inr (F4.out.mono hs2)) K4.out.fp)
 rw [HG.out] at HO
 rw [HG.out] at HF
 clear g4 u4 C4 T4 V5 R4 F4 K4 HG HTB
 by_cases hn:0 < n
 ·have HE:=hide (HF.out.trans (if_pos hn))
  have hni:(0:Int) < (n:Int):=by omega
  clear HF hn
  go_wp2_with fail
  refine (tell_any K5.out.v (ok_small HO.out.pg) hl fastT).mono ?_
  rintro e w5 ⟨rfl,vp5,vt5,K6'⟩
  have K6:=hide (K5.out.trans K6')
  clear K6' K5
  go_wp2
  go_end0
  exact ⟨rfl,_,_,_,by rw [HE.out]; exact K6.out⟩
 ·have HE:=hide (HF.out.trans (if_neg hn))
  have hni:¬ (0:Int) < (n:Int):=by omega
  clear HF hn
  go_wp2
  go_end0
  exact ⟨rfl,_,_,_,by rw [HE.out]; exact K5.out⟩
theorem seat_new (w:World) (S:Se) (hq:S.lin.q=[]) (hp:S.pg.wait=[]) (ht:S.told=[]):SeV (w.alloc (.cells (S.cells (.slice none 0 0) (.slice none 0 0) (.slice none 0 0)) 99)) w.heap.size S (.slice none 0 0) (.slice none 0 0) (.slice none 0 0):=by
 refine ⟨heap_alloc_new w _,by rw [hq]; exact reads_nil _,by rw [hp]; exact reads_nil _,by rw [ht]; exact World.ownsRow_nil _ _ _ _,?_,?_,fun g e=>by simp [Value.ownBlock] at e,fun g e=>by simp [Value.ownBlock] at e⟩
 ·rw [hq]; exact fun h=>by simp at h
 ·rw [hp]; exact fun h=>by simp at h
theorem built_seat:Tryz.prog.built 99 [(3,.int .i64 (-1))]=some (zS.cells (.slice none 0 0) (.slice none 0 0) (.slice none 0 0)):=by kernel_rfl
def offT:Te.Tel:={ Te.zt with u1:=2 }
theorem good_zt:Te.good Te.zt=true:=by kernel_rfl
theorem good_off:Te.good offT=true:=by kernel_rfl
theorem join_ok (a b:ByteArray) (h:a.size=3) (g:b.size=3):(a++b).size≤maxLen:=by
 rw [ByteArray.size_append]; unfold maxLen; omega
theorem newSeat_any (w:World) :
 Calls Tryz.prog 83 #[] w fun e w'=>e=.returned (.pointer (some ⟨w.heap.size,0,none⟩))∧∃ vq vp vt,SeV w' w.heap.size newS vq vp vt∧Below w.heap.size w w'∧(vq=.slice none 0 0∨Far w.heap.size vq)∧(vp=.slice none 0 0∨Far w.heap.size vp):=by
 have K0:=hide ((seat_new w zS rfl rfl rfl).refl)
 have B0:=(Below.refl w.heap.size w).alloc (Nat.le_refl _) (.cells (zS.cells (.slice none 0 0) (.slice none 0 0) (.slice none 0 0)) 99)
 have C0:=hide K0.out.v.cell
 have HN:Hid (newS=tellS (sendS { zS with tel:=helloT } (Te.sayB 251 3++Te.sayB 253 31)) whoT):=hide rfl
 go_enter Tryz.func83,Tryz.ntmps83
 go_upto_region 4 with (first | (refine wl_build 99 #[(3,.const (.int .i64 (-1)))] rfl rfl _ _ built_seat rfl ?_) | (refine wl_ltel (.tmp 10) rfl rfl rfl C0.out ?_))
 refine (Te.offer_new3 Te.zt _ (by decide) good_zt rfl).mono ?_
 rintro e w1 ⟨rfl,hb1⟩
 have K1:=hide (K0.out.trans (K0.out.v.below hb1))
 have C1:=hide K1.out.v.cell
 have hs1:(Te.sayB 251 3).size=3:=rfl
 generalize Te.sayB 251 3=sa at *
 clear hb1 C0 K0
 go_upto_region 4 with (refine wl_stel (.tmp 17) (.tmp 13) rfl rfl offT rfl rfl C1.out ?_; intro W1 g1 u1)
 have K2:=hide (K1.out.upd u1 (K1.out.v.setT (S':={ zS with tel:=offT }) rfl rfl rfl g1 u1) (.inl rfl) (.inl rfl))
 have C2:=hide K2.out.v.cell
 clear g1 u1 C1 K1
 go_upto_region 5 with (refine wl_ltel (.tmp 22) rfl rfl rfl C2.out ?_)
 refine (Te.ask_new31 offT _ (by decide) good_off rfl).mono ?_
 rintro e w2 ⟨rfl,hb2⟩
 have K3:=hide (K2.out.trans (K2.out.v.below hb2))
 have C3:=hide K3.out.v.cell
 have hs2:(Te.sayB 253 31).size=3:=rfl
 generalize Te.sayB 253 31=sb at *
 have hsj:=join_ok sa sb hs1 hs2
 have hs3:¬ 9223372036854775807 < sa.size+sb.size:=by omega
 clear hb2 C2 K2
 go_upto_region 5 with (refine wl_stel (.tmp 29) (.tmp 25) rfl rfl helloT rfl rfl C3.out ?_; intro W3 g3 u3)
 have K4:=hide (K3.out.upd u3 (K3.out.v.setT (S':={ zS with tel:=helloT }) rfl rfl rfl g3 u3) (.inl rfl) (.inl rfl))
 clear g3 u3 C3 K3
 go_upto_region 6 with fail
 refine (send_any K4.out.v (ok_small ok_zp) (sa++sb) hsj).mono ?_
 rintro e w4 ⟨rfl,vp4,K5'⟩
 have K5:=hide (K4.out.trans K5')
 clear K5' K4
 go_upto_region 7 with fail
 refine (tell_any K5.out.v (ok_small (ok_send ok_zp _)) (by show 0≤1000000; omega) whoT).mono ?_
 rintro e w5 ⟨rfl,vp5,vt5,K6'⟩
 have K6:=hide (K5.out.trans K6')
 clear K6' K5
 go_wp2
 go_ret
 refine ⟨rfl,_,_,_,by rw [HN.out]; exact K6.out.v,?_,?_,?_⟩
 ·exact ⟨K6.out.os,K6.out.tape,K6.out.output,by have:=K6.out.size; simp at this; omega,fun j hj=>by rw [K6.out.block j (by simp; omega) (by omega) (by simp [Value.ownBlock]),Below.heap_alloc _ _ _ hj]⟩
 ·exact K6.out.fq.imp id (fun h=>h.mono (by simp))
 ·exact K6.out.fp.imp id (fun h=>h.mono (by simp))
end Go.Proofs.YtncgcejlkmoliaaGreatDoor.Ho
