import Derived.Test.YtncgcejlkmoliaaGreatDoorMh00
import Derived.Test.YtncgcejlkmoliaaGreatDoorMh01
import Derived.Test.YtncgcejlkmoliaaGreatDoorMh02
import Derived.Test.YtncgcejlkmoliaaGreatDoorMh03
import Derived.Test.YtncgcejlkmoliaaGreatDoorMh04
import Derived.Test.YtncgcejlkmoliaaGreatDoorMh05
import Derived.Test.YtncgcejlkmoliaaGreatDoorMh06
import Derived.Test.YtncgcejlkmoliaaGreatDoorMh07
import Derived.Test.YtncgcejlkmoliaaGreatDoorMh08
import Derived.Test.YtncgcejlkmoliaaGreatDoorMh09
import Derived.Test.YtncgcejlkmoliaaGreatDoorMh10
import Derived.Test.YtncgcejlkmoliaaGreatDoorMh11
import Derived.Test.YtncgcejlkmoliaaGreatDoorMh12
import Derived.Test.YtncgcejlkmoliaaGreatDoorMh13
import Derived.Test.YtncgcejlkmoliaaGreatDoorMh14
import Derived.Test.YtncgcejlkmoliaaGreatDoorMh15
import Derived.Test.YtncgcejlkmoliaaGreatDoorMh16
import Derived.Test.YtncgcejlkmoliaaGreatDoorMh17
import Derived.Test.YtncgcejlkmoliaaGreatDoorMh18
import Derived.Test.YtncgcejlkmoliaaGreatDoorMh19
import Derived.Test.YtncgcejlkmoliaaGreatDoorMh20
import Derived.Test.YtncgcejlkmoliaaGreatDoorMh21
import Derived.Test.YtncgcejlkmoliaaGreatDoorMh22
import Derived.Test.YtncgcejlkmoliaaGreatDoorMh46
import Derived.Test.YtncgcejlkmoliaaGreatDoorMh23
import Derived.Test.YtncgcejlkmoliaaGreatDoorMk24
import Derived.Test.YtncgcejlkmoliaaGreatDoorMk25
import Derived.Test.YtncgcejlkmoliaaGreatDoorMh26
import Derived.Test.YtncgcejlkmoliaaGreatDoorMk27
import Derived.Test.YtncgcejlkmoliaaGreatDoorMh28
import Derived.Test.YtncgcejlkmoliaaGreatDoorMk29
import Derived.Test.YtncgcejlkmoliaaGreatDoorMk30
import Derived.Test.YtncgcejlkmoliaaGreatDoorMk31
import Derived.Test.YtncgcejlkmoliaaGreatDoorMk32
import Derived.Test.YtncgcejlkmoliaaGreatDoorMk33
import Derived.Test.YtncgcejlkmoliaaGreatDoorMk34
import Derived.Test.YtncgcejlkmoliaaGreatDoorMk35
import Derived.Test.YtncgcejlkmoliaaGreatDoorMh45
import Derived.Test.YtncgcejlkmoliaaGreatDoorMh36
import Derived.Test.YtncgcejlkmoliaaGreatDoorMh37
import Derived.Test.YtncgcejlkmoliaaGreatDoorMh38
import Derived.Test.YtncgcejlkmoliaaGreatDoorMk39
import Derived.Test.YtncgcejlkmoliaaGreatDoorMk40
import Derived.Test.YtncgcejlkmoliaaGreatDoorMk41
import Derived.Test.YtncgcejlkmoliaaGreatDoorMk42
import Derived.Test.YtncgcejlkmoliaaGreatDoorMk43
import Derived.Test.YtncgcejlkmoliaaGreatDoorMk44
import Derived.Test.YtncgcejlkmoliaaGreatDoorNf00
import Derived.Test.YtncgcejlkmoliaaGreatDoorRows
import Derived.Test.YtncgcejlkmoliaaGreatDoorMk47
set_option linter.unusedVariables false
set_option maxRecDepth 100000
set_option maxHeartbeats 16000000
namespace Go.Proofs.YtncgcejlkmoliaaGreatDoor.Ho
open Go.RowKit
theorem far_enter (args:Array Value) (w:World):(callFunc 45 args).run Tryz.prog w=.ok (.enter 45 args) w:=by kernel_rfl
theorem be_lt {M:Hm} (h:Iv 1000 M) {i:Nat} (hi:i < 4):(stateOf (seatAt M i)).2 < 6:=by
 by_cases h0:0≤(stateOf (seatAt M i)).2
 ·obtain ⟨S,e1,hp,e2⟩:=being_some h0
  obtain ⟨b,hb,_,hb6,_⟩:=h.play i S hi (by rw [← seat_nat _ hi]; exact e1) hp
  rw [e2,hb]; omega
 ·omega
theorem far_law {M:Hm} (h:Iv 1000 M) (ha:M.acts < 400) (a:Ac) {i:Nat} (hi:i < 4) {fr:Nat→Int} (hfr:∀ i,i < 4→0≤beF M i→fr i=rmF M i) (h0:0≤(stateOf (seatAt (doM M a).1 i)).2) (hf:beF M i=(stateOf (seatAt (doM M a).1 i)).2) :
 (doM M a).1.last.any (wentE (stateOf (seatAt (doM M a).1 i)).2.toNat)=true∨∀ E ∈ (doM M a).1.last,E.actor=(stateOf (seatAt (doM M a).1 i)).2∨E.by' (stateOf (seatAt (doM M a).1 i)).2.toNat=0∨E.room=rmF (doM M a).1 i:=by
 obtain ⟨S,e1,hp,e2⟩:=being_some h0
 have hS:(doM M a).1.seat i=some S:=by rw [← seat_nat _ hi]; exact e1
 obtain ⟨b,hb,hb2,hb6,_⟩:=(h.does a).play i S hi hS hp
 have hbe:(stateOf (seatAt (doM M a).1 i)).2=(b:Int):=e2.trans hb
 obtain ⟨S0,f1,hp0,f2⟩:=being_some (o:=seatAt M i) (by show 0≤beF M i; rw [hf]; exact h0)
 have hS0:M.seat i=some S0:=by rw [← seat_nat _ hi]; exact f1
 have hb0:S0.being=(b:Int):=by rw [← f2]; exact hf.trans hbe
 have hrm:rmF (doM M a).1 i=(doM M a).1.L.room b:=by unfold rmF; rw [hbe,if_pos (by omega),Int.toNat_natCast]
 obtain ⟨_,_,hx⟩:=do_far h ha a hi hb2 hb6 hS0 hb0 S hS
 rw [hbe,Int.toNat_natCast,hrm]
 rcases hx with ⟨E,hE,hw⟩ | ⟨hr,hx⟩
 ·exact .inl (List.any_eq_true.2 ⟨E,hE,hw⟩)
 ·exact .inr fun E hE=>by rw [hr]; exact hx E hE
theorem farW {v:Value} {l:List Ac} {w:World} (hvb:Vb w) (hai:Ai w) (hl:Rac w v l) (hsz:∀ a ∈ l,a.bytes.size≤140737488351232) :
 Calls Tryz.prog 9 #[v] w fun e w'=>e=.returned (.bool true)∧Below w.heap.size w w':=by
 have hz:=(zero_of_info Tryz.zInts4).1
 have B0:=(below_box w (.cells (i4 fun _=>0) 69)).alloc (by simp) (.cells (i4 fun _=>0) 69)
 have P:Hid (∀ w1:World,Below w.heap.size w w1→w1.heap[w.heap.size]?=some (.cells (i4 fun _=>0) 69 (0,0))→w1.heap[w.heap.size+1]?=some (.cells (i4 fun _=>-1) 69 (0,0))→Calls Tryz.prog 25 #[v,.func (.func 45) #[] #[.pointer (some ⟨w.heap.size+1,0,none⟩),.pointer (some ⟨w.heap.size,0,none⟩)]] w1 fun e w'=>∃ hb,e=.returned (.tuple #[.pointer (some ⟨hb,0,none⟩),.bool true])∧Below w.heap.size w w'):=hide (fun w1 hb1 hc1 hc2=>by
  have hlt1:w.heap.size+1 < w1.heap.size:=(Array.getElem?_eq_some_iff.1 hc2).1
  exact (play_any hvb hai hl hsz 45 #[.pointer (some ⟨w.heap.size+1,0,none⟩),.pointer (some ⟨w.heap.size,0,none⟩)] (fun _ done lab W=>lab w.heap.size=9∧lab (w.heap.size+1)=9∧(∃ fr,W.heap[w.heap.size]?=some (.cells (i4 fr) 69 (0,0))∧∀ i,i < 4→0≤beF (runM newM done) i→fr i=rmF (runM newM done) i)∧W.heap[w.heap.size+1]?=some (.cells (i4 (beF (runM newM done))) 69 (0,0))) hb1 far_enter
   (fun hb w' hh hB hH=>by
    refine ⟨if_neg (by omega),if_neg (by omega),⟨fun _=>0,(hB.block _ (by omega)).trans hc1,fun i hi h0=>?_⟩,((hB.block _ hlt1).trans hc2).trans ?_⟩
    ·have:beF newM i=-1:=be_new i
     have h0':0≤beF newM i:=h0
     omega
    ·rw [i4_congr fun i _=>(be_new i).symm]; rfl)
   (fun hb done lab lab' W W' hJ ho hG=>by
    obtain ⟨j1,j2,⟨fr,j3,j4⟩,j5⟩:=hJ
    have hlt:=(Array.getElem?_eq_some_iff.1 j3).1
    have hlt2:=(Array.getElem?_eq_some_iff.1 j5).1
    exact ⟨(hG.old _ hlt).trans j1,(hG.old _ hlt2).trans j2,⟨fr,(hG.same _ hlt (.inr j1)).trans j3,j4⟩,(hG.same _ hlt2 (.inr j2)).trans j5⟩)
   (fun hb done a lab W hlen hsz H hJ=>by
    obtain ⟨j1,j2,⟨fr,j3,j4⟩,j5⟩:=hJ
    obtain ⟨iv,_⟩:=run_iv done iv_new (by decide)
    have iv2:=iv.does a
    have hac:=acts_lt hlen
    rw [run_snoc] at H ⊢
    exact (farC H j1 j2 j3 j5 a _ _ iv2.sv.last (fun i hi=>be_lt iv2 hi) (fun i hi h0 hf _=>far_law iv hac a hi j4 h0 hf)).mono fun e W' ⟨he,h1,h2,h3⟩=>⟨he,lab,h1,j1,j2,⟨_,h2,fun _ _ _=>rfl⟩,h3⟩)).mono fun e w' ⟨hb,lab,he,_,H,_⟩=>⟨hb,he,H.low⟩)
 have C1:=hide ((Below.heap_alloc (w.alloc (.cells (i4 fun _=>0) 69)) (.cells (i4 fun _=>0) 69) w.heap.size (by simp)).trans (heap_alloc_new w (.cells (i4 fun _=>0) 69)))
 have C2:=heap_alloc_new (w.alloc (.cells (i4 fun _=>0) 69)) (.cells (i4 fun _=>0) 69)
 rw [World.size_alloc] at C2
 have C2:=hide C2
 have HB0:=hide B0
 obtain ⟨av,cap,rfl,_⟩:=hl
 clear hvb hai hsz B0
 unfold i4 at hz
 go_enter Tryz.func9,Tryz.ntmps9
 go_upto_region 3 with fail
 change Code.wp _ _ _ _ ((w.alloc (.cells (i4 fun _=>0) 69)).alloc (.cells (i4 fun _=>0) 69))
 generalize (w.alloc (.cells (i4 fun _=>0) 69)).alloc (.cells (i4 fun _=>0) 69)=w1 at *
 go_loopw [8] (fun i wr=>∃ k:Nat,k≤4∧i=.int .i64 (k:Int)∧Below w.heap.size w wr∧wr.heap[w.heap.size]?=some (.cells (i4 fun _=>0) 69 (0,0))∧wr.heap[w.heap.size+1]?=some (.cells (i4 fun j=>if j < k then -1 else 0) 69 (0,0))) (fun i _=>4 - (intOf i).toNat)
 case atStart=>exact ⟨0,by omega,rfl,HB0.out,C1.out,C2.out⟩
 case round =>
  obtain ⟨k,hk,rfl,Bk,Dk,Ck⟩:=hrel
  clear HB0 C1 C2
  have B:=hide Bk
  have C:=hide Ck
  have D:=hide Dk
  clear Bk Ck Dk
  by_cases hk4:k < 4
  ·have hki:(k:Int) < 4:=by omega
   go_wp2_with (refine wl_over1 3 (.tmp 12) _ rfl rfl (w.heap.size+1) k (.int .i64 (-1)) _ _ 69 rfl rfl C.out (by show k < 4; omega) Tryz.sizeInt rfl (i4_set _ hk4 _) ?_; intro W1 g1 u1)
   refine ⟨⟨k+1,by omega,by go_num,Upd.below B.out u1 (by omega),(u1.block _ (by omega)).trans D.out,?_⟩,by simp [intOf]; omega⟩
   rw [g1]
   congr 2
   refine i4_congr fun j hj=>?_
   by_cases e:j=k
   ·rw [if_pos e,if_pos (by omega)]
   ·rw [if_neg e]
    by_cases e2:j < k
    ·rw [if_pos e2,if_pos (by omega)]
    ·rw [if_neg e2,if_neg (by omega)]
  ·obtain rfl:k=4:=by omega
   have PP:=hide (P.out wr B.out D.out (by rw [C.out]; rfl))
   clear P B C D
   go_wp2_with fail
   refine PP.out.mono ?_
   rintro e w2 ⟨hb,rfl,B2⟩
   have B:=hide B2
   clear PP B2
   go_wp2
   go_ret
   exact ⟨rfl,B.out⟩
end Go.Proofs.YtncgcejlkmoliaaGreatDoor.Ho
namespace Go.Proofs.YtncgcejlkmoliaaGreatDoor.topFar
open Go.ChangeShapes Go.WideShapes Go.ChangeAt Go.RowKit
theorem c_place:(Rows.topFarRow.inPlace==Tryz.prog.inPlace 9)=true:=by kernel_rfl
theorem c_unf:(Rows.topFarRow.unfollowed==Tryz.prog.unfollowed 9)=true:=by kernel_rfl
theorem c_rec:(Rows.topFarRow.recurses==Tryz.prog.recurses 9)=true:=by kernel_rfl
theorem c_named:(Rows.topFarRow.named==Tryz.prog.varsNamed 9)=true:=by kernel_rfl
theorem c_tie:namedTie Tryz.prog Rows.topFarRow.named Rows.topFarSpec.vars=true:=by kernel_rfl
theorem c_enter:Tryz.prog.mayEnter=true:=by kernel_rfl
theorem c_lift:(Rows.topFarRow.lifted==Tryz.prog.liftsFinal)=true:=by kernel_rfl
theorem c_heard:Tryz.prog.stopsHeard=true:=by kernel_rfl
theorem closed:joinedFacts Tryz.prog 9 Tryz.f9 Rows.topFarSpec Rows.topFarRow=true:=by
 unfold joinedFacts
 rw [c_place,c_unf,c_rec,c_named,c_tie,c_enter,c_lift,c_heard,Tryz.laidOut]
 kernel_rfl
end Go.Proofs.YtncgcejlkmoliaaGreatDoor.topFar
