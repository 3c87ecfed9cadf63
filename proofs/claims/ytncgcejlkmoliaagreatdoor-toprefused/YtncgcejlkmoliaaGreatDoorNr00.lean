import Derived.Test.YtncgcejlkmoliaaGreatDoorMh00
import Derived.Test.YtncgcejlkmoliaaGreatDoorMh01
import Derived.Test.YtncgcejlkmoliaaGreatDoorMh02
import Derived.Test.YtncgcejlkmoliaaGreatDoorMh03
import Derived.Test.YtncgcejlkmoliaaGreatDoorMh04
import Derived.Test.YtncgcejlkmoliaaGreatDoorMh05
import Derived.Test.YtncgcejlkmoliaaGreatDoorMh06
import Derived.Test.YtncgcejlkmoliaaGreatDoorMh07
import Derived.Test.YtncgcejlkmoliaaGreatDoorMh08
import Derived.Test.YtncgcejlkmoliaaGreatDoorMh09
import Derived.Test.YtncgcejlkmoliaaGreatDoorMh10
import Derived.Test.YtncgcejlkmoliaaGreatDoorMh11
import Derived.Test.YtncgcejlkmoliaaGreatDoorMh12
import Derived.Test.YtncgcejlkmoliaaGreatDoorMh13
import Derived.Test.YtncgcejlkmoliaaGreatDoorMh14
import Derived.Test.YtncgcejlkmoliaaGreatDoorMh15
import Derived.Test.YtncgcejlkmoliaaGreatDoorMh16
import Derived.Test.YtncgcejlkmoliaaGreatDoorMh17
import Derived.Test.YtncgcejlkmoliaaGreatDoorMh18
import Derived.Test.YtncgcejlkmoliaaGreatDoorMh19
import Derived.Test.YtncgcejlkmoliaaGreatDoorMh20
import Derived.Test.YtncgcejlkmoliaaGreatDoorMh21
import Derived.Test.YtncgcejlkmoliaaGreatDoorMh22
import Derived.Test.YtncgcejlkmoliaaGreatDoorMh46
import Derived.Test.YtncgcejlkmoliaaGreatDoorMh23
import Derived.Test.YtncgcejlkmoliaaGreatDoorMk24
import Derived.Test.YtncgcejlkmoliaaGreatDoorMk25
import Derived.Test.YtncgcejlkmoliaaGreatDoorMh26
import Derived.Test.YtncgcejlkmoliaaGreatDoorMk27
import Derived.Test.YtncgcejlkmoliaaGreatDoorMh28
import Derived.Test.YtncgcejlkmoliaaGreatDoorMk29
import Derived.Test.YtncgcejlkmoliaaGreatDoorMk30
import Derived.Test.YtncgcejlkmoliaaGreatDoorMk31
import Derived.Test.YtncgcejlkmoliaaGreatDoorMk32
import Derived.Test.YtncgcejlkmoliaaGreatDoorMk33
import Derived.Test.YtncgcejlkmoliaaGreatDoorMk34
import Derived.Test.YtncgcejlkmoliaaGreatDoorMk35
import Derived.Test.YtncgcejlkmoliaaGreatDoorMh45
import Derived.Test.YtncgcejlkmoliaaGreatDoorMh36
import Derived.Test.YtncgcejlkmoliaaGreatDoorMh37
import Derived.Test.YtncgcejlkmoliaaGreatDoorMh38
import Derived.Test.YtncgcejlkmoliaaGreatDoorMk39
import Derived.Test.YtncgcejlkmoliaaGreatDoorMk40
import Derived.Test.YtncgcejlkmoliaaGreatDoorMk41
import Derived.Test.YtncgcejlkmoliaaGreatDoorMk42
import Derived.Test.YtncgcejlkmoliaaGreatDoorMk43
import Derived.Test.YtncgcejlkmoliaaGreatDoorMk44
import Derived.Test.YtncgcejlkmoliaaGreatDoorRows
import Derived.Test.YtncgcejlkmoliaaGreatDoorMk47
set_option linter.unusedVariables false
set_option maxRecDepth 100000
set_option maxHeartbeats 16000000
namespace Go.Proofs.YtncgcejlkmoliaaGreatDoor.Ho
open Go.RowKit
theorem lt_of_take {l:List Ac}:(runM newM (l.take 150)).acts < 400:=by
 have h1:=run_acts (l.take 150) newM
 have h2:newM.acts=0:=rfl
 have h3:(l.take 150).length≤150:=by rw [List.length_take]; omega
 omega
theorem refusedW {v:Value} {l:List Ac} {w:World} (hvb:Vb w) (hai:Ai w) (hl:Rac w v l) (hsz:∀ a ∈ l,a.bytes.size≤140737488351232) (a:Ac) (ha:a.bytes.size≤140737488351232) :
 Calls Tryz.prog 12 #[v,.agg a.cells] w fun e w'=>e=.returned (.bool true)∧Below w.heap.size w w':=by
 have B0:=below_box w (.cells a.cells 23)
 have hvb0:=hvb.below B0 (Nat.le_refl _)
 have hai0:=hai.below B0
 have hl0:=hl.below B0
 have AB0:=hide (heap_alloc_new w (.cells a.cells 23))
 have hwlt:w.heap.size < (w.alloc (.cells a.cells 23)).heap.size:=by simp
 obtain ⟨iv,_⟩:=run_iv (l.take 150) iv_new (by decide)
 have hac:=lt_of_take (l:=l)
 have P1:=hide (playq hvb0 hai0 hl0 hsz (Below.refl _ _))
 have P2:=hide (fun lab1 hb1 M1 (w':World) (H1:HoC (w.alloc (.cells a.cells 23)) lab1 w' hb1 M1)=>playq2 hvb0 hai0 hl0 hsz H1)
 have DO:=hide (fun lab (w':World) hb (H:HoC (w.alloc (.cells a.cells 23)) lab w' hb (runM newM (l.take 150)))=>do_house hvb0 hai0 H iv (by omega) a ha)
 have RP:=hide (fun hc=>refused_pure (M:=runM newM (l.take 150)) (a:=a) hac hc)
 have SM:=hide (iv_small iv)
 have IV2:=hide (iv.does a)
 obtain ⟨av,cap,rfl,_⟩:=hl
 clear hvb hai hsz iv hac ha hvb0 hai0 hl0
 generalize runM newM (l.take 150)=M at *
 go_enter Tryz.func12,Tryz.ntmps12
 go_wp2_with fail
 generalize w.alloc (.cells a.cells 23)=w0 at *
 refine P1.out.mono ?_
 rintro e w1 ⟨hb1,lab1,rfl,H1⟩
 have P3:=hide (P2.out lab1 hb1 _ w1 H1)
 clear P1 P2 H1
 go_upto_region 2 with fail
 go_wp2_with fail
 refine P3.out.mono ?_
 rintro e w2 ⟨hb2,lab2,rfl,H2,H1,hap⟩
 have AB2:=hide ((H1.low.block _ hwlt).trans AB0.out)
 have D:=hide (DO.out lab1 w2 hb1 H1)
 have HH2:=hide H2
 have HH1:=hide H1
 have HAP:=hide hap
 clear P3 DO H1 H2 hap AB0
 go_upto_region 5 with fail
 have HC:Hid (∀ x,(doM M a).2.1=x→(doM M a).2.1=x):=hide fun _ h=>h
 go_upto_region 6 with (first | (refine wl_wanted rfl (wp_load_row 23 (.tmp 3) rfl w.heap.size rfl 23 a.cells (0,0) _ AB2.out Tryz.underlying23 rfl Tryz.sizeAct ?_)) | (go_at_call 17; refine D.out.mono ?_; rintro e w3 ⟨rfl,lab3,H3,G3⟩; simp only [repC]))
 obtain ⟨K2,_,_⟩:=HH2.out.apart HAP.out.symm HH1.out.base G3
 generalize hcc:(doM M a).2.1=cc at *
 generalize hoo:(doM M a).2.2=oo at *
 have BX:=below_box w3 (.cells #[.int .i64 cc,.string oo] 29)
 have RB:=hide (show Rb w3.heap.size cc oo lab3 (w3.alloc (.cells #[.int .i64 cc,.string oo] 29)) from ⟨H3.outs _ (Nat.le_refl _),heap_alloc_new w3 _⟩)
 have c0:=RB.out.c0
 have c1:=RB.out.c1
 have HA:=hide (H3.below BX)
 have HB:=hide (K2.below BX)
 have BB:=hide (B0.trans (HA.out.low.mono (Nat.le_of_lt hwlt)))
 clear RB BX K2 H3 G3 D HH1 HH2 HAP AB2 HC B0
 generalize w3.heap.size=g3 at *
 generalize w3.alloc (.cells #[.int .i64 cc,.string oo] 29)=W3 at *
 by_cases hz:cc=0
 ·subst hz
  clear RP SM IV2 HA HB
  go_wp2
  go_ret
  exact ⟨rfl,BB.out⟩
 ·obtain ⟨r1,r2,r3,r4⟩:=RP.out hz
  subst r1
  have hzb:(cc==0)=false:=by rw [beq_eq_false_iff_ne]; exact hz
  have CS:=hide (same_any HB.out HA.out r3 r4 SM.out)
  have CL:=hide (fun w' (hb:Below W3.heap.size W3 w')=>last_any (HA.out.below hb) (by rw [r2]; exact Nat.zero_le _))
  rw [r2] at CL
  clear RP r3 r4 SM IV2 HB HA hcc hoo r2 hz
  go_wp2_with (first | (go_at_call 49; refine CS.out.mono ?_; rintro e w4 ⟨rfl,b4⟩) | (go_at_call 19; refine (CL.out _ b4).mono ?_; rintro e w5 ⟨v5,rfl,o5,b5⟩; obtain ⟨av5,cap5,rfl⟩:=shapeE o5))
  go_ret
  have b:=b4.trans (b5.mono b4.size)
  exact ⟨rfl,BB.out.trans (b.mono BB.out.size)⟩
end Go.Proofs.YtncgcejlkmoliaaGreatDoor.Ho
namespace Go.Proofs.YtncgcejlkmoliaaGreatDoor.topRefused
open Go.ChangeShapes Go.WideShapes Go.ChangeAt Go.RowKit
theorem c_place:(Rows.topRefusedRow.inPlace==Tryz.prog.inPlace 12)=true:=by kernel_rfl
theorem c_unf:(Rows.topRefusedRow.unfollowed==Tryz.prog.unfollowed 12)=true:=by kernel_rfl
theorem c_rec:(Rows.topRefusedRow.recurses==Tryz.prog.recurses 12)=true:=by kernel_rfl
theorem c_named:(Rows.topRefusedRow.named==Tryz.prog.varsNamed 12)=true:=by kernel_rfl
theorem c_tie:namedTie Tryz.prog Rows.topRefusedRow.named Rows.topRefusedSpec.vars=true:=by kernel_rfl
theorem c_enter:Tryz.prog.mayEnter=true:=by kernel_rfl
theorem c_lift:(Rows.topRefusedRow.lifted==Tryz.prog.liftsFinal)=true:=by kernel_rfl
theorem c_heard:Tryz.prog.stopsHeard=true:=by kernel_rfl
theorem closed:joinedFacts Tryz.prog 12 Tryz.f12 Rows.topRefusedSpec Rows.topRefusedRow=true:=by
 unfold joinedFacts
 rw [c_place,c_unf,c_rec,c_named,c_tie,c_enter,c_lift,c_heard,Tryz.laidOut]
 kernel_rfl
end Go.Proofs.YtncgcejlkmoliaaGreatDoor.topRefused
