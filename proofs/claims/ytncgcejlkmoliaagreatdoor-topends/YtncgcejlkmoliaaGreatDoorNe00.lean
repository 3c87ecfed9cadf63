import Derived.Test.YtncgcejlkmoliaaGreatDoorMh00
import Derived.Test.YtncgcejlkmoliaaGreatDoorMh01
import Derived.Test.YtncgcejlkmoliaaGreatDoorMh02
import Derived.Test.YtncgcejlkmoliaaGreatDoorMh03
import Derived.Test.YtncgcejlkmoliaaGreatDoorMh04
import Derived.Test.YtncgcejlkmoliaaGreatDoorMh05
import Derived.Test.YtncgcejlkmoliaaGreatDoorMh06
import Derived.Test.YtncgcejlkmoliaaGreatDoorMh07
import Derived.Test.YtncgcejlkmoliaaGreatDoorMh08
import Derived.Test.YtncgcejlkmoliaaGreatDoorMh09
import Derived.Test.YtncgcejlkmoliaaGreatDoorMh10
import Derived.Test.YtncgcejlkmoliaaGreatDoorMh11
import Derived.Test.YtncgcejlkmoliaaGreatDoorMh12
import Derived.Test.YtncgcejlkmoliaaGreatDoorMh13
import Derived.Test.YtncgcejlkmoliaaGreatDoorMh14
import Derived.Test.YtncgcejlkmoliaaGreatDoorMh15
import Derived.Test.YtncgcejlkmoliaaGreatDoorMh16
import Derived.Test.YtncgcejlkmoliaaGreatDoorMh17
import Derived.Test.YtncgcejlkmoliaaGreatDoorMh18
import Derived.Test.YtncgcejlkmoliaaGreatDoorMh19
import Derived.Test.YtncgcejlkmoliaaGreatDoorMh20
import Derived.Test.YtncgcejlkmoliaaGreatDoorMh21
import Derived.Test.YtncgcejlkmoliaaGreatDoorMh22
import Derived.Test.YtncgcejlkmoliaaGreatDoorMh46
import Derived.Test.YtncgcejlkmoliaaGreatDoorMh23
import Derived.Test.YtncgcejlkmoliaaGreatDoorMk24
import Derived.Test.YtncgcejlkmoliaaGreatDoorMk25
import Derived.Test.YtncgcejlkmoliaaGreatDoorMh26
import Derived.Test.YtncgcejlkmoliaaGreatDoorMk27
import Derived.Test.YtncgcejlkmoliaaGreatDoorMh28
import Derived.Test.YtncgcejlkmoliaaGreatDoorMk29
import Derived.Test.YtncgcejlkmoliaaGreatDoorMk30
import Derived.Test.YtncgcejlkmoliaaGreatDoorMk31
import Derived.Test.YtncgcejlkmoliaaGreatDoorMk32
import Derived.Test.YtncgcejlkmoliaaGreatDoorMk33
import Derived.Test.YtncgcejlkmoliaaGreatDoorMk34
import Derived.Test.YtncgcejlkmoliaaGreatDoorMk35
import Derived.Test.YtncgcejlkmoliaaGreatDoorMh45
import Derived.Test.YtncgcejlkmoliaaGreatDoorMh36
import Derived.Test.YtncgcejlkmoliaaGreatDoorMh37
import Derived.Test.YtncgcejlkmoliaaGreatDoorMh38
import Derived.Test.YtncgcejlkmoliaaGreatDoorMk39
import Derived.Test.YtncgcejlkmoliaaGreatDoorMk40
import Derived.Test.YtncgcejlkmoliaaGreatDoorMk41
import Derived.Test.YtncgcejlkmoliaaGreatDoorMk42
import Derived.Test.YtncgcejlkmoliaaGreatDoorMk43
import Derived.Test.YtncgcejlkmoliaaGreatDoorMk44
import Derived.Test.YtncgcejlkmoliaaGreatDoorRows
import Derived.Test.YtncgcejlkmoliaaGreatDoorMk47
set_option linter.unusedVariables false
set_option maxRecDepth 100000
set_option maxHeartbeats 16000000
namespace Go.Proofs.YtncgcejlkmoliaaGreatDoor.Ho
open Go.RowKit
def aZero:Ac:=⟨0,0,0,⟨#[]⟩⟩
theorem do_zero {M:Hm} (h:M.acts < 400):doM M aZero=({ forgetM M with acts:=M.acts+1 },5,⟨#[]⟩):=by
 unfold doM
 rw [if_neg (by omega)]
 have hr:refusedM (forgetM M) aZero=5:=by unfold refusedM; rw [if_pos (.inl (by decide))]
 rw [hr,if_neg (by decide)]; rfl
theorem do_full {M:Hm} (h:M.acts=400) (a:Ac):doM M a=(M,4,⟨#[]⟩):=by
 unfold doM
 rw [if_pos (by omega)]; rfl
theorem run_acts_eq (l:List Ac):∀ M:Hm,M.acts+l.length≤400→(runM M l).acts=M.acts+l.length:=by
 induction l with
 | nil=>intro M _; rfl
 | cons a r ih =>
  intro M h
  simp only [List.length_cons] at h ⊢
  have h2:=do_acts M a
  rw [if_neg (by omega)] at h2
  show (runM (doM M a).1 r).acts=_
  rw [ih _ (by omega),h2]; omega
theorem sm_refl (o:Option Se):Sm o o:=⟨rfl,rfl,rfl⟩
theorem field_code (c:Int) (s:ByteArray) (w:World):(Instr.field 29 (.agg #[.int .i64 c,.string s]) 0).run Tryz.prog w=.ok (.int .i64 c) w:=by
 unfold Instr.field
 rw [Sem.run_bind,run_underlying Tryz.underlying29 w]
 have hp:=part1 (w:=w) 27 _ Tryz.underlying27 rfl 0 (.int .i64 c) #[.int .i64 c,.string s] rfl
 simp [asAgg,hp]
theorem wl_code {ops:Array Oper} {rest:List Oper} {op:Oper} {x:Act} {w:World} {Q:Exit→Act→World→Prop} {c:Int} {s:ByteArray} (y:Operand) (ho:op.op=.field 29 y 0) (hw:Region.wanted op (yielded ops x.tmps)=true) (hx:x.eval y=.agg #[.int .i64 c,.string s])
 (h:wpList Tryz.prog ops Q rest (x.put op.dst (.int .i64 c)) w):wpList Tryz.prog ops Q (op::rest) x w:=by
 refine wl_wanted hw ?_
 unfold Oper.wp execOp
 simp only [ho,hx,Sem.run_bind,field_code,Result.andThen_ok,Sem.run_pure]
 exact h
theorem endsW {v:Value} {l:List Ac} {w:World} (hvb:Vb w) (hai:Ai w) (hl:Rac w v l) (hsz:∀ a ∈ l,a.bytes.size≤140737488351232) (a:Ac) (ha:a.bytes.size≤140737488351232) :
 Calls Tryz.prog 15 #[v,.agg a.cells] w fun e w'=>e=.returned (.bool true)∧Below w.heap.size w w':=by
 have B0:=below_box w (.cells a.cells 23)
 have hvb0:=hvb.below B0 (Nat.le_refl _)
 have hai0:=hai.below B0
 have hl0:=hl.below B0
 have AB0:=hide (heap_alloc_new w (.cells a.cells 23))
 have hwlt:w.heap.size < (w.alloc (.cells a.cells 23)).heap.size:=by simp
 obtain ⟨iv,_⟩:=run_iv (l.take 150) iv_new (by decide)
 have hac:(runM newM (l.take 150)).acts=min l.length 150:=by
  have h3:(l.take 150).length=min l.length 150:=by rw [List.length_take]; omega
  have:=run_acts_eq (l.take 150) newM (by rw [h3]; show 0+_≤400; omega)
  rw [this,h3]; show 0+_=_; omega
 have P1:=hide (playq hvb0 hai0 hl0 hsz (Below.refl _ _))
 have P2:=hide (fun lab1 hb1 M1 (w':World) (H1:HoC (w.alloc (.cells a.cells 23)) lab1 w' hb1 M1)=>playq2 hvb0 hai0 hl0 hsz H1)
 have DO:=hide (fun (M:Hm) (hm:M.acts≤400) (iv:Iv 1000 M) (c:Ac) (hc:c.bytes.size≤140737488351232) lab (w':World) hb (H:HoC (w.alloc (.cells a.cells 23)) lab w' hb M)=>do_house hvb0 hai0 H iv hm c hc)
 have IV:=hide iv
 have HA:=hide ha
 have hm:=hl.choose_spec.choose_spec.2.1
 unfold maxLen at hm
 obtain ⟨av,cap,rfl,_⟩:=hl
 have HAC:=hide hac
 clear hvb hai hsz iv hac ha hvb0 hai0 hl0
 generalize runM newM (l.take 150)=M at *
 go_enter Tryz.func15,Tryz.ntmps15
 go_wp2_with fail
 generalize w.alloc (.cells a.cells 23)=w0 at *
 refine P1.out.mono ?_
 rintro e w1 ⟨hb1,lab1,rfl,H1⟩
 have P3:=hide (P2.out lab1 hb1 _ w1 H1)
 clear P1 P2 H1
 go_upto_region 2 with fail
 go_wp2_with fail
 refine P3.out.mono ?_
 rintro e w2 ⟨hb2,lab2,rfl,H2,H1,hap⟩
 have HH2:=hide H2
 have HH1:=hide H1
 have HAP:=hide hap
 clear P3 H1 H2 hap
 have hmin:((min l.length 150:Nat):Int)=min (l.length:Int) 150:=by omega
 go_upto_region 5 with fail
 go_wp2
 go_loopw [9] (fun i wr=>∃ (k:Nat) (la lb:Nat→Nat) (N:Hm),k≤400∧i=.int .i64 (k:Int)∧HoC w0 la wr hb1 N∧HoC w0 lb wr hb2 N∧Apart la lb∧Iv 1000 N∧N.acts=k) (fun i _=>400 - (intOf i).toNat)
 case atStart =>
  refine ⟨min l.length 150,lab1,lab2,M,by omega,?_,HH1.out,HH2.out,HAP.out,IV.out,HAC.out⟩
  rw [hmin]
 case round =>
  obtain ⟨k,la,lb,N,hk,rfl,H1,H2,hap,iv,hN⟩:=hrel
  clear HH1 HH2 HAP IV HAC
  by_cases hlt:k < 400
  ·have hlti:(k:Int) < 400:=by omega
   have D1:=DO.out N (by omega) iv aZero (by decide) la wr hb1 H1
   rw [do_zero (by omega)] at D1
   have D2:=fun la2 (w':World) (G:Gr la la2 wr w')=>DO.out N (by omega) iv aZero (by decide) lb w' hb2 (H2.apart hap.symm H1.base G).1
   rw [do_zero (by omega)] at D2
   have X1:=hide D1
   have X2:=hide D2
   have K1:=hide H1
   have K2:=hide H2
   have HP:=hide hap
   have NV:=hide iv
   have HN:=hide hN
   clear D1 D2 H1 H2 hap iv hN
   go_wp2_with fail
   refine X1.out.mono ?_
   rintro e w3 ⟨rfl,lc,H3,G3⟩
   simp only [repC]
   obtain ⟨Y1,Y2,Y3⟩:=K2.out.apart HP.out.symm K1.out.base G3
   have XX:=hide (X2.out lc w3 G3)
   have K3:=hide H3
   have YA:=hide Y2
   have YB:=hide Y1.base
   clear X1 X2 K1 K2 HP H3 G3 Y1 Y2 Y3
   go_wp2_with (refine wl_code (.tmp 35) rfl rfl rfl ?_)
   refine XX.out.mono ?_
   rintro e w4 ⟨rfl,ld,H4,G4⟩
   simp only [repC]
   obtain ⟨Z1,Z2,Z3⟩:=K3.out.apart YA.out.symm YB.out G4
   have Z:=hide Z1
   have ZA:=hide Z2
   have H4':=hide H4
   have NV2:=hide (NV.out.does aZero)
   rw [do_zero (by have:=HN.out; omega)] at NV2
   clear XX K3 YA YB Z1 Z2 Z3 G4 H4 NV
   go_wp2_with (refine wl_code (.tmp 41) rfl rfl rfl ?_)
   exact ⟨⟨k+1,lc,ld,_,by omega,by go_num,Z.out,H4'.out,ZA.out,NV2.out,by show N.acts+1=k+1; rw [HN.out]⟩,by simp [intOf]; omega⟩
  ·obtain rfl:k=400:=by omega
   have hlti:¬ (400:Int) < 400:=by omega
   have D1:=DO.out N (by omega) iv a HA.out la wr hb1 H1
   rw [do_full hN] at D1
   have AB2:=hide ((H1.low.block _ hwlt).trans AB0.out)
   have CS:=hide (fun la2 (w':World) (H:HoC w0 la2 w' hb1 N) (G:Gr la la2 wr w')=>same_any (H2.apart hap.symm H1.base G).1 H rfl (fun i _=>sm_refl _) (iv_small iv))
   have X1:=hide D1
   clear D1 H1 H2 hap iv hN DO
   go_wp2_with (first | (refine wl_wanted rfl (wp_load_row 23 (.tmp 3) rfl w.heap.size rfl 23 a.cells (0,0) _ AB2.out Tryz.underlying23 rfl Tryz.sizeAct ?_)) | (go_at_call 17; refine X1.out.mono ?_; rintro e w3 ⟨rfl,lc,H3,G3⟩; simp only [repC]) | (refine wl_eqreply (.tmp 47) (.tmp 48) _ rfl rfl rfl rfl ?_) | (go_at_call 49; refine (CS.out lc w3 H3 G3).mono ?_; rintro e w4 ⟨rfl,b4⟩))
   go_ret
   exact ⟨rfl,B0.trans ((H3.below b4).low.mono (Nat.le_of_lt hwlt))⟩
end Go.Proofs.YtncgcejlkmoliaaGreatDoor.Ho
namespace Go.Proofs.YtncgcejlkmoliaaGreatDoor.topEnds
open Go.ChangeShapes Go.WideShapes Go.ChangeAt Go.RowKit
theorem c_place:(Rows.topEndsRow.inPlace==Tryz.prog.inPlace 15)=true:=by kernel_rfl
theorem c_unf:(Rows.topEndsRow.unfollowed==Tryz.prog.unfollowed 15)=true:=by kernel_rfl
theorem c_rec:(Rows.topEndsRow.recurses==Tryz.prog.recurses 15)=true:=by kernel_rfl
theorem c_named:(Rows.topEndsRow.named==Tryz.prog.varsNamed 15)=true:=by kernel_rfl
theorem c_tie:namedTie Tryz.prog Rows.topEndsRow.named Rows.topEndsSpec.vars=true:=by kernel_rfl
theorem c_enter:Tryz.prog.mayEnter=true:=by kernel_rfl
theorem c_lift:(Rows.topEndsRow.lifted==Tryz.prog.liftsFinal)=true:=by kernel_rfl
theorem c_heard:Tryz.prog.stopsHeard=true:=by kernel_rfl
theorem closed:joinedFacts Tryz.prog 15 Tryz.f15 Rows.topEndsSpec Rows.topEndsRow=true:=by
 unfold joinedFacts
 rw [c_place,c_unf,c_rec,c_named,c_tie,c_enter,c_lift,c_heard,Tryz.laidOut]
 kernel_rfl
end Go.Proofs.YtncgcejlkmoliaaGreatDoor.topEnds
