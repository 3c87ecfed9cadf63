import Derived.Test.YtncgcejlkmoliaaGreatDoorMh00
import Derived.Test.YtncgcejlkmoliaaGreatDoorMh01
import Derived.Test.YtncgcejlkmoliaaGreatDoorMh02
import Derived.Test.YtncgcejlkmoliaaGreatDoorMh03
import Derived.Test.YtncgcejlkmoliaaGreatDoorMh04
import Derived.Test.YtncgcejlkmoliaaGreatDoorMh05
import Derived.Test.YtncgcejlkmoliaaGreatDoorMh06
import Derived.Test.YtncgcejlkmoliaaGreatDoorMh07
import Derived.Test.YtncgcejlkmoliaaGreatDoorMh08
import Derived.Test.YtncgcejlkmoliaaGreatDoorMh09
import Derived.Test.YtncgcejlkmoliaaGreatDoorMh10
import Derived.Test.YtncgcejlkmoliaaGreatDoorMh11
import Derived.Test.YtncgcejlkmoliaaGreatDoorMh12
import Derived.Test.YtncgcejlkmoliaaGreatDoorMh13
import Derived.Test.YtncgcejlkmoliaaGreatDoorMh14
import Derived.Test.YtncgcejlkmoliaaGreatDoorMh15
import Derived.Test.YtncgcejlkmoliaaGreatDoorMh16
import Derived.Test.YtncgcejlkmoliaaGreatDoorMh17
import Derived.Test.YtncgcejlkmoliaaGreatDoorMh18
import Derived.Test.YtncgcejlkmoliaaGreatDoorMh19
import Derived.Test.YtncgcejlkmoliaaGreatDoorMh20
import Derived.Test.YtncgcejlkmoliaaGreatDoorMh21
import Derived.Test.YtncgcejlkmoliaaGreatDoorMh22
import Derived.Test.YtncgcejlkmoliaaGreatDoorMh46
import Derived.Test.YtncgcejlkmoliaaGreatDoorMh23
import Derived.Test.YtncgcejlkmoliaaGreatDoorMk24
import Derived.Test.YtncgcejlkmoliaaGreatDoorMk25
import Derived.Test.YtncgcejlkmoliaaGreatDoorMh26
import Derived.Test.YtncgcejlkmoliaaGreatDoorMk27
import Derived.Test.YtncgcejlkmoliaaGreatDoorMh28
import Derived.Test.YtncgcejlkmoliaaGreatDoorMk29
import Derived.Test.YtncgcejlkmoliaaGreatDoorMk30
import Derived.Test.YtncgcejlkmoliaaGreatDoorMk31
import Derived.Test.YtncgcejlkmoliaaGreatDoorMk32
import Derived.Test.YtncgcejlkmoliaaGreatDoorMk33
import Derived.Test.YtncgcejlkmoliaaGreatDoorMk34
import Derived.Test.YtncgcejlkmoliaaGreatDoorMk35
import Derived.Test.YtncgcejlkmoliaaGreatDoorMh45
import Derived.Test.YtncgcejlkmoliaaGreatDoorMh36
import Derived.Test.YtncgcejlkmoliaaGreatDoorMh37
import Derived.Test.YtncgcejlkmoliaaGreatDoorMh38
import Derived.Test.YtncgcejlkmoliaaGreatDoorMk39
import Derived.Test.YtncgcejlkmoliaaGreatDoorMk40
import Derived.Test.YtncgcejlkmoliaaGreatDoorMk41
import Derived.Test.YtncgcejlkmoliaaGreatDoorMk42
import Derived.Test.YtncgcejlkmoliaaGreatDoorMk43
import Derived.Test.YtncgcejlkmoliaaGreatDoorMk44
import Derived.Test.YtncgcejlkmoliaaGreatDoorNc02
import Derived.Test.YtncgcejlkmoliaaGreatDoorRows
import Derived.Test.YtncgcejlkmoliaaGreatDoorMk47
set_option linter.unusedVariables false
set_option maxRecDepth 100000
set_option maxHeartbeats 16000000
namespace Go.Proofs.YtncgcejlkmoliaaGreatDoor.Ho
open Go.RowKit
theorem tra_enter (args:Array Value) (w:World):(callFunc 38 args).run Tryz.prog w=.ok (.enter 38 args) w:=by kernel_rfl
theorem Tryz.zStrsA4:(Tryz.prog.info? 75).map (fun i=>(i.zero,i.size))=some (some (.agg (v4 fun _=>.slice none 0 0)),4):=by kernel_rfl
theorem Tryz.zStrs4:(Tryz.prog.info? 76).map (fun i=>(i.zero,i.size))=some (some (.agg (v4 fun _=>.string ⟨#[]⟩)),4):=by kernel_rfl
def TraJ (w:World) (g1 g2:Nat) (done:List Ac) (lab:Nat→Nat) (W:World):Prop:=∃ T O v,Trm done.length (runM newM done) T O∧Lw w lab g1 g2 T O v W
theorem tra_play {v:Value} {l:List Ac} {w:World} (hvb:Vb w) (hai:Ai w) (hct:Ct w) (hl:Rac w v l) (hsz:∀ a ∈ l,a.bytes.size≤140737488351232) {w1:World} (hB1:Below w.heap.size w w1) {g1 g2:Nat} (hg1:w.heap.size≤g1) (hg2:w.heap.size≤g2)
 (h1:w1.heap[g1]?=some (.cells (v4 fun _=>.slice none 0 0) 75 (0,0))) (h2:w1.heap[g2]?=some (.cells (v4 fun _=>.string nilB) 76 (0,0))) :
 Calls Tryz.prog 25 #[v,.func (.func 38) #[] #[.pointer (some ⟨g1,0,none⟩),.pointer (some ⟨g2,0,none⟩)]] w1 fun e w'=>∃ hb,e=.returned (.tuple #[.pointer (some ⟨hb,0,none⟩),.bool true])∧Below w.heap.size w w':=by
 have hlt1:g1 < w1.heap.size:=(Array.getElem?_eq_some_iff.1 h1).1
 have hlt2:g2 < w1.heap.size:=(Array.getElem?_eq_some_iff.1 h2).1
 exact (play_any hvb hai hl hsz 38 #[.pointer (some ⟨g1,0,none⟩),.pointer (some ⟨g2,0,none⟩)] (fun _ done lab W=>TraJ w g1 g2 done lab W) hB1 tra_enter
  (fun hb w' hh hB hH=>⟨fun _=>[],fun _=>nilB,fun _=>.slice none 0 0,trm_new,⟨if_neg (by omega),if_neg (by omega),hg1,hg2,(hB.block _ hlt1).trans h1,(hB.block _ hlt2).trans h2,fun i _=>World.ownsRow_nil _ _ _ _,fun i _ k hk=>by simp [Value.ownBlock] at hk,fun i j _ _ _ k hk=>by simp [Value.ownBlock] at hk⟩⟩)
  (fun hb done lab lab' W W' hJ ho hG=>by
   obtain ⟨T,O,x,t1,t2⟩:=hJ
   exact ⟨T,O,x,t1,t2.gr hG⟩)
  (fun hb done a lab W hlen hza H hJ=>by
   obtain ⟨T,O,x,t1,t2⟩:=hJ
   obtain ⟨iv,_⟩:=run_iv done iv_new (by decide)
   have st:=run_st done iv_new st_new
   have iv2:=iv.does a
   have hac:=acts_lt hlen
   have t3:=t1.next iv st hac a
   rw [run_snoc] at H ⊢
   refine (transC hct H t2 a _ _ (fun i hi=>?_) (fun i hi=>?_) (fun i hi=>?_) (fun i hi=>?_) (fun i hi=>?_) t3.tri).mono ?_
   ·cases hS:(doM (runM newM done) a).1.seat i with
    | none=>exact Nat.zero_le _
    | some S=>exact (iv2.sv.seat i S hi hS).2
   ·cases hS:(doM (runM newM done) a).1.seat i with
    | none=>exact ⟨Nat.zero_le _,Nat.zero_le _⟩
    | some S =>
     have hp:=(iv2.sv.seat i S hi hS).1.pg
     have h1:=hp.len
     have h2:=hp.ring
     exact ⟨by show S.pg.wait.length≤1000; omega,by show S.pg.ring.size≤1000; omega⟩
   ·have:=t1.len i hi; omega
   ·have:=t1.size i hi; omega
   ·cases hS:(runM newM done).seat i with
    | none=>have:=do_outnil hac a hi hS; omega
    | some S=>have:=do_outlen iv hac a hi hS; omega
   ·rintro e W' ⟨he,H',x',L'⟩
    refine ⟨he,lab,H',_,_,x',?_,L'⟩
    rw [List.length_append,run_snoc]; exact t3)).mono fun e w' ⟨hb,lab,he,_,H,_⟩=>⟨hb,he,H.low⟩
theorem transW {v:Value} {l:List Ac} {w:World} (hvb:Vb w) (hai:Ai w) (hct:Ct w) (hl:Rac w v l) (hsz:∀ a ∈ l,a.bytes.size≤140737488351232) :
 Calls Tryz.prog 7 #[v] w fun e w'=>e=.returned (.bool true)∧Below w.heap.size w w':=by
 have hz:=(zero_of_info Tryz.zStrsA4).1
 have hy:=(zero_of_info Tryz.zStrs4).1
 have B0:=below_box w (.cells (v4 fun _=>.slice none 0 0) 75)
 have B1:=B0.alloc B0.size (.cells (v4 fun _=>.string ⟨#[]⟩) 76)
 have C2:=heap_alloc_new (w.alloc (.cells (v4 fun _=>.slice none 0 0) 75)) (.cells (v4 fun _=>.string ⟨#[]⟩) 76)
 rw [World.size_alloc] at C2
 have P:=hide (tra_play hvb hai hct hl hsz (w1:=(w.alloc (.cells (v4 fun _=>.slice none 0 0) 75)).alloc (.cells (v4 fun _=>.string ⟨#[]⟩) 76)) B1 (g1:=w.heap.size) (g2:=w.heap.size+1) (Nat.le_refl _) (by omega)
  ((Below.heap_alloc _ _ w.heap.size (by simp)).trans (heap_alloc_new w _)) C2)
 obtain ⟨av,cap,rfl,_⟩:=hl
 clear hvb hai hsz hct B0 B1 C2
 unfold v4 at hz hy P
 go_enter Tryz.func7,Tryz.ntmps7
 go_wp2_with fail
 refine P.out.mono ?_
 rintro e w4 ⟨hb,rfl,B4⟩
 have B:=hide B4
 clear P B4
 go_wp2
 go_ret
 exact ⟨rfl,B.out⟩
end Go.Proofs.YtncgcejlkmoliaaGreatDoor.Ho
namespace Go.Proofs.YtncgcejlkmoliaaGreatDoor.topTranscript
open Go.ChangeShapes Go.WideShapes Go.ChangeAt Go.RowKit
theorem c_place:(Rows.topTranscriptRow.inPlace==Tryz.prog.inPlace 7)=true:=by kernel_rfl
theorem c_unf:(Rows.topTranscriptRow.unfollowed==Tryz.prog.unfollowed 7)=true:=by kernel_rfl
theorem c_rec:(Rows.topTranscriptRow.recurses==Tryz.prog.recurses 7)=true:=by kernel_rfl
theorem c_named:(Rows.topTranscriptRow.named==Tryz.prog.varsNamed 7)=true:=by kernel_rfl
theorem c_tie:namedTie Tryz.prog Rows.topTranscriptRow.named Rows.topTranscriptSpec.vars=true:=by kernel_rfl
theorem c_enter:Tryz.prog.mayEnter=true:=by kernel_rfl
theorem c_lift:(Rows.topTranscriptRow.lifted==Tryz.prog.liftsFinal)=true:=by kernel_rfl
theorem c_heard:Tryz.prog.stopsHeard=true:=by kernel_rfl
theorem closed:joinedFacts Tryz.prog 7 Tryz.f7 Rows.topTranscriptSpec Rows.topTranscriptRow=true:=by
 unfold joinedFacts
 rw [c_place,c_unf,c_rec,c_named,c_tie,c_enter,c_lift,c_heard,Tryz.laidOut]
 kernel_rfl
end Go.Proofs.YtncgcejlkmoliaaGreatDoor.topTranscript
