import Derived.Test.YtncgcejlkmoliaaGreatDoorMh00
import Derived.Test.YtncgcejlkmoliaaGreatDoorMh01
import Derived.Test.YtncgcejlkmoliaaGreatDoorMh02
import Derived.Test.YtncgcejlkmoliaaGreatDoorMh03
import Derived.Test.YtncgcejlkmoliaaGreatDoorMh04
import Derived.Test.YtncgcejlkmoliaaGreatDoorMh05
import Derived.Test.YtncgcejlkmoliaaGreatDoorMh06
import Derived.Test.YtncgcejlkmoliaaGreatDoorMh07
import Derived.Test.YtncgcejlkmoliaaGreatDoorMh08
import Derived.Test.YtncgcejlkmoliaaGreatDoorMh09
import Derived.Test.YtncgcejlkmoliaaGreatDoorMh10
import Derived.Test.YtncgcejlkmoliaaGreatDoorMh11
import Derived.Test.YtncgcejlkmoliaaGreatDoorMh12
import Derived.Test.YtncgcejlkmoliaaGreatDoorMh13
import Derived.Test.YtncgcejlkmoliaaGreatDoorMh14
import Derived.Test.YtncgcejlkmoliaaGreatDoorMh15
import Derived.Test.YtncgcejlkmoliaaGreatDoorMh16
import Derived.Test.YtncgcejlkmoliaaGreatDoorMh17
import Derived.Test.YtncgcejlkmoliaaGreatDoorMh18
import Derived.Test.YtncgcejlkmoliaaGreatDoorMh19
import Derived.Test.YtncgcejlkmoliaaGreatDoorMh20
import Derived.Test.YtncgcejlkmoliaaGreatDoorMh21
import Derived.Test.YtncgcejlkmoliaaGreatDoorMh22
import Derived.Test.YtncgcejlkmoliaaGreatDoorMh46
import Derived.Test.YtncgcejlkmoliaaGreatDoorMh23
import Derived.Test.YtncgcejlkmoliaaGreatDoorMk24
import Derived.Test.YtncgcejlkmoliaaGreatDoorMk25
import Derived.Test.YtncgcejlkmoliaaGreatDoorMh26
import Derived.Test.YtncgcejlkmoliaaGreatDoorMk27
import Derived.Test.YtncgcejlkmoliaaGreatDoorMh28
import Derived.Test.YtncgcejlkmoliaaGreatDoorMk29
import Derived.Test.YtncgcejlkmoliaaGreatDoorMk30
import Derived.Test.YtncgcejlkmoliaaGreatDoorMk31
import Derived.Test.YtncgcejlkmoliaaGreatDoorMk32
import Derived.Test.YtncgcejlkmoliaaGreatDoorMk33
import Derived.Test.YtncgcejlkmoliaaGreatDoorMk34
import Derived.Test.YtncgcejlkmoliaaGreatDoorMk35
import Derived.Test.YtncgcejlkmoliaaGreatDoorMh45
import Derived.Test.YtncgcejlkmoliaaGreatDoorMh36
import Derived.Test.YtncgcejlkmoliaaGreatDoorMh37
import Derived.Test.YtncgcejlkmoliaaGreatDoorMh38
import Derived.Test.YtncgcejlkmoliaaGreatDoorMk39
import Derived.Test.YtncgcejlkmoliaaGreatDoorMk40
import Derived.Test.YtncgcejlkmoliaaGreatDoorMk41
import Derived.Test.YtncgcejlkmoliaaGreatDoorMk42
import Derived.Test.YtncgcejlkmoliaaGreatDoorMk43
import Derived.Test.YtncgcejlkmoliaaGreatDoorMk44
import Derived.Test.YtncgcejlkmoliaaGreatDoorRows
import Derived.Test.YtncgcejlkmoliaaGreatDoorMk47
set_option linter.unusedVariables false
set_option maxRecDepth 100000
set_option maxHeartbeats 16000000
namespace Go.Proofs.YtncgcejlkmoliaaGreatDoor.Ho
open Go.RowKit
structure Bo where
 g:Nat
 cs:Array Value
 T:TypeId
def TwH (w:World) (hb1 hb2:Nat) (A B:Hm) (K:List Bo) (W:World):Prop :=
 ∃ la lb,HoC w la W hb1 A∧HoC w lb W hb2 B∧Apart la lb∧∀ b ∈ K,la b.g=9∧lb b.g=9∧w.heap.size≤b.g∧W.heap[b.g]?=some (.cells b.cs b.T (0,0))
section
variable {w:World} {hb1 hb2:Nat} {A B:Hm} {K K':List Bo} {W W':World}
theorem TwH.get (h:TwH w hb1 hb2 A B K W) {b:Bo} (hb:b ∈ K):W.heap[b.g]?=some (.cells b.cs b.T (0,0)):=by
 obtain ⟨la,lb,h1,h2,h3,h4⟩:=h
 exact (h4 b hb).2.2.2
theorem TwH.sub (h:TwH w hb1 hb2 A B K W) (hK:∀ b ∈ K',b ∈ K):TwH w hb1 hb2 A B K' W:=by
 obtain ⟨la,lb,h1,h2,h3,h4⟩:=h
 exact ⟨la,lb,h1,h2,h3,fun b hb=>h4 b (hK b hb)⟩
theorem TwH.below (h:TwH w hb1 hb2 A B K W) (hB:Below W.heap.size W W'):TwH w hb1 hb2 A B K W':=by
 obtain ⟨la,lb,h1,h2,h3,h4⟩:=h
 exact ⟨la,lb,h1.below hB,h2.below hB,h3,fun b hb=>⟨(h4 b hb).1,(h4 b hb).2.1,(h4 b hb).2.2.1,(hB.block _ (Array.getElem?_eq_some_iff.1 (h4 b hb).2.2.2).1).trans (h4 b hb).2.2.2⟩⟩
theorem TwH.size (h:TwH w hb1 hb2 A B K W):w.heap.size≤W.heap.size:=by
 obtain ⟨la,lb,h1,_⟩:=h
 exact h1.low.size
theorem TwH.alloc (h:TwH w hb1 hb2 A B K W) (cs:Array Value) (T:TypeId):TwH w hb1 hb2 A B (⟨W.heap.size,cs,T⟩::K) (W.alloc (.cells cs T)):=by
 have hs:=h.size
 obtain ⟨la,lb,h1,h2,h3,h4⟩:=h.below (below_box W (.cells cs T))
 obtain ⟨la',lb',g1,g2,g3,g4⟩:=h
 have hB:=below_box W (.cells cs T)
 refine ⟨la',lb',g1.below hB,g2.below hB,g3,fun b hb=>?_⟩
 rcases List.mem_cons.1 hb with rfl | hb
 ·exact ⟨g1.outs _ (Nat.le_refl _),g2.outs _ (Nat.le_refl _),hs,heap_alloc_new W _⟩
 ·exact ⟨(g4 b hb).1,(g4 b hb).2.1,(g4 b hb).2.2.1,(hB.block _ (Array.getElem?_eq_some_iff.1 (g4 b hb).2.2.2).1).trans (g4 b hb).2.2.2⟩
theorem TwH.put (h:TwH w hb1 hb2 A B K W) {b b':Bo} (hb:b ∈ K) (hg:b'.g=b.g) (hu:Upd b.g W W') (hW:W'.heap[b.g]?=some (.cells b'.cs b'.T (0,0))) (hK:∀ c ∈ K',c=b'∨(c ∈ K∧c.g ≠ b.g)):TwH w hb1 hb2 A B K' W':=by
 obtain ⟨la,lb,h1,h2,h3,h4⟩:=h
 obtain ⟨l1,l2,l3,l4⟩:=h4 b hb
 refine ⟨la,lb,h1.other hu l1 l3,h2.other hu l2 l3,h3,fun c hc=>?_⟩
 rcases hK c hc with rfl | ⟨hc,hne⟩
 ·rw [hg]; exact ⟨l1,l2,l3,hW⟩
 ·exact ⟨(h4 c hc).1,(h4 c hc).2.1,(h4 c hc).2.2.1,(hu.block _ hne).trans (h4 c hc).2.2.2⟩
theorem TwH.do1 (hvb:Vb w) (hai:Ai w) (h:TwH w hb1 hb2 A B K W) (hI:Iv 1000 A) (hac:A.acts≤400) (a:Ac) (hz:a.bytes.size≤140737488351232) :
 Calls Tryz.prog 17 #[.pointer (some ⟨hb1,0,none⟩),.agg a.cells] W fun e W'=>e=.returned (.agg #[.int .i64 (doM A a).2.1,.string (doM A a).2.2])∧TwH w hb1 hb2 (doM A a).1 B K W':=by
 obtain ⟨la,lb,h1,h2,h3,h4⟩:=h
 refine (do_house hvb hai h1 hI hac a hz).mono ?_
 rintro e W' ⟨rfl,la',H',G⟩
 obtain ⟨k1,k2,_⟩:=h2.apart h3.symm h1.base G
 refine ⟨rfl,la',lb,H',k1,k2.symm,fun b hb=>?_⟩
 obtain ⟨l1,l2,l3,l4⟩:=h4 b hb
 have hlt:=(Array.getElem?_eq_some_iff.1 l4).1
 exact ⟨(G.old _ hlt).trans l1,l2,l3,(G.same _ hlt (.inr l1)).trans l4⟩
theorem TwH.symm (h:TwH w hb1 hb2 A B K W):TwH w hb2 hb1 B A K W:=by
 obtain ⟨la,lb,h1,h2,h3,h4⟩:=h
 exact ⟨lb,la,h2,h1,h3.symm,fun b hb=>⟨(h4 b hb).2.1,(h4 b hb).1,(h4 b hb).2.2.1,(h4 b hb).2.2.2⟩⟩
theorem TwH.do2 (hvb:Vb w) (hai:Ai w) (h:TwH w hb1 hb2 A B K W) (hI:Iv 1000 B) (hac:B.acts≤400) (a:Ac) (hz:a.bytes.size≤140737488351232) :
 Calls Tryz.prog 17 #[.pointer (some ⟨hb2,0,none⟩),.agg a.cells] W fun e W'=>e=.returned (.agg #[.int .i64 (doM B a).2.1,.string (doM B a).2.2])∧TwH w hb1 hb2 A (doM B a).1 K W' :=
 (TwH.do1 hvb hai h.symm hI hac a hz).mono fun e W' ⟨he,h'⟩=>⟨he,h'.symm⟩
theorem TwH.left (h:TwH w hb1 hb2 A B K W):∃ la,HoC w la W hb1 A:=by obtain ⟨la,lb,h1,_⟩:=h; exact ⟨la,h1⟩
theorem TwH.right (h:TwH w hb1 hb2 A B K W):∃ lb,HoC w lb W hb2 B:=by obtain ⟨la,lb,_,h2,_⟩:=h; exact ⟨lb,h2⟩
end
open Go.RowKit
theorem acts_lt {done:List Ac} (h:done.length < 150):(runM newM done).acts < 400:=by
 have h1:=run_acts done newM
 have h2:newM.acts=0:=rfl
 omega
open Go.RowKit
theorem exec_nerep {x:Act} {op:Oper} {w:World} (y z:Operand) (t:TypeId) (ho:op.op=.binOp .neq 29 y z t) {c:Int} {s:ByteArray} (hy:x.eval y=.agg #[.int .i64 c,.string s]) (hz:x.eval z=.agg #[.int .i64 c,.string s]):(execOp x.eval op).run Tryz.prog w=.ok (.value (.bool false)) w:=by
 have hg:(eqGuard .neq 29 y z (.agg #[.int .i64 c,.string s]) (.agg #[.int .i64 c,.string s])).run Tryz.prog w=.ok () w:=by
  have hg:=Tryz.guardReply
  simp [eqGuard,hg]
 have he:(binOp .neq 29 (.agg #[.int .i64 c,.string s]) (.agg #[.int .i64 c,.string s])).run Tryz.prog w=.ok (.bool false) w:=by
  rw [run_neq_struct]
  show ((Op.equalIn 10000 29 _ _).run Tryz.prog w).andThen _=_
  rw [eqReply]; rfl
 unfold execOp
 simp only [ho,hy,hz,Sem.run_bind,hg,he,Result.andThen_ok,Sem.run_pure]
open Go.RowKit
theorem ne_types {W:World} {a b:Nat} {c d:Array Value} {S T:TypeId} (h:W.heap[a]?=some (.cells c S (0,0))) (k:W.heap[b]?=some (.cells d T (0,0))) (hn:S ≠ T):a ≠ b:=by
 rintro rfl
 rw [h] at k
 injection k with k
 injection k with k1 k2
 exact hn k2
theorem exec_actrow {x:Act} {op:Oper} {w:World} {c:Ac} (y:Operand) (ho:op.op=.load 23 y) {g:Nat} (hx:x.eval y=.pointer (some ⟨g,0,none⟩)) (hc:w.heap[g]?=some (.cells c.cells 23 (0,0))):(execOp x.eval op).run Tryz.prog w=.ok (.value (.agg c.cells)) w:=by
 have:=run_loadVar_row (P:=Tryz.prog) w g 23 23 c.cells (0,0) _ hc Tryz.underlying23 rfl Tryz.sizeAct
 unfold execOp
 simp only [ho,hx,Instr.loadAt,Instr.sureAddr,Sem.run_bind,Sem.run_pure,Result.andThen_ok,this]
theorem Tryz.sizeStrH:(Tryz.prog.info? 9).map (·.size)=some 1:=by kernel_rfl
theorem sil_nat (M:Hm) {i:Nat} (h:i < 4):seatAt M (i:Int)=M.seat i:=by unfold seatAt; rw [if_pos (by omega),Int.toNat_natCast]
theorem told_small {M:Hm} (h:Iv 1000 M) {i:Nat} (hi:i < 4):(toldOf (M.seat i)).length≤1000000∧(pageOf (M.seat i)).wait.length≤1000000∧(lineOf (M.seat i)).q.length≤1000000:=by
 have:=iv_small h i hi
 rw [sil_nat M hi] at this
 refine ⟨?_,this⟩
 cases hS:M.seat i with
 | none=>exact Nat.zero_le _
 | some S=>exact Nat.le_trans (h.sv.seat i S hi hS).2 (by omega)
section
variable {w:World} {hb1 hb2 g10 g11 g12 g13:Nat} {A B:Hm} {x y:Ac} {W:World} {K:List Bo}
end
open Go.RowKit
theorem TwH.add {w:World} {hb1 hb2:Nat} {A B:Hm} {K:List Bo} {W W':World} (h:TwH w hb1 hb2 A B K W) (hB:Below W.heap.size W W') {b:Bo} (hg:W.heap.size≤b.g) (hc:W'.heap[b.g]?=some (.cells b.cs b.T (0,0))):TwH w hb1 hb2 A B (b::K) W':=by
 have hs:=h.size
 obtain ⟨la,lb,h1,h2,h3,h4⟩:=h
 refine ⟨la,lb,h1.below hB,h2.below hB,h3,fun c hb=>?_⟩
 rcases List.mem_cons.1 hb with rfl | hb
 ·exact ⟨h1.outs _ hg,h2.outs _ hg,by omega,hc⟩
 ·exact ⟨(h4 c hb).1,(h4 c hb).2.1,(h4 c hb).2.2.1,(hB.block _ (Array.getElem?_eq_some_iff.1 (h4 c hb).2.2.2).1).trans (h4 c hb).2.2.2⟩
theorem row_cases {w:World} {base T sz n:Nat} {v:Value} {xs:List Value} (h:w.ownsRow base T sz v n xs):(v=.slice none 0 0∧n=0)∨∃ g cap cur,v=.slice (some ⟨g,0,none⟩) n cap∧base≤g∧w.heap[g]?=some (.cells cur T (0,0))∧n*sz≤cur.size:=by
 rcases h.2 with hn | ⟨g,cap,cur,rfl,h1,h2,h3,h4,h5,h6⟩
 ·exact .inl hn
 ·refine .inr ⟨g,cap,cur,rfl,h1,h2,?_⟩
  rw [h5]; exact Nat.mul_le_mul_right _ h3
def Row (w:World) (hb1 hb2:Nat) (M:Hm) (K:List Bo) (T:TypeId) (sz:Nat) (av:Option Addr) (n:Nat) (W:World):Prop :=
 TwH w hb1 hb2 M M K W∧(n=0∨∃ g cs,av=some ⟨g,0,none⟩∧TwH w hb1 hb2 M M (⟨g,cs,T⟩::K) W∧n*sz≤cs.size)
theorem Row.new {w:World} {hb1 hb2:Nat} {M:Hm} {K:List Bo} {W W':World} (h:TwH w hb1 hb2 M M K W) (hB:Below W.heap.size W W') {T sz n cap:Nat} {av:Option Addr} {xs:List Value} (ho:W'.ownsRow W.heap.size T sz (.slice av n cap) n xs):Row w hb1 hb2 M K T sz av n W':=by
 refine ⟨h.below hB,?_⟩
 rcases row_cases ho with ⟨_,h0⟩ | ⟨g,cap',cur,e,hg,hc,hs⟩
 ·exact .inl h0
 ·injection e with e1 e2 e3
  exact .inr ⟨g,cur,e1,h.add hB (b:=⟨g,cur,T⟩) hg hc,hs⟩
theorem Row.put {w:World} {hb1 hb2:Nat} {M:Hm} {K:List Bo} {W W':World} {T sz n g:Nat} {cs cs':Array Value} (h:TwH w hb1 hb2 M M (⟨g,cs,T⟩::K) W) (hK:∀ c ∈ K,c.T ≠ T) (hu:Upd g W W') (hW:W'.heap[g]?=some (.cells cs' T (0,0))) (hs:n*sz≤cs'.size):Row w hb1 hb2 M K T sz (some ⟨g,0,none⟩) n W':=by
 have key:TwH w hb1 hb2 M M (⟨g,cs',T⟩::K) W':=h.put (b:=⟨g,cs,T⟩) (b':=⟨g,cs',T⟩) (by simp) rfl hu hW fun c hc=>by
  rcases List.mem_cons.1 hc with rfl | hc
  ·exact .inl rfl
  ·exact .inr ⟨List.mem_cons_of_mem _ hc,ne_types (h.get (b:=c) (List.mem_cons_of_mem _ hc)) (h.get (b:=⟨g,cs,T⟩) (by simp)) (hK c hc)⟩
 exact ⟨key.sub fun c hc=>List.mem_cons_of_mem _ hc,.inr ⟨g,cs',rfl,key,hs⟩⟩
structure So where
 g:Nat
 T:TypeId
 m:Nat
def TwS (w:World) (hb1 hb2:Nat) (M:Hm) (R:List So) (K:List Bo) (W:World):Prop :=
 ∃ la lb,HoC w la W hb1 M∧HoC w lb W hb2 M∧Apart la lb∧(∀ b ∈ K,la b.g=9∧lb b.g=9∧w.heap.size≤b.g∧W.heap[b.g]?=some (.cells b.cs b.T (0,0)))∧∀ r ∈ R,la r.g=9∧lb r.g=9∧w.heap.size≤r.g∧∃ cs,W.heap[r.g]?=some (.cells cs r.T (0,0))∧r.m≤cs.size
section
variable {w:World} {hb1 hb2:Nat} {M:Hm} {R R':List So} {K K':List Bo} {W W':World}
theorem TwS.of (h:TwH w hb1 hb2 M M K W):TwS w hb1 hb2 M [] K W:=by
 obtain ⟨la,lb,h1,h2,h3,h4⟩:=h
 exact ⟨la,lb,h1,h2,h3,h4,fun r hr=>by cases hr⟩
theorem TwS.out (h:TwS w hb1 hb2 M R K W) (hK:∀ b ∈ K',b ∈ K):TwH w hb1 hb2 M M K' W:=by
 obtain ⟨la,lb,h1,h2,h3,h4,_⟩:=h
 exact ⟨la,lb,h1,h2,h3,fun b hb=>h4 b (hK b hb)⟩
theorem TwS.get (h:TwS w hb1 hb2 M R K W) {b:Bo} (hb:b ∈ K):W.heap[b.g]?=some (.cells b.cs b.T (0,0)):=by
 obtain ⟨la,lb,h1,h2,h3,h4,_⟩:=h
 exact (h4 b hb).2.2.2
theorem TwS.row (h:TwS w hb1 hb2 M R K W) {r:So} (hr:r ∈ R):∃ cs,W.heap[r.g]?=some (.cells cs r.T (0,0))∧r.m≤cs.size:=by
 obtain ⟨la,lb,h1,h2,h3,h4,h5⟩:=h
 exact (h5 r hr).2.2.2
theorem TwS.below (h:TwS w hb1 hb2 M R K W) (hB:Below W.heap.size W W'):TwS w hb1 hb2 M R K W':=by
 obtain ⟨la,lb,h1,h2,h3,h4,h5⟩:=h
 have key:∀ {n:Nat} {o:Obj},W.heap[n]?=some o→W'.heap[n]?=some o:=fun e=>(hB.block _ (Array.getElem?_eq_some_iff.1 e).1).trans e
 exact ⟨la,lb,h1.below hB,h2.below hB,h3,fun b hb=>⟨(h4 b hb).1,(h4 b hb).2.1,(h4 b hb).2.2.1,key (h4 b hb).2.2.2⟩,fun r hr=>by
  obtain ⟨r1,r2,r3,cs,r4,r5⟩:=h5 r hr
  exact ⟨r1,r2,r3,cs,key r4,r5⟩⟩
theorem TwS.alloc (h:TwS w hb1 hb2 M R K W) (cs:Array Value) (T:TypeId):TwS w hb1 hb2 M R (⟨W.heap.size,cs,T⟩::K) (W.alloc (.cells cs T)):=by
 have h':=h.below (below_box W (.cells cs T))
 obtain ⟨la,lb,h1,h2,h3,h4,h5⟩:=h
 have hs:=h1.low.size
 have hB:=below_box W (.cells cs T)
 have key:∀ {n:Nat} {o:Obj},W.heap[n]?=some o→(W.alloc (.cells cs T)).heap[n]?=some o:=fun e=>(hB.block _ (Array.getElem?_eq_some_iff.1 e).1).trans e
 refine ⟨la,lb,h1.below hB,h2.below hB,h3,fun b hb=>?_,fun r hr=>?_⟩
 ·rcases List.mem_cons.1 hb with rfl | hb
  ·exact ⟨h1.outs _ (Nat.le_refl _),h2.outs _ (Nat.le_refl _),hs,heap_alloc_new W _⟩
  ·exact ⟨(h4 b hb).1,(h4 b hb).2.1,(h4 b hb).2.2.1,key (h4 b hb).2.2.2⟩
 ·obtain ⟨r1,r2,r3,cs',r4,r5⟩:=h5 r hr
  exact ⟨r1,r2,r3,cs',key r4,r5⟩
def rowS (av:Option Addr) (n:Nat) (T:TypeId) (sz:Nat):List So:=if n=0 then [] else match av with | some a=>[⟨a.block,T,n*sz⟩] | none=>[]
theorem TwS.add (h:TwS w hb1 hb2 M R K W) (hB:Below W.heap.size W W') {T sz n cap:Nat} {av:Option Addr} {xs:List Value} (ho:W'.ownsRow W.heap.size T sz (.slice av n cap) n xs):TwS w hb1 hb2 M (rowS av n T sz++R) K W':=by
 rcases row_cases ho with ⟨_,h0⟩ | ⟨g,cap',cur,e,hg,hc,hz⟩
 ·unfold rowS; rw [if_pos h0]; exact h.below hB
 ·injection e with e1 e2 e3
  subst e1
  unfold rowS
  by_cases h0:n=0
  ·rw [if_pos h0]; exact h.below hB
  ·rw [if_neg h0]
   obtain ⟨la,lb,h1,h2,h3,h4,h5⟩:=h
   have hs:=h1.low.size
   have key:∀ {n:Nat} {o:Obj},W.heap[n]?=some o→W'.heap[n]?=some o:=fun e=>(hB.block _ (Array.getElem?_eq_some_iff.1 e).1).trans e
   refine ⟨la,lb,h1.below hB,h2.below hB,h3,fun b hb=>⟨(h4 b hb).1,(h4 b hb).2.1,(h4 b hb).2.2.1,key (h4 b hb).2.2.2⟩,fun r hr=>?_⟩
   simp only [List.cons_append,List.nil_append,List.mem_cons] at hr
   rcases hr with rfl | hr
   ·exact ⟨h1.outs _ hg,h2.outs _ hg,by show w.heap.size≤g; omega,cur,hc,hz⟩
   ·obtain ⟨r1,r2,r3,cs',r4,r5⟩:=h5 r hr
    exact ⟨r1,r2,r3,cs',key r4,r5⟩
theorem TwS.store (h:TwS w hb1 hb2 M R K W) {r:So} (hr:r ∈ R) (hK:∀ b ∈ K,b.T ≠ r.T) (hu:Upd r.g W W') {cs cs':Array Value} (hc:W.heap[r.g]?=some (.cells cs r.T (0,0))) (hc':W'.heap[r.g]?=some (.cells cs' r.T (0,0))) (hsz:cs'.size=cs.size):TwS w hb1 hb2 M R K W':=by
 obtain ⟨la,lb,h1,h2,h3,h4,h5⟩:=h
 obtain ⟨l1,l2,l3,_⟩:=h5 r hr
 refine ⟨la,lb,h1.other hu l1 l3,h2.other hu l2 l3,h3,fun b hb=>⟨(h4 b hb).1,(h4 b hb).2.1,(h4 b hb).2.2.1,(hu.block _ (ne_types (h4 b hb).2.2.2 hc (hK b hb))).trans (h4 b hb).2.2.2⟩,fun q hq=>?_⟩
 obtain ⟨q1,q2,q3,cq,q4,q5⟩:=h5 q hq
 by_cases e:q.g=r.g
 ·rw [e] at q4
  rw [hc] at q4
  injection q4 with q4
  injection q4 with e1 e2 e3
  refine ⟨q1,q2,q3,cs',?_,by rw [hsz,e1]; exact q5⟩
  rw [e,hc',e2]
 ·exact ⟨q1,q2,q3,cq,(hu.block _ e).trans q4,q5⟩
theorem TwS.put (h:TwS w hb1 hb2 M R K W) {b b':Bo} (hb:b ∈ K) (hg:b'.g=b.g) (hu:Upd b.g W W') (hW:W'.heap[b.g]?=some (.cells b'.cs b'.T (0,0))) (hK:∀ c ∈ K',c=b'∨(c ∈ K∧c.T ≠ b.T)) (hR:∀ r ∈ R,r.T ≠ b.T):TwS w hb1 hb2 M R K' W':=by
 obtain ⟨la,lb,h1,h2,h3,h4,h5⟩:=h
 obtain ⟨l1,l2,l3,l4⟩:=h4 b hb
 refine ⟨la,lb,h1.other hu l1 l3,h2.other hu l2 l3,h3,fun c hc=>?_,fun r hr=>?_⟩
 ·rcases hK c hc with rfl | ⟨hc,hne⟩
  ·rw [hg]; exact ⟨l1,l2,l3,hW⟩
  ·exact ⟨(h4 c hc).1,(h4 c hc).2.1,(h4 c hc).2.2.1,(hu.block _ (ne_types (h4 c hc).2.2.2 l4 hne)).trans (h4 c hc).2.2.2⟩
 ·obtain ⟨r1,r2,r3,cs,r4,r5⟩:=h5 r hr
  exact ⟨r1,r2,r3,cs,(hu.block _ (ne_types r4 l4 (hR r hr))).trans r4,r5⟩
theorem row_type {av:Option Addr} {n T sz:Nat} {r:So} (h:r ∈ rowS av n T sz):r.T=T:=by
 unfold rowS at h
 split at h
 ·cases h
 ·split at h
  ·simp only [List.mem_cons,List.not_mem_nil,or_false] at h; rw [h]
  ·cases h
theorem row_some {W:World} {base T sz n cap:Nat} {av:Option Addr} {xs:List Value} (ho:W.ownsRow base T sz (.slice av n cap) n xs):0 < n→∃ g,av=some ⟨g,0,none⟩∧rowS av n T sz=[⟨g,T,n*sz⟩]:=by
 intro h0
 rcases row_cases ho with ⟨_,h⟩ | ⟨g,cap',cur,e,_⟩
 ·omega
 ·injection e with e1
  exact ⟨g,e1,by unfold rowS; rw [if_neg (by omega),e1]⟩
end
theorem rows3 {a b c:Option Addr} {n m k:Nat} {r:So} (h:r ∈ rowS a n 9 1++(rowS b m 9 1++(rowS c k 9 1++[]))):r.T=9:=by
 rcases List.mem_append.1 h with h | h
 ·exact row_type h
 rcases List.mem_append.1 h with h | h
 ·exact row_type h
 rcases List.mem_append.1 h with h | h
 ·exact row_type h
 ·cases h
theorem exec_hptr {x:Act} {op:Oper} {w:World} {v:Value} (y:Operand) (ho:op.op=.load 24 y) {g:Nat} (hx:x.eval y=.pointer (some ⟨g,0,none⟩)) (hc:w.heap[g]?=some (.cells #[v] 24 (0,0))):(execOp x.eval op).run Tryz.prog w=.ok (.value v) w:=by
 have hcell:w.cell? ⟨g,0,none⟩=some v:=by rw [cell_of_row _ _ _ _ _ _ hc]; rfl
 unfold execOp
 simp only [ho,hx]
 go_simp
theorem memC {w:World} (hvb:Vb w) (hai:Ai w) {hb hbo gp:Nat} {M:Hm} {a:Ac} {W:World} (hIM:Iv 1000 M) (hac:M.acts < 400) (hll:(doM M a).1.last.length≤1000) (hza:a.bytes.size≤140737488351232) (hT:TwH w hb hbo (doM M a).1 M [⟨gp,#[.pointer (some ⟨hbo,0,none⟩)],24⟩] W) :
 Calls Tryz.prog 51 (#[.pointer (some ⟨hb,0,none⟩),.agg a.cells,.agg #[.int .i64 (doM M a).2.1,.string (doM M a).2.2]]++#[.pointer (some ⟨gp,0,none⟩)]) W fun e W'=>e=.returned (.bool true)∧TwH w hb hbo (doM M a).1 (doM M a).1 [⟨gp,#[.pointer (some ⟨hbo,0,none⟩)],24⟩] W':=by
 have e:(#[.pointer (some ⟨hb,0,none⟩),.agg a.cells,.agg #[.int .i64 (doM M a).2.1,.string (doM M a).2.2]]++#[.pointer (some ⟨gp,0,none⟩)]:Array Value)=#[.pointer (some ⟨hb,0,none⟩),.agg a.cells,.agg #[.int .i64 (doM M a).2.1,.string (doM M a).2.2],.pointer (some ⟨gp,0,none⟩)]:=by simp
 rw [e]
 clear e
 have TA:=(hT.alloc a.cells 23).alloc #[.int .i64 (doM M a).2.1,.string (doM M a).2.2] 29
 rw [World.size_alloc] at TA
 have HVB:=hide hvb
 have HAI:=hide hai
 have HIM:=hide hIM
 have HZ:=hide hza
 have TT:=hide TA
 have SM:=hide (iv_small (hIM.does a))
 have ST:Hid (∀ i:Nat,i < 4→(toldOf (seatAt (doM M a).1 i)).length≤1000000):=hide (fun i hi=>by rw [sil_nat _ hi]; exact (told_small (hIM.does a) hi).1)
 have zP:=(zero_of_info Tryz.zPage).1
 have zL:=(zero_of_info Tryz.zLine).1
 have CSM:Hid (∀ V,TwH w hb hbo (doM M a).1 (doM M a).1 [⟨W.heap.size+1,#[.int .i64 (doM M a).2.1,.string (doM M a).2.2],29⟩,⟨W.heap.size,a.cells,23⟩,⟨gp,#[.pointer (some ⟨hbo,0,none⟩)],24⟩] V→Calls Tryz.prog 49 #[.pointer (some ⟨hb,0,none⟩),.pointer (some ⟨hbo,0,none⟩)] V fun e w'=>e=.returned (.bool true)∧Below V.heap.size V w'):=hide (fun V hV=>by
  obtain ⟨la,L1⟩:=hV.left
  obtain ⟨lb,L2⟩:=hV.right
  exact same_any L1 L2 rfl (fun i _=>⟨rfl,rfl,rfl⟩) SM.out)
 clear hvb hai hIM hza hT TA
 go_enter Tryz.func51,Tryz.ntmps51
 go_upto_region 1 with fail
 generalize W.heap.size=ba at *
 generalize ba+1=br at *
 generalize (W.alloc (.cells a.cells 23)).alloc (.cells #[.int .i64 (doM M a).2.1,.string (doM M a).2.2] 29)=w1 at *
 have SS:Hid (∀ (B:Hm) (V:World),TwH w hb hbo (doM M a).1 B [⟨br,#[.int .i64 (doM M a).2.1,.string (doM M a).2.2],29⟩,⟨ba,a.cells,23⟩,⟨gp,#[.pointer (some ⟨hbo,0,none⟩)],24⟩] V→V.heap[gp]?=some (.cells #[.pointer (some ⟨hbo,0,none⟩)] 24 (0,0))∧V.heap[ba]?=some (.cells a.cells 23 (0,0))∧V.heap[br]?=some (.cells #[.int .i64 (doM M a).2.1,.string (doM M a).2.2] 29 (0,0))):=hide (fun B V hV=>⟨hV.get (b:=⟨gp,#[.pointer (some ⟨hbo,0,none⟩)],24⟩) (by simp),hV.get (b:=⟨ba,a.cells,23⟩) (by simp),hV.get (b:=⟨br,#[.int .i64 (doM M a).2.1,.string (doM M a).2.2],29⟩) (by simp)⟩)
 refine wp_region_held (S:=fun V=>V.heap[gp]?=some (.cells #[.pointer (some ⟨hbo,0,none⟩)] 24 (0,0))∧V.heap[ba]?=some (.cells a.cells 23 (0,0))∧V.heap[br]?=some (.cells #[.int .i64 (doM M a).2.1,.string (doM M a).2.2] 29 (0,0))) (by kernel_rfl) ?_
 have TZ:=TT.out.below (Below.refl _ w1).drew
 change wpAnyH _ _ _ _ _ _ _ _ w1.drew
 generalize w1.drew=W4 at *
 have HS:=SS.out _ _ TZ
 refine tk (i:=0) (d:=some 17) (fuel:=10) (v:=.pointer (some ⟨hbo,0,none⟩)) rfl rfl (Or.inl ⟨by rfl,fun W hW=>exec_hptr (.tmp 3) rfl rfl hW.1⟩) HS ?_
 simp only [Act.put,sT,List.set]
 refine tk (i:=1) (d:=some 18) (fuel:=9) (v:=.agg a.cells) rfl rfl (Or.inl ⟨by rfl,fun W hW=>exec_actrow (.tmp 5) rfl rfl hW.2.1⟩) HS ?_
 simp only [Act.put,sT,List.set]
 refine tk (i:=3) (d:=some 20) (fuel:=8) (v:=.agg #[.int .i64 (doM M a).2.1,.string (doM M a).2.2]) rfl rfl (Or.inl ⟨by rfl,fun W hW=>exec_rep (.tmp 6) rfl rfl hW.2.2⟩) HS ?_
 simp only [Act.put,sT,List.set]
 refine wpAnyH_all (fuel:=7) (rs:=[2]) (by kernel_rfl) (by simp) ?_
 intro i hi
 obtain rfl:i=2:=by simpa using hi
 clear hi
 refine call_at (d:=some 19) rfl rfl (by rfl) 17 #[.pointer (some ⟨hbo,0,none⟩),.agg a.cells] (by kernel_rfl) ?_
 refine (TwH.do2 HVB.out HAI.out TZ HIM.out (by omega) a HZ.out).mono ?_
 rintro e y1 ⟨rfl,T1⟩
 clear TZ HS
 have HS1:=SS.out _ _ T1
 refine ⟨_,rfl,HS1,?_⟩
 simp only [Act.put,sT,List.set]
 refine tk (i:=4) (d:=some 21) (fuel:=6) (v:=.bool false) rfl rfl (Or.inl ⟨by rfl,fun W hW=>exec_nerep (.tmp 19) (.tmp 20) _ rfl rfl rfl⟩) HS1 ?_
 simp only [Act.put,sT,List.set]
 refine tw (i:=5) (d:=some 22) (fuel:=5) (v:=?_) rfl rfl ?_ HS1 ?_
 rotate_left
 ·intro W hW
  obtain ⟨cp,ca,cr⟩:=hW
  go_simp
  try with_reducible rfl
 simp only [Act.put,sT,List.set]
 refine tw (i:=6) (d:=some 23) (fuel:=4) (v:=?_) rfl rfl ?_ HS1 ?_
 rotate_left
 ·intro W hW
  obtain ⟨cp,ca,cr⟩:=hW
  go_simp
  try with_reducible rfl
 simp only [Act.put,sT,List.set]
 refine tk (i:=7) (d:=some 24) (fuel:=3) (v:=.pointer (some ⟨hbo,0,none⟩)) rfl rfl (Or.inl ⟨by rfl,fun W hW=>exec_hptr (.tmp 3) rfl rfl hW.1⟩) HS1 ?_
 simp only [Act.put,sT,List.set]
 refine wpAnyH_all (fuel:=2) (rs:=[8]) (by kernel_rfl) (by simp) ?_
 intro i hi
 obtain rfl:i=8:=by simpa using hi
 clear hi
 refine call_at (d:=some 25) rfl rfl (by rfl) 49 #[.pointer (some ⟨hb,0,none⟩),.pointer (some ⟨hbo,0,none⟩)] (by kernel_rfl) ?_
 refine (CSM.out _ T1).mono ?_
 rintro e y2 ⟨rfl,b2⟩
 have T2:=T1.below b2
 have HS2:=SS.out _ _ T2
 refine ⟨_,rfl,HS2,?_⟩
 simp only [Act.put,sT,List.set]
 refine tw (i:=9) (d:=some 26) (fuel:=1) (v:=?_) rfl rfl ?_ HS2 ?_
 rotate_left
 ·intro W hW
  obtain ⟨cp,ca,cr⟩:=hW
  go_simp
  try with_reducible rfl
 simp only [Act.put,sT,List.set]
 refine tw (i:=10) (d:=some 27) (fuel:=0) (v:=?_) rfl rfl ?_ HS2 ?_
 rotate_left
 ·intro W hW
  obtain ⟨cp,ca,cr⟩:=hW
  go_simp
  try with_reducible rfl
 simp only [Act.put,sT,List.set]
 refine wpAnyH_done (by kernel_rfl) ?_ _
 have T3:=hide (T2.sub (K':=[⟨gp,#[.pointer (some ⟨hbo,0,none⟩)],24⟩]) (by simp))
 clear HS1 HS2 T1 T2 b2 SS CSM TT HVB HAI HIM HZ
 generalize hM2:(doM M a).1=M2 at *
 have HM2:=hide hM2
 clear hM2
 generalize (doM M a).2=rr at *
 obtain ⟨la,L1⟩:=T3.out.left
 have CL:=hide (last_any L1 (by omega))
 clear L1
 go_upto_region 5 with (go_at_call 19; refine CL.out.mono ?_; rintro e w5 ⟨v5,rfl,o5,b5⟩; obtain ⟨av5,cap5,rfl⟩:=shapeE o5)
 have R5:=hide (Row.new T3.out b5 o5)
 clear CL o5 b5 T3
 generalize M2.last.length=n5 at *
 go_loopw [32] (fun i wr=>∃ k:Nat,k≤n5∧i=.int .i64 (k:Int)∧Row w hb hbo M2 [⟨gp,#[.pointer (some ⟨hbo,0,none⟩)],24⟩] 71 16 av5 n5 wr) (fun i _=>n5 - (intOf i).toNat)
 case atStart=>exact ⟨0,Nat.zero_le _,rfl,R5.out⟩
 case round =>
  obtain ⟨k,hk,rfl,Rk⟩:=hrel
  clear R5
  by_cases hlt:k < n5
  ·have hki:(k:Int) < (n5:Int):=by omega
   rcases Rk.2 with h0 | ⟨g,cs,rfl,Tg,hcs⟩
   ·omega
   ·have TG:=hide Tg
    have hsz:k*16+9 < cs.size:=by omega
    clear Rk Tg
    go_wp2_with (refine wl_over1 9 (.tmp 38) _ rfl rfl g (k*16+9) (.string ⟨#[115,112,111,105,108,116]⟩) cs _ 71 rfl rfl (TG.out.get (b:=⟨g,cs,71⟩) (by simp)) hsz Tryz.sizeStrH rfl rfl ?_; intro Y1 g1 u1)
    have RN:=hide (Row.put (n:=n5) (sz:=16) TG.out (by simp) u1 g1 (by rw [Array.size_setIfInBounds]; exact hcs))
    clear TG g1 u1
    exact ⟨⟨k+1,by omega,by go_num,RN.out⟩,by simp [intOf]; omega⟩
  ·obtain rfl:k=n5:=by omega
   have hki:¬ (k:Int) < (k:Int):=by omega
   have T5:=hide Rk.1
   clear Rk
   go_upto_region 10 with fail
   generalize wr=wz at *
   clear wr
   go_loopw [40] (fun i wr=>∃ q:Nat,q≤4∧i=.int .i64 (q:Int)∧TwH w hb hbo M2 M2 [⟨gp,#[.pointer (some ⟨hbo,0,none⟩)],24⟩] wr) (fun i _=>4 - (intOf i).toNat)
   case atStart=>exact ⟨0,Nat.zero_le _,rfl,T5.out⟩
   case round =>
    obtain ⟨q,hq,rfl,Tq⟩:=hrel
    clear T5
    by_cases hq4:q < 4
    ·have hqi:(q:Int) < 4:=by omega
     obtain ⟨s1,s2⟩:=SM.out q hq4
     have s3:=ST.out q hq4
     have X5:=hide (TwS.of Tq)
     clear Tq
     go_wp2_with fail
     obtain ⟨la,L1⟩:=(X5.out.out (K':=[]) (by simp)).left
     refine (page_any L1 (q:Int) s1).mono ?_
     rintro e w6 ⟨v6,rfl,o6,b6⟩
     obtain ⟨av6,cap6,rfl⟩:=own_shape o6
     have X6:=hide (X5.out.add b6 o6)
     have A6:=hide (row_some o6)
     clear L1 X5 o6 b6
     go_wp2_with fail
     obtain ⟨la,L1⟩:=(X6.out.out (K':=[]) (by simp)).left
     refine (line_any L1 (q:Int) s2).mono ?_
     rintro e w7 ⟨v7,rfl,o7,b7⟩
     obtain ⟨av7,cap7,rfl⟩:=own_shape o7
     have X7:=hide (X6.out.add b7 o7)
     have A7:=hide (row_some o7)
     clear L1 X6 o7 b7
     go_wp2_with fail
     obtain ⟨la,L1⟩:=(X7.out.out (K':=[]) (by simp)).left
     refine (told_any L1 (q:Int) s3).mono ?_
     rintro e w8 ⟨v8,rfl,o8,b8⟩
     obtain ⟨av8,cap8,rfl⟩:=own_shape o8
     have X8:=hide (X7.out.add b8 o8)
     have A8:=hide (row_some o8)
     clear L1 X7 o8 b8
     have X9:=(X8.out.alloc (Pa.zp.cells (.slice none 0 0)) 51).alloc (Li.zl.cells (.slice none 0 0)) 55
     rw [World.size_alloc] at X9
     have X9:=hide X9
     clear X8
     generalize pageOf (seatAt M2 (q:Int))=PP at *
     generalize lineOf (seatAt M2 (q:Int))=QQ at *
     generalize toldOf (seatAt M2 (q:Int))=TT at *
     generalize PP.wait.length=n6 at *
     generalize QQ.q.length=n7 at *
     generalize TT.length=n8 at *
     have P11:=hide (X9.out.get (b:=⟨w8.heap.size,Pa.zp.cells (.slice none 0 0),51⟩) (by simp))
     have P12:=hide (X9.out.get (b:=⟨w8.heap.size+1,Li.zl.cells (.slice none 0 0),55⟩) (by simp))
     go_upto_region 13 with (first | (refine wl_over 51 (.tmp 11) (.tmp 45) rfl rfl w8.heap.size 0 (PP.cells (.slice av6 n6 cap6)) _ _ 51 rfl rfl P11.out (by show 0+5≤5; omega) Tryz.sizePage (one_pg rfl) (over_whole rfl) ?_; intro Y1 g1 u1) | (refine wl_over 55 (.tmp 12) (.tmp 48) rfl rfl (w8.heap.size+1) 0 (QQ.cells (.slice av7 n7 cap7)) _ _ 55 rfl rfl ((u1.block _ (by omega)).trans P12.out) (by show 0+4≤4; omega) Tryz.sizeLine (one_lin rfl) (over_whole rfl) ?_; intro Y2 g2 u2))
     have X10:=X9.out.put (b:=⟨w8.heap.size,Pa.zp.cells (.slice none 0 0),51⟩) (b':=⟨w8.heap.size,PP.cells (.slice av6 n6 cap6),51⟩) (K':=[⟨w8.heap.size+1,Li.zl.cells (.slice none 0 0),55⟩,⟨w8.heap.size,PP.cells (.slice av6 n6 cap6),51⟩,⟨gp,#[.pointer (some ⟨hbo,0,none⟩)],24⟩]) (by simp) rfl u1 g1 (fun c hc=>by
      simp only [List.mem_cons,List.not_mem_nil,or_false] at hc
      rcases hc with rfl | rfl | rfl
      ·exact .inr ⟨by simp,(by decide:(55:Nat) ≠ 51)⟩
      ·exact .inl rfl
      ·exact .inr ⟨by simp,(by decide:(24:Nat) ≠ 51)⟩) (fun r hr=>by rw [rows3 hr]; exact (by decide:(9:Nat) ≠ 51))
     have X11:=X10.put (b:=⟨w8.heap.size+1,Li.zl.cells (.slice none 0 0),55⟩) (b':=⟨w8.heap.size+1,QQ.cells (.slice av7 n7 cap7),55⟩) (K':=[⟨w8.heap.size+1,QQ.cells (.slice av7 n7 cap7),55⟩,⟨w8.heap.size,PP.cells (.slice av6 n6 cap6),51⟩,⟨gp,#[.pointer (some ⟨hbo,0,none⟩)],24⟩]) (by simp) rfl u2 g2 (fun c hc=>by
      simp only [List.mem_cons,List.not_mem_nil,or_false] at hc
      rcases hc with rfl | rfl | rfl
      ·exact .inl rfl
      ·exact .inr ⟨by simp,(by decide:(51:Nat) ≠ 55)⟩
      ·exact .inr ⟨by simp,(by decide:(24:Nat) ≠ 55)⟩) (fun r hr=>by rw [rows3 hr]; exact (by decide:(9:Nat) ≠ 55))
     have H6:Hid (0 < n6→∃ g,av6=some ⟨g,0,none⟩∧(⟨g,9,n6*1⟩:So) ∈ rowS av8 n8 9 1++(rowS av7 n7 9 1++(rowS av6 n6 9 1++[]))):=hide (fun h0=>by
      obtain ⟨g,e,hr⟩:=A6.out h0
      exact ⟨g,e,by rw [hr]; simp⟩)
     have H7:Hid (0 < n7→∃ g,av7=some ⟨g,0,none⟩∧(⟨g,9,n7*1⟩:So) ∈ rowS av8 n8 9 1++(rowS av7 n7 9 1++(rowS av6 n6 9 1++[]))):=hide (fun h0=>by
      obtain ⟨g,e,hr⟩:=A7.out h0
      exact ⟨g,e,by rw [hr]; simp⟩)
     have H8:Hid (0 < n8→∃ g,av8=some ⟨g,0,none⟩∧(⟨g,9,n8*1⟩:So) ∈ rowS av8 n8 9 1++(rowS av7 n7 9 1++(rowS av6 n6 9 1++[]))):=hide (fun h0=>by
      obtain ⟨g,e,hr⟩:=A8.out h0
      exact ⟨g,e,by rw [hr]; simp⟩)
     have HKP:Hid ((⟨w8.heap.size,PP.cells (.slice av6 n6 cap6),51⟩:Bo) ∈ [(⟨w8.heap.size+1,QQ.cells (.slice av7 n7 cap7),55⟩:Bo),⟨w8.heap.size,PP.cells (.slice av6 n6 cap6),51⟩,⟨gp,#[.pointer (some ⟨hbo,0,none⟩)],24⟩]):=hide (by simp)
     have HKL:Hid ((⟨w8.heap.size+1,QQ.cells (.slice av7 n7 cap7),55⟩:Bo) ∈ [(⟨w8.heap.size+1,QQ.cells (.slice av7 n7 cap7),55⟩:Bo),⟨w8.heap.size,PP.cells (.slice av6 n6 cap6),51⟩,⟨gp,#[.pointer (some ⟨hbo,0,none⟩)],24⟩]):=hide (by simp)
     have HKG:Hid (∀ b ∈ [(⟨gp,#[.pointer (some ⟨hbo,0,none⟩)],24⟩:Bo)],b ∈ [(⟨w8.heap.size+1,QQ.cells (.slice av7 n7 cap7),55⟩:Bo),⟨w8.heap.size,PP.cells (.slice av6 n6 cap6),51⟩,⟨gp,#[.pointer (some ⟨hbo,0,none⟩)],24⟩]):=hide (by simp)
     have HKT:Hid (∀ b ∈ [(⟨w8.heap.size+1,QQ.cells (.slice av7 n7 cap7),55⟩:Bo),⟨w8.heap.size,PP.cells (.slice av6 n6 cap6),51⟩,⟨gp,#[.pointer (some ⟨hbo,0,none⟩)],24⟩],b.T ≠ (9:Nat)):=hide (fun b hb=>by
      simp only [List.mem_cons,List.not_mem_nil,or_false] at hb
      rcases hb with rfl | rfl | rfl
      ·exact (by decide:(55:Nat) ≠ 9)
      ·exact (by decide:(51:Nat) ≠ 9)
      ·exact (by decide:(24:Nat) ≠ 9))
     have c0:Y2.cell? ⟨w8.heap.size,0,none⟩=some (.slice av6 n6 cap6):=by rw [cell_of_row _ _ _ _ _ _ (X11.get HKP.out)]; rfl
     have X12:=hide X11
     clear X9 X10 X11 A6 A7 A8 P11 P12 g1 u1 g2 u2
     generalize rowS av8 n8 9 1++(rowS av7 n7 9 1++(rowS av6 n6 9 1++[]))=RR at *
     generalize [(⟨w8.heap.size+1,QQ.cells (.slice av7 n7 cap7),55⟩:Bo),⟨w8.heap.size,PP.cells (.slice av6 n6 cap6),51⟩,⟨gp,#[.pointer (some ⟨hbo,0,none⟩)],24⟩]=KK at *
     generalize hpl:w8.heap.size+1=pl at *
     generalize hpb:w8.heap.size=pb at *
     clear hpl hpb
     go_upto_region 14 with fail
     generalize wr=wq55 at *
     clear wr
     go_loopw [55] (fun i wr=>∃ t:Nat,t≤n6∧i=.int .i64 (t:Int)∧TwS w hb hbo M2 RR KK wr) (fun i _=>n6 - (intOf i).toNat)
     case atStart=>exact ⟨0,Nat.zero_le _,rfl,X12.out⟩
     case round =>
      obtain ⟨t,ht,rfl,Xt⟩:=hrel
      clear X12
      by_cases hlt:t < n6
      ·have hti:(t:Int) < (n6:Int):=by omega
       obtain ⟨g,rfl,hm⟩:=H6.out (by omega)
       obtain ⟨cs,hcs,hsz⟩:=Xt.row hm
       have hsz2:n6*1≤cs.size:=hsz
       have hts:t < cs.size:=by omega
       clear hsz hsz2
       have c0:wr.cell? ⟨pb,0,none⟩=some (.slice (some ⟨g,0,none⟩) n6 cap6):=by rw [cell_of_row _ _ _ _ _ _ (Xt.get HKP.out)]; rfl
       have XT:=hide Xt
       have HC:=hide hcs
       clear Xt hcs
       go_wp2_with (refine wl_over1 9 (.tmp 61) _ rfl rfl g t (.string ⟨#[115,112,111,105,108,116]⟩) cs _ 9 rfl rfl HC.out hts Tryz.sizeStrH rfl rfl ?_; intro Z1 z1 y1)
       exact ⟨⟨t+1,by omega,by go_num,XT.out.store hm HKT.out y1 HC.out z1 (by simp)⟩,by simp [intOf]; omega⟩
      ·obtain rfl:t=n6:=by omega
       have hti:¬ (t:Int) < (t:Int):=by omega
       have X13:=hide Xt
       have c1:wr.cell? ⟨pl,3,none⟩=some (.slice av7 n7 cap7):=by rw [cell_of_row _ _ _ _ _ _ (Xt.get HKL.out)]; rfl
       clear Xt
       go_upto_region 19 with fail
       generalize wr=wq66 at *
       clear wr
       go_loopw [66] (fun i wr=>∃ t:Nat,t≤n7∧i=.int .i64 (t:Int)∧TwS w hb hbo M2 RR KK wr) (fun i _=>n7 - (intOf i).toNat)
       case atStart=>exact ⟨0,Nat.zero_le _,rfl,X13.out⟩
       case round =>
        obtain ⟨t,ht,rfl,Xt⟩:=hrel
        clear X13
        by_cases hlt:t < n7
        ·have hti:(t:Int) < (n7:Int):=by omega
         obtain ⟨g,rfl,hm⟩:=H7.out (by omega)
         obtain ⟨cs,hcs,hsz⟩:=Xt.row hm
         have hsz2:n7*1≤cs.size:=hsz
         have hts:t < cs.size:=by omega
         clear hsz hsz2
         have c0:wr.cell? ⟨pl,3,none⟩=some (.slice (some ⟨g,0,none⟩) n7 cap7):=by rw [cell_of_row _ _ _ _ _ _ (Xt.get HKL.out)]; rfl
         have XT:=hide Xt
         have HC:=hide hcs
         clear Xt hcs
         go_wp2_with (refine wl_over1 9 (.tmp 72) _ rfl rfl g t (.string ⟨#[115,112,111,105,108,116]⟩) cs _ 9 rfl rfl HC.out hts Tryz.sizeStrH rfl rfl ?_; intro Z1 z1 y1)
         exact ⟨⟨t+1,by omega,by go_num,XT.out.store hm HKT.out y1 HC.out z1 (by simp)⟩,by simp [intOf]; omega⟩
        ·obtain rfl:t=n7:=by omega
         have hti:¬ (t:Int) < (t:Int):=by omega
         have X14:=hide Xt
         clear Xt
         go_upto_region 24 with fail
         generalize wr=wq76 at *
         clear wr
         go_loopw [76] (fun i wr=>∃ t:Nat,t≤n8∧i=.int .i64 (t:Int)∧TwS w hb hbo M2 RR KK wr) (fun i _=>n8 - (intOf i).toNat)
         case atStart=>exact ⟨0,Nat.zero_le _,rfl,X14.out⟩
         case round =>
          obtain ⟨t,ht,rfl,Xt⟩:=hrel
          clear X14
          by_cases hlt:t < n8
          ·have hti:(t:Int) < (n8:Int):=by omega
           obtain ⟨g,rfl,hm⟩:=H8.out (by omega)
           obtain ⟨cs,hcs,hsz⟩:=Xt.row hm
           have hsz2:n8*1≤cs.size:=hsz
           have hts:t < cs.size:=by omega
           clear hsz hsz2
           have XT:=hide Xt
           have HC:=hide hcs
           clear Xt hcs
           go_wp2_with (refine wl_over1 9 (.tmp 81) _ rfl rfl g t (.string ⟨#[115,112,111,105,108,116]⟩) cs _ 9 rfl rfl HC.out hts Tryz.sizeStrH rfl rfl ?_; intro Z1 z1 y1)
           exact ⟨⟨t+1,by omega,by go_num,XT.out.store hm HKT.out y1 HC.out z1 (by simp)⟩,by simp [intOf]; omega⟩
          ·obtain rfl:t=n8:=by omega
           have hti:¬ (t:Int) < (t:Int):=by omega
           have XE:=hide Xt
           clear Xt
           go_wp2
           exact ⟨⟨q+1,by omega,by go_num,XE.out.out HKG.out⟩,by simp [intOf]; omega⟩
    ·obtain rfl:q=4:=by omega
     have hqi:¬ ((4:Nat):Int) < 4:=by omega
     have TF:=hide Tq
     clear Tq
     go_wp2
     go_ret
     exact ⟨rfl,by rw [HM2.out]; exact TF.out⟩
open Go.RowKit
theorem mem_enter (args:Array Value) (w:World):(callFunc 51 args).run Tryz.prog w=.ok (.enter 51 args) w:=by kernel_rfl
theorem Tryz.sizePHouse:(Tryz.prog.info? 24).map (·.size)=some 1:=by kernel_rfl
theorem Tryz.zPHouse:(Tryz.prog.info? 24).map (fun i=>(i.zero,i.size))=some (some (.pointer none),1):=by kernel_rfl
def MemJ (w:World) (hbo gp:Nat) (done:List Ac) (lab:Nat→Nat) (W:World):Prop :=
 ∃ lo,HoC w lo W hbo (runM newM done)∧Apart lab lo∧(∀ n,n < w.heap.size→lab n=9)∧lab gp=9∧lo gp=9∧w.heap.size≤gp∧W.heap[gp]?=some (.cells #[.pointer (some ⟨hbo,0,none⟩)] 24 (0,0))
theorem mem_play {v:Value} {l:List Ac} {w:World} (hvb:Vb w) (hai:Ai w) (hl:Rac w v l) (hsz:∀ a ∈ l,a.bytes.size≤140737488351232) {hbo gp:Nat} {lo:Nat→Nat} {w1:World} (H1:HoC w lo w1 hbo newM) (hlo:lo gp=9) (hg:w.heap.size≤gp) (hc:w1.heap[gp]?=some (.cells #[.pointer (some ⟨hbo,0,none⟩)] 24 (0,0))) :
 Calls Tryz.prog 25 #[v,.func (.func 51) #[] #[.pointer (some ⟨gp,0,none⟩)]] w1 fun e w'=>∃ hb,e=.returned (.tuple #[.pointer (some ⟨hb,0,none⟩),.bool true])∧Below w.heap.size w w':=by
 have hlt1:gp < w1.heap.size:=(Array.getElem?_eq_some_iff.1 hc).1
 exact (play_any hvb hai hl hsz 51 #[.pointer (some ⟨gp,0,none⟩)] (fun _ done lab W=>MemJ w hbo gp done lab W) H1.low mem_enter
  (fun hb w' hh hB hH=>⟨lo,H1.below hB,(apart_new H1.outs hh).symm,hH.base,if_neg (by omega),hlo,hg,(hB.block _ hlt1).trans hc⟩)
  (fun hb done lab lab' W W' hJ ho hG=>by
   obtain ⟨lo',h1,h2,h3,h4,h5,h6,h7⟩:=hJ
   have hlt:=(Array.getElem?_eq_some_iff.1 h7).1
   obtain ⟨k1,k2,k3⟩:=h1.apart h2.symm h3 hG
   exact ⟨lo',k1,k2.symm,k3,(hG.old _ hlt).trans h4,h5,h6,(hG.same _ hlt (.inr h4)).trans h7⟩)
  (fun hb done a lab W hlen hza H hJ=>by
   obtain ⟨lo',h1,h2,h3,h4,h5,h6,h7⟩:=hJ
   obtain ⟨iv,_⟩:=run_iv done iv_new (by decide)
   have hac:=acts_lt hlen
   rw [run_snoc] at H ⊢
   refine (memC hvb hai iv hac (iv.does a).sv.last hza (hb:=hb) (hbo:=hbo) (gp:=gp) (W:=W) ⟨lab,lo',H,h1,h2,fun b hb'=>?_⟩).mono ?_
   ·simp only [List.mem_cons,List.not_mem_nil,or_false] at hb'
    subst hb'; exact ⟨h4,h5,h6,h7⟩
   ·rintro e W' ⟨he,la,lb,H1',H2',hA,hK⟩
    obtain ⟨l1,l2,l3,l4⟩:=hK _ (List.mem_cons_self ..)
    exact ⟨he,la,H1',lb,by rw [run_snoc]; exact H2',hA,H1'.base,l1,l2,l3,l4⟩)).mono fun e w' ⟨hb,lab,he,_,H,_⟩=>⟨hb,he,H.low⟩
theorem memoryW {v:Value} {l:List Ac} {w:World} (hvb:Vb w) (hai:Ai w) (hl:Rac w v l) (hsz:∀ a ∈ l,a.bytes.size≤140737488351232) :
 Calls Tryz.prog 14 #[v] w fun e w'=>e=.returned (.bool true)∧Below w.heap.size w w':=by
 have hz:=(zero_of_info Tryz.zPHouse).1
 have P:Hid (∀ (hbo:Nat) (lo:Nat→Nat) (gp:Nat) (w1:World),HoC w lo w1 hbo newM→lo gp=9→w.heap.size≤gp→w1.heap[gp]?=some (.cells #[.pointer (some ⟨hbo,0,none⟩)] 24 (0,0)) →
  Calls Tryz.prog 25 #[v,.func (.func 51) #[] #[.pointer (some ⟨gp,0,none⟩)]] w1 fun e w'=>∃ hb,e=.returned (.tuple #[.pointer (some ⟨hb,0,none⟩),.bool true])∧Below w.heap.size w w') :=
  hide (fun hbo lo gp w1 H1 h1 h2 h3=>mem_play hvb hai hl hsz H1 h1 h2 h3)
 obtain ⟨av,cap,rfl,_⟩:=hl
 clear hvb hai hsz
 go_enter Tryz.func14,Tryz.ntmps14
 go_wp2_with fail
 refine (new_house (W0:=w) (Below.refl _ w)).mono ?_
 rintro e w2 ⟨hbo,rfl,hh,hs2,H2,b2⟩
 have A2:=hide (heap_alloc_new w2 (.cells #[.pointer none] 24))
 have HH:=hide H2
 have HS:=hide hh
 have HB:=hide b2.size
 clear H2 hh b2
 go_upto_region 2 with (refine wl_over1 24 (.tmp 3) (.tmp 6) rfl rfl w2.heap.size 0 (.pointer (some ⟨hbo,0,none⟩)) _ _ 24 rfl rfl A2.out (by show 0 < 1; omega) Tryz.sizePHouse rfl rfl ?_; intro Y1 z1 y1)
 have H3:HoC w _ Y1 hbo newM:=(HH.out.below (below_box w2 (.cells #[.pointer none] 24))).other y1 (HH.out.outs _ (Nat.le_refl _)) HB.out
 have PP:=hide (P.out hbo _ w2.heap.size Y1 H3 (HH.out.outs _ (Nat.le_refl _)) HB.out z1)
 clear P A2 HH HS HB H3 z1 y1 hs2
 go_wp2_with fail
 refine PP.out.mono ?_
 rintro e w4 ⟨hb,rfl,B4⟩
 have B:=hide B4
 clear PP B4
 go_wp2
 go_ret
 exact ⟨rfl,B.out⟩
end Go.Proofs.YtncgcejlkmoliaaGreatDoor.Ho
namespace Go.Proofs.YtncgcejlkmoliaaGreatDoor.topMemory
open Go.ChangeShapes Go.WideShapes Go.ChangeAt Go.RowKit
theorem c_place:(Rows.topMemoryRow.inPlace==Tryz.prog.inPlace 14)=true:=by kernel_rfl
theorem c_unf:(Rows.topMemoryRow.unfollowed==Tryz.prog.unfollowed 14)=true:=by kernel_rfl
theorem c_rec:(Rows.topMemoryRow.recurses==Tryz.prog.recurses 14)=true:=by kernel_rfl
theorem c_named:(Rows.topMemoryRow.named==Tryz.prog.varsNamed 14)=true:=by kernel_rfl
theorem c_tie:namedTie Tryz.prog Rows.topMemoryRow.named Rows.topMemorySpec.vars=true:=by kernel_rfl
theorem c_enter:Tryz.prog.mayEnter=true:=by kernel_rfl
theorem c_lift:(Rows.topMemoryRow.lifted==Tryz.prog.liftsFinal)=true:=by kernel_rfl
theorem c_heard:Tryz.prog.stopsHeard=true:=by kernel_rfl
theorem closed:joinedFacts Tryz.prog 14 Tryz.f14 Rows.topMemorySpec Rows.topMemoryRow=true:=by
 unfold joinedFacts
 rw [c_place,c_unf,c_rec,c_named,c_tie,c_enter,c_lift,c_heard,Tryz.laidOut]
 kernel_rfl
end Go.Proofs.YtncgcejlkmoliaaGreatDoor.topMemory
