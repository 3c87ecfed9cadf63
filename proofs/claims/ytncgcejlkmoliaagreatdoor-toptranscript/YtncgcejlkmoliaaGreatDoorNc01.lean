import Derived.Test.YtncgcejlkmoliaaGreatDoorMh00
import Derived.Test.YtncgcejlkmoliaaGreatDoorMh01
import Derived.Test.YtncgcejlkmoliaaGreatDoorMh02
import Derived.Test.YtncgcejlkmoliaaGreatDoorMh03
import Derived.Test.YtncgcejlkmoliaaGreatDoorMh04
import Derived.Test.YtncgcejlkmoliaaGreatDoorMh05
import Derived.Test.YtncgcejlkmoliaaGreatDoorMh06
import Derived.Test.YtncgcejlkmoliaaGreatDoorMh07
import Derived.Test.YtncgcejlkmoliaaGreatDoorMh08
import Derived.Test.YtncgcejlkmoliaaGreatDoorMh09
import Derived.Test.YtncgcejlkmoliaaGreatDoorMh10
import Derived.Test.YtncgcejlkmoliaaGreatDoorMh11
import Derived.Test.YtncgcejlkmoliaaGreatDoorMh12
import Derived.Test.YtncgcejlkmoliaaGreatDoorMh13
import Derived.Test.YtncgcejlkmoliaaGreatDoorMh14
import Derived.Test.YtncgcejlkmoliaaGreatDoorMh15
import Derived.Test.YtncgcejlkmoliaaGreatDoorMh16
import Derived.Test.YtncgcejlkmoliaaGreatDoorMh17
import Derived.Test.YtncgcejlkmoliaaGreatDoorMh18
import Derived.Test.YtncgcejlkmoliaaGreatDoorMh19
import Derived.Test.YtncgcejlkmoliaaGreatDoorMh20
import Derived.Test.YtncgcejlkmoliaaGreatDoorMh21
import Derived.Test.YtncgcejlkmoliaaGreatDoorMh22
import Derived.Test.YtncgcejlkmoliaaGreatDoorMh46
import Derived.Test.YtncgcejlkmoliaaGreatDoorMh23
import Derived.Test.YtncgcejlkmoliaaGreatDoorMk24
import Derived.Test.YtncgcejlkmoliaaGreatDoorMk25
import Derived.Test.YtncgcejlkmoliaaGreatDoorMh26
import Derived.Test.YtncgcejlkmoliaaGreatDoorMk27
import Derived.Test.YtncgcejlkmoliaaGreatDoorMh28
import Derived.Test.YtncgcejlkmoliaaGreatDoorMk29
import Derived.Test.YtncgcejlkmoliaaGreatDoorMk30
import Derived.Test.YtncgcejlkmoliaaGreatDoorMk31
import Derived.Test.YtncgcejlkmoliaaGreatDoorMk32
import Derived.Test.YtncgcejlkmoliaaGreatDoorMk33
import Derived.Test.YtncgcejlkmoliaaGreatDoorMk34
import Derived.Test.YtncgcejlkmoliaaGreatDoorMk35
import Derived.Test.YtncgcejlkmoliaaGreatDoorMh45
import Derived.Test.YtncgcejlkmoliaaGreatDoorMh36
import Derived.Test.YtncgcejlkmoliaaGreatDoorMh37
import Derived.Test.YtncgcejlkmoliaaGreatDoorMh38
import Derived.Test.YtncgcejlkmoliaaGreatDoorMk39
import Derived.Test.YtncgcejlkmoliaaGreatDoorMk40
import Derived.Test.YtncgcejlkmoliaaGreatDoorMk41
import Derived.Test.YtncgcejlkmoliaaGreatDoorMk42
import Derived.Test.YtncgcejlkmoliaaGreatDoorMk43
import Derived.Test.YtncgcejlkmoliaaGreatDoorMk44
import Derived.Test.YtncgcejlkmoliaaGreatDoorNc00
import Derived.Laws.OwnMore
set_option linter.unusedVariables false
set_option maxRecDepth 100000
set_option maxHeartbeats 16000000
namespace Go.Proofs.YtncgcejlkmoliaaGreatDoor.Ho
open Go.RowKit
def v4 (f:Nat→Value):Array Value:=#[f 0,f 1,f 2,f 3]
theorem v4_set (f:Nat→Value) {k:Nat} (hk:k < 4) (x:Value):(v4 f).setIfInBounds k x=v4 (fun j=>if j=k then x else f j):=by
 match k,hk with
 | 0,_=>rfl
 | 1,_=>rfl
 | 2,_=>rfl
 | 3,_=>rfl
theorem v4_cell {w:World} {g T:Nat} {f:Nat→Value} (h:w.heap[g]?=some (.cells (v4 f) T (0,0))) {k:Nat} (hk:k < 4):w.cell? ⟨g,k,none⟩=some (f k):=by
 rw [cell_of_row _ _ _ _ _ _ h]
 match k,hk with
 | 0,_=>rfl
 | 1,_=>rfl
 | 2,_=>rfl
 | 3,_=>rfl
theorem v4_congr {f g:Nat→Value} (h:∀ i,i < 4→f i=g i):v4 f=v4 g:=by
 unfold v4
 rw [h 0 (by omega),h 1 (by omega),h 2 (by omega),h 3 (by omega)]
theorem ne_ty {W:World} {a b:Nat} {c d:Array Value} {S T:TypeId} (h:W.heap[a]?=some (.cells c S (0,0))) (k:W.heap[b]?=some (.cells d T (0,0))) (hn:S ≠ T):a ≠ b:=by
 rintro rfl
 rw [h] at k
 injection k with k
 injection k with e1 e2
 exact hn e2
theorem own_block {w:World} {base n T:Nat} {v:Value} {xs:List Value} (h:w.ownsRow base T 1 v n xs) {g:Nat} (hg:v.ownBlock=some g):∃ cur,w.heap[g]?=some (.cells cur T (0,0)):=by
 rcases h.2 with ⟨rfl,_⟩ | ⟨g',cap,cur,rfl,h1,h2,_⟩
 ·simp [Value.ownBlock] at hg
 ·simp [Value.ownBlock] at hg
  subst hg; exact ⟨cur,h2⟩
structure Lw (W0:World) (lab:Nat→Nat) (g1 g2:Nat) (T:Nat→List ByteArray) (O:Nat→ByteArray) (v:Nat→Value) (W:World):Prop where
 l1:lab g1=9
 l2:lab g2=9
 lo1:W0.heap.size≤g1
 lo2:W0.heap.size≤g2
 c1:W.heap[g1]?=some (.cells (v4 v) 75 (0,0))
 c2:W.heap[g2]?=some (.cells (v4 fun i=>.string (O i)) 76 (0,0))
 own:∀ i,i < 4→W.ownsRow W0.heap.size 9 1 (v i) (T i).length (scells (T i))
 lb:∀ i,i < 4→∀ k,(v i).ownBlock=some k→lab k=9
 sep:∀ i j,i < 4→j < 4→i ≠ j→∀ k,(v i).ownBlock=some k→(v j).ownBlock ≠ some k
section
variable {W0:World} {lab lab':Nat→Nat} {g1 g2:Nat} {T:Nat→List ByteArray} {O:Nat→ByteArray} {v:Nat→Value} {W W':World}
theorem Lw.lt1 (h:Lw W0 lab g1 g2 T O v W):g1 < W.heap.size:=(Array.getElem?_eq_some_iff.1 h.c1).1
theorem Lw.lt2 (h:Lw W0 lab g1 g2 T O v W):g2 < W.heap.size:=(Array.getElem?_eq_some_iff.1 h.c2).1
theorem Lw.ne (h:Lw W0 lab g1 g2 T O v W):g1 ≠ g2:=ne_ty h.c1 h.c2 (by decide)
theorem Lw.frame (h:Lw W0 lab g1 g2 T O v W) (hs:∀ n,n < W.heap.size→lab n=9→W'.heap[n]?=W.heap[n]?) (hl:∀ n,n < W.heap.size→lab' n=lab n):Lw W0 lab' g1 g2 T O v W' :=
 ⟨(hl _ h.lt1).trans h.l1,(hl _ h.lt2).trans h.l2,h.lo1,h.lo2,(hs _ h.lt1 h.l1).trans h.c1,(hs _ h.lt2 h.l2).trans h.c2,
   fun i hi=>own_same (h.own i hi) fun g hg=>hs g (own_lt (h.own i hi) g hg).2 (h.lb i hi g hg),fun i hi k hk=>(hl k (own_lt (h.own i hi) k hk).2).trans (h.lb i hi k hk),h.sep⟩
theorem Lw.below (h:Lw W0 lab g1 g2 T O v W) (hB:Below W.heap.size W W'):Lw W0 lab g1 g2 T O v W':=h.frame (fun n hn _=>hB.block n hn) fun _ _=>rfl
theorem Lw.gr (h:Lw W0 lab g1 g2 T O v W) (hG:Gr lab lab' W W'):Lw W0 lab' g1 g2 T O v W':=h.frame (fun n hn hl=>hG.same n hn (.inr hl)) hG.old
theorem Lw.put (h:Lw W0 lab g1 g2 T O v W) {k:Nat} (hk:k < 4) {x:Value} {X:List ByteArray} {Y:ByteArray}
 (e1:W'.heap[g1]?=some (.cells (v4 fun j=>if j=k then x else v j) 75 (0,0))) (e2:W'.heap[g2]?=some (.cells (v4 fun j=>.string (if j=k then Y else O j)) 76 (0,0)))
 (ho:W'.ownsRow W0.heap.size 9 1 x X.length (scells X)) (hx:∀ n,x.ownBlock=some n→(v k).ownBlock=some n∨(W.heap.size≤n∧lab n=9))
 (hs:∀ j,j < 4→j ≠ k→∀ n,(v j).ownBlock=some n→W'.heap[n]?=W.heap[n]?) :
 Lw W0 lab g1 g2 (fun j=>if j=k then X else T j) (fun j=>if j=k then Y else O j) (fun j=>if j=k then x else v j) W':=by
 refine ⟨h.l1,h.l2,h.lo1,h.lo2,e1,e2,fun i hi=>?_,fun i hi n hn=>?_,fun i j hi hj hij n hn=>?_⟩
 ·by_cases e:i=k
  ·simp only [if_pos e]; exact ho
  ·simp only [if_neg e]; exact own_same (h.own i hi) fun g hg=>hs i hi e g hg
 ·by_cases e:i=k
  ·simp only [if_pos e] at hn
   rcases hx n hn with e2 | e2
   ·exact h.lb k hk n e2
   ·exact e2.2
  ·simp only [if_neg e] at hn; exact h.lb i hi n hn
 ·by_cases e:i=k
  ·have ej:¬ j=k:=fun e2=>hij (e.trans e2.symm)
   simp only [if_pos e] at hn
   simp only [if_neg ej]
   rcases hx n hn with e2 | e2
   ·exact h.sep k j hk hj (fun e3=>ej e3.symm) n e2
   ·intro e3
    have:=(own_lt (h.own j hj) n e3).2
    omega
  ·simp only [if_neg e] at hn
   by_cases ej:j=k
   ·simp only [if_pos ej]
    intro e3
    rcases hx n e3 with e2 | e2
    ·exact h.sep i k hi hk e n hn e2
    ·have:=(own_lt (h.own i hi) n hn).2
     omega
   ·simp only [if_neg ej]; exact h.sep i j hi hj hij n hn
theorem Lw.congr (h:Lw W0 lab g1 g2 T O v W) {T':Nat→List ByteArray} {O':Nat→ByteArray} (h1:T=T') (h2:O=O'):Lw W0 lab g1 g2 T' O' v W:=by subst h1 h2; exact h
end
theorem HoC.grown {W0:World} {lab:Nat→Nat} {w w':World} {hb:Nat} {M:Hm} {o:Option Nat} (h:HoC W0 lab w hb M) (hg:w.grownBy w' o) (ho:∀ k,o=some k→lab k=9∧W0.heap.size≤k):HoC W0 lab w' hb M:=by
 obtain ⟨p,vl,h⟩:=h
 refine ⟨p,vl,h.frame hg.os hg.tape hg.output hg.size (fun n hn=>hg.block n (Nat.lt_of_lt_of_le hn h.low.size) fun e=>?_) fun n hn hl=>hg.block n hn fun e=>?_⟩
 ·have:=(ho n e.symm).2; omega
 ·exact hl (ho n e.symm).1
structure Tc (W0:World) (lab:Nat→Nat) (hb:Nat) (M:Hm) (a:Ac) (c:Int) (s:ByteArray) (ba br g1 g2:Nat) (T:Nat→List ByteArray) (O:Nat→ByteArray) (v:Nat→Value) (W:World):Prop where
 ho:HoC W0 lab W hb M
 lw:Lw W0 lab g1 g2 T O v W
 ca:W.heap[ba]?=some (.cells a.cells 23 (0,0))
 cr:W.heap[br]?=some (.cells #[.int .i64 c,.string s] 29 (0,0))
section
variable {W0:World} {lab:Nat→Nat} {hb:Nat} {M:Hm} {a:Ac} {c:Int} {s:ByteArray} {ba br g1 g2:Nat} {T:Nat→List ByteArray} {O:Nat→ByteArray} {v:Nat→Value} {W W':World}
theorem Tc.below (h:Tc W0 lab hb M a c s ba br g1 g2 T O v W) (hB:Below W.heap.size W W'):Tc W0 lab hb M a c s ba br g1 g2 T O v W' :=
 ⟨h.ho.below hB,h.lw.below hB,(hB.block _ (Array.getElem?_eq_some_iff.1 h.ca).1).trans h.ca,(hB.block _ (Array.getElem?_eq_some_iff.1 h.cr).1).trans h.cr⟩
theorem Tc.drewN (h:Tc W0 lab hb M a c s ba br g1 g2 T O v W) (n:Nat):Tc W0 lab hb M a c s ba br g1 g2 T O v (W.drewN n):=h.below (below_drewN (Below.refl _ _) n)
theorem Tc.congr (h:Tc W0 lab hb M a c s ba br g1 g2 T O v W) {T':Nat→List ByteArray} {O':Nat→ByteArray} (h1:T=T') (h2:O=O'):Tc W0 lab hb M a c s ba br g1 g2 T' O' v W:=by subst h1 h2; exact h
theorem Tc.neA (h:Tc W0 lab hb M a c s ba br g1 g2 T O v W):ba ≠ g1∧ba ≠ g2∧br ≠ g1∧br ≠ g2 :=
 ⟨ne_ty h.ca h.lw.c1 (by decide),ne_ty h.ca h.lw.c2 (by decide),ne_ty h.cr h.lw.c1 (by decide),ne_ty h.cr h.lw.c2 (by decide)⟩
theorem Tc.neR (h:Tc W0 lab hb M a c s ba br g1 g2 T O v W) {i:Nat} (hi:i < 4) {n:Nat} (hn:(v i).ownBlock=some n):n ≠ ba∧n ≠ br∧n ≠ g1∧n ≠ g2:=by
 obtain ⟨cur,hc⟩:=own_block (h.lw.own i hi) hn
 exact ⟨ne_ty hc h.ca (by decide),ne_ty hc h.cr (by decide),ne_ty hc h.lw.c1 (by decide),ne_ty hc h.lw.c2 (by decide)⟩
theorem Tc.clear (h:Tc W0 lab hb M a c s ba br g1 g2 T O v W) {k:Nat} (hk:k < 4) {W1 W2:World} (u1:Upd g1 W W1) (e1:W1.heap[g1]?=some (.cells (v4 fun j=>if j=k then .slice none 0 0 else v j) 75 (0,0)))
 (u2:Upd (g2) W1 W2) (e2:W2.heap[g2]?=some (.cells (v4 fun j=>if j=k then .string nilB else .string (O j)) 76 (0,0))) :
 Tc W0 lab hb M a c s ba br g1 g2 (fun j=>if j=k then [] else T j) (fun j=>if j=k then nilB else O j) (fun j=>if j=k then .slice none 0 0 else v j) W2:=by
 obtain ⟨n1,n2,n3,n4⟩:=h.neA
 have hb2:∀ n,n ≠ g1→n ≠ g2→W2.heap[n]?=W.heap[n]?:=fun n h1 h2=>(u2.block n h2).trans (u1.block n h1)
 refine ⟨(h.ho.other u1 h.lw.l1 h.lw.lo1).other u2 h.lw.l2 h.lw.lo2,h.lw.put hk ((u2.block _ h.lw.ne).trans e1) ?_ (World.ownsRow_nil _ _ _ _) (fun n hn=>by simp [Value.ownBlock] at hn) (fun j hj hjk n hn=>?_),(hb2 _ n1 n2).trans h.ca,(hb2 _ n3 n4).trans h.cr⟩
 ·rw [e2,v4_congr (f:=fun j=>if j=k then Value.string nilB else .string (O j)) (g:=fun j=>.string (if j=k then nilB else O j)) fun i _=>by by_cases e:i=k <;> simp [e]]
 ·obtain ⟨_,_,m1,m2⟩:=h.neR hj hn
  exact hb2 n m1 m2
theorem Tc.app (h:Tc W0 lab hb M a c s ba br g1 g2 T O v W) {k:Nat} (hk:k < 4) {Wb Wc:World} {x:Value} {X:List ByteArray} (hg:W.grownBy Wb (v k).ownBlock) (ho:Wb.ownsRow W0.heap.size 9 1 x X.length (scells X)) (hx:x.ownBlock=(v k).ownBlock∨x.ownBlock=some W.heap.size)
 (u1:Upd g1 Wb Wc) (e1:Wc.heap[g1]?=some (.cells (v4 fun j=>if j=k then x else v j) 75 (0,0))) :
 Tc W0 lab hb M a c s ba br g1 g2 (fun j=>if j=k then X else T j) O (fun j=>if j=k then x else v j) Wc:=by
 obtain ⟨n1,n2,n3,n4⟩:=h.neA
 have l1:=h.lw.lt1
 have l2:=h.lw.lt2
 have hblk:∀ n,n < W.heap.size→(v k).ownBlock ≠ some n→n ≠ g1→Wc.heap[n]?=W.heap[n]?:=fun n hn hne h1=>(u1.block n h1).trans (hg.block n hn fun e=>hne e.symm)
 have hnb:∀ n,(v k).ownBlock=some n→n ≠ ba∧n ≠ br∧n ≠ g1∧n ≠ g2:=fun n hn=>h.neR hk hn
 have hla:=(Array.getElem?_eq_some_iff.1 h.ca).1
 have hlr:=(Array.getElem?_eq_some_iff.1 h.cr).1
 have hHb:=h.ho.grown hg fun n hn=>⟨h.lw.lb k hk n hn,(own_lt (h.lw.own k hk) n hn).1⟩
 have key:=h.lw.put (W':=Wc) (X:=X) (Y:=O k) hk e1 (by
  rw [hblk _ l2 (fun e=>(hnb _ e).2.2.2 rfl) h.lw.ne.symm,h.lw.c2,v4_congr (f:=fun i=>Value.string (O i)) (g:=fun j=>.string (if j=k then O k else O j)) fun i _=>by by_cases e:i=k <;> simp [e]])
  (own_same ho fun g hg'=>u1.block g (by
   rcases hx with e | e
   ·exact (hnb g (e ▸ hg')).2.2.1
   ·rw [e] at hg'; injection hg' with hg'; omega))
  (fun n hn=>by
   rcases hx with e | e
   ·exact .inl (e ▸ hn)
   ·rw [e] at hn; injection hn with hn
    exact .inr ⟨by omega,h.ho.outs n (by omega)⟩)
  (fun j hj hjk n hn=>by
   obtain ⟨_,_,m1,m2⟩:=h.neR hj hn
   exact hblk n (own_lt (h.lw.own j hj) n hn).2 (fun e=>h.lw.sep k j hk hj (fun e2=>hjk e2.symm) n e hn) m1)
 refine ⟨hHb.other u1 h.lw.l1 h.lw.lo1,key.congr rfl (funext fun j=>by by_cases e:j=k <;> simp [e]),?_,?_⟩
 ·exact (hblk _ hla (fun e=>(hnb _ e).1 rfl) n1).trans h.ca
 ·exact (hblk _ hlr (fun e=>(hnb _ e).2.1 rfl) n3).trans h.cr
theorem Tc.out (h:Tc W0 lab hb M a c s ba br g1 g2 T O v W) {k:Nat} (hk:k < 4) {Y:ByteArray} {Wc:World} (u1:Upd (g2) W Wc) (e1:Wc.heap[g2]?=some (.cells (v4 fun j=>if j=k then .string Y else .string (O j)) 76 (0,0))) :
 Tc W0 lab hb M a c s ba br g1 g2 T (fun j=>if j=k then Y else O j) v Wc:=by
 obtain ⟨n1,n2,n3,n4⟩:=h.neA
 refine ⟨h.ho.other u1 h.lw.l2 h.lw.lo2,⟨h.lw.l1,h.lw.l2,h.lw.lo1,h.lw.lo2,(u1.block _ h.lw.ne).trans h.lw.c1,?_,fun i hi=>own_same (h.lw.own i hi) fun g hg=>u1.block g (h.neR hi hg).2.2.2,h.lw.lb,h.lw.sep⟩,(u1.block _ n2).trans h.ca,(u1.block _ n4).trans h.cr⟩
 rw [e1,v4_congr (f:=fun j=>if j=k then Value.string Y else .string (O j)) (g:=fun j=>.string (if j=k then Y else O j)) fun i _=>by by_cases e:i=k <;> simp [e]]
theorem Tc.cells (h:Tc W0 lab hb M a c s ba br g1 g2 T O v W) {k:Nat} (hk:k < 4):W.cell? ⟨g1,k,none⟩=some (v k)∧W.cell? ⟨g2,k,none⟩=some (.string (O k))∧W.cell? ⟨ba,0,none⟩=some (.int .i64 a.kind)∧W.cell? ⟨ba,1,none⟩=some (.int .i64 a.seat)∧W.cell? ⟨br,1,none⟩=some (.string s)∧(∀ o,W.frozen? ⟨g2,o,none⟩=false):=by
 refine ⟨v4_cell h.lw.c1 hk,v4_cell h.lw.c2 hk,by rw [cell_of_row _ _ _ _ _ _ h.ca]; rfl,by rw [cell_of_row _ _ _ _ _ _ h.ca]; rfl,by rw [cell_of_row _ _ _ _ _ _ h.cr]; rfl,fun o=>by simp [World.frozen?,h.lw.c2]⟩
end
theorem exec_appendT {w:World} (ty:TypeId) {base B:Nat} {v x:Value} {q r:List ByteArray} (hown:w.ownsRow base 9 1 v q.length (scells q)) (hx:w.ownsRow B 9 1 x r.length (scells r)) (hlen:q.length+r.length≤1000000) (hbase:base≤w.heap.size) :
 ∃ u w',(∀ (a:Act) (op:Oper) (s y:Operand),op.op=.call { callee:=.builtin .append,args:=#[s,y],argTypes:=#[47,47] }→op.type=ty→a.eval s=v→a.eval y=x→(execOp a.eval op).run Tryz.prog w=.ok (.value u) w') ∧
  w'.ownsRow base 9 1 u (q++r).length (scells (q++r))∧w.grownBy w' v.ownBlock∧(u.ownBlock=v.ownBlock∨u.ownBlock=some w.heap.size):=by
 obtain ⟨i,hi,hz,hsz,hb⟩:=info_parts Tryz.info9
 rcases hx.2 with ⟨rfl,h0⟩ | ⟨g,cap,cur,rfl,h1,h2,h3,h4,h5,h6⟩
 ·have hr:r=[]:=List.eq_nil_of_length_eq_zero h0
  subst hr
  have hr:=run_append_owned_none (P:=Tryz.prog) w base 47 ty 9 i 1 Tryz.underlying47 hi v q.length (scells q) hown
  refine ⟨v,w,fun a op s y ho hty hs hy=>?_,by rw [List.append_nil]; exact hown,⟨rfl,rfl,rfl,Nat.le_refl _,fun _ _ _=>rfl⟩,.inl rfl⟩
  subst hty
  unfold execOp
  simp only [ho,resolve,invoke,builtin,Sem.run_bind,Sem.run_pure,Result.andThen_ok,List.map_toArray,List.map_cons,List.map_nil,hs,hy,hr]
 ·obtain ⟨u,w',hr,h1,h2,h3,h4⟩:=run_append_own_at (P:=Tryz.prog) (w:=w) base 47 ty 9 i _ 1 16 Tryz.underlying47 hi hz hsz hb rfl (by decide) v q.length (scells q) hown ⟨g,0,none⟩ r.length cap (scells r) (by rw [scells_length]; omega)
   (fun j y hj=>hx.cells (g:=g) rfl j y hj) (scells_one r) (by unfold maxLen; omega) (by omega) hbase
  refine ⟨u,w',fun a op s y ho hty hs hy=>?_,by rw [List.length_append,scells_append]; exact h1,h2,h4⟩
  subst hty
  unfold execOp
  simp only [ho,resolve,invoke,builtin,Sem.run_bind,Sem.run_pure,Result.andThen_ok,List.map_toArray,List.map_cons,List.map_nil,hs,hy,hr]
theorem strs_elem:Tryz.prog.underlying 47=some (.slice (Tryz.prog.elem 47))∧Tryz.prog.elem 47=9:=by
 have he:Tryz.prog.elem 47=9:=by simp [Program.elem,Tryz.underlying47]
 exact ⟨by rw [he]; exact Tryz.underlying47,he⟩
theorem run_uptoS (av:Option Addr) (n cap m:Nat) (h1:m≤cap) (w:World):(Instr.sliceAt 47 (.slice av n cap) none (some (.int .i64 (m:Int))) none).run Tryz.prog w=.ok (.slice av m cap) w:=by
 obtain ⟨hu,he⟩:=strs_elem
 obtain ⟨i,hi,hz,h1',h2⟩:=info_parts Tryz.info9
 rw [run_sliceAt_slice (h:=hu),run_slice_h (ht:=hu) (kh:=.i64) (h:=(m:Int)) (h0:=by omega) (h2:=by omega),he]
 simp only [sizeOf,typeInfo,Sem.run_bind,Sem.run_pure,sliced,Int.toNat_natCast,Nat.zero_mul,Nat.sub_zero]
 have hz0:∀ b:Option Addr,b.map (fun x=>x.add 0)=b:=fun b=>by cases b <;> simp [Addr.add]
 simp [hi,hz0]
def fromA (av:Option Addr) (m cap:Nat):Option Addr:=if cap=m then av else av.map (·.add m)
theorem run_fromS (av:Option Addr) (n cap m:Nat) (h1:m≤n) (w:World):(Instr.sliceAt 47 (.slice av n cap) (some (.int .i64 (m:Int))) none none).run Tryz.prog w=.ok (.slice (fromA av m cap) (n - m) (cap - m)) w:=by
 obtain ⟨hu,he⟩:=strs_elem
 obtain ⟨i,hi,hz,h1',h2⟩:=info_parts Tryz.info9
 rw [run_sliceAt_slice (h:=hu),run_slice_l (ht:=hu) (kl:=.i64) (l:=(m:Int)) (h0:=by omega) (h1:=by omega),he]
 simp only [sizeOf,typeInfo,Sem.run_bind,Sem.run_pure,sliced,Int.toNat_natCast,fromA]
 simp [hi,h1']
theorem wl_uptoS {ops:Array Oper} {rest:List Oper} {op:Oper} {x:Act} {w:World} {Q:Exit→Act→World→Prop} (y z:Operand) (ho:op.op=.slice 47 y none (some z) none) (hw:Region.wanted op (yielded ops x.tmps)=true) {av:Option Addr} {n cap m:Nat} (hy:x.eval y=.slice av n cap) (hz:x.eval z=.int .i64 (m:Int)) (h1:m≤cap)
 (h:wpList Tryz.prog ops Q rest (x.put op.dst (.slice av m cap)) w):wpList Tryz.prog ops Q (op::rest) x w:=by
 refine wl_wanted hw ?_
 have hr:=run_uptoS av n cap m h1 w
 unfold Oper.wp execOp
 simp only [ho,hy,hz,Option.map,hr,Sem.run_bind,Sem.run_pure,Result.andThen_ok]
 exact h
theorem exec_fromS {x:Act} {op:Oper} {w:World} (y z:Operand) (ho:op.op=.slice 47 y (some z) none none) {av:Option Addr} {n cap m:Nat} (hy:x.eval y=.slice av n cap) (hz:x.eval z=.int .i64 (m:Int)) (h1:m≤n):(execOp x.eval op).run Tryz.prog w=.ok (.value (.slice (fromA av m cap) (n - m) (cap - m))) w:=by
 have hr:=run_fromS av n cap m h1 w
 unfold execOp
 simp only [ho,hy,hz,Option.map,hr,Sem.run_bind,Sem.run_pure,Result.andThen_ok]
theorem reads_upto {w:World} {av:Option Addr} {n cap:Nat} {q r:List ByteArray} (h:Reads w (.slice av n cap) (q++r)):Reads w (.slice av q.length cap) q∧q.length≤cap:=by
 obtain ⟨av',cap',e,h1,h2,h3,h4⟩:=h
 injection e with e1 e2 e3
 subst e1 e3
 have hl:(q++r).length=q.length+r.length:=List.length_append
 refine ⟨⟨av,cap,rfl,by omega,h2,h3,fun h0=>?_⟩,by omega⟩
 obtain ⟨b,off,e,hc⟩:=h4 (by omega)
 refine ⟨b,off,e,fun i hi=>?_⟩
 have:=hc i (by omega)
 rw [List.getElem_append_left hi] at this
 exact this
theorem reads_from {w:World} {av:Option Addr} {n cap:Nat} {q r:List ByteArray} (h:Reads w (.slice av n cap) (q++r)):Reads w (.slice (fromA av q.length cap) r.length (cap - q.length)) r:=by
 obtain ⟨av',cap',e,h1,h2,h3,h4⟩:=h
 injection e with e1 e2 e3
 subst e1 e3
 have hl:(q++r).length=q.length+r.length:=List.length_append
 refine ⟨_,_,rfl,by omega,by omega,fun e=>?_,fun h0=>?_⟩
 ·unfold fromA at e
  by_cases hc:cap=q.length
  ·omega
  ·rw [if_neg hc] at e
   have:=h3 (by simpa using e)
   omega
 ·obtain ⟨b,off,e,hc⟩:=h4 (by omega)
  refine ⟨b,off+q.length,by unfold fromA; rw [if_neg (by omega),e]; simp [Addr.add],fun i hi=>?_⟩
  have:=hc (q.length+i) (by omega)
  rw [List.getElem_append_right (by omega)] at this
  simp only [Nat.add_sub_cancel_left] at this
  rw [← this,Nat.add_assoc]
open Go.RowKit
theorem Tryz.sizeStrT:(Tryz.prog.info? 9).map (·.size)=some 1:=by kernel_rfl
section
variable {x:Act} {op:Oper} {w:World}
theorem exec_told (y:Operand) (ho:op.op=.load 47 y) {g k:Nat} {T:TypeId} {f:Nat→Value} (hx:x.eval y=.pointer (some ⟨g,k,none⟩)) (hk:k < 4) (hc:w.heap[g]?=some (.cells (v4 f) T (0,0))):(execOp x.eval op).run Tryz.prog w=.ok (.value (f k)) w:=by
 have hcell:=v4_cell hc hk
 unfold execOp
 simp only [ho,hx]
 go_simp
theorem exec_outs (y:Operand) (ho:op.op=.load 9 y) {g k:Nat} {T:TypeId} {f:Nat→Value} (hx:x.eval y=.pointer (some ⟨g,k,none⟩)) (hk:k < 4) (hc:w.heap[g]?=some (.cells (v4 f) T (0,0))):(execOp x.eval op).run Tryz.prog w=.ok (.value (f k)) w:=by
 have hcell:=v4_cell hc hk
 unfold execOp
 simp only [ho,hx]
 go_simp
theorem exec_ring (y:Operand) (ho:op.op=.load 9 y) {g:Nat} {P:Pa.Pg} {v:Value} (hx:x.eval y=.pointer (some ⟨g,3,none⟩)) (hc:w.heap[g]?=some (.cells (P.cells v) 51 (0,0))):(execOp x.eval op).run Tryz.prog w=.ok (.value (.string P.ring)) w:=by
 have hcell:w.cell? ⟨g,3,none⟩=some (.string P.ring):=by rw [cell_of_row _ _ _ _ _ _ hc]; rfl
 unfold execOp
 simp only [ho,hx]
 go_simp
theorem exec_wait (y:Operand) (ho:op.op=.load 47 y) {g:Nat} {P:Pa.Pg} {v:Value} (hx:x.eval y=.pointer (some ⟨g,0,none⟩)) (hc:w.heap[g]?=some (.cells (P.cells v) 51 (0,0))):(execOp x.eval op).run Tryz.prog w=.ok (.value v) w:=by
 have hcell:w.cell? ⟨g,0,none⟩=some v:=by rw [cell_of_row _ _ _ _ _ _ hc]; rfl
 unfold execOp
 simp only [ho,hx]
 go_simp
theorem exec_set1 (ty:TypeId) (y z:Operand) (ho:op.op=.store ty y z) {g k:Nat} {u:Value} {cs:Array Value} {T:TypeId} (hy:x.eval y=.pointer (some ⟨g,k,none⟩)) (hz:x.eval z=u) (hc:w.heap[g]?=some (.cells cs T (0,0))) (hk:k < cs.size) (hi:(Tryz.prog.info? ty).map (·.size)=some 1) (h1:u.oneCell'=true) :
 (execOp x.eval op).run Tryz.prog w=.ok .skip (w.setCells g k [u]):=by
 have ht:=there_of (n:=1) (o:=k) hc (by omega)
 have hr:(storeVar ty ⟨g,k,none⟩ u).run Tryz.prog w=.ok () (w.setCells g k [u]):=by
  have:=run_storeCells_cells (P:=Tryz.prog) g k [u] 0 w (fun j hj=>by simpa using (ht j (by simpa using hj)).1) (fun j hj=>by simpa using (ht j (by simpa using hj)).2) (fun u hu=>by simp at hu; subst hu; exact h1)
  cases hq:Tryz.prog.info? ty with
  | none=>simp [hq] at hi
  | some i =>
   have hs:1=i.size:=by simp [hq] at hi; omega
   simp only [Nat.add_zero] at this
   simp [storeVar,sizeOf,typeInfo,hq,cells_one h1,← hs,this]
 unfold execOp
 simp only [ho,hy,hz,Instr.storeAt,Instr.sureAddr,Sem.run_bind,Sem.run_pure,Result.andThen_ok,hr]
theorem exec_alloctel (ho:op.op=.alloc 79):(execOp x.eval op).run Tryz.prog w=.ok (.value (.pointer (some ⟨w.heap.size,0,none⟩))) (w.alloc (.cells Te.zt.cells 79)):=by
 have hz:=(zero_of_info Tryz.zTelnet).1
 unfold execOp
 simp only [ho]
 go_simp
 try rfl
theorem exec_puttel (y z:Operand) (ho:op.op=.store 79 y z) {g:Nat} {t t0:Te.Tel} (hy:x.eval y=.pointer (some ⟨g,0,none⟩)) (hz:x.eval z=t.val) (hc:w.heap[g]?=some (.cells t0.cells 79 (0,0))):(execOp x.eval op).run Tryz.prog w=.ok .skip (w.setCells g 0 t.cells.toList):=by
 have:=run_storeAt_mid (P:=Tryz.prog) w g 0 79 t.cells (there_of hc (by show 0+10≤10; omega)) Tryz.sizeTelnet one_tel
 unfold execOp
 simp only [ho,hy,hz,Te.Tel.val,Sem.run_bind,this,Result.andThen_ok,Sem.run_pure]
theorem exec_zt (ho:op.op=.build 79 #[]):(execOp x.eval op).run Tryz.prog w=.ok (.value Te.zt.val) w:=by
 have hz:=(zero_of_info Tryz.zTelnet).1
 unfold execOp
 simp only [ho]
 go_simp
 try rfl
theorem exec_str (y:Operand) (ho:op.op=.load 9 y) {g k:Nat} {s:ByteArray} (hx:x.eval y=.pointer (some ⟨g,k,none⟩)) (hc:w.cell? ⟨g,k,none⟩=some (.string s)):(execOp x.eval op).run Tryz.prog w=.ok (.value (.string s)) w:=by
 unfold execOp
 simp only [ho,hx]
 go_simp
theorem exec_rs (y:Operand) (ho:op.op=.load 9 y) {g:Nat} {c:Int} {s:ByteArray} (hx:x.eval y=.pointer (some ⟨g,1,none⟩)) (hc:w.heap[g]?=some (.cells #[.int .i64 c,.string s] 29 (0,0))):(execOp x.eval op).run Tryz.prog w=.ok (.value (.string s)) w:=by
 have hcell:w.cell? ⟨g,1,none⟩=some (.string s):=by rw [cell_of_row _ _ _ _ _ _ hc]; rfl
 unfold execOp
 simp only [ho,hx]
 go_simp
end
theorem seatN (M:Hm) {i:Nat} (h:i < 4):seatAt M (i:Int)=M.seat i:=by unfold seatAt; rw [if_pos (by omega),Int.toNat_natCast]
theorem fine_zt:Te.Fine Te.zt:=(Te.fine_iff _).1 good_zt
theorem Lw.upto {W0:World} {lab:Nat→Nat} {g1 g2:Nat} {T T':Nat→List ByteArray} {O O':Nat→ByteArray} {v:Nat→Value} {W:World} (h:Lw W0 lab g1 g2 (fun j=>if j < 4 then T' j else T j) (fun j=>if j < 4 then O' j else O j) v W):Lw W0 lab g1 g2 T' O' v W:=by
 refine ⟨h.l1,h.l2,h.lo1,h.lo2,h.c1,?_,fun i hi=>?_,h.lb,h.sep⟩
 ·rw [h.c2,v4_congr fun i hi=>?_]
  simp only [if_pos hi]
 ·have:=h.own i hi
  simp only [if_pos hi] at this
  exact this
end Go.Proofs.YtncgcejlkmoliaaGreatDoor.Ho
