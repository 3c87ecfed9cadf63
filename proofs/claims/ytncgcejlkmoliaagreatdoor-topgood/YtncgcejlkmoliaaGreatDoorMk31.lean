import Derived.Test.YtncgcejlkmoliaaGreatDoorMk30
import Derived.Test.YtncgcejlkmoliaaGreatDoorMh03
set_option linter.unusedVariables false
set_option maxRecDepth 100000
set_option maxHeartbeats 16000000
namespace Go.Proofs.YtncgcejlkmoliaaGreatDoor.Ho
open Go.RowKit
structure SeL (lab:Nat→Nat) (i:Nat) (w:World) (k:Nat) (S:Se) (vq vp vt:Value):Prop where
 v:SeV w k S vq vp vt
 lk:lab k=i
 lt:∀ g,vt.ownBlock=some g→lab g=i
 lq:0 < S.lin.q.length→∀ b off n c,vq=.slice (some ⟨b,off,none⟩) n c→lab b=8
 lp:0 < S.pg.wait.length→∀ b off n c,vp=.slice (some ⟨b,off,none⟩) n c→lab b=8
def At (lab:Nat→Nat) (i:Nat) (w:World) (o:Option Se) (x:Value):Prop :=
 (o=none∧x=.pointer none)∨∃ k S vq vp vt,o=some S∧x=.pointer (some ⟨k,0,none⟩)∧SeL lab i w k S vq vp vt
def pre (p:Nat→Value) (n:Nat):List Value:=[p 0,p 1,p 2,p 3,.int .i64 (n:Int)]
structure HoV (W0:World) (lab:Nat→Nat) (w:World) (hb:Nat) (M:Hm) (p:Nat→Value) (vl:Value):Prop where
 low:Below W0.heap.size W0 w
 base:∀ n,n < W0.heap.size→lab n=9
 out:∀ n,w.heap.size≤n→lab n=9
 cell:w.heap[hb]?=some (.cells (M.L.more (pre p M.acts) vl) 102 (0,0))
 row:w.ownsRow (hb+1) 71 16 vl M.last.length (evc M.last)
 lh:lab hb=4
 lr:∀ g,vl.ownBlock=some g→lab g=4
 seats:∀ i,i < 4→At lab i w (M.seat i) (p i)
def HoC (W0:World) (lab:Nat→Nat) (w:World) (hb:Nat) (M:Hm):Prop:=∃ p vl,HoV W0 lab w hb M p vl
structure Gr (lab lab':Nat→Nat) (w w':World):Prop where
 os:w'.os=w.os
 tape:w'.tape=w.tape
 output:w'.output=w.output
 size:w.heap.size≤w'.heap.size
 old:∀ n,n < w.heap.size→lab' n=lab n
 same:∀ n,n < w.heap.size→lab n=8∨lab n=9→w'.heap[n]?=w.heap[n]?
section
variable {W0:World} {lab lab' lab'':Nat→Nat} {w w' w'':World} {hb:Nat} {M:Hm} {p:Nat→Value} {vl:Value}
theorem Gr.refl (lab:Nat→Nat) (w:World):Gr lab lab w w:=⟨rfl,rfl,rfl,Nat.le_refl _,fun _ _=>rfl,fun _ _ _=>rfl⟩
theorem Gr.trans (h:Gr lab lab' w w') (g:Gr lab' lab'' w' w''):Gr lab lab'' w w'' :=
 ⟨g.os.trans h.os,g.tape.trans h.tape,g.output.trans h.output,Nat.le_trans h.size g.size,fun n hn=>(g.old n (Nat.lt_of_lt_of_le hn h.size)).trans (h.old n hn),
  fun n hn hl=>by rw [g.same n (Nat.lt_of_lt_of_le hn h.size) (by rw [h.old n hn]; exact hl),h.same n hn hl]⟩
theorem Gr.below (hb:Below w.heap.size w w'):Gr lab lab w w':=⟨hb.os,hb.tape,hb.output,hb.size,fun _ _=>rfl,fun n hn _=>hb.block n hn⟩
theorem Gr.upd {k:Nat} (hu:Upd k w w') (hk:lab k ≠ 8) (hk9:lab k ≠ 9):Gr lab lab w w' :=
 ⟨hu.os,hu.tape,hu.output,by rw [hu.size]; exact Nat.le_refl _,fun _ _=>rfl,fun n hn hl=>hu.block n (by rintro rfl; rcases hl with h | h; exact hk h; exact hk9 h)⟩
theorem HoV.lt (h:HoV W0 lab w hb M p vl):hb < w.heap.size:=(Array.getElem?_eq_some_iff.1 h.cell).1
theorem SeL.frame {i:Nat} {k:Nat} {S:Se} {vq vp vt:Value} (h:SeL lab i w k S vq vp vt) (hi:i < 4) (hs:∀ n,n < w.heap.size→lab n=i∨lab n=8→w'.heap[n]?=w.heap[n]?) (hl:∀ n,n < w.heap.size→lab' n=lab n):SeL lab' i w' k S vq vp vt:=by
 have hk:=h.v.lt
 refine ⟨⟨by rw [hs k hk (.inl h.lk)]; exact h.v.cell,Reads.same h.v.q fun h0 b off n c e=>hs b (h.v.q.lt h0 b off n c e) (.inr (h.lq h0 b off n c e)),Reads.same h.v.p fun h0 b off n c e=>hs b (h.v.p.lt h0 b off n c e) (.inr (h.lp h0 b off n c e)),own_same h.v.t fun g hg=>hs g (own_lt h.v.t g hg).2 (.inl (h.lt g hg)),h.v.qk,h.v.pk,h.v.qt,h.v.pt⟩,?_,?_,?_,?_⟩
 ·rw [hl k hk]; exact h.lk
 ·intro g hg; rw [hl g (own_lt h.v.t g hg).2]; exact h.lt g hg
 ·intro h0 b off n c e; rw [hl b (h.v.q.lt h0 b off n c e)]; exact h.lq h0 b off n c e
 ·intro h0 b off n c e; rw [hl b (h.v.p.lt h0 b off n c e)]; exact h.lp h0 b off n c e
theorem At.frame {i:Nat} {o:Option Se} {x:Value} (h:At lab i w o x) (hi:i < 4) (hs:∀ n,n < w.heap.size→lab n=i∨lab n=8→w'.heap[n]?=w.heap[n]?) (hl:∀ n,n < w.heap.size→lab' n=lab n):At lab' i w' o x:=by
 rcases h with h | ⟨k,S,vq,vp,vt,e1,e2,h⟩
 ·exact .inl h
 ·exact .inr ⟨k,S,vq,vp,vt,e1,e2,h.frame hi hs hl⟩
theorem low_gr (h:Below W0.heap.size W0 w) (hb:∀ n,n < W0.heap.size→lab n=9) (g:Gr lab lab' w w'):Below W0.heap.size W0 w' :=
 ⟨g.os.trans h.os,g.tape.trans h.tape,g.output.trans h.output,Nat.le_trans h.size g.size,fun n hn=>by rw [g.same n (Nat.lt_of_lt_of_le hn h.size) (.inr (hb n hn))]; exact h.block n hn⟩
theorem HoV.frame (h:HoV W0 lab w hb M p vl) (h1:w'.os=w.os) (h2:w'.tape=w.tape) (h3:w'.output=w.output) (h4:w.heap.size≤w'.heap.size) (hlow:∀ n,n < W0.heap.size→w'.heap[n]?=w.heap[n]?) (hs:∀ n,n < w.heap.size→lab n ≠ 9→w'.heap[n]?=w.heap[n]?):HoV W0 lab w' hb M p vl:=by
 have hl:=h.lt
 refine ⟨⟨h1.trans h.low.os,h2.trans h.low.tape,h3.trans h.low.output,Nat.le_trans h.low.size h4,fun n hn=>(hlow n hn).trans (h.low.block n hn)⟩,h.base,fun n hn=>h.out n (Nat.le_trans h4 hn),by rw [hs hb hl (by rw [h.lh]; decide)]; exact h.cell,
  own_same h.row fun g hg=>hs g (own_lt h.row g hg).2 (by rw [h.lr g hg]; decide),h.lh,h.lr,fun i hi=>(h.seats i hi).frame hi (fun n hn hl=>hs n hn ?_) fun _ _=>rfl⟩
 rcases hl with e | e
 ·rw [e]; omega
 ·rw [e]; decide
theorem HoV.below (h:HoV W0 lab w hb M p vl) (hB:Below w.heap.size w w'):HoV W0 lab w' hb M p vl :=
 h.frame hB.os hB.tape hB.output hB.size (fun n hn=>hB.block n (Nat.lt_of_lt_of_le hn h.low.size)) fun n hn _=>hB.block n hn
theorem HoV.seat (h:HoV W0 lab w hb M p vl) {i k:Nat} (hi:i < 4) {S S':Se} {vq vp vt vq' vp' vt':Value} (hx:p i=.pointer (some ⟨k,0,none⟩)) (hS:SeL lab i w k S vq vp vt) (g:SeP k w vq vp vt w' S' vq' vp' vt')
 (eq:vq'=vq→S'.lin.q=S.lin.q) (ep:vp'=vp→S'.pg.wait=S.pg.wait):∃ lab',HoV W0 lab' w' hb (M.put i (some S')) p vl∧Gr lab lab' w w':=by
 have hkl:=hS.v.lt
 have hw0:=h.low.size
 refine ⟨fun n=>if n < w.heap.size then lab n else if vt'.ownBlock=some n then i else if n < w'.heap.size then 8 else 9,?_⟩
 generalize hlab:(fun n=>if n < w.heap.size then lab n else if vt'.ownBlock=some n then i else if n < w'.heap.size then 8 else 9)=lab'
 have l1:∀ n,n < w.heap.size→lab' n=lab n:=fun n hn=>by rw [← hlab]; exact if_pos hn
 have l2:∀ n,¬ n < w.heap.size→vt'.ownBlock=some n→lab' n=i:=fun n hn e=>by rw [← hlab]; simp only; rw [if_neg hn,if_pos e]
 have l3:∀ n,¬ n < w.heap.size→vt'.ownBlock ≠ some n→n < w'.heap.size→lab' n=8:=fun n hn e hn'=>by rw [← hlab]; simp only; rw [if_neg hn,if_neg e,if_pos hn']
 have l4:∀ n,¬ n < w'.heap.size→lab' n=9:=fun n hn=>by
  have hgs:=g.size
  rw [← hlab]; simp only; rw [if_neg (by omega),if_neg (fun e=>hn (own_lt g.v.t n e).2),if_neg hn]
 have hsame:∀ n,n < w.heap.size→lab n ≠ i→w'.heap[n]?=w.heap[n]?:=fun n hn hne=>g.block n hn (by rintro rfl; exact hne hS.lk) (fun e=>hne (hS.lt n e))
 have hG:Gr lab lab' w w':=⟨g.os,g.tape,g.output,g.size,l1,fun n hn hl=>hsame n hn (by rcases hl with e | e <;> rw [e] <;> omega)⟩
 have hlt:=h.lt
 refine ⟨⟨low_gr h.low h.base hG,fun n hn=>by rw [l1 n (by omega)]; exact h.base n hn,fun n hn=>l4 n (by omega),by rw [hsame hb hlt (by rw [h.lh]; omega)]; exact h.cell,own_same h.row fun b hb2=>hsame b (own_lt h.row b hb2).2 (by rw [h.lr b hb2]; omega),by rw [l1 hb hlt]; exact h.lh,fun b hb2=>by rw [l1 b (own_lt h.row b hb2).2]; exact h.lr b hb2,fun j hj=>?_⟩,hG⟩
 by_cases e:j=i
 ·subst e
  refine .inr ⟨k,S',vq',vp',vt',by simp [Hm.put],hx,g.v,by rw [l1 k hkl]; exact hS.lk,fun b hb2=>?_,fun h0 b off n c e=>?_,fun h0 b off n c e=>?_⟩
  ·by_cases hlt:b < w.heap.size
   ·rw [l1 b hlt]
    rcases g.row with e | e | ⟨b',e,hb'⟩
    ·exact hS.lt b (by rw [← e]; exact hb2)
    ·rw [e] at hb2; simp at hb2
    ·rw [e] at hb2; injection hb2 with hb2; omega
   ·exact l2 b hlt hb2
  ·rcases g.fq with e2 | e2
   ·have h0':0 < S.lin.q.length:=by rw [← eq e2]; exact h0
    rw [l1 b (hS.v.q.lt h0' b off n c (by rw [← e2]; exact e))]
    exact hS.lq h0' b off n c (by rw [← e2]; exact e)
   ·have:=e2 b off n c e
    exact l3 b (by omega) (fun e3=>g.v.qt b e3 h0 b off n c e rfl) (g.v.q.lt h0 b off n c e)
  ·rcases g.fp with e2 | e2
   ·have h0':0 < S.pg.wait.length:=by rw [← ep e2]; exact h0
    rw [l1 b (hS.v.p.lt h0' b off n c (by rw [← e2]; exact e))]
    exact hS.lp h0' b off n c (by rw [← e2]; exact e)
   ·have:=e2 b off n c e
    exact l3 b (by omega) (fun e3=>g.v.pt b e3 h0 b off n c e rfl) (g.v.p.lt h0 b off n c e)
 ·have:(M.put i (some S')).seat j=M.seat j:=by simp [Hm.put,e]
  rw [this]
  exact (h.seats j hj).frame hj (fun n hn hl=>hsame n hn (by rcases hl with e2 | e2 <;> rw [e2] <;> omega)) l1
end
open Go.RowKit
theorem over_land (L X:Ld) (l:List Value) (v:Value):over (L.more l v) 0 X.cells.toList=X.more l v:=by
 apply Array.ext_getElem?
 intro n
 rw [over_get,Array.length_toList,X.size,Nat.zero_add,more_size]
 by_cases h:n < 165
 ·rw [if_pos ⟨by omega,h,by omega⟩,Nat.sub_zero,Array.getElem?_toList,more_get X l v n h,X.get n h]
 ·rw [if_neg (by omega)]
  unfold Ld.more
  rw [Array.getElem?_append_right (by rw [L.size]; omega),Array.getElem?_append_right (by rw [X.size]; omega),L.size,X.size]
theorem Tryz.sizeEvents:(Tryz.prog.info? 45).map (·.size)=some 1:=by kernel_rfl
theorem Tryz.sizePSeat:(Tryz.prog.info? 96).map (·.size)=some 1:=by kernel_rfl
theorem Tryz.sizeSeats:(Tryz.prog.info? 100).map (·.size)=some 4:=by kernel_rfl
theorem reads_same {w w':World} {v:Value} {q q':List ByteArray} (h:Reads w v q) (h':Reads w' v q') (hs:0 < q.length→∀ b off n c,v=.slice (some ⟨b,off,none⟩) n c→w'.heap[b]?=w.heap[b]?):q'=q:=by
 obtain ⟨av,cap,rfl,hl,hm,hn,hc⟩:=h
 obtain ⟨av',cap',e,hl',hm',hn',hc'⟩:=h'
 injection e with e1 e2 e3
 subst e1
 apply List.ext_getElem e2.symm
 intro i h1 h2
 obtain ⟨b,off,rfl,hcell⟩:=hc (by omega)
 obtain ⟨b',off',ee,hcell'⟩:=hc' (by omega)
 injection ee with ee; injection ee with e4 e5
 subst e4 e5
 have g1:=hcell i h2
 have g2:=hcell' i h1
 have e:=hs (by omega) b off _ _ rfl
 simp only [World.cell?,e] at g1 g2
 rw [g1] at g2
 injection g2 with g2; injection g2 with g2
 exact g2.symm
section
variable {W0:World} {lab lab':Nat→Nat} {w w' W:World} {hb:Nat} {M M':Hm} {p p':Nat→Value} {vl vl':Value}
theorem HoV.step (h:HoV W0 lab w hb M p vl) {i k:Nat} (hi:i < 4) {S S':Se} {vq vp vt vq' vp' vt':Value} (hx:p i=.pointer (some ⟨k,0,none⟩)) (hS:SeL lab i w k S vq vp vt) (g:SeP k w vq vp vt w' S' vq' vp' vt') :
 ∃ lab',HoV W0 lab' w' hb (M.put i (some S')) p vl∧Gr lab lab' w w':=by
 refine h.seat hi hx hS g (fun e=>?_) (fun e=>?_)
 ·subst e
  exact reads_same hS.v.q g.v.q fun h0 b off n c e=>g.block b (hS.v.q.lt h0 b off n c e) (hS.v.qk h0 b off n c e) (fun ht=>hS.v.qt b ht h0 b off n c e rfl)
 ·subst e
  exact reads_same hS.v.p g.v.p fun h0 b off n c e=>g.block b (hS.v.p.lt h0 b off n c e) (hS.v.pk h0 b off n c e) (fun ht=>hS.v.pt b ht h0 b off n c e rfl)
theorem HoV.own (h:HoV W0 lab w hb M p vl) (hu:Upd hb w W) (hc:W.heap[hb]?=some (.cells (M'.L.more (pre p' M'.acts) vl') 102 (0,0))) (hr:w.ownsRow (hb+1) 71 16 vl' M'.last.length (evc M'.last)) (hlr:∀ g,vl'.ownBlock=some g→lab g=4)
 (hs:∀ i,i < 4→At lab i w (M'.seat i) (p' i)):HoV W0 lab W hb M' p' vl'∧Gr lab lab w W:=by
 have hG:Gr lab lab w W:=Gr.upd hu (by rw [h.lh]; decide) (by rw [h.lh]; decide)
 refine ⟨⟨low_gr h.low h.base hG,h.base,fun n hn=>h.out n (by rw [← hu.size]; exact hn),hc,own_same hr fun g hg=>hu.block g (by have:=own_lt hr g hg; omega),h.lh,hlr,fun i hi=>(hs i hi).frame hi (fun n hn hl=>hu.block n ?_) fun _ _=>rfl⟩,hG⟩
 rintro rfl
 rw [h.lh] at hl
 omega
theorem HoV.more (h:HoV W0 lab w hb M p vl) {w1 w3:World} {E:Ev} {v3:Value} (hB:Below w.heap.size w w1) (ho:w3.ownsRow (hb+1) 71 16 v3 (M.last.length+1) (evc M.last++E.cells.toList)) (hg:w1.grownBy w3 vl.ownBlock)
 (hv:v3.ownBlock=vl.ownBlock∨v3.ownBlock=some w1.heap.size) (hc:W.heap[hb]?=some (.cells (M.L.more (pre p M.acts) v3) 102 (0,0))) (hu:Upd hb w3 W) :
 ∃ lab',HoV W0 lab' W hb { M with last:=M.last++[E] } p v3∧Gr lab lab' w W:=by
 have hlt:=h.lt
 have hw0:=h.low.size
 have hsz:w.heap.size≤W.heap.size:=by rw [hu.size]; exact Nat.le_trans hB.size hg.size
 have hown:=own_same ho (w':=W) fun g e=>hu.block g (by have:=own_lt ho g e; omega)
 refine ⟨fun n=>if n < w.heap.size then lab n else if v3.ownBlock=some n then 4 else 9,?_⟩
 generalize hlab:(fun n=>if n < w.heap.size then lab n else if v3.ownBlock=some n then 4 else 9)=lab'
 have l1:∀ n,n < w.heap.size→lab' n=lab n:=fun n hn=>by rw [← hlab]; exact if_pos hn
 have l2:∀ n,¬ n < w.heap.size→v3.ownBlock=some n→lab' n=4:=fun n hn e=>by rw [← hlab]; simp only; rw [if_neg hn,if_pos e]
 have l3:∀ n,¬ n < w.heap.size→v3.ownBlock ≠ some n→lab' n=9:=fun n hn e=>by rw [← hlab]; simp only; rw [if_neg hn,if_neg e]
 have hsame:∀ n,n < w.heap.size→lab n ≠ 4→W.heap[n]?=w.heap[n]?:=fun n hn hne=>by
  rw [hu.block n (by rintro rfl; exact hne h.lh),hg.block n (Nat.lt_of_lt_of_le hn hB.size) (fun e=>hne (h.lr n e.symm)),hB.block n hn]
 have hG:Gr lab lab' w W:=⟨by rw [hu.os,hg.os]; exact hB.os,by rw [hu.tape,hg.tape]; exact hB.tape,by rw [hu.output,hg.output]; exact hB.output,hsz,l1,fun n hn hl=>hsame n hn (by rcases hl with e | e <;> rw [e] <;> decide)⟩
 refine ⟨⟨low_gr h.low h.base hG,fun n hn=>by rw [l1 n (by omega)]; exact h.base n hn,fun n hn=>l3 n (by omega) (fun e=>by have:=own_lt hown n e; omega),hc,?_,by rw [l1 hb hlt]; exact h.lh,fun b e=>?_,fun i hi=>(h.seats i hi).frame hi (fun n hn hl=>hsame n hn ?_) l1⟩,hG⟩
 ·rw [evc_snoc]
  have e1:(M.last++[E]).length=M.last.length+1:=by simp
  rw [e1]; exact hown
 ·by_cases hlt:b < w.heap.size
  ·rw [l1 b hlt]
   rcases hv with e2 | e2
   ·exact h.lr b (by rw [← e2]; exact e)
   ·rw [e2] at e; injection e with e
    have:=hB.size
    omega
  ·exact l2 b hlt e
 ·rcases hl with e | e <;> rw [e] <;> omega
theorem HoV.come (h:HoV W0 lab w hb M p vl) {i k:Nat} (hi:i < 4) {S:Se} {vq vp vt:Value} (hS:SeV w' k S vq vp vt) (hk:k=w.heap.size) (hB:Below w.heap.size w w') (hq:vq=.slice none 0 0∨Far w.heap.size vq) (hp:vp=.slice none 0 0∨Far w.heap.size vp)
 (hc:W.heap[hb]?=some (.cells (M.L.more (pre (fun j=>if j=i then .pointer (some ⟨k,0,none⟩) else p j) M.acts) vl) 102 (0,0))) (hu:Upd hb w' W) :
 ∃ lab',HoV W0 lab' W hb (M.put i (some S)) (fun j=>if j=i then .pointer (some ⟨k,0,none⟩) else p j) vl∧Gr lab lab' w W:=by
 have hlt:=h.lt
 have hw0:=h.low.size
 have hsz:w.heap.size≤W.heap.size:=by rw [hu.size]; exact hB.size
 refine ⟨fun n=>if n < w.heap.size then lab n else if n=k∨vt.ownBlock=some n then i else if n < W.heap.size then 8 else 9,?_⟩
 generalize hlab:(fun n=>if n < w.heap.size then lab n else if n=k∨vt.ownBlock=some n then i else if n < W.heap.size then 8 else 9)=lab'
 have l1:∀ n,n < w.heap.size→lab' n=lab n:=fun n hn=>by rw [← hlab]; exact if_pos hn
 have l2:∀ n,¬ n < w.heap.size→(n=k∨vt.ownBlock=some n)→lab' n=i:=fun n hn e=>by rw [← hlab]; simp only; rw [if_neg hn,if_pos e]
 have l3:∀ n,¬ n < w.heap.size→¬ (n=k∨vt.ownBlock=some n)→n < W.heap.size→lab' n=8:=fun n hn e hn'=>by rw [← hlab]; simp only; rw [if_neg hn,if_neg e,if_pos hn']
 have hkl:=hS.lt
 have l4:∀ n,¬ n < W.heap.size→lab' n=9:=fun n hn=>by
  rw [← hlab]; simp only
  rw [if_neg (by omega),if_neg ?_,if_neg hn]
  rintro (e | e)
  ·subst e; exact hn (by rw [hu.size]; exact hkl)
  ·exact hn (by rw [hu.size]; exact (own_lt hS.t n e).2)
 have hsame:∀ n,n < w.heap.size→n ≠ hb→W.heap[n]?=w.heap[n]?:=fun n hn hne=>by rw [hu.block n hne,hB.block n hn]
 have hG:Gr lab lab' w W:=⟨by rw [hu.os]; exact hB.os,by rw [hu.tape]; exact hB.tape,by rw [hu.output]; exact hB.output,hsz,l1,fun n hn hl=>hsame n hn (by rintro rfl; rw [h.lh] at hl; omega)⟩
 refine ⟨⟨low_gr h.low h.base hG,fun n hn=>by rw [l1 n (by omega)]; exact h.base n hn,fun n hn=>l4 n (by omega),hc,own_same h.row fun b e=>hsame b (own_lt h.row b e).2 (by have:=own_lt h.row b e; omega),by rw [l1 hb hlt]; exact h.lh,fun b e=>by rw [l1 b (own_lt h.row b e).2]; exact h.lr b e,fun j hj=>?_⟩,hG⟩
 by_cases e:j=i
 ·subst e
  have hne:∀ n,w.heap.size≤n→n ≠ hb:=fun n hn e=>by omega
  have fq:∀ b off n c,vq=.slice (some ⟨b,off,none⟩) n c→w.heap.size≤b:=fun b off n c e=>by
   rcases hq with e2 | e2
   ·rw [e2] at e; simp at e
   ·exact e2 b off n c e
  have fp:∀ b off n c,vp=.slice (some ⟨b,off,none⟩) n c→w.heap.size≤b:=fun b off n c e=>by
   rcases hp with e2 | e2
   ·rw [e2] at e; simp at e
   ·exact e2 b off n c e
  refine .inr ⟨k,S,vq,vp,vt,by simp [Hm.put],by simp,⟨⟨by rw [hu.block k (hne k (by omega))]; exact hS.cell,Reads.same hS.q fun h0 b off n c e=>hu.block b (hne b (fq b off n c e)),Reads.same hS.p fun h0 b off n c e=>hu.block b (hne b (fp b off n c e)),own_same hS.t fun g hg=>hu.block g (hne g (by have:=own_lt hS.t g hg; omega)),hS.qk,hS.pk,hS.qt,hS.pt⟩,l2 k (by omega) (.inl rfl),fun g hg=>l2 g (by have:=own_lt hS.t g hg; omega) (.inr hg),fun h0 b off n c e=>?_,fun h0 b off n c e=>?_⟩⟩
  ·exact l3 b (by have:=fq b off n c e; omega) (fun e2=>by
    rcases e2 with e2 | e2
    ·subst e2; exact hS.qk h0 _ off n c e rfl
    ·exact hS.qt b e2 h0 b off n c e rfl) (by rw [hu.size]; exact hS.q.lt h0 b off n c e)
  ·exact l3 b (by have:=fp b off n c e; omega) (fun e2=>by
    rcases e2 with e2 | e2
    ·subst e2; exact hS.pk h0 _ off n c e rfl
    ·exact hS.pt b e2 h0 b off n c e rfl) (by rw [hu.size]; exact hS.p.lt h0 b off n c e)
 ·have:(M.put i (some S)).seat j=M.seat j:=by simp [Hm.put,e]
  rw [this,if_neg e]
  exact (h.seats j hj).frame hj (fun n hn hl=>hsame n hn (by rintro rfl; rw [h.lh] at hl; omega)) l1
end
end Go.Proofs.YtncgcejlkmoliaaGreatDoor.Ho
namespace Go.Proofs.YtncgcejlkmoliaaGreatDoor
open Go.RowKit
theorem event_of {w:World} {base:Nat} {v:Value} {Fs:List Ev} (h:w.ownsRow base 71 16 v Fs.length (evc Fs)) (k:Nat) (hk:k < Fs.length):∃ g cap,v=.slice (some ⟨g,0,none⟩) Fs.length cap∧base≤g∧∀ j,j < 16→w.cell? ⟨g,k*16+j,none⟩=Fs[k].cells[j]?:=by
 rcases h.2 with ⟨rfl,h0⟩ | ⟨g,cap,cur,rfl,h1,h2,h3,h4,h5,h6⟩
 ·omega
 ·refine ⟨g,cap,rfl,h1,fun j hj=>?_⟩
  rw [cell_of_row w g _ _ _ _ h2]
  have hl:k*16+j < Fs.length*16:=by omega
  have e1:cur[k*16+j]?=(evc Fs)[k*16+j]?:=by
   rw [← h6,List.getElem?_take,if_pos hl,Array.getElem?_toList]
  rw [e1]
  have key:∀ (Gs:List Ev) (k:Nat) (hk:k < Gs.length),(evc Gs)[k*16+j]?=Gs[k].cells[j]?:=by
   intro Gs
   induction Gs with
   | nil=>intro k hk; simp at hk
   | cons E Gs ih =>
    intro k hk
    have hsz:E.cells.toList.length=16:=by rw [Array.length_toList,Ev.size]
    show (E.cells.toList++evc Gs)[k*16+j]?=_
    cases k with
    | zero=>rw [List.getElem?_append_left (by omega)]; simp
    | succ k =>
     rw [List.getElem?_append_right (by omega),hsz,show (k+1)*16+j - 16=k*16+j by omega]
     exact ih k (by simpa using hk)
  exact key Fs k hk
end Go.Proofs.YtncgcejlkmoliaaGreatDoor
