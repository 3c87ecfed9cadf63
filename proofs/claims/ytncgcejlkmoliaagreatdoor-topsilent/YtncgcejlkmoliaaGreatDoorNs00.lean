import Derived.Test.YtncgcejlkmoliaaGreatDoorMh00
import Derived.Test.YtncgcejlkmoliaaGreatDoorMh01
import Derived.Test.YtncgcejlkmoliaaGreatDoorMh02
import Derived.Test.YtncgcejlkmoliaaGreatDoorMh03
import Derived.Test.YtncgcejlkmoliaaGreatDoorMh04
import Derived.Test.YtncgcejlkmoliaaGreatDoorMh05
import Derived.Test.YtncgcejlkmoliaaGreatDoorMh06
import Derived.Test.YtncgcejlkmoliaaGreatDoorMh07
import Derived.Test.YtncgcejlkmoliaaGreatDoorMh08
import Derived.Test.YtncgcejlkmoliaaGreatDoorMh09
import Derived.Test.YtncgcejlkmoliaaGreatDoorMh10
import Derived.Test.YtncgcejlkmoliaaGreatDoorMh11
import Derived.Test.YtncgcejlkmoliaaGreatDoorMh12
import Derived.Test.YtncgcejlkmoliaaGreatDoorMh13
import Derived.Test.YtncgcejlkmoliaaGreatDoorMh14
import Derived.Test.YtncgcejlkmoliaaGreatDoorMh15
import Derived.Test.YtncgcejlkmoliaaGreatDoorMh16
import Derived.Test.YtncgcejlkmoliaaGreatDoorMh17
import Derived.Test.YtncgcejlkmoliaaGreatDoorMh18
import Derived.Test.YtncgcejlkmoliaaGreatDoorMh19
import Derived.Test.YtncgcejlkmoliaaGreatDoorMh20
import Derived.Test.YtncgcejlkmoliaaGreatDoorMh21
import Derived.Test.YtncgcejlkmoliaaGreatDoorMh22
import Derived.Test.YtncgcejlkmoliaaGreatDoorMh46
import Derived.Test.YtncgcejlkmoliaaGreatDoorMh23
import Derived.Test.YtncgcejlkmoliaaGreatDoorMk24
import Derived.Test.YtncgcejlkmoliaaGreatDoorMk25
import Derived.Test.YtncgcejlkmoliaaGreatDoorMh26
import Derived.Test.YtncgcejlkmoliaaGreatDoorMk27
import Derived.Test.YtncgcejlkmoliaaGreatDoorMh28
import Derived.Test.YtncgcejlkmoliaaGreatDoorMk29
import Derived.Test.YtncgcejlkmoliaaGreatDoorMk30
import Derived.Test.YtncgcejlkmoliaaGreatDoorMk31
import Derived.Test.YtncgcejlkmoliaaGreatDoorMk32
import Derived.Test.YtncgcejlkmoliaaGreatDoorMk33
import Derived.Test.YtncgcejlkmoliaaGreatDoorMk34
import Derived.Test.YtncgcejlkmoliaaGreatDoorMk35
import Derived.Test.YtncgcejlkmoliaaGreatDoorMh45
import Derived.Test.YtncgcejlkmoliaaGreatDoorMh36
import Derived.Test.YtncgcejlkmoliaaGreatDoorMh37
import Derived.Test.YtncgcejlkmoliaaGreatDoorMh38
import Derived.Test.YtncgcejlkmoliaaGreatDoorMk39
import Derived.Test.YtncgcejlkmoliaaGreatDoorMk40
import Derived.Test.YtncgcejlkmoliaaGreatDoorMk41
import Derived.Test.YtncgcejlkmoliaaGreatDoorMk42
import Derived.Test.YtncgcejlkmoliaaGreatDoorMk43
import Derived.Test.YtncgcejlkmoliaaGreatDoorMk44
set_option linter.unusedVariables false
set_option maxRecDepth 100000
set_option maxHeartbeats 16000000
namespace Go.Proofs.YtncgcejlkmoliaaGreatDoor.Pa
open Go.RowKit
theorem refusal_ok {P:Pg} (h:goodP P=true) (hc:P.cut=false):refusal P=0:=by simp [refusal,h,hc]
end Go.Proofs.YtncgcejlkmoliaaGreatDoor.Pa
namespace Go.Proofs.YtncgcejlkmoliaaGreatDoor.Ho
open Go.RowKit
theorem ok_good {P:Pa.Pg} (h:Pa.Ok P):Pa.goodP P=true:=by
 have h1:=h.ring
 have h2:=h.lo
 have h3:=h.hi
 have h4:=h.len
 simp only [Pa.goodP,Pa.gheight,Bool.and_eq_true,decide_eq_true_eq]
 exact ⟨⟨h4,h1⟩,h2,h3⟩
section
variable {S:Se}
end
end Go.Proofs.YtncgcejlkmoliaaGreatDoor.Ho
namespace Go.Proofs.YtncgcejlkmoliaaGreatDoor
def Sps (g:List UInt8):Prop:=∀ b ∈ g,b=32
theorem Sps.tail {b:UInt8} {g:List UInt8} (h:Sps (b::g)):Sps g:=fun c hc=>h c (List.mem_cons_of_mem _ hc)
end Go.Proofs.YtncgcejlkmoliaaGreatDoor
namespace Go.Proofs.YtncgcejlkmoliaaGreatDoor.Ho
open Go.RowKit
def Kq (M M':Hm):Prop:=∀ i S',M'.seat i=some S'→∃ S,M.seat i=some S∧S'.lin=S.lin
theorem Kq.refl (M:Hm):Kq M M:=fun i S h=>⟨S,h,rfl⟩
theorem Kq.trans {M M' M'':Hm} (h:Kq M M') (g:Kq M' M''):Kq M M'':=fun i S'' hS=>by
 obtain ⟨S',h1,e1⟩:=g i S'' hS
 obtain ⟨S,h2,e2⟩:=h i S' h1
 exact ⟨S,h2,e1.trans e2⟩
theorem heard_lin (E:Ev) (S:Se):(heardS E S).lin=S.lin:=by
 unfold heardS; split
 ·unfold hearS; split <;> rfl
 ·rfl
theorem kq_hears (Es:List Ev):∀ M:Hm,Kq M (hearsM M Es):=by
 induction Es with
 | nil=>intro M; exact Kq.refl M
 | cons E r ih =>
  intro M
  have h1:Kq M (hearM E M):=fun i S' hS=>by
   simp only [hearM,Option.map_eq_some_iff] at hS
   obtain ⟨S,hS,rfl⟩:=hS
   exact ⟨S,hS,heard_lin E S⟩
  exact h1.trans (ih (hearM E M))
theorem kq_hap (M:Hm) (X:Ld) (Es:List Ev):Kq M (hapM M X Es):=fun i S' hS=>kq_hears Es { M with L:=X } i S' hS
theorem kq_order (M:Hm) (b:Int) (O:Od):Kq M (orderM M b O):=by
 unfold orderM; split
 ·exact kq_hap _ _ _
 ·exact Kq.refl M
theorem kq_put {M:Hm} {i:Nat} {S T:Se} (h:M.seat i=some S) (e:T.lin=S.lin):Kq M (M.put i (some T)):=fun j S' hS=>by
 simp only [Hm.put] at hS
 by_cases hj:j=i
 ·rw [if_pos hj] at hS; injection hS with hS; subst hS; subst hj; exact ⟨S,h,e⟩
 ·rw [if_neg hj] at hS; exact ⟨S',hS,rfl⟩
theorem kq_none (M:Hm) (i:Nat):Kq M (M.put i none):=fun j S' hS=>by
 simp only [Hm.put] at hS
 by_cases hj:j=i
 ·rw [if_pos hj] at hS; cases hS
 ·rw [if_neg hj] at hS; exact ⟨S',hS,rfl⟩
theorem kq_leave (M:Hm) (i:Nat):Kq M (leaveM M i):=by
 unfold leaveM; split
 ·exact Kq.refl M
 ·split
  ·exact (kq_none M i).trans (kq_order _ _ _)
  ·exact kq_none M i
theorem kq_enter {M:Hm} {i:Nat} {S:Se} (h:M.seat i=some S) (nm:ByteArray):Kq M (enterM M i S nm):=by
 unfold enterM; split
 ·exact (kq_put (T:={ S with being:=(vacA M.L).1 }) h rfl).trans (kq_hap _ _ _)
 ·split
  ·exact kq_put h rfl
  ·exact kq_put h rfl
theorem kq_obey {M:Hm} {i:Nat} {S:Se} (h:M.seat i=some S) (l:List UInt8):Kq M (obeyM M i S l):=by
 unfold obeyM; split
 ·exact kq_put h rfl
 ·split
  ·exact kq_leave M i
  ·exact kq_order _ _ _
theorem kq_cuts (M:Hm) (i:Nat):Kq M (cutsM M i).1:=by
 unfold cutsM; split
 ·exact Kq.refl M
 ·rename_i S hS
  split
  ·exact (kq_put (T:=flowS S) hS rfl).trans (kq_leave _ _)
  ·exact kq_put hS rfl
theorem kq_cutK (M:Hm):∀ k,Kq M (cutK M k).1
 | 0=>Kq.refl M
 | k+1=>(kq_cutK M k).trans (kq_cuts _ k)
theorem kq_flowN:∀ (n:Nat) (M:Hm),Kq M (flowN n M)
 | 0,M=>Kq.refl M
 | n+1,M=>by
  unfold flowN; split
  ·exact (kq_cutK M 4).trans (kq_flowN n _)
  ·exact kq_cutK M 4
theorem kq_forget (M:Hm) (n:Nat):Kq M { forgetM M with acts:=n }:=fun i S' hS=>by
 simp only [forgetM,Option.map_eq_some_iff] at hS
 obtain ⟨S,hS,rfl⟩:=hS
 exact ⟨S,hS,rfl⟩
theorem turn_q (M:Hm) (i:Nat):∀ j S',(turnM M i).seat j=some S'→∃ S,M.seat j=some S∧S'.lin.q=if j=i then S.lin.q.tail else S.lin.q:=by
 have keep:∀ {M':Hm},Kq M M'→(∀ S,M.seat i=some S→S.lin.q.tail=S.lin.q)→∀ j S',M'.seat j=some S'→∃ S,M.seat j=some S∧S'.lin.q=if j=i then S.lin.q.tail else S.lin.q:=by
  intro M' hK he j S' hS
  obtain ⟨S,h1,h2⟩:=hK j S' hS
  refine ⟨S,h1,?_⟩
  by_cases hj:j=i
  ·subst hj; rw [if_pos rfl,he S h1,h2]
  ·rw [if_neg hj,h2]
 have pop:∀ {S:Se} {f:ByteArray} {r:List ByteArray} {M':Hm},M.seat i=some S→S.lin.q=f::r→Kq (M.put i (some (popS S r))) M'→∀ j S',M'.seat j=some S'→∃ S,M.seat j=some S∧S'.lin.q=if j=i then S.lin.q.tail else S.lin.q:=by
  intro S f r M' hS hq hK j S' hS'
  obtain ⟨T,h1,h2⟩:=hK j S' hS'
  simp only [Hm.put] at h1
  by_cases hj:j=i
  ·subst hj
   rw [if_pos rfl] at h1
   injection h1 with h1
   subst h1
   exact ⟨S,hS,by rw [if_pos rfl,h2,hq]; rfl⟩
  ·rw [if_neg hj] at h1
   exact ⟨T,h1,by rw [if_neg hj,h2]⟩
 have hput:∀ {S:Se} {r:List ByteArray},(M.put i (some (popS S r))).seat i=some (popS S r):=by intro S r; simp [Hm.put]
 unfold turnM
 cases hS:M.seat i with
 | none=>exact keep (Kq.refl M) (fun S h=>by rw [hS] at h; cases h)
 | some S =>
  cases hq:S.lin.q with
  | nil=>simp only [hq]; exact keep (Kq.refl M) (fun T h=>by rw [hS] at h; injection h with h; rw [← h,hq]; rfl)
  | cons f r =>
   simp only [hq]
   split
   ·exact pop hS hq (Kq.refl _)
   ·split
    ·exact pop hS hq (kq_obey hput _)
    ·exact pop hS hq (kq_enter hput _)
theorem turns_q (M:Hm):∀ k,∀ j S',(turnsM M k).seat j=some S'→∃ S,M.seat j=some S∧S'.lin.q=if j < k then S.lin.q.tail else S.lin.q
 | 0=>fun j S' hS=>⟨S',hS,by rw [if_neg (by omega)]⟩
 | k+1=>fun j S' hS=>by
  obtain ⟨T,h1,h2⟩:=turn_q (turnsM M k) k j S' hS
  obtain ⟨S,h3,h4⟩:=turns_q M k j T h1
  refine ⟨S,h3,?_⟩
  rw [h2,h4]
  by_cases hj:j=k
  ·subst hj; rw [if_pos rfl,if_neg (by omega),if_pos (by omega)]
  ·rw [if_neg hj]
   by_cases hl:j < k
   ·rw [if_pos hl,if_pos (by omega)]
   ·rw [if_neg hl,if_neg (by omega)]
theorem pulse_q (M:Hm) (n:Int) {j:Nat} (hj:j < 4) {S':Se} (hS:(pulseM M n).seat j=some S'):∃ S,M.seat j=some S∧S'.lin.q=S.lin.q.tail:=by
 obtain ⟨T,h1,h2⟩:=kq_hap (turnsM M 4) _ _ j S' hS
 obtain ⟨S,h3,h4⟩:=turns_q M 4 j T h1
 rw [if_pos hj] at h4
 exact ⟨S,h3,by rw [h2,h4]⟩
open Go.RowKit
theorem step_len (L:Li.Lin) (b:UInt8):L.q.length≤(Li.step L b).1.q.length:=by
 unfold Li.step
 repeat' split
 all_goals first
  | exact Nat.le_refl _
  | (simp only [Li.endL]; split <;> simp)
theorem feed_len (l:List UInt8):∀ L:Li.Lin,L.q.length≤(Li.feedL L l).1.q.length:=by
 induction l with
 | nil=>intro L; exact Nat.le_refl _
 | cons b r ih=>intro L; exact Nat.le_trans (step_len L b) (ih (Li.step L b).1)
theorem feedS_len (S:Se) (l:List UInt8):S.lin.q.length≤(feedS S l).lin.q.length:=by
 unfold feedS
 split
 ·exact feed_len _ _
 ·exact feed_len _ _
theorem kq_len {M M':Hm} (h:Kq M M') {i:Nat} {S':Se} (hS:M'.seat i=some S'):(lineOf (M.seat i)).q.length=S'.lin.q.length:=by
 obtain ⟨S,h1,h2⟩:=h i S' hS
 rw [h1,h2]; rfl
theorem put_len {M:Hm} {k i:Nat} {S T S':Se} (hk:M.seat k=some S) (hl:S.lin.q.length≤T.lin.q.length) (hS:(M.put k (some T)).seat i=some S'):(lineOf (M.seat i)).q.length≤S'.lin.q.length:=by
 simp only [Hm.put] at hS
 by_cases h:i=k
 ·rw [if_pos h] at hS; injection hS with hS; subst hS; rw [h,hk]; exact hl
 ·rw [if_neg h] at hS; rw [hS]; exact Nat.le_refl _
theorem act_q {M:Hm} {a:Ac} (hr:refusedM M a=0) (h5:a.kind ≠ 5) {i:Nat} {S':Se} (hS:(actM M a).1.seat i=some S'):(lineOf (M.seat i)).q.length≤S'.lin.q.length:=by
 unfold actM at hS
 rw [if_neg h5] at hS
 by_cases h1:a.kind=1
 ·rw [if_pos h1] at hS
  simp only [Hm.put] at hS
  by_cases h:i=a.seat.toNat
  ·rw [if_pos h] at hS
   unfold refusedM at hr
   rw [if_neg (by omega),if_neg h5] at hr
   by_cases hs:a.seat < 0∨3 < a.seat
   ·rw [if_pos hs] at hr; cases hr
   ·rw [if_neg hs] at hr
    split at hr
    ·rename_i hn
     rw [decide_eq_true h1,Option.isNone_iff_eq_none] at hn
     rw [h,hn]; exact Nat.zero_le _
    ·cases hr
  ·rw [if_neg h] at hS; rw [hS]; exact Nat.le_refl _
 ·rw [if_neg h1] at hS
  cases hk:M.seat a.seat.toNat with
  | none=>rw [hk] at hS; simp only at hS; rw [hS]; exact Nat.le_refl _
  | some S =>
   rw [hk] at hS
   simp only at hS
   split at hS
   ·exact put_len hk (feedS_len _ _) hS
   ·split at hS
    ·exact put_len (T:=takeS S a.num) hk (Nat.le_refl _) hS
    ·exact Nat.le_of_eq (kq_len (kq_leave _ _) hS)
theorem do_q {M:Hm} (ha:M.acts < 400) (a:Ac) {i:Nat} (hi:i < 4) {S':Se} (hS:(doM M a).1.seat i=some S') :
 (a.kind=5→S'.lin.q.length=(lineOf (M.seat i)).q.length - 1)∧(a.kind ≠ 5→(lineOf (M.seat i)).q.length≤S'.lin.q.length):=by
 unfold doM at hS
 rw [if_neg (by omega)] at hS
 have hf:∀ j,(lineOf (({ forgetM M with acts:=M.acts+1 }:Hm).seat j))=lineOf (M.seat j):=by
  intro j
  show lineOf ((M.seat j).map _)=_
  cases M.seat j <;> rfl
 by_cases hr:refusedM (forgetM M) a=0
 ·rw [if_pos hr] at hS
  obtain ⟨T,hT,eT⟩:=kq_flowN 5 _ i S' hS
  refine ⟨fun h5=>?_,fun h5=>?_⟩
  ·unfold actM at hT
   rw [if_pos h5] at hT
   obtain ⟨S,h1,h2⟩:=pulse_q _ _ hi hT
   rw [eT,h2,← hf i,h1]
   simp [lineOf]
  ·rw [eT,← hf i]
   exact act_q (M:={ forgetM M with acts:=M.acts+1 }) hr h5 hT
 ·rw [if_neg hr] at hS
  refine ⟨fun h5=>?_,fun h5=>?_⟩
  ·exact absurd (show refusedM (forgetM M) a=0 by unfold refusedM; rw [if_neg (by omega),if_pos h5]) hr
  ·rw [kq_len (kq_forget M _) hS]; exact Nat.le_refl _
open Go.RowKit
theorem flowL_idem (h:Int):∀ (q:List ByteArray) (P:Pa.Pg),P.wait=q→Pa.flowP h (Pa.flowL h q P)=Pa.flowL h q P:=by
 intro q
 induction q with
 | nil=>intro P hw; exact Pa.flow_nil hw
 | cons f r ih =>
  intro P hw
  unfold Pa.flowL
  by_cases h1:P.asking=true∨P.cut=true
  ·rw [if_pos h1]; exact Pa.flow_stop h1
  ·rw [if_neg h1]
   by_cases h2:h ≠ 0∧h≤P.shown
   ·rw [if_pos h2]; exact Pa.flow_stop (.inl (by unfold Pa.askedP; rw [Pa.sent_asking]))
   ·rw [if_neg h2]; exact ih _ (by unfold Pa.shownP; rw [Pa.sent_wait])
theorem flowR_idem (P:Pa.Pg) (h:Int):Pa.flowR (Pa.flowR P h) h=Pa.flowR P h:=by
 unfold Pa.flowR
 by_cases h1:Pa.flowG P h=true
 ·simp only [if_pos h1]
  have e:Pa.flowP h (Pa.flowP h P)=Pa.flowP h P:=flowL_idem h P.wait P rfl
  rw [e]
  split <;> rfl
 ·simp only [if_neg h1]
theorem flowS_idem (S:Se):flowS (flowS S)=flowS S:=by
 unfold flowS
 simp only [flowR_idem]
theorem cutK_still (M:Hm):∀ k,(cutK M k).2=false→(cutK M k).1={ M with seat:=fun j=>if j < k then (M.seat j).map flowS else M.seat j }∧∀ j S,j < k→M.seat j=some S→(flowS S).pg.cut=false:=by
 intro k
 induction k with
 | zero =>
  intro _
  refine ⟨?_,fun j S hj=>by omega⟩
  have e:(fun j=>if j < 0 then (M.seat j).map flowS else M.seat j)=M.seat:=by funext j; rw [if_neg (by omega)]
  rw [e]; rfl
 | succ k ih =>
  intro h
  simp only [cutK,Bool.or_eq_false_iff] at h
  obtain ⟨h1,h2⟩:=h
  obtain ⟨e1,e2⟩:=ih h1
  simp only [cutK]
  rw [e1] at h2 ⊢
  unfold cutsM at h2 ⊢
  simp only [Nat.lt_irrefl,if_false] at h2 ⊢
  cases hS:M.seat k with
  | none =>
   refine ⟨?_,fun j S hj hj2=>?_⟩
   ·simp only
    congr 1
    funext j
    by_cases hj:j=k
    ·subst hj; rw [if_neg (by omega),if_pos (by omega),hS]; rfl
    ·by_cases hl:j < k
     ·rw [if_pos hl,if_pos (by omega)]
     ·rw [if_neg hl,if_neg (by omega)]
   ·by_cases e:j=k
    ·subst e; rw [hS] at hj2; cases hj2
    ·exact e2 j S (by omega) hj2
  | some S =>
   simp only [hS] at h2 ⊢
   by_cases hc:(flowS S).pg.cut=true
   ·rw [if_pos hc] at h2; cases h2
   ·rw [if_neg hc]
    refine ⟨?_,fun j T hj hj2=>?_⟩
    ·simp only [Hm.put]
     congr 1
     funext j
     by_cases hj:j=k
     ·subst hj; rw [if_pos rfl,if_pos (by omega),hS]; rfl
     ·rw [if_neg hj]
      by_cases hl:j < k
      ·rw [if_pos hl,if_pos (by omega)]
      ·rw [if_neg hl,if_neg (by omega)]
    ·by_cases e:j=k
     ·subst e; rw [hS] at hj2; injection hj2 with hj2; subst hj2; simpa using hc
     ·exact e2 j T (by omega) hj2
theorem flow_fin {Q:Hm→Prop} (hQ:∀ X,Q X→Q (cutM X).1):∀ (n:Nat) {N:Nat} {M:Hm},Iv N M→cnt M < n→Q M→∃ X,Q X∧flowN n M=(cutM X).1∧(cutM X).2=false:=by
 intro n
 induction n with
 | zero=>intro N M h hc; omega
 | succ n ih =>
  intro N M h hc hM
  obtain ⟨N1,h1,h2,h3,h4⟩:=h.cutK 4 (Nat.le_refl _)
  unfold flowN
  by_cases e:(cutM M).2=true
  ·rw [if_pos e]
   have hlt:=h4 e
   exact ih h1 (by show cnt (cutK M 4).1 < n; omega) (hQ M hM)
  ·rw [if_neg e]
   exact ⟨M,hM,rfl,by simpa using e⟩
theorem flow_last {Q:Hm→Prop} (hQ:∀ X,Q X→Q (cutM X).1) {N:Nat} {M:Hm} (h:Iv N M) (hM:Q M):∃ X,Q X∧flowM M={ X with seat:=fun j=>if j < 4 then (X.seat j).map flowS else X.seat j }∧∀ j S,j < 4→X.seat j=some S→(flowS S).pg.cut=false:=by
 obtain ⟨X,h1,h2,h3⟩:=flow_fin hQ 5 h (by have:=cnt_le M; omega) hM
 obtain ⟨e1,e2⟩:=cutK_still X 4 h3
 exact ⟨X,h1,h2.trans e1,e2⟩
def St (M:Hm):Prop:=∀ i S,i < 4→M.seat i=some S→flowS S=S∧S.pg.cut=false
theorem st_new:St newM:=fun i S _ h=>by cases h
theorem st_forget {M:Hm} (h:St M) (n:Nat):St { forgetM M with acts:=n }:=fun i S hi hS=>by
 simp only [forgetM,Option.map_eq_some_iff] at hS
 obtain ⟨T,hT,rfl⟩:=hS
 obtain ⟨h1,h2⟩:=h i T hi hT
 exact ⟨by have:=congrArg Se.pg h1; unfold flowS at this ⊢; simp only at this ⊢; rw [this],h2⟩
theorem st_flow {N:Nat} {M:Hm} (h:Iv N M):St (flowM M):=by
 obtain ⟨X,_,e,hc⟩:=flow_last (Q:=fun _=>True) (fun _ _=>trivial) h trivial
 rw [e]
 intro i S hi hS
 simp only [if_pos hi,Option.map_eq_some_iff] at hS
 obtain ⟨T,hT,rfl⟩:=hS
 exact ⟨flowS_idem T,hc i T hi hT⟩
theorem Iv.st {M:Hm} (h:Iv 1000 M) (hs:St M) (a:Ac):St (doM M a).1:=by
 unfold doM
 split
 ·exact hs
 ·split
  ·rename_i hr
   exact st_flow ((h.forget (M.acts+1)).act (a:=a) hr)
  ·exact st_forget hs _
open Go.RowKit
def Qt (M:Hm) (b:Nat) (O:Od):Prop:=O.verb=20→∀ j S,j < 4→M.seat j=some S→S.being ≠ (b:Int)
structure Clq (Q:Hm→Prop):Prop where
 order:∀ (M:Hm) (b:Nat) (O:Od),goodL M.L=true→Nm M.L→b < 6→M.L.here b=true→OdT O→Qt M b O→Q M→Q (hapM M (actL M.L b O) (actE M.L b O))
 gone:∀ (M:Hm) (i:Nat) (S:Se),i < 4→M.seat i=some S→Q M→Q (M.put i none)
structure Clf (Q:Hm→Prop):Prop extends Clq Q where
 flow:∀ (M:Hm) (i:Nat) (S:Se),i < 4→M.seat i=some S→SeOk S→Q M→Q (M.put i (some (flowS S)))
structure Clo (Q:Hm→Prop):Prop extends Clq Q where
 round:∀ (M:Hm) (n:Nat),goodL M.L=true→Nm M.L→Q M→Q (hapM M (roundK M.L n 6).1 (roundK M.L n 6).2)
 own:∀ (M:Hm) (i:Nat) (S:Se) (s:ByteArray),i < 4→M.seat i=some S→s=whatT∨(plays S=false∧(s=noRoomT∨s=noNameT))→Q M→Q (M.put i (some (tellS S s)))
 pop:∀ (M:Hm) (i:Nat) (S:Se) (f:ByteArray) (r:List ByteArray),i < 4→M.seat i=some S→S.lin.q=f::r→Q M→Q (M.put i (some (popS S r)))
 enter:∀ (M:Hm) (i:Nat) (S:Se) (nm:ByteArray) (k:Nat),i < 4→M.seat i=some S→plays S=false→goodL M.L=true→Nm M.L→NameT nm→2≤k→k < 6→M.L.here k=false→Q M →
  Q (hapM (M.put i (some { S with being:=(k:Int) })) (entL M.L nm k) (beginE (entL M.L nm k) k))
section
variable {Q:Hm→Prop} {N:Nat} {M:Hm}
theorem Clq.leaves (c:Clq Q) (h:Iv N M) {i:Nat} (hi:i < 4) (hQ:Q M):Q (leaveM M i):=by
 unfold leaveM
 cases hS:M.seat i with
 | none=>exact hQ
 | some S =>
  simp only
  have h1:=c.gone M i S hi hS hQ
  split
  ·rename_i hp
   obtain ⟨b,hb,h2,h6,hh⟩:=h.play i S hi hS hp
   rw [hb,order_eq (M:=M.put i none) h.good h6 hh (by decide) (by decide)]
   refine c.order (M.put i none) b quitO h.good h.nm h6 hh odt_quit (fun _ j T hj hT e=>?_) h1
   simp only [Hm.put] at hT
   by_cases ej:j=i
   ·rw [if_pos ej] at hT; cases hT
   ·rw [if_neg ej] at hT
    exact ej (h.one i j S T hi hj hS hT hp (hb.trans e.symm)).symm
  ·exact h1
theorem Clo.enters (c:Clo Q) (h:Iv N M) {i:Nat} (hi:i < 4) {S:Se} (hS:M.seat i=some S) (hp:plays S=false) (nm:ByteArray) (hQ:Q M):Q (enterM M i S nm):=by
 unfold enterM
 by_cases hb0:bars M.L nm=0
 ·rw [if_pos hb0]
  obtain ⟨hg,hn,ht,k,hv,h2,h6,hh⟩:=bars_nil hb0
  rw [hv]
  simp only [Int.toNat_natCast]
  exact c.enter M i S nm k hi hS hp h.good h.nm (named_T hn) h2 h6 hh hQ
 ·rw [if_neg hb0]
  split
  ·exact c.own M i S _ hi hS (.inr ⟨hp,.inl rfl⟩) hQ
  ·exact c.own M i S _ hi hS (.inr ⟨hp,.inr rfl⟩) hQ
theorem Clo.obeys (c:Clo Q) (h:Iv N M) {i:Nat} (hi:i < 4) {S:Se} (hS:M.seat i=some S) (hp:plays S=true) {l:List UInt8} (hl:l.length≤60) (hv:∀ c ∈ l,Li.vis c=true) (hQ:Q M):Q (obeyM M i S l):=by
 unfold obeyM
 split
 ·exact c.own M i S _ hi hS (.inl rfl) hQ
 ·split
  ·exact c.toClq.leaves h hi hQ
  ·rename_i hq
   obtain ⟨b,hb,h2,h6,hh⟩:=h.play i S hi hS hp
   have hO:=parse_odt hl hv
   rw [hb,order_eq h.good h6 hh hO.v0 hO.v1]
   exact c.order M b _ h.good h.nm h6 hh hO (fun e=>absurd (show (parseL l).1.verb=20 by
    have e2:(((parseL l).1.verb:Nat):Int)=20:=e
    omega) hq) hQ
theorem Clo.turn (c:Clo Q) (h:Iv N M) {i:Nat} (hi:i < 4) (hQ:Q M):Q (turnM M i):=by
 unfold turnM
 split
 ·exact hQ
 ·rename_i S hS
  have hSo:=h.sv.seat i S hi hS
  split
  ·exact hQ
  ·rename_i f r hq
   have h1:Iv N (M.put i (some (popS S r))):=h.put (S':=popS S r) hi hS rfl (hSo.1.pop hq) (Nat.le_refl _) hSo.2
   have q1:=c.pop M i S f r hi hS hq hQ
   split
   ·exact q1
   ·split
    ·rename_i hp
     have hl:=line_ok hSo.1 hq
     exact c.obeys h1 hi (put_seat ..) hp hl.1 hl.2 q1
    ·rename_i hp
     exact c.enters h1 hi (put_seat ..) (by
      have:plays (popS S r)=plays S:=rfl
      rw [this]; simpa using hp) _ q1
theorem Clo.turns (c:Clo Q) (h:Iv N M) (hQ:Q M):∀ k,k≤4→Q (turnsM M k):=by
 intro k
 induction k with
 | zero=>intro _; exact hQ
 | succ k ih=>intro hk; exact c.turn (h.turns k (by omega)) (by omega) (ih (by omega))
theorem Clo.pulse (c:Clo Q) (h:Iv N M) (n:Int) (hQ:Q M):Q (pulseM M n):=by
 have h1:=h.turns 4 (Nat.le_refl _)
 exact c.round _ _ h1.good h1.nm (c.turns h hQ 4 (Nat.le_refl _))
theorem Clf.cuts (c:Clf Q) (h:Iv N M) {i:Nat} (hi:i < 4) (hQ:Q M):Q (cutsM M i).1:=by
 unfold cutsM
 split
 ·exact hQ
 ·rename_i S hS
  have hSo:=h.sv.seat i S hi hS
  have h1:Iv N (M.put i (some (flowS S))):=h.put (S':=flowS S) hi hS rfl hSo.1.flow (Nat.le_refl _) hSo.2
  have q1:=c.flow M i S hi hS hSo.1 hQ
  split
  ·exact c.toClq.leaves h1 hi q1
  ·exact q1
theorem Clf.cutK (c:Clf Q) (h:Iv N M) (hQ:Q M):∀ k,k≤4→Q (Ho.cutK M k).1:=by
 intro k
 induction k with
 | zero=>intro _; exact hQ
 | succ k ih =>
  intro hk
  obtain ⟨N1,h1,_⟩:=h.cutK k (by omega)
  exact c.cuts h1 (by omega) (ih (by omega))
theorem Clf.flows (c:Clf Q) (h:Iv N M) (hQ:Q M):Q (flowM M):=by
 have:∀ n {N:Nat} {M:Hm},Iv N M→Q M→Q (flowN n M):=by
  intro n
  induction n with
  | zero=>intro N M _ hQ; exact hQ
  | succ n ih =>
   intro N M h hQ
   obtain ⟨N1,h1,_⟩:=h.cutK 4 (Nat.le_refl _)
   unfold flowN
   split
   ·exact ih h1 (c.cutK h hQ 4 (Nat.le_refl _))
   ·exact c.cutK h hQ 4 (Nat.le_refl _)
 exact this 5 h hQ
end
def Ke (i:Nat) (P:List Ev→Se→Prop) (M:Hm):Prop:=∀ S,M.seat i=some S→P M.last S
structure Clh (P:List Ev→Se→Prop):Prop where
 hear:∀ l S E,Tx E→P l S→P (l++[E]) (heardS E S)
structure Clg (P:List Ev→Se→Prop):Prop extends Clh P where
 flow:∀ l S,SeOk S→P l S→P l (flowS S)
structure Cls (P:List Ev→Se→Prop):Prop extends Clh P where
 own:∀ l S s,s=whatT∨(plays S=false∧(s=noRoomT∨s=noNameT))→P l S→P l (tellS S s)
 pop:∀ l S f r,S.lin.q=f::r→P l S→P l (popS S r)
 enter:∀ l S (k:Nat),plays S=false→2≤k→P l S→P l { S with being:=(k:Int) }
theorem ke_hears {i:Nat} {P:List Ev→Se→Prop} (c:Clh P):∀ (Es:List Ev),All Es→∀ (M:Hm),Ke i P M→Ke i P (hearsM M Es):=by
 intro Es
 induction Es with
 | nil=>intro _ M h; exact h
 | cons E r ih =>
  intro hA M h
  refine ih (fun F hF=>hA F (List.mem_cons_of_mem _ hF)) (hearM E M) fun S hS=>?_
  simp only [hearM,Option.map_eq_some_iff] at hS
  obtain ⟨T,hT,rfl⟩:=hS
  exact c.hear _ _ _ (hA E (List.mem_cons_self ..)) (h T hT)
theorem ke_hap {i:Nat} {P:List Ev→Se→Prop} (c:Clh P) {M:Hm} (X:Ld) {Es:List Ev} (hA:All Es) (h:Ke i P M):Ke i P (hapM M X Es):=ke_hears c Es hA { M with L:=X } h
theorem ke_put {i j:Nat} {P:List Ev→Se→Prop} {M:Hm} {o:Option Se} (h:Ke i P M) (ho:i=j→∀ T,o=some T→P M.last T):Ke i P (M.put j o):=fun S hS=>by
 simp only [Hm.put] at hS
 by_cases e:i=j
 ·rw [if_pos e] at hS; exact ho e S hS
 ·rw [if_neg e] at hS; exact h S hS
theorem Clh.clq {P:List Ev→Se→Prop} (c:Clh P) (i:Nat):Clq (Ke i P) where
 order:=fun M b O hg hN hb hh hO _ h=>ke_hap c _ (act_tx hg hN hb hh O hO) h
 gone:=fun M j S hj hS h=>ke_put h fun e T hT=>by cases hT
theorem Clg.clf {P:List Ev→Se→Prop} (c:Clg P) (i:Nat):Clf (Ke i P) where
 toClq:=c.toClh.clq i
 flow:=fun M j S hj hS hk h=>ke_put h fun e T hT=>by injection hT with hT; subst hT; subst e; exact c.flow _ _ hk (h S hS)
theorem Cls.clo {P:List Ev→Se→Prop} (c:Cls P) (i:Nat):Clo (Ke i P) where
 toClq:=c.toClh.clq i
 round:=fun M n hg hN h=>ke_hap c.toClh _ (round_tx hN hg n 6 (Nat.le_refl _)) h
 own:=fun M j S s hj hS hs h=>ke_put h fun e T hT=>by injection hT with hT; subst hT; subst e; exact c.own _ _ _ hs (h S hS)
 pop:=fun M j S f r hj hS hq h=>ke_put h fun e T hT=>by injection hT with hT; subst hT; subst e; exact c.pop _ _ _ _ hq (h S hS)
 enter:=fun M j S nm k hj hS hp hg hN hn h2 h6 hh h=>ke_hap c.toClh _ (ent_tx hN hg hn h6 hh) (ke_put h fun e T hT=>by injection hT with hT; subst hT; subst e; exact c.enter _ _ _ hp h2 (h S hS))
open Go.RowKit
def atS (a:Ac) (i:Nat):Option Se→Option Se
 | none=>if a.kind=1∧a.seat=(i:Int) then some newS else none
 | some S=>if a.kind=2∧a.seat=(i:Int) then some (feedS S a.bytes.data.toList) else if a.kind=3∧a.seat=(i:Int) then some (Ho.takeS S a.num) else some S
theorem put_ne {M:Hm} {i j:Nat} {o:Option Se} (h:i ≠ j):(M.put j o).seat i=M.seat i:=by simp [Hm.put,h]
theorem at_else {a:Ac} {i:Nat} {o:Option Se} (h:a.seat ≠ (i:Int)):atS a i o=o:=by
 unfold atS
 cases o with
 | none=>simp only; rw [if_neg (fun e=>h e.2)]
 | some S=>simp only; rw [if_neg (fun e=>h e.2),if_neg (fun e=>h e.2)]
theorem do_ke {P P2:List Ev→Se→Prop} {a:Ac} (ch:Clh P) (c:a.kind=5→Cls P) (c2:Clg P2) (hPP:∀ l S,P l S→P2 l S) {M:Hm} (h:Iv 1000 M) (ha:M.acts < 400) {i:Nat} (hi:i < 4) (h0:∀ S,atS a i ((M.seat i).map untold)=some S→P [] S):Ke i P2 (doM M a).1:=by
 unfold doM
 rw [if_neg (by omega)]
 generalize hM1:({ forgetM M with acts:=M.acts+1 }:Hm)=M1
 have hI1:Iv 0 M1:=by rw [← hM1]; exact h.forget _
 have hs:M1.seat i=(M.seat i).map untold:=by rw [← hM1]; rfl
 have hl:M1.last=[]:=by rw [← hM1]; rfl
 have hr0:refusedM (forgetM M) a=refusedM M1 a:=by rw [← hM1]; rfl
 rw [hr0]
 rw [← hs] at h0
 have keep:(∀ S,M1.seat i=some S→¬ (a.kind=2∧a.seat=(i:Int))∧¬ (a.kind=3∧a.seat=(i:Int)))→Ke i P M1:=by
  intro hne S hS
  rw [hl]
  refine h0 S ?_
  obtain ⟨n1,n2⟩:=hne S hS
  rw [hS]
  unfold atS
  simp only
  rw [if_neg n1,if_neg n2]
 by_cases hr:refusedM M1 a=0
 ·rw [if_pos hr]
  have hact:=hI1.act hr
  refine (c2.clf i).flows hact ?_
  suffices hK:Ke i P (actM M1 a).1 from fun S hS=>hPP _ _ (hK S hS)
  have hr2:=hr
  unfold refusedM at hr2
  by_cases hk:a.kind < 1∨5 < a.kind
  ·rw [if_pos hk] at hr2; omega
  rw [if_neg hk] at hr2
  unfold actM
  by_cases h5:a.kind=5
  ·rw [if_pos h5]
   exact ((c h5).clo i).pulse hI1 _ (keep fun S hS=>⟨by omega,by omega⟩)
  rw [if_neg h5] at hr2 ⊢
  by_cases hq:a.seat < 0∨3 < a.seat
  ·rw [if_pos hq] at hr2; omega
  rw [if_neg hq] at hr2
  have hn:(M1.seat a.seat.toNat).isNone=decide (a.kind=1):=by
   by_cases e:(M1.seat a.seat.toNat).isNone=decide (a.kind=1)
   ·exact e
   ·rw [if_neg e] at hr2; omega
  have hput:∀ T,(a.seat=(i:Int)→atS a i (M1.seat i)=some T)→Ke i P (M1.put a.seat.toNat (some T)):=by
   intro T hT S hS
   by_cases e:a.seat=(i:Int)
   ·have e2:a.seat.toNat=i:=by omega
    rw [e2,put_seat] at hS
    injection hS with hS
    subst hS
    show P M1.last T
    rw [hl]; exact h0 _ (hT e)
   ·have e2:i ≠ a.seat.toNat:=by omega
    rw [put_ne e2] at hS
    show P M1.last S
    rw [hl]; exact h0 S (by rw [at_else e]; exact hS)
  by_cases h1:a.kind=1
  ·rw [if_pos h1]
   refine hput newS fun e=>?_
   have e2:a.seat.toNat=i:=by omega
   rw [h1,e2] at hn
   have hz:M1.seat i=none:=by simpa using hn
   rw [hz]
   unfold atS
   simp only
   rw [if_pos ⟨h1,e⟩]
  ·rw [if_neg h1]
   cases hS:M1.seat a.seat.toNat with
   | none =>
    have no:∀ T,M1.seat i=some T→a.seat ≠ (i:Int):=fun T hT e=>by
     have e2:a.seat.toNat=i:=by omega
     rw [e2,hT] at hS; cases hS
    exact keep fun S hS2=>⟨fun e=>no S hS2 e.2,fun e=>no S hS2 e.2⟩
   | some S =>
    simp only
    by_cases h2:a.kind=2
    ·rw [if_pos h2]
     refine hput _ fun e=>?_
     have e2:a.seat.toNat=i:=by omega
     rw [← e2,hS]
     unfold atS
     simp only
     rw [if_pos ⟨h2,by omega⟩]
    ·rw [if_neg h2]
     by_cases h3:a.kind=3
     ·rw [if_pos h3]
      refine hput _ fun e=>?_
      have e2:a.seat.toNat=i:=by omega
      rw [← e2,hS]
      unfold atS
      simp only
      rw [if_neg (fun x=>h2 x.1),if_pos ⟨h3,by omega⟩]
     ·rw [if_neg h3]
      exact (ch.clq i).leaves hI1 (by omega) (keep fun S hS=>⟨fun x=>h2 x.1,fun x=>h3 x.1⟩)
 ·rw [if_neg hr]
  have no:∀ S,M1.seat i=some S→∀ k:Int,(k=2∨k=3)→¬ (a.kind=k∧a.seat=(i:Int)):=by
   intro S hS k hk e
   refine hr ?_
   unfold refusedM
   have e2:a.seat.toNat=i:=by omega
   rw [if_neg (by omega),if_neg (by omega),if_neg (by omega),e2,hS,if_pos]
   simp; omega
  exact fun S hS=>hPP _ _ (keep (fun S hS=>⟨no S hS 2 (.inl rfl),no S hS 3 (.inr rfl)⟩) S hS)
theorem tell_cut {P:Pa.Pg} (h:P.cut=true) (s:ByteArray):(Pa.tellP P s).cut=true:=by
 unfold Pa.tellP
 split
 ·split
  ·rfl
  ·exact h
 ·exact h
theorem flow_cut {P:Pa.Pg} (h:P.cut=true) (k:Int):(Pa.flowR P k).cut=true:=by
 unfold Pa.flowR
 split
 ·rw [Pa.flow_stop (.inr h)]; exact h
 ·exact h
open Go.RowKit
def addP (P:Pa.Pg) (T:List ByteArray):Pa.Pg:={ P with wait:=P.wait++T }
theorem add_nil (P:Pa.Pg):addP P []=P:=by unfold addP; rw [List.append_nil]
theorem add_add (P:Pa.Pg) (T U:List ByteArray):addP (addP P T) U=addP P (T++U):=by unfold addP; simp only [List.append_assoc]
theorem sent_add (P:Pa.Pg) (s:ByteArray) (T:List ByteArray):addP (Pa.sentP P s) T=Pa.sentP (addP P T) s:=by
 unfold addP Pa.sentP
 simp only
 split <;> rfl
theorem asked_add (P:Pa.Pg) (T:List ByteArray):addP (Pa.askedP P) T=Pa.askedP (addP P T):=sent_add _ _ _
theorem shown_add (P:Pa.Pg) (f:ByteArray) (r T:List ByteArray):addP (Pa.shownP P f r) T=Pa.shownP (addP P T) f (r++T):=by
 unfold Pa.shownP
 rw [sent_add]; rfl
theorem flow_two (h:Int) (T:List ByteArray):∀ (q:List ByteArray) (P:Pa.Pg),P.wait=q→Pa.flowP h (addP (Pa.flowL h q P) T)=Pa.flowP h (addP P T):=by
 intro q
 induction q with
 | nil=>intro P hw; rfl
 | cons f r ih =>
  intro P hw
  unfold Pa.flowL
  by_cases h1:P.asking=true∨P.cut=true
  ·rw [if_pos h1]
  ·rw [if_neg h1]
   have ha:(addP P T).asking=false:=by show P.asking=false; simpa using fun e=>h1 (.inl e)
   have hc:(addP P T).cut=false:=by show P.cut=false; simpa using fun e=>h1 (.inr e)
   have hw2:(addP P T).wait=f::(r++T):=by show P.wait++T=_; rw [hw]; rfl
   by_cases h2:h ≠ 0∧h≤P.shown
   ·rw [if_pos h2,asked_add]
    exact (Pa.flow_ask hw2 ha hc h2).symm
   ·rw [if_neg h2,ih _ (by unfold Pa.shownP; rw [Pa.sent_wait]),shown_add]
    exact (Pa.flow_show hw2 ha hc h2).symm
theorem flow_parts {h:Int} {P P':Pa.Pg} (T:List ByteArray) (e:Pa.flowP h P=Pa.flowP h P'):Pa.flowP h (addP P T)=Pa.flowP h (addP P' T):=by
 have h1:Pa.flowP h (addP (Pa.flowP h P) T)=Pa.flowP h (addP P T):=flow_two h T P.wait P rfl
 have h2:Pa.flowP h (addP (Pa.flowP h P') T)=Pa.flowP h (addP P' T):=flow_two h T P'.wait P' rfl
 rw [← h1,← h2,e]
theorem flowR_ok {S:Se} (h:SeOk S):Pa.flowR S.pg S.tel.height=Pa.flowP S.tel.height S.pg:=by
 unfold Pa.flowR
 rw [if_pos]
 unfold Pa.flowG Pa.gheight
 rw [ok_good h.pg]
 simp only [Bool.true_and,Bool.and_eq_true,decide_eq_true_eq]
 exact ⟨h.tel.h0,h.tel.h200⟩
theorem tell_add {P:Pa.Pg} {s:ByteArray} (hP:Pa.Ok P) (hc:¬ (Pa.tellP P s).cut=true):P.cut=false∧Pa.tellP P s=addP P [s]:=by
 have h0:P.cut=false:=by
  cases e:P.cut with
  | false=>rfl
  | true=>exact absurd (tell_cut e s) hc
 refine ⟨h0,?_⟩
 unfold Pa.tellP at hc ⊢
 rw [if_pos (Pa.refusal_ok (ok_good hP) h0)] at hc ⊢
 by_cases e:P.wait.length=60
 ·rw [if_pos e] at hc; exact absurd rfl hc
 ·rw [if_neg e]; rfl
def turnK (k:Nat) (P:Pa.Pg):Pa.Pg:=if k=0 then P else Pa.turnP P
theorem turn_add (k:Nat) (P:Pa.Pg) (T:List ByteArray):Pa.turnP (addP (turnK k P) T)=addP (turnK (k+1) P) T:=by
 have e:turnK (k+1) P=Pa.turnP P:=by unfold turnK; rw [if_neg (by omega)]
 rw [e]
 unfold turnK
 split <;> rfl
structure SilB (B S:Se):Prop where
 ok:SeOk S
 tel:S.tel=B.tel
def Sil (z:Bool) (B:Se) (l:List Ev) (S:Se):Prop:=SilB B S∧(S.pg.cut=true∨∃ k T,(z=true→k=0)∧k≤B.lin.q.length∧S.lin={ B.lin with q:=B.lin.q.drop k }∧S.told=B.told++T∧S.pg=addP (turnK k B.pg) T)
def Sil2 (z:Bool) (B:Se) (l:List Ev) (S:Se):Prop:=SilB B S∧(S.pg.cut=true∨∃ k T,(z=true→k=0)∧k≤B.lin.q.length∧S.lin={ B.lin with q:=B.lin.q.drop k }∧S.told=B.told++T∧Pa.flowP B.tel.height S.pg=Pa.flowP B.tel.height (addP (turnK k B.pg) T))
theorem SilB.tell {B S:Se} (h:SilB B S) {s:ByteArray} (hs:s.size≤1048576):SilB B (tellS S s):=⟨h.ok.tell hs,h.tel⟩
theorem sil_tell {z:Bool} {B:Se} {l l':List Ev} {S:Se} {s:ByteArray} (hs:s.size≤1048576) (h:Sil z B l S):Sil z B l' (tellS S s):=by
 refine ⟨h.1.tell hs,?_⟩
 by_cases hc:(Pa.tellP S.pg s).cut=true
 ·exact .inl hc
 ·obtain ⟨h0,h1⟩:=tell_add h.1.ok.pg hc
  rcases h.2 with e | ⟨k,T,hz,hk,e1,e2,e3⟩
  ·rw [h0] at e; cases e
  ·refine .inr ⟨k,T++[s],hz,hk,e1,?_,?_⟩
   ·unfold tellS
    simp only
    rw [if_neg hc,e2,List.append_assoc]
   ·show Pa.tellP S.pg s=_
    rw [h1,e3,add_add]
theorem sil2_tell {z:Bool} {B:Se} {l l':List Ev} {S:Se} {s:ByteArray} (hs:s.size≤1048576) (h:Sil2 z B l S):Sil2 z B l' (tellS S s):=by
 refine ⟨h.1.tell hs,?_⟩
 by_cases hc:(Pa.tellP S.pg s).cut=true
 ·exact .inl hc
 ·obtain ⟨h0,h1⟩:=tell_add h.1.ok.pg hc
  rcases h.2 with e | ⟨k,T,hz,hk,e1,e2,e3⟩
  ·rw [h0] at e; cases e
  ·refine .inr ⟨k,T++[s],hz,hk,e1,?_,?_⟩
   ·unfold tellS
    simp only
    rw [if_neg hc,e2,List.append_assoc]
   ·show Pa.flowP _ (Pa.tellP S.pg s)=_
    rw [h1,flow_parts [s] e3,add_add]
theorem heard_cases {P:Se→Prop} {E:Ev} {S:Se} (hE:Tx E) (h0:P S) (h1:∀ s,s.size≤1048576→Ln s→P (tellS S s)):P (heardS E S):=by
 unfold heardS
 split
 ·unfold hearS
  split
  ·rename_i t ht
   have hl:=hE.line ht
   exact h1 _ (by have:=hl.vz.1; omega) hl
  ·exact h0
 ·exact h0
theorem own_small {S:Se} {s:ByteArray} (h:s=whatT∨(plays S=false∧(s=noRoomT∨s=noNameT))):s.size≤1048576:=by
 rcases h with rfl | ⟨_,rfl | rfl⟩ <;> decide
theorem sil_clh (z:Bool) (B:Se):Clh (Sil z B) where
 hear:=fun l S E hE h=>heard_cases hE h fun s hs _=>sil_tell hs h
theorem sil_cls (B:Se):Cls (Sil false B) where
 toClh:=sil_clh false B
 own:=fun l S s hs h=>sil_tell (own_small hs) h
 pop:=fun l S f r hq h=>by
  refine ⟨⟨h.1.ok.pop hq,h.1.tel⟩,?_⟩
  rcases h.2 with e | ⟨k,T,hz,hk,e1,e2,e3⟩
  ·exact .inl e
  ·have hd:B.lin.q.drop k=f::r:=by rw [← hq,e1]
   have hlen:k+1≤B.lin.q.length:=by
    have:=congrArg List.length hd
    simp only [List.length_drop,List.length_cons] at this
    omega
   refine .inr ⟨k+1,T,fun e=>absurd e (by decide),hlen,?_,e2,?_⟩
   ·show ({ S.lin with q:=r }:Li.Lin)=_
    rw [e1]
    have:B.lin.q.drop (k+1)=r:=by rw [← List.drop_drop,hd]; rfl
    rw [this]
   ·show Pa.turnP S.pg=_
    rw [e3,turn_add]
 enter:=fun l S k hp h2 h=>⟨⟨h.1.ok.is _,h.1.tel⟩,h.2⟩
theorem sil_clg (z:Bool) (B:Se):Clg (Sil2 z B) where
 hear:=fun l S E hE h=>heard_cases hE h fun s hs _=>sil2_tell hs h
 flow:=fun l S hk h=>by
  refine ⟨⟨hk.flow,h.1.tel⟩,?_⟩
  rcases h.2 with e | ⟨k,T,hz,hk2,e1,e2,e3⟩
  ·exact .inl (flow_cut e _)
  ·refine .inr ⟨k,T,hz,hk2,e1,e2,?_⟩
   show Pa.flowP _ (Pa.flowR S.pg S.tel.height)=_
   rw [flowR_ok hk,← e3,h.1.tel]
   exact flowL_idem _ _ S.pg rfl
theorem sil_of {z:Bool} {B:Se} {l:List Ev} {S:Se} (h:Sil z B l S):Sil2 z B l S:=by
 refine ⟨h.1,?_⟩
 rcases h.2 with e | ⟨k,T,hz,h1,h2,h3,h4⟩
 ·exact .inl e
 ·exact .inr ⟨k,T,hz,h1,h2,h3,by rw [h4]⟩
theorem sil_self {z:Bool} {B:Se} (h:SeOk B) (l:List Ev):Sil z B l B:=⟨⟨h,rfl⟩,.inr ⟨0,[],fun _=>rfl,Nat.zero_le _,by rw [List.drop_zero],by rw [List.append_nil],by unfold turnK; rw [if_pos rfl,add_nil]⟩⟩
theorem at_ok {M:Hm} (h:Iv 1000 M) {i:Nat} (hi:i < 4) (a:Ac) {B:Se} (hB:atS a i ((M.seat i).map untold)=some B):SeOk B:=by
 cases hS:M.seat i with
 | none =>
  rw [hS] at hB
  simp only [Option.map_none,atS] at hB
  split at hB
  ·injection hB with hB; subst hB; exact ok_new
  ·cases hB
 | some S =>
  have hk:=(h.sv.seat i S hi hS).1.untold
  rw [hS] at hB
  simp only [Option.map_some,atS] at hB
  split at hB
  ·injection hB with hB; subst hB; exact hk.feed _
  ·split at hB
   ·injection hB with hB; subst hB; exact hk.take _
   ·injection hB with hB; subst hB; exact hk
theorem do_sil {M:Hm} (h:Iv 1000 M) (hs:St M) (ha:M.acts < 400) (a:Ac) {i:Nat} (hi:i < 4) {S:Se} (hS:(doM M a).1.seat i=some S) :
 ∃ B,atS a i ((M.seat i).map untold)=some B∧S.tel=B.tel∧∃ k T,(a.kind ≠ 5→k=0)∧k≤B.lin.q.length∧S.lin={ B.lin with q:=B.lin.q.drop k }∧S.told=B.told++T∧S.pg=Pa.flowP B.tel.height (addP (turnK k B.pg) T):=by
 have hnc:=(h.st hs a i S hi hS)
 have hok:=((h.does a).sv.seat i S hi hS).1
 cases hB:atS a i ((M.seat i).map untold) with
 | none =>
  have:=do_ke (P:=fun _ _=>False) (P2:=fun _ _=>False) ⟨fun _ _ _ _ h=>h⟩ (fun _=>⟨⟨fun _ _ _ _ h=>h⟩,fun _ _ _ _ h=>h,fun _ _ _ _ _ h=>h,fun _ _ _ _ _ h=>h⟩) ⟨⟨fun _ _ _ _ h=>h⟩,fun _ _ _ h=>h⟩ (fun _ _ h=>h) h ha hi (fun T hT=>by rw [hB] at hT; cases hT) S hS
  exact this.elim
 | some B =>
  have hBo:=at_ok h hi a hB
  have:=do_ke (sil_clh (!decide (a.kind=5)) B) (fun e=>by rw [decide_eq_true e]; exact sil_cls B) (sil_clg _ B) (fun _ _ h=>sil_of h) h ha hi (fun T hT=>by rw [hB] at hT; injection hT with hT; subst hT; exact sil_self hBo _) S hS
  obtain ⟨h1,h2⟩:=this
  refine ⟨B,rfl,h1.tel,?_⟩
  rcases h2 with e | ⟨k,T,hz,hk,e1,e2,e3⟩
  ·rw [hnc.2] at e; cases e
  ·refine ⟨k,T,fun e=>hz (by simpa using e),hk,e1,e2,?_⟩
   rw [← e3,← h1.tel,← flowR_ok hok]
   exact (congrArg Se.pg hnc.1).symm
open Go.RowKit
def Tw (o o':Option Se):Prop:=(o=none∧o'=none)∨∃ S S',o=some S∧o'=some S'∧S'.tel=S.tel∧S'.lin=S.lin∧S'.pg=S.pg
structure TwA (i:Nat) (a a':Ac):Prop where
 kind:a'.kind=a.kind
 seat:a'.seat=a.seat
 num:a'.num=a.num
 bytes:a.seat=(i:Int)→a'.bytes=a.bytes
theorem Tw.none (o o':Option Se) (h:Tw o o'):o'.isNone=o.isNone:=by
 rcases h with ⟨rfl,rfl⟩ | ⟨S,S',rfl,rfl,_⟩ <;> rfl
theorem at_tw {i:Nat} {a a':Ac} (hA:TwA i a a') {o o':Option Se} (h:Tw o o') {B B':Se} (hB:atS a i (o.map untold)=some B) (hB':atS a' i (o'.map untold)=some B'):B'.tel=B.tel∧B'.lin=B.lin∧B'.pg=B.pg∧B'.told=B.told:=by
 rcases h with ⟨rfl,rfl⟩ | ⟨S,S',rfl,rfl,h1,h2,h3⟩
 ·simp only [Option.map_none,atS] at hB hB'
  rw [hA.kind,hA.seat] at hB'
  split at hB
  ·rename_i e
   rw [if_pos e] at hB'
   injection hB with hB; injection hB' with hB'; subst hB; subst hB'
   exact ⟨rfl,rfl,rfl,rfl⟩
  ·cases hB
 ·have e0:untold S'={ untold S with being:=S'.being }:=by
   cases S; cases S'; simp only at h1 h2 h3; subst h1; subst h2; subst h3; rfl
  simp only [Option.map_some,atS] at hB hB'
  rw [hA.kind,hA.seat,hA.num,e0] at hB'
  by_cases c2:a.kind=2∧a.seat=(i:Int)
  ·rw [if_pos c2] at hB hB'
   injection hB with hB; injection hB' with hB'; subst hB; subst hB'
   rw [hA.bytes c2.2]
   have e1:feedS { untold S with being:=S'.being } a.bytes.data.toList={ feedS (untold S) a.bytes.data.toList with being:=S'.being }:=by
    unfold feedS
    split <;> rfl
   rw [e1]
   exact ⟨rfl,rfl,rfl,rfl⟩
  ·rw [if_neg c2] at hB hB'
   by_cases c3:a.kind=3∧a.seat=(i:Int)
   ·rw [if_pos c3] at hB hB'
    injection hB with hB; injection hB' with hB'; subst hB; subst hB'
    exact ⟨rfl,rfl,rfl,rfl⟩
   ·rw [if_neg c3] at hB hB'
    injection hB with hB; injection hB' with hB'; subst hB; subst hB'
    exact ⟨rfl,rfl,rfl,rfl⟩
theorem at_len {i:Nat} {a:Ac} (h5:a.kind=5) {o:Option Se} {B:Se} (hB:atS a i (o.map untold)=some B):B.lin.q.length=(lineOf o).q.length:=by
 cases o with
 | none =>
  simp only [Option.map_none,atS] at hB
  rw [if_neg (fun e=>by omega)] at hB; cases hB
 | some S =>
  simp only [Option.map_some,atS] at hB
  rw [if_neg (fun e=>by omega),if_neg (fun e=>by omega)] at hB
  injection hB with hB; subst hB; rfl
theorem do_tw {M M':Hm} (h:Iv 1000 M) (h':Iv 1000 M') (hs:St M) (hs':St M') (ha:M.acts < 400) (ha':M'.acts < 400) {i:Nat} (hi:i < 4) {a a':Ac} (hA:TwA i a a') (hT:Tw (M.seat i) (M'.seat i))
 (h1:toldOf ((doM M' a').1.seat i)=toldOf ((doM M a).1.seat i)) (h2:((doM M' a').1.seat i).isNone=((doM M a).1.seat i).isNone):Tw ((doM M a).1.seat i) ((doM M' a').1.seat i):=by
 cases hS:(doM M a).1.seat i with
 | none =>
  cases hS':(doM M' a').1.seat i with
  | none=>exact .inl ⟨rfl,rfl⟩
  | some S'=>rw [hS,hS'] at h2; cases h2
 | some S =>
  cases hS':(doM M' a').1.seat i with
  | none=>rw [hS,hS'] at h2; cases h2
  | some S' =>
   rw [hS,hS'] at h1
   obtain ⟨B,b1,b2,k,T,b3,b4,b5,b6,b7⟩:=do_sil h hs ha a hi hS
   obtain ⟨B',c1,c2,k',T',c3,c4,c5,c6,c7⟩:=do_sil h' hs' ha' a' hi hS'
   obtain ⟨e1,e2,e3,e4⟩:=at_tw hA hT b1 c1
   have hTT:T'=T:=by
    have h1':S'.told=S.told:=h1
    rw [b6,c6,e4] at h1'
    exact List.append_cancel_left h1'
   have hk:k'=k:=by
    by_cases h5:a.kind=5
    ·have q:=(do_q ha a hi hS).1 h5
     have q':=(do_q ha' a' hi hS').1 (by rw [hA.kind]; exact h5)
     rw [← at_len h5 b1,b5,List.length_drop] at q
     rw [← at_len (a:=a') (by rw [hA.kind]; exact h5) c1,c5,List.length_drop] at q'
     rw [e2] at q' c4
     omega
    ·rw [b3 h5,c3 (by rw [hA.kind]; exact h5)]
   refine .inr ⟨S,S',rfl,rfl,by rw [b2,c2,e1],by rw [b5,c5,e2,hk],?_⟩
   rw [b7,c7,e1,e3,hTT,hk]
theorem do_reply {M M':Hm} (ha:M.acts < 400) (ha':M'.acts < 400) {i:Nat} (hi:i < 4) {a a':Ac} (hA:TwA i a a') (hT:Tw (M.seat i) (M'.seat i)) (h:a.seat=(i:Int)∨a.kind=5):(doM M' a').2=(doM M a).2:=by
 have hr:refusedM (forgetM M') a'=refusedM (forgetM M) a:=by
  unfold refusedM
  rw [hA.kind,hA.seat]
  by_cases h5:a.kind=5
  ·rw [h5]; rfl
  ·have e:a.seat.toNat=i:=by rcases h with h | h; omega; exact absurd h h5
   have e2:∀ X:Hm,((forgetM X).seat a.seat.toNat).isNone=(X.seat i).isNone:=fun X=>by
    rw [e]
    show ((X.seat i).map _).isNone=_
    cases X.seat i <;> rfl
   rw [e2,e2,hT.none]
 have dm:∀ (X:Hm) (b:Ac),X.acts < 400→(doM X b).2=if refusedM (forgetM X) b=0 then (0,(actM { forgetM X with acts:=X.acts+1 } b).2) else (refusedM (forgetM X) b,nilB):=by
  intro X b hX
  unfold doM
  rw [if_neg (by omega)]
  split <;> rfl
 rw [dm M' a' ha',dm M a ha,hr]
 by_cases h0:refusedM (forgetM M) a=0
 ·rw [if_pos h0,if_pos h0]
  simp only [Prod.mk.injEq,true_and]
  unfold actM
  rw [hA.kind,hA.seat]
  by_cases h5:a.kind=5
  ·rw [if_pos h5,if_pos h5]
  ·rw [if_neg h5,if_neg h5]
   have e:a.seat.toNat=i:=by rcases h with h | h; omega; exact absurd h h5
   rw [e]
   by_cases h1:a.kind=1
   ·rw [if_pos h1,if_pos h1]
   ·rw [if_neg h1,if_neg h1]
    have e2:∀ X:Hm,({ forgetM X with acts:=X.acts+1 }:Hm).seat i=(X.seat i).map untold:=fun X=>rfl
    rw [e2,e2]
    rcases hT with ⟨x,y⟩ | ⟨S,S',x,y,t1,t2,t3⟩
    ·rw [x,y]; rfl
    ·rw [x,y]
     simp only [Option.map_some]
     split
     ·rfl
     ·split
      ·rw [hA.num]
       show outS (untold S') a.num=outS (untold S) a.num
       unfold outS
       show S'.pg.ring.extract 0 (Pa.kOf S'.pg a.num)=S.pg.ring.extract 0 (Pa.kOf S.pg a.num)
       rw [t3]
      ·rfl
 ·rw [if_neg h0,if_neg h0]
open Go.RowKit
theorem act_cell {w:World} {g:Nat} {a:Ac} (h:w.heap[g]?=some (.cells a.cells 23 (0,0))):w.cell? ⟨g,0,none⟩=some (.int .i64 a.kind)∧w.cell? ⟨g,1,none⟩=some (.int .i64 a.seat):=by
 rw [cell_of_row _ _ _ _ _ _ h,cell_of_row _ _ _ _ _ _ h]; exact ⟨rfl,rfl⟩
open Go.RowKit
structure Bo where
 g:Nat
 cs:Array Value
 T:TypeId
def TwH (w:World) (hb1 hb2:Nat) (A B:Hm) (K:List Bo) (W:World):Prop :=
 ∃ la lb,HoC w la W hb1 A∧HoC w lb W hb2 B∧Apart la lb∧∀ b ∈ K,la b.g=9∧lb b.g=9∧w.heap.size≤b.g∧W.heap[b.g]?=some (.cells b.cs b.T (0,0))
section
variable {w:World} {hb1 hb2:Nat} {A B:Hm} {K K':List Bo} {W W':World}
theorem TwH.get (h:TwH w hb1 hb2 A B K W) {b:Bo} (hb:b ∈ K):W.heap[b.g]?=some (.cells b.cs b.T (0,0)):=by
 obtain ⟨la,lb,h1,h2,h3,h4⟩:=h
 exact (h4 b hb).2.2.2
theorem TwH.sub (h:TwH w hb1 hb2 A B K W) (hK:∀ b ∈ K',b ∈ K):TwH w hb1 hb2 A B K' W:=by
 obtain ⟨la,lb,h1,h2,h3,h4⟩:=h
 exact ⟨la,lb,h1,h2,h3,fun b hb=>h4 b (hK b hb)⟩
theorem TwH.below (h:TwH w hb1 hb2 A B K W) (hB:Below W.heap.size W W'):TwH w hb1 hb2 A B K W':=by
 obtain ⟨la,lb,h1,h2,h3,h4⟩:=h
 exact ⟨la,lb,h1.below hB,h2.below hB,h3,fun b hb=>⟨(h4 b hb).1,(h4 b hb).2.1,(h4 b hb).2.2.1,(hB.block _ (Array.getElem?_eq_some_iff.1 (h4 b hb).2.2.2).1).trans (h4 b hb).2.2.2⟩⟩
theorem TwH.size (h:TwH w hb1 hb2 A B K W):w.heap.size≤W.heap.size:=by
 obtain ⟨la,lb,h1,_⟩:=h
 exact h1.low.size
theorem TwH.low (h:TwH w hb1 hb2 A B K W):Below w.heap.size w W:=by
 obtain ⟨la,lb,h1,_⟩:=h
 exact h1.low
theorem TwH.alloc (h:TwH w hb1 hb2 A B K W) (cs:Array Value) (T:TypeId):TwH w hb1 hb2 A B (⟨W.heap.size,cs,T⟩::K) (W.alloc (.cells cs T)):=by
 have hs:=h.size
 obtain ⟨la,lb,h1,h2,h3,h4⟩:=h.below (below_box W (.cells cs T))
 obtain ⟨la',lb',g1,g2,g3,g4⟩:=h
 have hB:=below_box W (.cells cs T)
 refine ⟨la',lb',g1.below hB,g2.below hB,g3,fun b hb=>?_⟩
 rcases List.mem_cons.1 hb with rfl | hb
 ·exact ⟨g1.outs _ (Nat.le_refl _),g2.outs _ (Nat.le_refl _),hs,heap_alloc_new W _⟩
 ·exact ⟨(g4 b hb).1,(g4 b hb).2.1,(g4 b hb).2.2.1,(hB.block _ (Array.getElem?_eq_some_iff.1 (g4 b hb).2.2.2).1).trans (g4 b hb).2.2.2⟩
theorem TwH.put (h:TwH w hb1 hb2 A B K W) {b b':Bo} (hb:b ∈ K) (hg:b'.g=b.g) (hu:Upd b.g W W') (hW:W'.heap[b.g]?=some (.cells b'.cs b'.T (0,0))) (hK:∀ c ∈ K',c=b'∨(c ∈ K∧c.g ≠ b.g)):TwH w hb1 hb2 A B K' W':=by
 obtain ⟨la,lb,h1,h2,h3,h4⟩:=h
 obtain ⟨l1,l2,l3,l4⟩:=h4 b hb
 refine ⟨la,lb,h1.other hu l1 l3,h2.other hu l2 l3,h3,fun c hc=>?_⟩
 rcases hK c hc with rfl | ⟨hc,hne⟩
 ·rw [hg]; exact ⟨l1,l2,l3,hW⟩
 ·exact ⟨(h4 c hc).1,(h4 c hc).2.1,(h4 c hc).2.2.1,(hu.block _ hne).trans (h4 c hc).2.2.2⟩
theorem TwH.do1 (hvb:Vb w) (hai:Ai w) (h:TwH w hb1 hb2 A B K W) (hI:Iv 1000 A) (hac:A.acts≤400) (a:Ac) (hz:a.bytes.size≤140737488351232) :
 Calls Tryz.prog 17 #[.pointer (some ⟨hb1,0,none⟩),.agg a.cells] W fun e W'=>e=.returned (.agg #[.int .i64 (doM A a).2.1,.string (doM A a).2.2])∧TwH w hb1 hb2 (doM A a).1 B K W':=by
 obtain ⟨la,lb,h1,h2,h3,h4⟩:=h
 refine (do_house hvb hai h1 hI hac a hz).mono ?_
 rintro e W' ⟨rfl,la',H',G⟩
 obtain ⟨k1,k2,_⟩:=h2.apart h3.symm h1.base G
 refine ⟨rfl,la',lb,H',k1,k2.symm,fun b hb=>?_⟩
 obtain ⟨l1,l2,l3,l4⟩:=h4 b hb
 have hlt:=(Array.getElem?_eq_some_iff.1 l4).1
 exact ⟨(G.old _ hlt).trans l1,l2,l3,(G.same _ hlt (.inr l1)).trans l4⟩
theorem TwH.symm (h:TwH w hb1 hb2 A B K W):TwH w hb2 hb1 B A K W:=by
 obtain ⟨la,lb,h1,h2,h3,h4⟩:=h
 exact ⟨lb,la,h2,h1,h3.symm,fun b hb=>⟨(h4 b hb).2.1,(h4 b hb).1,(h4 b hb).2.2.1,(h4 b hb).2.2.2⟩⟩
theorem TwH.do2 (hvb:Vb w) (hai:Ai w) (h:TwH w hb1 hb2 A B K W) (hI:Iv 1000 B) (hac:B.acts≤400) (a:Ac) (hz:a.bytes.size≤140737488351232) :
 Calls Tryz.prog 17 #[.pointer (some ⟨hb2,0,none⟩),.agg a.cells] W fun e W'=>e=.returned (.agg #[.int .i64 (doM B a).2.1,.string (doM B a).2.2])∧TwH w hb1 hb2 A (doM B a).1 K W' :=
 (TwH.do1 hvb hai h.symm hI hac a hz).mono fun e W' ⟨he,h'⟩=>⟨he,h'.symm⟩
theorem TwH.new (hw:Below w.heap.size w W) (hW:Below W.heap.size W W') {hb1 hb2:Nat} (h1:HoC w (fun n=>if n=hb1 then 4 else 9) W' hb1 newM) (h2:HoC w (fun n=>if n=hb2 then 4 else 9) W' hb2 newM) (hne:hb1 ≠ hb2):TwH w hb1 hb2 newM newM [] W' :=
 ⟨_,_,h1,h2,fun n=>by
  by_cases e:n=hb1
  ·exact .inr (if_neg (by omega))
  ·exact .inl (if_neg e),fun b hb=>by cases hb⟩
theorem TwH.left (h:TwH w hb1 hb2 A B K W):∃ la,HoC w la W hb1 A:=by obtain ⟨la,lb,h1,_⟩:=h; exact ⟨la,h1⟩
theorem TwH.right (h:TwH w hb1 hb2 A B K W):∃ lb,HoC w lb W hb2 B:=by obtain ⟨la,lb,_,h2,_⟩:=h; exact ⟨lb,h2⟩
end
theorem tw_self (i:Nat) (a:Ac):TwA i a a:=⟨rfl,rfl,rfl,fun _=>rfl⟩
theorem tw_other {i:Nat} {a:Ac} (h:a.seat ≠ (i:Int)) (s:ByteArray):TwA i a { a with bytes:=s }:=⟨rfl,rfl,rfl,fun e=>absurd e h⟩
theorem acts_do {M:Hm} (h:M.acts < 400) (a:Ac):(doM M a).1.acts=M.acts+1:=by rw [do_acts,if_neg (by omega)]
theorem state_none (o:Option Se):((stateOf o).1=0) ↔ o.isNone=true:=by
 cases o with
 | none=>exact ⟨fun _=>rfl,fun _=>rfl⟩
 | some S =>
  refine ⟨fun h=>?_,fun h=>by cases h⟩
  simp only [stateOf] at h
  split at h
  ·exact absurd h (show ¬ (2:Int)=0 by decide)
  ·exact absurd h (show ¬ (1:Int)=0 by decide)
open Go.RowKit
theorem exec_over {a:Act} {op:Oper} {w:World} (ty:TypeId) (x y:Operand) (ho:op.op=.store ty x y) {k o:Nat} {vs cs:Array Value} {T:TypeId} (hx:a.eval x=.pointer (some ⟨k,o,none⟩)) (hy:a.eval y=.agg vs) (hg:w.heap[k]?=some (.cells cs T (0,0))) (hb:o+vs.size≤cs.size)
 (hi:(Tryz.prog.info? ty).map (·.size)=some vs.size) (h1:vs.all (·.oneCell')=true):(execOp a.eval op).run Tryz.prog w=.ok .skip (w.setCells k o vs.toList):=by
 have hr:=run_storeVar_mid (P:=Tryz.prog) w k o ty vs (there_of hg hb) hi h1
 unfold execOp
 simp only [ho,hx,hy,Instr.storeAt,Instr.sureAddr,Sem.run_bind,Sem.run_pure,Result.andThen_ok,hr]
open Go.RowKit
theorem Tryz.zAct4:(Tryz.prog.info? 23).map (fun i=>(i.zero,i.size))=some (some (.agg #[.int .i64 0,.int .i64 0,.int .i64 0,.string ⟨#[]⟩]),4):=by kernel_rfl
theorem act_one (a:Ac):a.cells.all (·.oneCell')=true:=by simp [Ac.cells,Value.oneCell']
section
variable {W0:World} {lab lab':Nat→Nat} {w w':World} {hb:Nat} {M:Hm}
end
open Go.RowKit
theorem exec_nerep {x:Act} {op:Oper} {w:World} (y z:Operand) (t:TypeId) (ho:op.op=.binOp .neq 29 y z t) {c:Int} {s:ByteArray} (hy:x.eval y=.agg #[.int .i64 c,.string s]) (hz:x.eval z=.agg #[.int .i64 c,.string s]):(execOp x.eval op).run Tryz.prog w=.ok (.value (.bool false)) w:=by
 have hg:(eqGuard .neq 29 y z (.agg #[.int .i64 c,.string s]) (.agg #[.int .i64 c,.string s])).run Tryz.prog w=.ok () w:=by
  have hg:=Tryz.guardReply
  simp [eqGuard,hg]
 have he:(binOp .neq 29 (.agg #[.int .i64 c,.string s]) (.agg #[.int .i64 c,.string s])).run Tryz.prog w=.ok (.bool false) w:=by
  rw [run_neq_struct]
  show ((Op.equalIn 10000 29 _ _).run Tryz.prog w).andThen _=_
  rw [eqReply]; rfl
 unfold execOp
 simp only [ho,hy,hz,Sem.run_bind,hg,he,Result.andThen_ok,Sem.run_pure]
end Go.Proofs.YtncgcejlkmoliaaGreatDoor.Ho
