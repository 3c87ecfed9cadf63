import Derived.Test.YtncgcejlkmoliaaGreatDoorMh00
import Derived.Test.YtncgcejlkmoliaaGreatDoorMh01
import Derived.Test.YtncgcejlkmoliaaGreatDoorMh02
import Derived.Test.YtncgcejlkmoliaaGreatDoorMh03
import Derived.Test.YtncgcejlkmoliaaGreatDoorMh04
import Derived.Test.YtncgcejlkmoliaaGreatDoorMh05
import Derived.Test.YtncgcejlkmoliaaGreatDoorMh06
import Derived.Test.YtncgcejlkmoliaaGreatDoorMh07
import Derived.Test.YtncgcejlkmoliaaGreatDoorMh08
import Derived.Test.YtncgcejlkmoliaaGreatDoorMh09
import Derived.Test.YtncgcejlkmoliaaGreatDoorMh10
import Derived.Test.YtncgcejlkmoliaaGreatDoorMh11
import Derived.Test.YtncgcejlkmoliaaGreatDoorMh12
import Derived.Test.YtncgcejlkmoliaaGreatDoorMh13
import Derived.Test.YtncgcejlkmoliaaGreatDoorMh14
import Derived.Test.YtncgcejlkmoliaaGreatDoorMh15
import Derived.Test.YtncgcejlkmoliaaGreatDoorMh16
import Derived.Test.YtncgcejlkmoliaaGreatDoorMh17
import Derived.Test.YtncgcejlkmoliaaGreatDoorMh18
import Derived.Test.YtncgcejlkmoliaaGreatDoorMh19
import Derived.Test.YtncgcejlkmoliaaGreatDoorMh20
import Derived.Test.YtncgcejlkmoliaaGreatDoorMh21
import Derived.Test.YtncgcejlkmoliaaGreatDoorMh22
import Derived.Test.YtncgcejlkmoliaaGreatDoorMh46
import Derived.Test.YtncgcejlkmoliaaGreatDoorMh23
import Derived.Test.YtncgcejlkmoliaaGreatDoorMk24
import Derived.Test.YtncgcejlkmoliaaGreatDoorMk25
import Derived.Test.YtncgcejlkmoliaaGreatDoorMh26
import Derived.Test.YtncgcejlkmoliaaGreatDoorMk27
import Derived.Test.YtncgcejlkmoliaaGreatDoorMh28
import Derived.Test.YtncgcejlkmoliaaGreatDoorMk29
import Derived.Test.YtncgcejlkmoliaaGreatDoorMk30
import Derived.Test.YtncgcejlkmoliaaGreatDoorMk31
import Derived.Test.YtncgcejlkmoliaaGreatDoorMk32
import Derived.Test.YtncgcejlkmoliaaGreatDoorMk33
import Derived.Test.YtncgcejlkmoliaaGreatDoorMk34
import Derived.Test.YtncgcejlkmoliaaGreatDoorMk35
import Derived.Test.YtncgcejlkmoliaaGreatDoorMh45
import Derived.Test.YtncgcejlkmoliaaGreatDoorMh36
import Derived.Test.YtncgcejlkmoliaaGreatDoorMh37
import Derived.Test.YtncgcejlkmoliaaGreatDoorMh38
import Derived.Test.YtncgcejlkmoliaaGreatDoorMk39
import Derived.Test.YtncgcejlkmoliaaGreatDoorMk40
import Derived.Test.YtncgcejlkmoliaaGreatDoorMk41
import Derived.Test.YtncgcejlkmoliaaGreatDoorMk42
import Derived.Test.YtncgcejlkmoliaaGreatDoorMk43
import Derived.Test.YtncgcejlkmoliaaGreatDoorMk44
set_option linter.unusedVariables false
set_option maxRecDepth 100000
set_option maxHeartbeats 16000000
namespace Go.Proofs.YtncgcejlkmoliaaGreatDoor.Ho
open Go.RowKit
def Kq (M M':Hm):Prop:=∀ i S',M'.seat i=some S'→∃ S,M.seat i=some S∧S'.lin=S.lin
theorem Kq.refl (M:Hm):Kq M M:=fun i S h=>⟨S,h,rfl⟩
theorem Kq.trans {M M' M'':Hm} (h:Kq M M') (g:Kq M' M''):Kq M M'':=fun i S'' hS=>by
 obtain ⟨S',h1,e1⟩:=g i S'' hS
 obtain ⟨S,h2,e2⟩:=h i S' h1
 exact ⟨S,h2,e1.trans e2⟩
theorem heard_lin (E:Ev) (S:Se):(heardS E S).lin=S.lin:=by
 unfold heardS; split
 ·unfold hearS; split <;> rfl
 ·rfl
theorem kq_hears (Es:List Ev):∀ M:Hm,Kq M (hearsM M Es):=by
 induction Es with
 | nil=>intro M; exact Kq.refl M
 | cons E r ih =>
  intro M
  have h1:Kq M (hearM E M):=fun i S' hS=>by
   simp only [hearM,Option.map_eq_some_iff] at hS
   obtain ⟨S,hS,rfl⟩:=hS
   exact ⟨S,hS,heard_lin E S⟩
  exact h1.trans (ih (hearM E M))
theorem kq_hap (M:Hm) (X:Ld) (Es:List Ev):Kq M (hapM M X Es):=fun i S' hS=>kq_hears Es { M with L:=X } i S' hS
theorem kq_order (M:Hm) (b:Int) (O:Od):Kq M (orderM M b O):=by
 unfold orderM; split
 ·exact kq_hap _ _ _
 ·exact Kq.refl M
theorem kq_put {M:Hm} {i:Nat} {S T:Se} (h:M.seat i=some S) (e:T.lin=S.lin):Kq M (M.put i (some T)):=fun j S' hS=>by
 simp only [Hm.put] at hS
 by_cases hj:j=i
 ·rw [if_pos hj] at hS; injection hS with hS; subst hS; subst hj; exact ⟨S,h,e⟩
 ·rw [if_neg hj] at hS; exact ⟨S',hS,rfl⟩
theorem kq_none (M:Hm) (i:Nat):Kq M (M.put i none):=fun j S' hS=>by
 simp only [Hm.put] at hS
 by_cases hj:j=i
 ·rw [if_pos hj] at hS; cases hS
 ·rw [if_neg hj] at hS; exact ⟨S',hS,rfl⟩
theorem kq_leave (M:Hm) (i:Nat):Kq M (leaveM M i):=by
 unfold leaveM; split
 ·exact Kq.refl M
 ·split
  ·exact (kq_none M i).trans (kq_order _ _ _)
  ·exact kq_none M i
theorem kq_cuts (M:Hm) (i:Nat):Kq M (cutsM M i).1:=by
 unfold cutsM; split
 ·exact Kq.refl M
 ·rename_i S hS
  split
  ·exact (kq_put (T:=flowS S) hS rfl).trans (kq_leave _ _)
  ·exact kq_put hS rfl
theorem kq_cutK (M:Hm):∀ k,Kq M (cutK M k).1
 | 0=>Kq.refl M
 | k+1=>(kq_cutK M k).trans (kq_cuts _ k)
theorem kq_flowN:∀ (n:Nat) (M:Hm),Kq M (flowN n M)
 | 0,M=>Kq.refl M
 | n+1,M=>by
  unfold flowN; split
  ·exact (kq_cutK M 4).trans (kq_flowN n _)
  ·exact kq_cutK M 4
open Go.RowKit
theorem flowL_idem (h:Int):∀ (q:List ByteArray) (P:Pa.Pg),P.wait=q→Pa.flowP h (Pa.flowL h q P)=Pa.flowL h q P:=by
 intro q
 induction q with
 | nil=>intro P hw; exact Pa.flow_nil hw
 | cons f r ih =>
  intro P hw
  unfold Pa.flowL
  by_cases h1:P.asking=true∨P.cut=true
  ·rw [if_pos h1]; exact Pa.flow_stop h1
  ·rw [if_neg h1]
   by_cases h2:h ≠ 0∧h≤P.shown
   ·rw [if_pos h2]; exact Pa.flow_stop (.inl (by unfold Pa.askedP; rw [Pa.sent_asking]))
   ·rw [if_neg h2]; exact ih _ (by unfold Pa.shownP; rw [Pa.sent_wait])
theorem flowR_idem (P:Pa.Pg) (h:Int):Pa.flowR (Pa.flowR P h) h=Pa.flowR P h:=by
 unfold Pa.flowR
 by_cases h1:Pa.flowG P h=true
 ·simp only [if_pos h1]
  have e:Pa.flowP h (Pa.flowP h P)=Pa.flowP h P:=flowL_idem h P.wait P rfl
  rw [e]
  split <;> rfl
 ·simp only [if_neg h1]
theorem flowS_idem (S:Se):flowS (flowS S)=flowS S:=by
 unfold flowS
 simp only [flowR_idem]
theorem put_same {M:Hm} {i:Nat} {S:Se} (h:M.seat i=some S):M.put i (some S)=M:=by
 unfold Hm.put
 have e:(fun j=>if j=i then some S else M.seat j)=M.seat:=by
  funext j
  by_cases hj:j=i
  ·rw [if_pos hj,hj,h]
  ·rw [if_neg hj]
 rw [e]
theorem cutK_still (M:Hm):∀ k,(cutK M k).2=false→(cutK M k).1={ M with seat:=fun j=>if j < k then (M.seat j).map flowS else M.seat j }∧∀ j S,j < k→M.seat j=some S→(flowS S).pg.cut=false:=by
 intro k
 induction k with
 | zero =>
  intro _
  refine ⟨?_,fun j S hj=>by omega⟩
  have e:(fun j=>if j < 0 then (M.seat j).map flowS else M.seat j)=M.seat:=by funext j; rw [if_neg (by omega)]
  rw [e]; rfl
 | succ k ih =>
  intro h
  simp only [cutK,Bool.or_eq_false_iff] at h
  obtain ⟨h1,h2⟩:=h
  obtain ⟨e1,e2⟩:=ih h1
  simp only [cutK]
  rw [e1] at h2 ⊢
  unfold cutsM at h2 ⊢
  simp only [Nat.lt_irrefl,if_false] at h2 ⊢
  cases hS:M.seat k with
  | none =>
   refine ⟨?_,fun j S hj hj2=>?_⟩
   ·simp only
    congr 1
    funext j
    by_cases hj:j=k
    ·subst hj; rw [if_neg (by omega),if_pos (by omega),hS]; rfl
    ·by_cases hl:j < k
     ·rw [if_pos hl,if_pos (by omega)]
     ·rw [if_neg hl,if_neg (by omega)]
   ·by_cases e:j=k
    ·subst e; rw [hS] at hj2; cases hj2
    ·exact e2 j S (by omega) hj2
  | some S =>
   simp only [hS] at h2 ⊢
   by_cases hc:(flowS S).pg.cut=true
   ·rw [if_pos hc] at h2; cases h2
   ·rw [if_neg hc]
    refine ⟨?_,fun j T hj hj2=>?_⟩
    ·simp only [Hm.put]
     congr 1
     funext j
     by_cases hj:j=k
     ·subst hj; rw [if_pos rfl,if_pos (by omega),hS]; rfl
     ·rw [if_neg hj]
      by_cases hl:j < k
      ·rw [if_pos hl,if_pos (by omega)]
      ·rw [if_neg hl,if_neg (by omega)]
    ·by_cases e:j=k
     ·subst e; rw [hS] at hj2; injection hj2 with hj2; subst hj2; simpa using hc
     ·exact e2 j T (by omega) hj2
theorem flow_fin {Q:Hm→Prop} (hQ:∀ X,Q X→Q (cutM X).1):∀ (n:Nat) {N:Nat} {M:Hm},Iv N M→cnt M < n→Q M→∃ X,Q X∧flowN n M=(cutM X).1∧(cutM X).2=false:=by
 intro n
 induction n with
 | zero=>intro N M h hc; omega
 | succ n ih =>
  intro N M h hc hM
  obtain ⟨N1,h1,h2,h3,h4⟩:=h.cutK 4 (Nat.le_refl _)
  unfold flowN
  by_cases e:(cutM M).2=true
  ·rw [if_pos e]
   have hlt:=h4 e
   exact ih h1 (by show cnt (cutK M 4).1 < n; omega) (hQ M hM)
  ·rw [if_neg e]
   exact ⟨M,hM,rfl,by simpa using e⟩
theorem flow_last {Q:Hm→Prop} (hQ:∀ X,Q X→Q (cutM X).1) {N:Nat} {M:Hm} (h:Iv N M) (hM:Q M):∃ X,Q X∧flowM M={ X with seat:=fun j=>if j < 4 then (X.seat j).map flowS else X.seat j }∧∀ j S,j < 4→X.seat j=some S→(flowS S).pg.cut=false:=by
 obtain ⟨X,h1,h2,h3⟩:=flow_fin hQ 5 h (by have:=cnt_le M; omega) hM
 obtain ⟨e1,e2⟩:=cutK_still X 4 h3
 exact ⟨X,h1,h2.trans e1,e2⟩
def St (M:Hm):Prop:=∀ i S,i < 4→M.seat i=some S→flowS S=S∧S.pg.cut=false
theorem st_new:St newM:=fun i S _ h=>by cases h
theorem st_forget {M:Hm} (h:St M) (n:Nat):St { forgetM M with acts:=n }:=fun i S hi hS=>by
 simp only [forgetM,Option.map_eq_some_iff] at hS
 obtain ⟨T,hT,rfl⟩:=hS
 obtain ⟨h1,h2⟩:=h i T hi hT
 exact ⟨by have:=congrArg Se.pg h1; unfold flowS at this ⊢; simp only at this ⊢; rw [this],h2⟩
theorem st_flow {N:Nat} {M:Hm} (h:Iv N M):St (flowM M):=by
 obtain ⟨X,_,e,hc⟩:=flow_last (Q:=fun _=>True) (fun _ _=>trivial) h trivial
 rw [e]
 intro i S hi hS
 simp only [if_pos hi,Option.map_eq_some_iff] at hS
 obtain ⟨T,hT,rfl⟩:=hS
 exact ⟨flowS_idem T,hc i T hi hT⟩
theorem Iv.st {M:Hm} (h:Iv 1000 M) (hs:St M) (a:Ac):St (doM M a).1:=by
 unfold doM
 split
 ·exact hs
 ·split
  ·rename_i hr
   exact st_flow ((h.forget (M.acts+1)).act (a:=a) hr)
  ·exact st_forget hs _
theorem run_st (l:List Ac):∀ {M:Hm},Iv 1000 M→St M→St (runM M l):=by
 induction l with
 | nil=>intro M _ h; exact h
 | cons a r ih=>intro M h1 h2; exact ih (h1.does a) (h1.st h2 a)
open Go.RowKit
theorem new_flows:((flowS newS).pg.cut==false)=true:=by kernel_rfl
theorem cutK_none {M:Hm}:∀ k,(∀ j S,j < k→M.seat j=some S→flowS S=S∧S.pg.cut=false)→cutK M k=(M,false):=by
 intro k
 induction k with
 | zero=>intro _; rfl
 | succ k ih =>
  intro h
  have e:=ih fun j S hj hS=>h j S (by omega) hS
  simp only [cutK,e]
  unfold cutsM
  cases hS:M.seat k with
  | none=>rfl
  | some S =>
   obtain ⟨h1,h2⟩:=h k S (by omega) hS
   simp only [h1,h2]
   rw [if_neg (by simp),put_same hS]; rfl
theorem cut_one {M:Hm} {k:Nat} (hk:k < 4) {T:Se} (hT:M.seat k=some T) (h:∀ j S,j < 4→j ≠ k→M.seat j=some S→flowS S=S∧S.pg.cut=false) (hc:(flowS T).pg.cut=false):cutM M=(M.put k (some (flowS T)),false):=by
 have h0:∀ n,n≤k→cutK M n=(M,false):=fun n hn=>cutK_none n fun j S hj hS=>h j S (by omega) (by omega) hS
 have h1:∀ n,k < n→n≤4→cutK M n=(M.put k (some (flowS T)),false):=by
  intro n
  induction n with
  | zero=>intro h; omega
  | succ n ih =>
   intro hn h4
   by_cases e:n=k
   ·subst e
    simp only [cutK,h0 n (Nat.le_refl _)]
    unfold cutsM
    simp only [hT,hc]
    rw [if_neg (by simp)]; rfl
   ·have e1:=ih (by omega) (by omega)
    simp only [cutK,e1]
    unfold cutsM
    have e2:(M.put k (some (flowS T))).seat n=M.seat n:=by simp [Hm.put,e]
    rw [e2]
    cases hS:M.seat n with
    | none=>rfl
    | some S =>
     obtain ⟨g1,g2⟩:=h n S (by omega) e hS
     simp only [g1,g2]
     rw [if_neg (by simp),put_same (e2.trans hS)]; rfl
 exact h1 4 hk (Nat.le_refl _)
theorem cutsK_mono (M:Hm) {j:Nat}:∀ n k,(cutK M k).1.seat j=none→k≤n→(cutK M n).1.seat j=none:=by
 intro n
 induction n with
 | zero=>intro k h hk; obtain rfl:k=0:=by omega
         exact h
 | succ n ih =>
  intro k h hk
  by_cases e:k=n+1
  ·subst e; exact h
  ·have h1:=ih k h (by omega)
   cases hS:(cutK M (n+1)).1.seat j with
   | none=>rfl
   | some S =>
    obtain ⟨S0,h2,_⟩:=kq_cuts (cutK M n).1 n j S hS
    rw [h1] at h2; cases h2
theorem flow_gone {M:Hm} {k:Nat} (n:Nat) (h:M.seat k=none):(flowN n M).seat k=none:=by
 cases hS:(flowN n M).seat k with
 | none=>rfl
 | some S =>
  obtain ⟨S0,h2,_⟩:=kq_flowN n M k S hS
  rw [h] at h2; cases h2
theorem cut_gone {N:Nat} {M:Hm} (hI:Iv N M) {k:Nat} (hk:k < 4) {T:Se} (hT:M.seat k=some T) (h:∀ j S,j < 4→j ≠ k→M.seat j=some S→flowS S=S∧S.pg.cut=false) (hc:(flowS T).pg.cut=true):(flowM M).seat k=none:=by
 have h0:cutK M k=(M,false):=cutK_none k fun j S hj hS=>h j S (by omega) (by omega) hS
 have hSo:=hI.sv.seat k T hk hT
 have h1:Iv N (M.put k (some (flowS T))):=hI.put (S':=flowS T) hk hT rfl hSo.1.flow (Nat.le_refl _) hSo.2
 have h2:=(h1.leave hk (put_seat M k _)).2.1
 have h3:(cutK M (k+1)).1.seat k=none:=by
  simp only [cutK,h0]
  unfold cutsM
  simp only [hT]
  rw [if_pos hc]; exact h2
 have h4:=cutsK_mono M 4 (k+1) h3 (by omega)
 unfold flowM flowN
 split
 ·exact flow_gone 4 h4
 ·exact h4
theorem do_alone {M:Hm} (hI:Iv 1000 M) (hs:St M) (ha:M.acts < 400) {a:Ac} (h5:a.kind ≠ 5) :
 ((0≤a.seat∧a.seat < 4)∧(seatAt M a.seat).isSome=true∧seatAt (doM M a).1 a.seat=none)∨∀ i:Nat,i < 4→(i:Int) ≠ a.seat→Sm (seatAt M i) (seatAt (doM M a).1 i):=by
 by_cases hc:(doM M a).2.1 ≠ 0
 ·exact .inr fun i hi _=>(refused_pure ha hc).2.2.2 i hi
 have hr:refusedM (forgetM M) a=0:=by
  by_cases hr:refusedM (forgetM M) a=0
  ·exact hr
  ·unfold doM at hc; rw [if_neg (by omega),if_neg hr] at hc; exact absurd hr hc
 have e0:(doM M a).1=flowM (actM { forgetM M with acts:=M.acts+1 } a).1:=by unfold doM; rw [if_neg (by omega),if_pos hr]
 rw [e0]
 generalize hM1:({ forgetM M with acts:=M.acts+1 }:Hm)=M1
 have hI1:Iv 0 M1:=by rw [← hM1]; exact hI.forget _
 have hs1:St M1:=by rw [← hM1]; exact st_forget hs _
 have hr1:refusedM M1 a=0:=by rw [← hM1]; exact hr
 have hseat:∀ i:Int,seatAt M1 i=(seatAt M i).map fun S=>{ S with told:=[] }:=fun i=>by rw [← hM1]; exact seat_forget M _ i
 have hact:=hI1.act hr1
 clear e0 hr
 have hr2:=hr1
 unfold refusedM at hr2
 by_cases hk:a.kind < 1∨5 < a.kind
 ·rw [if_pos hk] at hr2; omega
 rw [if_neg hk,if_neg h5] at hr2
 by_cases hq:a.seat < 0∨3 < a.seat
 ·rw [if_pos hq] at hr2; omega
 rw [if_neg hq] at hr2
 have hi:a.seat.toNat < 4:=by omega
 have hn:(M1.seat a.seat.toNat).isNone=decide (a.kind=1):=by
  by_cases e:(M1.seat a.seat.toNat).isNone=decide (a.kind=1)
  ·exact e
  ·rw [if_neg e] at hr2; omega
 have hat:∀ X:Hm,seatAt X a.seat=X.seat a.seat.toNat:=fun X=>by unfold seatAt; rw [if_pos (by omega)]
 have hate:∀ (X:Hm) (i:Nat),i < 4→seatAt X i=X.seat i:=fun X i h=>by unfold seatAt; rw [if_pos (by omega),Int.toNat_natCast]
 have step:∀ T,(actM M1 a).1=M1.put a.seat.toNat (some T)→((M1.seat a.seat.toNat).isSome=true∨(flowS T).pg.cut=false) →
  ((0≤a.seat∧a.seat < 4)∧(seatAt M a.seat).isSome=true∧seatAt (flowM (actM M1 a).1) a.seat=none)∨∀ i:Nat,i < 4→(i:Int) ≠ a.seat→Sm (seatAt M i) (seatAt (flowM (actM M1 a).1) i):=by
  intro T hT hor
  rw [hT] at hact ⊢
  have hoth:∀ j S,j < 4→j ≠ a.seat.toNat→(M1.put a.seat.toNat (some T)).seat j=some S→flowS S=S∧S.pg.cut=false:=fun j S hj hne hS=>by
   simp only [Hm.put,if_neg hne] at hS
   exact hs1 j S hj hS
  by_cases hcut:(flowS T).pg.cut=true
  ·refine .inl ⟨by omega,?_,?_⟩
   ·rcases hor with h | h
    ·have:=hseat a.seat
     rw [hat M1] at this
     rw [this] at h
     simpa using h
    ·rw [hcut] at h; cases h
   ·rw [hat]
    exact cut_gone hact hi (put_seat _ _ _) hoth hcut
  ·refine .inr fun i hi4 hne=>?_
   have e:=cut_one hi (put_seat M1 a.seat.toNat (some T)) hoth (by simpa using hcut)
   have e2:flowM (M1.put a.seat.toNat (some T))=(M1.put a.seat.toNat (some T)).put a.seat.toNat (some (flowS T)):=by
    unfold flowM flowN
    rw [e,if_neg (by simp)]
   rw [e2]
   have e3:((M1.put a.seat.toNat (some T)).put a.seat.toNat (some (flowS T))).seat i=M1.seat i:=by
    simp only [Hm.put]
    rw [if_neg (by omega),if_neg (by omega)]
   have e4:seatAt ((M1.put a.seat.toNat (some T)).put a.seat.toNat (some (flowS T))) (i:Int)=seatAt M1 (i:Int):=by rw [hate _ i hi4,e3,hate M1 i hi4]
   rw [e4,hseat]
   exact sm_forget _
 by_cases h1:a.kind=1
 ·exact step newS (by unfold actM; rw [if_neg h5,if_pos h1]) (.inr (by have:=new_flows; simpa using this))
 ·rw [decide_eq_false h1] at hn
  cases hS:M1.seat a.seat.toNat with
  | none=>rw [hS] at hn; cases hn
  | some S =>
   by_cases h2:a.kind=2
   ·exact step (feedS S a.bytes.data.toList) (by unfold actM; rw [if_neg h5,if_neg h1,hS]; simp only [if_pos h2]) (.inl (by rw [hS]; rfl))
   by_cases h3:a.kind=3
   ·exact step (Ho.takeS S a.num) (by unfold actM; rw [if_neg h5,if_neg h1,hS]; simp only [if_neg h2,if_pos h3]) (.inl (by rw [hS]; rfl))
   ·refine .inl ⟨by omega,?_,?_⟩
    ·have:=hseat a.seat
     rw [hat M1,hS] at this
     cases hq:seatAt M a.seat with
     | none=>rw [hq] at this; cases this
     | some T=>rfl
    ·rw [hat]
     have e:(actM M1 a).1=leaveM M1 a.seat.toNat:=by unfold actM; rw [if_neg h5,if_neg h1,hS]; simp only [if_neg h2,if_neg h3]
     rw [e]
     exact flow_gone 5 (hI1.leave hi hS).2.1
open Go.RowKit
def i4 (f:Nat→Int):Array Value:=#[.int .i64 (f 0),.int .i64 (f 1),.int .i64 (f 2),.int .i64 (f 3)]
theorem i4_set (f:Nat→Int) {k:Nat} (hk:k < 4) (x:Int):(i4 f).setIfInBounds k (.int .i64 x)=i4 (fun j=>if j=k then x else f j):=by
 match k,hk with
 | 0,_=>rfl
 | 1,_=>rfl
 | 2,_=>rfl
 | 3,_=>rfl
theorem i4_cell {w:World} {g T:Nat} {f:Nat→Int} (h:w.heap[g]?=some (.cells (i4 f) T (0,0))) {k:Nat} (hk:k < 4):w.cell? ⟨g,k,none⟩=some (.int .i64 (f k)):=by
 rw [cell_of_row _ _ _ _ _ _ h]
 match k,hk with
 | 0,_=>rfl
 | 1,_=>rfl
 | 2,_=>rfl
 | 3,_=>rfl
theorem i4_congr {f g:Nat→Int} (h:∀ i,i < 4→f i=g i):i4 f=i4 g:=by
 unfold i4
 rw [h 0 (by omega),h 1 (by omega),h 2 (by omega),h 3 (by omega)]
theorem act_cell {w:World} {g:Nat} {a:Ac} (h:w.heap[g]?=some (.cells a.cells 23 (0,0))):w.cell? ⟨g,0,none⟩=some (.int .i64 a.kind)∧w.cell? ⟨g,1,none⟩=some (.int .i64 a.seat):=by
 rw [cell_of_row _ _ _ _ _ _ h,cell_of_row _ _ _ _ _ _ h]; exact ⟨rfl,rfl⟩
open Go.RowKit
def gr (n:Nat) (c:Nat→Nat→Value):Array Value:=Array.ofFn (n:=4*n) fun i=>c (i.val / n) (i.val % n)
theorem gr_size (n:Nat) (c:Nat→Nat→Value):(gr n c).size=4*n:=by simp [gr]
theorem gr_at (n:Nat) (c:Nat→Nat→Value) {m:Nat} (hm:m < 4*n):(gr n c)[m]?=some (c (m / n) (m % n)):=by
 rw [Array.getElem?_eq_getElem (by rw [gr_size]; exact hm)]; simp [gr]
theorem gr_get {n:Nat} (c:Nat→Nat→Value) {i j:Nat} (hi:i < 4) (hj:j < n):(gr n c)[i*n+j]?=some (c i j):=by
 have hlt:i*n+j < 4*n:=by
  have:i*n≤3*n:=Nat.mul_le_mul_right _ (by omega)
  omega
 rw [gr_at n c hlt]
 have h1:(i*n+j) / n=i:=by rw [Nat.mul_comm,Nat.mul_add_div (by omega),Nat.div_eq_of_lt hj]; rfl
 have h2:(i*n+j) % n=j:=by rw [Nat.mul_comm,Nat.mul_add_mod]; exact Nat.mod_eq_of_lt hj
 rw [h1,h2]
theorem gr_over {n:Nat} (hn:0 < n) (c:Nat→Nat→Value) (vs:Array Value) (hs:vs.size=n) {k:Nat} (hk:k < 4):over (gr n c) (k*n) vs.toList=gr n (fun i j=>if i=k then vs.getD j undef else c i j):=by
 apply Array.ext_getElem?
 intro m
 rw [over_get]
 have hl:vs.toList.length=n:=by rw [Array.length_toList]; exact hs
 by_cases hm:m < 4*n
 ·rw [gr_at _ _ hm,gr_at _ _ hm,hl,gr_size]
  have hdm:=Nat.div_add_mod m n
  have hmod:=Nat.mod_lt m hn
  by_cases e:m / n=k
  ·have e1:k*n+m % n=m:=by rw [← e,Nat.mul_comm]; exact hdm
   rw [if_pos ⟨by omega,by omega,hm⟩,if_pos e,show m - k*n=m % n by omega,Array.getElem?_toList,Array.getElem?_eq_getElem (by omega)]
   simp [hs,hmod]
  ·rw [if_neg,if_neg e]
   rintro ⟨h1,h2,_⟩
   exact e (by
    have e2:m=n*k+(m - k*n):=by rw [Nat.mul_comm]; omega
    rw [e2,Nat.mul_add_div hn,Nat.div_eq_of_lt (by omega)]; rfl)
 ·have hsz:(gr n c).size=4*n:=gr_size n c
  rw [if_neg (by rw [hsz]; omega),Array.getElem?_eq_none (by rw [gr_size]; omega),Array.getElem?_eq_none (by rw [gr_size]; omega)]
theorem gr_congr {n:Nat} {c d:Nat→Nat→Value} (h:∀ i j,i < 4→j < n→c i j=d i j):gr n c=gr n d:=by
 apply Array.ext_getElem?
 intro m
 by_cases hm:m < 4*n
 ·have hn:0 < n:=by omega
  rw [gr_at _ _ hm,gr_at _ _ hm,h _ _ (by rw [Nat.div_lt_iff_lt_mul hn]; exact hm) (Nat.mod_lt _ hn)]
 ·rw [Array.getElem?_eq_none (by rw [gr_size]; omega),Array.getElem?_eq_none (by rw [gr_size]; omega)]
theorem gr_range {w:World} {g T n:Nat} {c:Nat→Nat→Value} (h:w.heap[g]?=some (.cells (gr n c) T (0,0))) {k:Nat} (hk:k < 4) (vs:Array Value) (hs:vs.size=n) (hv:∀ j,j < n→c k j=vs.getD j undef):w.rangeAt g (k*n) vs.toList:=by
 refine range_of h fun j v hj=>?_
 have hlt:j < n:=by have:=(List.getElem?_eq_some_iff.1 hj).1; rw [Array.length_toList] at this; omega
 rw [gr_get c hk hlt,hv j hlt]
 rw [Array.getElem?_toList] at hj
 obtain ⟨h1,h2⟩:=Array.getElem?_eq_some_iff.1 hj
 simp [h1,h2]
def pgC (P:Pa.Pg) (v:Value) (j:Nat):Value:=(P.cells v).getD j undef
def lnC (P:Li.Lin) (v:Value) (j:Nat):Value:=(P.cells v).getD j undef
theorem Tryz.zPages:(Tryz.prog.info? 88).map (fun i=>(i.zero,i.size))=some (some (.agg (gr 5 fun _ j=>pgC Pa.zp (.slice none 0 0) j)),20):=by kernel_rfl
theorem Tryz.zLines:(Tryz.prog.info? 89).map (fun i=>(i.zero,i.size))=some (some (.agg (gr 4 fun _ j=>lnC Li.zl (.slice none 0 0) j)),16):=by kernel_rfl
open Go.RowKit
theorem lt_of_take {l:List Ac}:(runM newM (l.take 150)).acts < 400:=by
 have h1:=run_acts (l.take 150) newM
 have h2:newM.acts=0:=rfl
 have h3:(l.take 150).length≤150:=by rw [List.length_take]; omega
 omega
open Go.RowKit
theorem Tryz.zInts4:(Tryz.prog.info? 69).map (fun i=>(i.zero,i.size))=some (some (.agg (i4 fun _=>0)),4):=by kernel_rfl
end Go.Proofs.YtncgcejlkmoliaaGreatDoor.Ho
