import Derived.Test.YtncgcejlkmoliaaGreatDoorMh00
import Derived.Test.YtncgcejlkmoliaaGreatDoorMh01
import Derived.Test.YtncgcejlkmoliaaGreatDoorMh02
import Derived.Test.YtncgcejlkmoliaaGreatDoorMh03
import Derived.Test.YtncgcejlkmoliaaGreatDoorMh04
import Derived.Test.YtncgcejlkmoliaaGreatDoorMh05
import Derived.Test.YtncgcejlkmoliaaGreatDoorMh06
import Derived.Test.YtncgcejlkmoliaaGreatDoorMh07
import Derived.Test.YtncgcejlkmoliaaGreatDoorMh08
import Derived.Test.YtncgcejlkmoliaaGreatDoorMh09
import Derived.Test.YtncgcejlkmoliaaGreatDoorMh10
import Derived.Test.YtncgcejlkmoliaaGreatDoorMh11
import Derived.Test.YtncgcejlkmoliaaGreatDoorMh12
import Derived.Test.YtncgcejlkmoliaaGreatDoorMh13
import Derived.Test.YtncgcejlkmoliaaGreatDoorMh14
import Derived.Test.YtncgcejlkmoliaaGreatDoorMh15
import Derived.Test.YtncgcejlkmoliaaGreatDoorMh16
import Derived.Test.YtncgcejlkmoliaaGreatDoorMh17
import Derived.Test.YtncgcejlkmoliaaGreatDoorMh18
import Derived.Test.YtncgcejlkmoliaaGreatDoorMh19
import Derived.Test.YtncgcejlkmoliaaGreatDoorMh20
import Derived.Test.YtncgcejlkmoliaaGreatDoorMh21
import Derived.Test.YtncgcejlkmoliaaGreatDoorMh22
import Derived.Test.YtncgcejlkmoliaaGreatDoorMh46
import Derived.Test.YtncgcejlkmoliaaGreatDoorMh23
import Derived.Test.YtncgcejlkmoliaaGreatDoorMk24
import Derived.Test.YtncgcejlkmoliaaGreatDoorMk25
import Derived.Test.YtncgcejlkmoliaaGreatDoorMh26
import Derived.Test.YtncgcejlkmoliaaGreatDoorMk27
import Derived.Test.YtncgcejlkmoliaaGreatDoorMh28
import Derived.Test.YtncgcejlkmoliaaGreatDoorMk29
import Derived.Test.YtncgcejlkmoliaaGreatDoorMk30
import Derived.Test.YtncgcejlkmoliaaGreatDoorMk31
import Derived.Test.YtncgcejlkmoliaaGreatDoorMk32
import Derived.Test.YtncgcejlkmoliaaGreatDoorMk33
import Derived.Test.YtncgcejlkmoliaaGreatDoorMk34
import Derived.Test.YtncgcejlkmoliaaGreatDoorMk35
import Derived.Test.YtncgcejlkmoliaaGreatDoorMh45
import Derived.Test.YtncgcejlkmoliaaGreatDoorMh36
import Derived.Test.YtncgcejlkmoliaaGreatDoorMh37
import Derived.Test.YtncgcejlkmoliaaGreatDoorMh38
import Derived.Test.YtncgcejlkmoliaaGreatDoorMk39
import Derived.Test.YtncgcejlkmoliaaGreatDoorMk40
import Derived.Test.YtncgcejlkmoliaaGreatDoorMk41
import Derived.Test.YtncgcejlkmoliaaGreatDoorMk42
import Derived.Test.YtncgcejlkmoliaaGreatDoorMk43
import Derived.Test.YtncgcejlkmoliaaGreatDoorMk44
import Derived.Test.YtncgcejlkmoliaaGreatDoorRows
import Derived.WalkKit
import Derived.ProofKit
import Derived.OpenShut
import Derived.ShutString
import Derived.WalkSpells
import Derived.WalkLawsBesides
import Derived.Deep.QuietTactic
import Derived.BigQuiet
import Derived.Deep.RegionWith
import Derived.Deep.MidRow
import Derived.Deep.DeepCutAuto
import Derived.Deep.WholeRow
import Derived.Maps.AppendAt
import Derived.Laws.Rows
import Derived.Laws.StructEq
import Derived.Laws.IdiomStrings
import Derived.Laws.CopyOwn
import Derived.Lib.Walk
import Derived.Shelf.Strings.Shaped
set_option linter.unusedVariables false
set_option maxRecDepth 100000
set_option maxHeartbeats 16000000
namespace Go.Proofs.YtncgcejlkmoliaaGreatDoor
open Go.RowKit
theorem scells_length (q:List ByteArray):(scells q).length=q.length:=by simp [scells]
section
variable {P:Program} {ops:Array Oper} {rest:List Oper} {op:Oper} {a:Act} {w:World} {Q:Exit→Act→World→Prop}
end
section
variable {P:Program} {w:World}
end
section
variable {w:World}
end
end Go.Proofs.YtncgcejlkmoliaaGreatDoor
namespace Go.Proofs.YtncgcejlkmoliaaGreatDoor.Pa
open Go.RowKit
theorem refusal_cut {P:Pg} (h:goodP P=true) (hc:P.cut=true):refusal P=6:=by simp [refusal,h,hc]
theorem refusal_ok {P:Pg} (h:goodP P=true) (hc:P.cut=false):refusal P=0:=by simp [refusal,h,hc]
end Go.Proofs.YtncgcejlkmoliaaGreatDoor.Pa
namespace Go.Proofs.YtncgcejlkmoliaaGreatDoor.Li
open Go.RowKit
theorem scells_length (q:List ByteArray):(scells q).length=q.length:=by simp [scells]
end Go.Proofs.YtncgcejlkmoliaaGreatDoor.Li
namespace Go.Proofs.YtncgcejlkmoliaaGreatDoor.Ho
open Go.RowKit
theorem ok_good {P:Pa.Pg} (h:Pa.Ok P):Pa.goodP P=true:=by
 have h1:=h.ring
 have h2:=h.lo
 have h3:=h.hi
 have h4:=h.len
 simp only [Pa.goodP,Pa.gheight,Bool.and_eq_true,decide_eq_true_eq]
 exact ⟨⟨h4,h1⟩,h2,h3⟩
section
variable {S:Se}
end
open Go.RowKit
theorem flowL_idem (h:Int):∀ (q:List ByteArray) (P:Pa.Pg),P.wait=q→Pa.flowP h (Pa.flowL h q P)=Pa.flowL h q P:=by
 intro q
 induction q with
 | nil=>intro P hw; exact Pa.flow_nil hw
 | cons f r ih =>
  intro P hw
  unfold Pa.flowL
  by_cases h1:P.asking=true∨P.cut=true
  ·rw [if_pos h1]; exact Pa.flow_stop h1
  ·rw [if_neg h1]
   by_cases h2:h ≠ 0∧h≤P.shown
   ·rw [if_pos h2]; exact Pa.flow_stop (.inl (by unfold Pa.askedP; rw [Pa.sent_asking]))
   ·rw [if_neg h2]; exact ih _ (by unfold Pa.shownP; rw [Pa.sent_wait])
theorem flowR_idem (P:Pa.Pg) (h:Int):Pa.flowR (Pa.flowR P h) h=Pa.flowR P h:=by
 unfold Pa.flowR
 by_cases h1:Pa.flowG P h=true
 ·simp only [if_pos h1]
  have e:Pa.flowP h (Pa.flowP h P)=Pa.flowP h P:=flowL_idem h P.wait P rfl
  rw [e]
  split <;> rfl
 ·simp only [if_neg h1]
theorem flowS_idem (S:Se):flowS (flowS S)=flowS S:=by
 unfold flowS
 simp only [flowR_idem]
theorem cutK_still (M:Hm):∀ k,(cutK M k).2=false→(cutK M k).1={ M with seat:=fun j=>if j < k then (M.seat j).map flowS else M.seat j }∧∀ j S,j < k→M.seat j=some S→(flowS S).pg.cut=false:=by
 intro k
 induction k with
 | zero =>
  intro _
  refine ⟨?_,fun j S hj=>by omega⟩
  have e:(fun j=>if j < 0 then (M.seat j).map flowS else M.seat j)=M.seat:=by funext j; rw [if_neg (by omega)]
  rw [e]; rfl
 | succ k ih =>
  intro h
  simp only [cutK,Bool.or_eq_false_iff] at h
  obtain ⟨h1,h2⟩:=h
  obtain ⟨e1,e2⟩:=ih h1
  simp only [cutK]
  rw [e1] at h2 ⊢
  unfold cutsM at h2 ⊢
  simp only [Nat.lt_irrefl,if_false] at h2 ⊢
  cases hS:M.seat k with
  | none =>
   refine ⟨?_,fun j S hj hj2=>?_⟩
   ·simp only
    congr 1
    funext j
    by_cases hj:j=k
    ·subst hj; rw [if_neg (by omega),if_pos (by omega),hS]; rfl
    ·by_cases hl:j < k
     ·rw [if_pos hl,if_pos (by omega)]
     ·rw [if_neg hl,if_neg (by omega)]
   ·by_cases e:j=k
    ·subst e; rw [hS] at hj2; cases hj2
    ·exact e2 j S (by omega) hj2
  | some S =>
   simp only [hS] at h2 ⊢
   by_cases hc:(flowS S).pg.cut=true
   ·rw [if_pos hc] at h2; cases h2
   ·rw [if_neg hc]
    refine ⟨?_,fun j T hj hj2=>?_⟩
    ·simp only [Hm.put]
     congr 1
     funext j
     by_cases hj:j=k
     ·subst hj; rw [if_pos rfl,if_pos (by omega),hS]; rfl
     ·rw [if_neg hj]
      by_cases hl:j < k
      ·rw [if_pos hl,if_pos (by omega)]
      ·rw [if_neg hl,if_neg (by omega)]
    ·by_cases e:j=k
     ·subst e; rw [hS] at hj2; injection hj2 with hj2; subst hj2; simpa using hc
     ·exact e2 j T (by omega) hj2
theorem flow_fin {Q:Hm→Prop} (hQ:∀ X,Q X→Q (cutM X).1):∀ (n:Nat) {N:Nat} {M:Hm},Iv N M→cnt M < n→Q M→∃ X,Q X∧flowN n M=(cutM X).1∧(cutM X).2=false:=by
 intro n
 induction n with
 | zero=>intro N M h hc; omega
 | succ n ih =>
  intro N M h hc hM
  obtain ⟨N1,h1,h2,h3,h4⟩:=h.cutK 4 (Nat.le_refl _)
  unfold flowN
  by_cases e:(cutM M).2=true
  ·rw [if_pos e]
   have hlt:=h4 e
   exact ih h1 (by show cnt (cutK M 4).1 < n; omega) (hQ M hM)
  ·rw [if_neg e]
   exact ⟨M,hM,rfl,by simpa using e⟩
theorem flow_last {Q:Hm→Prop} (hQ:∀ X,Q X→Q (cutM X).1) {N:Nat} {M:Hm} (h:Iv N M) (hM:Q M):∃ X,Q X∧flowM M={ X with seat:=fun j=>if j < 4 then (X.seat j).map flowS else X.seat j }∧∀ j S,j < 4→X.seat j=some S→(flowS S).pg.cut=false:=by
 obtain ⟨X,h1,h2,h3⟩:=flow_fin hQ 5 h (by have:=cnt_le M; omega) hM
 obtain ⟨e1,e2⟩:=cutK_still X 4 h3
 exact ⟨X,h1,h2.trans e1,e2⟩
def St (M:Hm):Prop:=∀ i S,i < 4→M.seat i=some S→flowS S=S∧S.pg.cut=false
theorem st_new:St newM:=fun i S _ h=>by cases h
theorem st_forget {M:Hm} (h:St M) (n:Nat):St { forgetM M with acts:=n }:=fun i S hi hS=>by
 simp only [forgetM,Option.map_eq_some_iff] at hS
 obtain ⟨T,hT,rfl⟩:=hS
 obtain ⟨h1,h2⟩:=h i T hi hT
 exact ⟨by have:=congrArg Se.pg h1; unfold flowS at this ⊢; simp only at this ⊢; rw [this],h2⟩
theorem st_flow {N:Nat} {M:Hm} (h:Iv N M):St (flowM M):=by
 obtain ⟨X,_,e,hc⟩:=flow_last (Q:=fun _=>True) (fun _ _=>trivial) h trivial
 rw [e]
 intro i S hi hS
 simp only [if_pos hi,Option.map_eq_some_iff] at hS
 obtain ⟨T,hT,rfl⟩:=hS
 exact ⟨flowS_idem T,hc i T hi hT⟩
theorem Iv.st {M:Hm} (h:Iv 1000 M) (hs:St M) (a:Ac):St (doM M a).1:=by
 unfold doM
 split
 ·exact hs
 ·split
  ·rename_i hr
   exact st_flow ((h.forget (M.acts+1)).act (a:=a) hr)
  ·exact st_forget hs _
theorem run_st (l:List Ac):∀ {M:Hm},Iv 1000 M→St M→St (runM M l):=by
 induction l with
 | nil=>intro M _ h; exact h
 | cons a r ih=>intro M h1 h2; exact ih (h1.does a) (h1.st h2 a)
open Go.RowKit
def Qt (M:Hm) (b:Nat) (O:Od):Prop:=O.verb=20→∀ j S,j < 4→M.seat j=some S→S.being ≠ (b:Int)
structure Clq (Q:Hm→Prop):Prop where
 order:∀ (M:Hm) (b:Nat) (O:Od),goodL M.L=true→Nm M.L→b < 6→M.L.here b=true→OdT O→Qt M b O→Q M→Q (hapM M (actL M.L b O) (actE M.L b O))
 gone:∀ (M:Hm) (i:Nat) (S:Se),i < 4→M.seat i=some S→Q M→Q (M.put i none)
structure Clf (Q:Hm→Prop):Prop extends Clq Q where
 flow:∀ (M:Hm) (i:Nat) (S:Se),i < 4→M.seat i=some S→SeOk S→Q M→Q (M.put i (some (flowS S)))
structure Clo (Q:Hm→Prop):Prop extends Clq Q where
 round:∀ (M:Hm) (n:Nat),goodL M.L=true→Nm M.L→Q M→Q (hapM M (roundK M.L n 6).1 (roundK M.L n 6).2)
 own:∀ (M:Hm) (i:Nat) (S:Se) (s:ByteArray),i < 4→M.seat i=some S→s=whatT∨(plays S=false∧(s=noRoomT∨s=noNameT))→Q M→Q (M.put i (some (tellS S s)))
 pop:∀ (M:Hm) (i:Nat) (S:Se) (f:ByteArray) (r:List ByteArray),i < 4→M.seat i=some S→S.lin.q=f::r→Q M→Q (M.put i (some (popS S r)))
 enter:∀ (M:Hm) (i:Nat) (S:Se) (nm:ByteArray) (k:Nat),i < 4→M.seat i=some S→plays S=false→goodL M.L=true→Nm M.L→NameT nm→2≤k→k < 6→M.L.here k=false→Q M →
  Q (hapM (M.put i (some { S with being:=(k:Int) })) (entL M.L nm k) (beginE (entL M.L nm k) k))
section
variable {Q:Hm→Prop} {N:Nat} {M:Hm}
theorem Clq.leaves (c:Clq Q) (h:Iv N M) {i:Nat} (hi:i < 4) (hQ:Q M):Q (leaveM M i):=by
 unfold leaveM
 cases hS:M.seat i with
 | none=>exact hQ
 | some S =>
  simp only
  have h1:=c.gone M i S hi hS hQ
  split
  ·rename_i hp
   obtain ⟨b,hb,h2,h6,hh⟩:=h.play i S hi hS hp
   rw [hb,order_eq (M:=M.put i none) h.good h6 hh (by decide) (by decide)]
   refine c.order (M.put i none) b quitO h.good h.nm h6 hh odt_quit (fun _ j T hj hT e=>?_) h1
   simp only [Hm.put] at hT
   by_cases ej:j=i
   ·rw [if_pos ej] at hT; cases hT
   ·rw [if_neg ej] at hT
    exact ej (h.one i j S T hi hj hS hT hp (hb.trans e.symm)).symm
  ·exact h1
theorem Clo.enters (c:Clo Q) (h:Iv N M) {i:Nat} (hi:i < 4) {S:Se} (hS:M.seat i=some S) (hp:plays S=false) (nm:ByteArray) (hQ:Q M):Q (enterM M i S nm):=by
 unfold enterM
 by_cases hb0:bars M.L nm=0
 ·rw [if_pos hb0]
  obtain ⟨hg,hn,ht,k,hv,h2,h6,hh⟩:=bars_nil hb0
  rw [hv]
  simp only [Int.toNat_natCast]
  exact c.enter M i S nm k hi hS hp h.good h.nm (named_T hn) h2 h6 hh hQ
 ·rw [if_neg hb0]
  split
  ·exact c.own M i S _ hi hS (.inr ⟨hp,.inl rfl⟩) hQ
  ·exact c.own M i S _ hi hS (.inr ⟨hp,.inr rfl⟩) hQ
theorem Clo.obeys (c:Clo Q) (h:Iv N M) {i:Nat} (hi:i < 4) {S:Se} (hS:M.seat i=some S) (hp:plays S=true) {l:List UInt8} (hl:l.length≤60) (hv:∀ c ∈ l,Li.vis c=true) (hQ:Q M):Q (obeyM M i S l):=by
 unfold obeyM
 split
 ·exact c.own M i S _ hi hS (.inl rfl) hQ
 ·split
  ·exact c.toClq.leaves h hi hQ
  ·rename_i hq
   obtain ⟨b,hb,h2,h6,hh⟩:=h.play i S hi hS hp
   have hO:=parse_odt hl hv
   rw [hb,order_eq h.good h6 hh hO.v0 hO.v1]
   exact c.order M b _ h.good h.nm h6 hh hO (fun e=>absurd (show (parseL l).1.verb=20 by
    have e2:(((parseL l).1.verb:Nat):Int)=20:=e
    omega) hq) hQ
theorem Clo.turn (c:Clo Q) (h:Iv N M) {i:Nat} (hi:i < 4) (hQ:Q M):Q (turnM M i):=by
 unfold turnM
 split
 ·exact hQ
 ·rename_i S hS
  have hSo:=h.sv.seat i S hi hS
  split
  ·exact hQ
  ·rename_i f r hq
   have h1:Iv N (M.put i (some (popS S r))):=h.put (S':=popS S r) hi hS rfl (hSo.1.pop hq) (Nat.le_refl _) hSo.2
   have q1:=c.pop M i S f r hi hS hq hQ
   split
   ·exact q1
   ·split
    ·rename_i hp
     have hl:=line_ok hSo.1 hq
     exact c.obeys h1 hi (put_seat ..) hp hl.1 hl.2 q1
    ·rename_i hp
     exact c.enters h1 hi (put_seat ..) (by
      have:plays (popS S r)=plays S:=rfl
      rw [this]; simpa using hp) _ q1
theorem Clo.turns (c:Clo Q) (h:Iv N M) (hQ:Q M):∀ k,k≤4→Q (turnsM M k):=by
 intro k
 induction k with
 | zero=>intro _; exact hQ
 | succ k ih=>intro hk; exact c.turn (h.turns k (by omega)) (by omega) (ih (by omega))
theorem Clo.pulse (c:Clo Q) (h:Iv N M) (n:Int) (hQ:Q M):Q (pulseM M n):=by
 have h1:=h.turns 4 (Nat.le_refl _)
 exact c.round _ _ h1.good h1.nm (c.turns h hQ 4 (Nat.le_refl _))
theorem Clf.cuts (c:Clf Q) (h:Iv N M) {i:Nat} (hi:i < 4) (hQ:Q M):Q (cutsM M i).1:=by
 unfold cutsM
 split
 ·exact hQ
 ·rename_i S hS
  have hSo:=h.sv.seat i S hi hS
  have h1:Iv N (M.put i (some (flowS S))):=h.put (S':=flowS S) hi hS rfl hSo.1.flow (Nat.le_refl _) hSo.2
  have q1:=c.flow M i S hi hS hSo.1 hQ
  split
  ·exact c.toClq.leaves h1 hi q1
  ·exact q1
theorem Clf.cutK (c:Clf Q) (h:Iv N M) (hQ:Q M):∀ k,k≤4→Q (Ho.cutK M k).1:=by
 intro k
 induction k with
 | zero=>intro _; exact hQ
 | succ k ih =>
  intro hk
  obtain ⟨N1,h1,_⟩:=h.cutK k (by omega)
  exact c.cuts h1 (by omega) (ih (by omega))
theorem Clf.flows (c:Clf Q) (h:Iv N M) (hQ:Q M):Q (flowM M):=by
 have:∀ n {N:Nat} {M:Hm},Iv N M→Q M→Q (flowN n M):=by
  intro n
  induction n with
  | zero=>intro N M _ hQ; exact hQ
  | succ n ih =>
   intro N M h hQ
   obtain ⟨N1,h1,_⟩:=h.cutK 4 (Nat.le_refl _)
   unfold flowN
   split
   ·exact ih h1 (c.cutK h hQ 4 (Nat.le_refl _))
   ·exact c.cutK h hQ 4 (Nat.le_refl _)
 exact this 5 h hQ
end
def Ke (i:Nat) (P:List Ev→Se→Prop) (M:Hm):Prop:=∀ S,M.seat i=some S→P M.last S
structure Clh (P:List Ev→Se→Prop):Prop where
 hear:∀ l S E,Tx E→P l S→P (l++[E]) (heardS E S)
structure Clg (P:List Ev→Se→Prop):Prop extends Clh P where
 flow:∀ l S,SeOk S→P l S→P l (flowS S)
structure Cls (P:List Ev→Se→Prop):Prop extends Clh P where
 own:∀ l S s,s=whatT∨(plays S=false∧(s=noRoomT∨s=noNameT))→P l S→P l (tellS S s)
 pop:∀ l S f r,S.lin.q=f::r→P l S→P l (popS S r)
 enter:∀ l S (k:Nat),plays S=false→2≤k→P l S→P l { S with being:=(k:Int) }
theorem ke_hears {i:Nat} {P:List Ev→Se→Prop} (c:Clh P):∀ (Es:List Ev),All Es→∀ (M:Hm),Ke i P M→Ke i P (hearsM M Es):=by
 intro Es
 induction Es with
 | nil=>intro _ M h; exact h
 | cons E r ih =>
  intro hA M h
  refine ih (fun F hF=>hA F (List.mem_cons_of_mem _ hF)) (hearM E M) fun S hS=>?_
  simp only [hearM,Option.map_eq_some_iff] at hS
  obtain ⟨T,hT,rfl⟩:=hS
  exact c.hear _ _ _ (hA E (List.mem_cons_self ..)) (h T hT)
theorem ke_hap {i:Nat} {P:List Ev→Se→Prop} (c:Clh P) {M:Hm} (X:Ld) {Es:List Ev} (hA:All Es) (h:Ke i P M):Ke i P (hapM M X Es):=ke_hears c Es hA { M with L:=X } h
theorem ke_put {i j:Nat} {P:List Ev→Se→Prop} {M:Hm} {o:Option Se} (h:Ke i P M) (ho:i=j→∀ T,o=some T→P M.last T):Ke i P (M.put j o):=fun S hS=>by
 simp only [Hm.put] at hS
 by_cases e:i=j
 ·rw [if_pos e] at hS; exact ho e S hS
 ·rw [if_neg e] at hS; exact h S hS
theorem Clh.clq {P:List Ev→Se→Prop} (c:Clh P) (i:Nat):Clq (Ke i P) where
 order:=fun M b O hg hN hb hh hO _ h=>ke_hap c _ (act_tx hg hN hb hh O hO) h
 gone:=fun M j S hj hS h=>ke_put h fun e T hT=>by cases hT
theorem Clg.clf {P:List Ev→Se→Prop} (c:Clg P) (i:Nat):Clf (Ke i P) where
 toClq:=c.toClh.clq i
 flow:=fun M j S hj hS hk h=>ke_put h fun e T hT=>by injection hT with hT; subst hT; subst e; exact c.flow _ _ hk (h S hS)
theorem Cls.clo {P:List Ev→Se→Prop} (c:Cls P) (i:Nat):Clo (Ke i P) where
 toClq:=c.toClh.clq i
 round:=fun M n hg hN h=>ke_hap c.toClh _ (round_tx hN hg n 6 (Nat.le_refl _)) h
 own:=fun M j S s hj hS hs h=>ke_put h fun e T hT=>by injection hT with hT; subst hT; subst e; exact c.own _ _ _ hs (h S hS)
 pop:=fun M j S f r hj hS hq h=>ke_put h fun e T hT=>by injection hT with hT; subst hT; subst e; exact c.pop _ _ _ _ hq (h S hS)
 enter:=fun M j S nm k hj hS hp hg hN hn h2 h6 hh h=>ke_hap c.toClh _ (ent_tx hN hg hn h6 hh) (ke_put h fun e T hT=>by injection hT with hT; subst hT; subst e; exact c.enter _ _ _ hp h2 (h S hS))
open Go.RowKit
def atS (a:Ac) (i:Nat):Option Se→Option Se
 | none=>if a.kind=1∧a.seat=(i:Int) then some newS else none
 | some S=>if a.kind=2∧a.seat=(i:Int) then some (feedS S a.bytes.data.toList) else if a.kind=3∧a.seat=(i:Int) then some (Ho.takeS S a.num) else some S
theorem put_ne {M:Hm} {i j:Nat} {o:Option Se} (h:i ≠ j):(M.put j o).seat i=M.seat i:=by simp [Hm.put,h]
theorem at_else {a:Ac} {i:Nat} {o:Option Se} (h:a.seat ≠ (i:Int)):atS a i o=o:=by
 unfold atS
 cases o with
 | none=>simp only; rw [if_neg (fun e=>h e.2)]
 | some S=>simp only; rw [if_neg (fun e=>h e.2),if_neg (fun e=>h e.2)]
theorem do_ke {P P2:List Ev→Se→Prop} {a:Ac} (ch:Clh P) (c:a.kind=5→Cls P) (c2:Clg P2) (hPP:∀ l S,P l S→P2 l S) {M:Hm} (h:Iv 1000 M) (ha:M.acts < 400) {i:Nat} (hi:i < 4) (h0:∀ S,atS a i ((M.seat i).map untold)=some S→P [] S):Ke i P2 (doM M a).1:=by
 unfold doM
 rw [if_neg (by omega)]
 generalize hM1:({ forgetM M with acts:=M.acts+1 }:Hm)=M1
 have hI1:Iv 0 M1:=by rw [← hM1]; exact h.forget _
 have hs:M1.seat i=(M.seat i).map untold:=by rw [← hM1]; rfl
 have hl:M1.last=[]:=by rw [← hM1]; rfl
 have hr0:refusedM (forgetM M) a=refusedM M1 a:=by rw [← hM1]; rfl
 rw [hr0]
 rw [← hs] at h0
 have keep:(∀ S,M1.seat i=some S→¬ (a.kind=2∧a.seat=(i:Int))∧¬ (a.kind=3∧a.seat=(i:Int)))→Ke i P M1:=by
  intro hne S hS
  rw [hl]
  refine h0 S ?_
  obtain ⟨n1,n2⟩:=hne S hS
  rw [hS]
  unfold atS
  simp only
  rw [if_neg n1,if_neg n2]
 by_cases hr:refusedM M1 a=0
 ·rw [if_pos hr]
  have hact:=hI1.act hr
  refine (c2.clf i).flows hact ?_
  suffices hK:Ke i P (actM M1 a).1 from fun S hS=>hPP _ _ (hK S hS)
  have hr2:=hr
  unfold refusedM at hr2
  by_cases hk:a.kind < 1∨5 < a.kind
  ·rw [if_pos hk] at hr2; omega
  rw [if_neg hk] at hr2
  unfold actM
  by_cases h5:a.kind=5
  ·rw [if_pos h5]
   exact ((c h5).clo i).pulse hI1 _ (keep fun S hS=>⟨by omega,by omega⟩)
  rw [if_neg h5] at hr2 ⊢
  by_cases hq:a.seat < 0∨3 < a.seat
  ·rw [if_pos hq] at hr2; omega
  rw [if_neg hq] at hr2
  have hn:(M1.seat a.seat.toNat).isNone=decide (a.kind=1):=by
   by_cases e:(M1.seat a.seat.toNat).isNone=decide (a.kind=1)
   ·exact e
   ·rw [if_neg e] at hr2; omega
  have hput:∀ T,(a.seat=(i:Int)→atS a i (M1.seat i)=some T)→Ke i P (M1.put a.seat.toNat (some T)):=by
   intro T hT S hS
   by_cases e:a.seat=(i:Int)
   ·have e2:a.seat.toNat=i:=by omega
    rw [e2,put_seat] at hS
    injection hS with hS
    subst hS
    show P M1.last T
    rw [hl]; exact h0 _ (hT e)
   ·have e2:i ≠ a.seat.toNat:=by omega
    rw [put_ne e2] at hS
    show P M1.last S
    rw [hl]; exact h0 S (by rw [at_else e]; exact hS)
  by_cases h1:a.kind=1
  ·rw [if_pos h1]
   refine hput newS fun e=>?_
   have e2:a.seat.toNat=i:=by omega
   rw [h1,e2] at hn
   have hz:M1.seat i=none:=by simpa using hn
   rw [hz]
   unfold atS
   simp only
   rw [if_pos ⟨h1,e⟩]
  ·rw [if_neg h1]
   cases hS:M1.seat a.seat.toNat with
   | none =>
    have no:∀ T,M1.seat i=some T→a.seat ≠ (i:Int):=fun T hT e=>by
     have e2:a.seat.toNat=i:=by omega
     rw [e2,hT] at hS; cases hS
    exact keep fun S hS2=>⟨fun e=>no S hS2 e.2,fun e=>no S hS2 e.2⟩
   | some S =>
    simp only
    by_cases h2:a.kind=2
    ·rw [if_pos h2]
     refine hput _ fun e=>?_
     have e2:a.seat.toNat=i:=by omega
     rw [← e2,hS]
     unfold atS
     simp only
     rw [if_pos ⟨h2,by omega⟩]
    ·rw [if_neg h2]
     by_cases h3:a.kind=3
     ·rw [if_pos h3]
      refine hput _ fun e=>?_
      have e2:a.seat.toNat=i:=by omega
      rw [← e2,hS]
      unfold atS
      simp only
      rw [if_neg (fun x=>h2 x.1),if_pos ⟨h3,by omega⟩]
     ·rw [if_neg h3]
      exact (ch.clq i).leaves hI1 (by omega) (keep fun S hS=>⟨fun x=>h2 x.1,fun x=>h3 x.1⟩)
 ·rw [if_neg hr]
  have no:∀ S,M1.seat i=some S→∀ k:Int,(k=2∨k=3)→¬ (a.kind=k∧a.seat=(i:Int)):=by
   intro S hS k hk e
   refine hr ?_
   unfold refusedM
   have e2:a.seat.toNat=i:=by omega
   rw [if_neg (by omega),if_neg (by omega),if_neg (by omega),e2,hS,if_pos]
   simp; omega
  exact fun S hS=>hPP _ _ (keep (fun S hS=>⟨no S hS 2 (.inl rfl),no S hS 3 (.inr rfl)⟩) S hS)
theorem tell_cut {P:Pa.Pg} (h:P.cut=true) (s:ByteArray):(Pa.tellP P s).cut=true:=by
 unfold Pa.tellP
 split
 ·split
  ·rfl
  ·exact h
 ·exact h
open Go.RowKit
def addP (P:Pa.Pg) (T:List ByteArray):Pa.Pg:={ P with wait:=P.wait++T }
theorem flowR_ok {S:Se} (h:SeOk S):Pa.flowR S.pg S.tel.height=Pa.flowP S.tel.height S.pg:=by
 unfold Pa.flowR
 rw [if_pos]
 unfold Pa.flowG Pa.gheight
 rw [ok_good h.pg]
 simp only [Bool.true_and,Bool.and_eq_true,decide_eq_true_eq]
 exact ⟨h.tel.h0,h.tel.h200⟩
theorem tell_add {P:Pa.Pg} {s:ByteArray} (hP:Pa.Ok P) (hc:¬ (Pa.tellP P s).cut=true):P.cut=false∧Pa.tellP P s=addP P [s]:=by
 have h0:P.cut=false:=by
  cases e:P.cut with
  | false=>rfl
  | true=>exact absurd (tell_cut e s) hc
 refine ⟨h0,?_⟩
 unfold Pa.tellP at hc ⊢
 rw [if_pos (Pa.refusal_ok (ok_good hP) h0)] at hc ⊢
 by_cases e:P.wait.length=60
 ·rw [if_pos e] at hc; exact absurd rfl hc
 ·rw [if_neg e]; rfl
theorem heard_cases {P:Se→Prop} {E:Ev} {S:Se} (hE:Tx E) (h0:P S) (h1:∀ s,s.size≤1048576→Ln s→P (tellS S s)):P (heardS E S):=by
 unfold heardS
 split
 ·unfold hearS
  split
  ·rename_i t ht
   have hl:=hE.line ht
   exact h1 _ (by have:=hl.vz.1; omega) hl
  ·exact h0
 ·exact h0
theorem own_small {S:Se} {s:ByteArray} (h:s=whatT∨(plays S=false∧(s=noRoomT∨s=noNameT))):s.size≤1048576:=by
 rcases h with rfl | ⟨_,rfl | rfl⟩ <;> decide
theorem at_ok {M:Hm} (h:Iv 1000 M) {i:Nat} (hi:i < 4) (a:Ac) {B:Se} (hB:atS a i ((M.seat i).map untold)=some B):SeOk B:=by
 cases hS:M.seat i with
 | none =>
  rw [hS] at hB
  simp only [Option.map_none,atS] at hB
  split at hB
  ·injection hB with hB; subst hB; exact ok_new
  ·cases hB
 | some S =>
  have hk:=(h.sv.seat i S hi hS).1.untold
  rw [hS] at hB
  simp only [Option.map_some,atS] at hB
  split at hB
  ·injection hB with hB; subst hB; exact hk.feed _
  ·split at hB
   ·injection hB with hB; subst hB; exact hk.take _
   ·injection hB with hB; subst hB; exact hk
open Go.RowKit
def moreT:ByteArray:=⟨#[45,45,32,109,111,114,101,32,45,45]⟩
structure Fl (s:ByteArray):Prop where
 vis:∀ c ∈ s.data.toList,Li.vis c=true
 more:s ≠ moreT
theorem Ln.fl {s:ByteArray} (h:Ln s):Fl s:=⟨h.vz.2,fun e=>by
 have:=h.ok
 rw [e] at this
 have e2:okP moreT.data.toList=false:=by kernel_rfl
 rw [e2] at this; cases this⟩
theorem fl_who:Fl whoT:=⟨List.all_eq_true.1 (by kernel_rfl),of_decide_eq_true (by kernel_rfl)⟩
theorem fl_fast:Fl fastT:=⟨List.all_eq_true.1 (by kernel_rfl),of_decide_eq_true (by kernel_rfl)⟩
theorem fl_what:Fl whatT:=⟨List.all_eq_true.1 (by kernel_rfl),of_decide_eq_true (by kernel_rfl)⟩
theorem fl_noRoom:Fl noRoomT:=⟨List.all_eq_true.1 (by kernel_rfl),of_decide_eq_true (by kernel_rfl)⟩
theorem fl_noName:Fl noNameT:=⟨List.all_eq_true.1 (by kernel_rfl),of_decide_eq_true (by kernel_rfl)⟩
theorem fl_own {S:Se} {s:ByteArray} (h:s=whatT∨(plays S=false∧(s=noRoomT∨s=noNameT))):Fl s:=by
 rcases h with rfl | ⟨_,rfl | rfl⟩
 ·exact fl_what
 ·exact fl_noRoom
 ·exact fl_noName
structure Pc where
 k:Nat
 f:ByteArray
 v:UInt8
 o:UInt8
def Pc.raw (p:Pc):List UInt8:=if p.k=0 then p.f.data.toList++[13,10] else if p.k=1 then moreT.data.toList++[13,10] else [255,p.v,p.o]
def Pc.tx (p:Pc):List ByteArray:=if p.k=0 then [p.f] else if p.k=1 then [moreT] else []
def Pc.ln (p:Pc):List ByteArray:=if p.k=0 then [p.f] else []
def Pc.ok (p:Pc):Prop:=(p.k=0→Fl p.f)∧251≤p.v.toNat∧p.v.toNat≤254
def Goes (ls:List ByteArray) (b:List UInt8):Prop:=∃ ps:List Pc,(∀ p ∈ ps,p.ok)∧ps.flatMap Pc.raw=b∧ps.flatMap Pc.ln=ls
theorem Goes.nil:Goes [] []:=⟨[],fun p hp=>(by cases hp),rfl,rfl⟩
theorem Goes.app {ls ms:List ByteArray} {b c:List UInt8} (h:Goes ls b) (g:Goes ms c):Goes (ls++ms) (b++c):=by
 obtain ⟨ps,h1,h2,h3⟩:=h
 obtain ⟨qs,g1,g2,g3⟩:=g
 refine ⟨ps++qs,fun p hp=>?_,by rw [List.flatMap_append,h2,g2],by rw [List.flatMap_append,h3,g3]⟩
 rcases List.mem_append.1 hp with hp | hp
 ·exact h1 p hp
 ·exact g1 p hp
theorem Goes.line {f:ByteArray} (h:Fl f):Goes [f] (f.data.toList++[13,10]) :=
 ⟨[⟨0,f,251,0⟩],fun p hp=>by
   simp only [List.mem_cons,List.not_mem_nil,or_false] at hp
   subst hp
   exact ⟨fun _=>h,(by decide:251≤(251:UInt8).toNat),(by decide:(251:UInt8).toNat≤254)⟩,by simp [Pc.raw],by simp [Pc.ln]⟩
theorem Goes.more:Goes [] (moreT.data.toList++[13,10]) :=
 ⟨[⟨1,⟨#[]⟩,251,0⟩],fun p hp=>by
   simp only [List.mem_cons,List.not_mem_nil,or_false] at hp
   subst hp
   exact ⟨fun e=>(by cases e),(by decide:251≤(251:UInt8).toNat),(by decide:(251:UInt8).toNat≤254)⟩,by simp [Pc.raw],by simp [Pc.ln]⟩
theorem Goes.cmd {v:UInt8} (o:UInt8) (h1:251≤v.toNat) (h2:v.toNat≤254):Goes [] [255,v,o] :=
 ⟨[⟨2,⟨#[]⟩,v,o⟩],fun p hp=>by
   simp only [List.mem_cons,List.not_mem_nil,or_false] at hp
   subst hp
   exact ⟨fun e=>(by cases e),h1,h2⟩,by simp [Pc.raw],by simp [Pc.ln]⟩
theorem setl_goes (t:Te.Tel) (o:Int):Goes [] (Te.setl t o).2:=by
 unfold Te.setl
 repeat' split
 all_goals first | exact Goes.nil | exact Goes.cmd _ (by decide) (by decide)
theorem step_goes (t:Te.Tel) (c:UInt8):Goes [] (Te.step t c).2.2:=by
 unfold Te.step
 repeat' split
 all_goals first | exact Goes.nil | exact setl_goes _ _
theorem feed_goes (l:List UInt8):∀ t:Te.Tel,Goes [] (Te.feedL t l).2.2:=by
 induction l with
 | nil=>intro t; exact Goes.nil
 | cons c l ih=>intro t; exact (step_goes t c).app (ih _)
theorem vis_ne {c:UInt8} (h:Li.vis c=true):c ≠ 255∧c ≠ 13:=by
 unfold Li.vis at h
 simp only [Bool.and_eq_true,decide_eq_true_eq] at h
 constructor
 ·rintro rfl; exact absurd h.2 (by decide)
 ·rintro rfl; exact absurd h.1 (by decide)
theorem feed_plain {t:Te.Tel} (hp:t.pos=0):∀ l:List UInt8,(∀ c ∈ l,c ≠ 255)→Te.feedL t l=(t,l,[]):=by
 intro l
 induction l with
 | nil=>intro _; rfl
 | cons c l ih =>
  intro h
  have e:Te.step t c=(t,[c],[]):=by
   unfold Te.step
   rw [if_pos hp,if_neg (h c (List.mem_cons_self ..))]
  simp only [Te.feedL,e,ih fun d hd=>h d (List.mem_cons_of_mem _ hd)]
  rfl
theorem setl_pos (t:Te.Tel) (o:Int):(Te.setl t o).1.pos=0:=by
 unfold Te.setl
 repeat' split
 all_goals rfl
theorem feed_cmd {t:Te.Tel} (hp:t.pos=0) {v:UInt8} (o:UInt8) (h1:251≤v.toNat) (h2:v.toNat≤254):(Te.feedL t [255,v,o]).1.pos=0∧(Te.feedL t [255,v,o]).2.1=[]:=by
 have hv:v ≠ 255:=by rintro rfl; exact absurd h2 (by decide)
 have e1:Te.step t 255=({ t with pos:=1 },[],[]):=by
  unfold Te.step
  rw [if_pos hp,if_pos rfl]
 have e2:Te.step { t with pos:=1 } v=({ t with pos:=2,verb:=(v.toNat:Int) },[],[]):=by
  unfold Te.step
  rw [if_neg (show ¬ (1:Int)=0 by decide),if_pos rfl,if_neg hv]
  unfold Te.cmd
  rw [if_neg (by omega),if_pos (by omega)]
 have e3:Te.step { t with pos:=2,verb:=(v.toNat:Int) } o=((Te.setl { t with pos:=2,verb:=(v.toNat:Int) } o.toNat).1,[],(Te.setl { t with pos:=2,verb:=(v.toNat:Int) } o.toNat).2):=by
  unfold Te.step
  rw [if_neg (show ¬ (2:Int)=0 by decide),if_neg (show ¬ (2:Int)=1 by decide),if_pos rfl]
 simp only [Te.feedL,e1,e2,e3]
 exact ⟨setl_pos _ _,rfl⟩
def endL (ts:List ByteArray):List UInt8:=ts.flatMap fun s=>s.data.toList++[13,10]
theorem vis_more:∀ c ∈ moreT.data.toList,Li.vis c=true:=List.all_eq_true.1 (by kernel_rfl)
theorem end_ne {s:ByteArray} (h:∀ c ∈ s.data.toList,Li.vis c=true):∀ c ∈ s.data.toList++[13,10],c ≠ 255:=by
 intro c hc
 rcases List.mem_append.1 hc with hc | hc
 ·exact (vis_ne (h c hc)).1
 ·simp only [List.mem_cons,List.not_mem_nil,or_false] at hc
  rcases hc with rfl | rfl <;> decide
theorem pc_feed {p:Pc} (h:p.ok) {t:Te.Tel} (hp:t.pos=0):(Te.feedL t p.raw).1.pos=0∧(Te.feedL t p.raw).2.1=endL p.tx:=by
 unfold Pc.raw Pc.tx
 by_cases h0:p.k=0
 ·rw [if_pos h0,if_pos h0,feed_plain hp _ (end_ne (h.1 h0).vis)]
  exact ⟨hp,by simp [endL]⟩
 ·rw [if_neg h0,if_neg h0]
  by_cases h1:p.k=1
  ·rw [if_pos h1,if_pos h1,feed_plain hp _ (end_ne vis_more)]
   exact ⟨hp,by simp [endL]⟩
  ·rw [if_neg h1,if_neg h1]
   exact feed_cmd hp _ h.2.1 h.2.2
theorem pcs_feed (ps:List Pc):∀ {t:Te.Tel},(∀ p ∈ ps,p.ok)→t.pos=0→(Te.feedL t (ps.flatMap Pc.raw)).2.1=endL (ps.flatMap Pc.tx):=by
 induction ps with
 | nil=>intro t _ _; rfl
 | cons p ps ih =>
  intro t h hp
  obtain ⟨e1,e2⟩:=pc_feed (h p (List.mem_cons_self ..)) hp
  rw [List.flatMap_cons,List.flatMap_cons,Te.feedL_append]
  simp only
  rw [e2,ih (fun q hq=>h q (List.mem_cons_of_mem _ hq)) e1]
  unfold endL
  rw [List.flatMap_append]
def noMore (ts:List ByteArray):List ByteArray:=ts.filter fun s=>!decide (s=moreT)
theorem pcs_ln (ps:List Pc) (h:∀ p ∈ ps,p.ok):noMore (ps.flatMap Pc.tx)=ps.flatMap Pc.ln∧∀ s ∈ ps.flatMap Pc.tx,∀ c ∈ s.data.toList,Li.vis c=true:=by
 induction ps with
 | nil=>exact ⟨rfl,fun s hs=>(by cases hs)⟩
 | cons p ps ih =>
  obtain ⟨e1,e2⟩:=ih fun q hq=>h q (List.mem_cons_of_mem _ hq)
  have hp:=h p (List.mem_cons_self ..)
  have key:noMore p.tx=p.ln∧∀ s ∈ p.tx,∀ c ∈ s.data.toList,Li.vis c=true:=by
   unfold Pc.tx Pc.ln
   by_cases h0:p.k=0
   ·rw [if_pos h0,if_pos h0]
    refine ⟨by simp [noMore,(hp.1 h0).more],fun s hs=>?_⟩
    simp only [List.mem_cons,List.not_mem_nil,or_false] at hs
    subst hs; exact (hp.1 h0).vis
   ·rw [if_neg h0,if_neg h0]
    by_cases h1:p.k=1
    ·rw [if_pos h1]
     refine ⟨by simp [noMore],fun s hs=>?_⟩
     simp only [List.mem_cons,List.not_mem_nil,or_false] at hs
     subst hs; exact vis_more
    ·rw [if_neg h1]
     exact ⟨rfl,fun s hs=>(by cases hs)⟩
  constructor
  ·rw [List.flatMap_cons,List.flatMap_cons]
   unfold noMore at e1 key ⊢
   rw [List.filter_append,key.1,e1]
  ·intro s hs
   rw [List.flatMap_cons] at hs
   rcases List.mem_append.1 hs with hs | hs
   ·exact key.2 s hs
   ·exact e2 s hs
theorem Goes.text {ls:List ByteArray} {b:List UInt8} (h:Goes ls b):∃ ts,(Te.feedL Te.zt b).2.1=endL ts∧noMore ts=ls∧∀ s ∈ ts,∀ c ∈ s.data.toList,Li.vis c=true:=by
 obtain ⟨ps,h1,rfl,rfl⟩:=h
 exact ⟨ps.flatMap Pc.tx,pcs_feed ps h1 rfl,pcs_ln ps h1⟩
theorem esc_fl {f:ByteArray} (h:Fl f):Pa.esc f=f:=by
 have e:Pa.escL f.data.toList=f.data.toList:=by
  unfold Pa.escL
  have:∀ l:List UInt8,(∀ c ∈ l,Li.vis c=true)→(l.flatMap fun c=>if c=255 then [255,c] else [c])=l:=by
   intro l
   induction l with
   | nil=>intro _; rfl
   | cons c l ih =>
    intro hl
    rw [List.flatMap_cons,ih fun d hd=>hl d (List.mem_cons_of_mem _ hd),if_neg (vis_ne (hl c (List.mem_cons_self ..))).1]
    rfl
  exact this _ h.vis
 unfold Pa.esc
 rw [e]
theorem data_app (a b:ByteArray):(a++b).data.toList=a.data.toList++b.data.toList:=by simp
def Pt (T:List ByteArray) (O:ByteArray) (P:Pa.Pg):Prop:=∃ ls,T=ls++P.wait∧Goes ls (O.data.toList++P.ring.data.toList)∧∀ s ∈ T,Fl s
def Pgi (T:List ByteArray) (O:ByteArray) (P:Pa.Pg):Prop:=P.cut=true∨Pt T O P
section
variable {T:List ByteArray} {O:ByteArray} {P:Pa.Pg}
theorem Pt.sent {ms:List ByteArray} {w:List ByteArray} (h:Pt T O P) (hw:P.wait=ms++w) {s:ByteArray} (hs:Goes ms s.data.toList) {Q:Pa.Pg} (h1:Q.wait=w) (h2:Q.ring=P.ring):Pgi T O (Pa.sentP Q s):=by
 unfold Pa.sentP
 by_cases hz:700 < Q.ring.size+s.size
 ·rw [if_pos hz]; exact .inl rfl
 ·rw [if_neg hz]
  obtain ⟨ls,e,hg,hf⟩:=h
  refine .inr ⟨ls++ms,?_,?_,hf⟩
  ·show T=ls++ms++Q.wait
   rw [h1,e,hw,List.append_assoc]
  ·show Goes _ (O.data.toList++(Q.ring++s).data.toList)
   rw [data_app,h2,← List.append_assoc]
   exact hg.app hs
theorem flow_pgi (k:Int):∀ (q:List ByteArray) (P:Pa.Pg),P.wait=q→Pgi T O P→Pgi T O (Pa.flowL k q P):=by
 intro q
 induction q with
 | nil=>intro P _ h; exact h
 | cons f r ih =>
  intro P hw h
  unfold Pa.flowL
  by_cases h1:P.asking=true∨P.cut=true
  ·rw [if_pos h1]; exact h
  ·rw [if_neg h1]
   rcases h with h | h
   ·exact absurd (.inr h) h1
   by_cases h2:k ≠ 0∧k≤P.shown
   ·rw [if_pos h2]
    exact h.sent (ms:=[]) (w:=P.wait) rfl (s:=Pa.moreB) Goes.more (Q:={ P with asking:=true }) rfl rfl
   ·rw [if_neg h2]
    refine ih _ (by unfold Pa.shownP; rw [Pa.sent_wait]) ?_
    obtain ⟨ls,e,hg,hf⟩:=h
    have hff:Fl f:=hf f (by rw [e,hw]; simp)
    refine Pt.sent (P:=P) ⟨ls,e,hg,hf⟩ (ms:=[f]) (w:=r) hw (s:=Pa.lineB f) ?_ (Q:={ P with wait:=r,shown:=min (P.shown+1) 200 }) rfl rfl
    unfold Pa.lineB
    rw [esc_fl hff,data_app]
    exact Goes.line hff
theorem Pgi.flow {S:Se} (hS:SeOk S) (h:Pgi T O S.pg):Pgi T O (flowS S).pg:=by
 show Pgi T O (Pa.flowR S.pg S.tel.height)
 rw [flowR_ok hS]
 exact flow_pgi _ _ _ rfl h
theorem Pgi.send {s:ByteArray} (hP:Pa.Ok P) (hs:Goes [] s.data.toList) (h:Pgi T O P):Pgi T O (Pa.sendR P s):=by
 unfold Pa.sendR
 rcases h with h | h
 ·rw [if_neg (by rw [Pa.refusal_cut (ok_good hP) h]; decide)]; exact .inl h
 ·split
  ·exact h.sent (ms:=[]) (w:=P.wait) rfl hs rfl rfl
  ·exact .inr h
end
def Tr (T:List ByteArray) (O:ByteArray) (l:List Ev) (S:Se):Prop:=SeOk S∧Pgi (T++S.told) O S.pg
section
variable {T:List ByteArray} {O:ByteArray} {l l':List Ev} {S:Se}
theorem Tr.tell {s:ByteArray} (hs:s.size≤1048576) (hf:Fl s) (h:Tr T O l S):Tr T O l' (tellS S s):=by
 refine ⟨h.1.tell hs,?_⟩
 unfold tellS
 simp only
 by_cases hc:(Pa.tellP S.pg s).cut=true
 ·exact .inl hc
 ·rw [if_neg hc]
  obtain ⟨h0,e⟩:=tell_add h.1.pg hc
  rw [e]
  rcases h.2 with h2 | ⟨ls,e1,e2,e3⟩
  ·rw [h0] at h2; cases h2
  ·refine .inr ⟨ls,?_,e2,fun x hx=>?_⟩
   ·show T++(S.told++[s])=ls++(S.pg.wait++[s])
    rw [← List.append_assoc,e1,List.append_assoc]
   ·rw [← List.append_assoc] at hx
    rcases List.mem_append.1 hx with hx | hx
    ·exact e3 x hx
    ·simp only [List.mem_cons,List.not_mem_nil,or_false] at hx
     subst hx; exact hf
theorem tr_clh:Clh (Tr T O) where
 hear:=fun l S E hE h=>heard_cases (P:=Tr T O (l++[E])) hE h fun s hs hl=>h.tell hs hl.fl
theorem tr_cls:Cls (Tr T O) where
 toClh:=tr_clh
 own:=fun l S s hs h=>h.tell (own_small hs) (fl_own hs)
 pop:=fun l S f r hq h=>⟨h.1.pop hq,h.2⟩
 enter:=fun l S k hp h2 h=>⟨h.1.is _,h.2⟩
theorem tr_clg:Clg (Tr T O) where
 toClh:=tr_clh
 flow:=fun l S hk h=>⟨hk.flow,h.2.flow hk⟩
end
theorem do_out {M:Hm} (ha:M.acts < 400) {a:Ac} {i:Nat} (hi:i < 4) {S:Se} (hS:M.seat i=some S) (h3:a.kind=3) (hs:a.seat=(i:Int)):(doM M a).2.2=outS S a.num:=by
 have hsi:a.seat.toNat=i:=by omega
 have hS1:(forgetM M).seat i=some (untold S):=by simp only [forgetM,hS]; rfl
 have hr:refusedM (forgetM M) a=0:=by
  unfold refusedM
  rw [if_neg (by omega),if_neg (by omega),if_neg (by omega),hsi,hS1,if_pos]
  simp [h3]
 unfold doM
 rw [if_neg (by omega),if_pos hr]
 simp only
 unfold actM
 rw [if_neg (by omega),if_neg (by omega),hsi]
 rw [show ({ forgetM M with acts:=M.acts+1 }:Hm).seat i=some (untold S) from hS1]
 simp only
 rw [if_neg (by omega),if_pos h3]
 rfl
def outAt (a:Ac) (s:ByteArray) (i:Nat):ByteArray:=if a.kind=3∧a.seat=(i:Int) then s else nilB
def Tri (o:Option Se) (T:List ByteArray) (O:ByteArray):Prop:=match o with
 | none=>T=[]∧O=nilB
 | some S=>Pt T O S.pg
theorem nil_data:nilB.data.toList=[]:=rfl
theorem take_parts (r:ByteArray) {k:Nat} (hk:k≤r.size):(r.extract 0 k).data.toList++(r.extract k r.size).data.toList=r.data.toList:=by
 rw [← data_app]
 congr 2
 rw [ByteArray.extract_append_extract]
 simp only [Nat.zero_le,Nat.min_eq_left,Nat.max_eq_right hk]
 exact ByteArray.extract_zero_size
theorem kof_le (P:Pa.Pg) (n:Int):Pa.kOf P n≤P.ring.size:=by unfold Pa.kOf; omega
theorem do_tr {M:Hm} (h:Iv 1000 M) (hs:St M) (ha:M.acts < 400) (a:Ac) {i:Nat} (hi:i < 4) {T:List ByteArray} {O:ByteArray} (h0:Tri (M.seat i) T O) {S:Se} (hS:(doM M a).1.seat i=some S):Pt (T++S.told) (O++outAt a (doM M a).2.2 i) S.pg:=by
 have hnc:=(h.st hs a i S hi hS).2
 have key:Tr T (O++outAt a (doM M a).2.2 i) (doM M a).1.last S:=by
  refine do_ke tr_clh (fun _=>tr_cls) tr_clg (fun _ _ h=>h) h ha hi (fun B hB=>?_) S hS
  refine ⟨at_ok h hi a hB,?_⟩
  cases hM:M.seat i with
  | none =>
   rw [hM] at hB h0
   obtain ⟨rfl,rfl⟩:=h0
   simp only [Option.map_none,atS] at hB
   split at hB
   ·rename_i hc
    injection hB with hB; subst hB
    unfold outAt
    rw [if_neg (fun e=>by omega)]
    refine .inr ⟨[],rfl,?_,fun s hs=>?_⟩
    ·exact (Goes.cmd (v:=251) 3 (by decide) (by decide)).app (Goes.cmd (v:=253) 31 (by decide) (by decide))
    ·have e:([]++newS.told:List ByteArray)=[whoT]:=rfl
     rw [e] at hs
     simp only [List.mem_cons,List.not_mem_nil,or_false] at hs
     subst hs; exact fl_who
   ·cases hB
  | some S0 =>
   have hk:=(h.sv.seat i S0 hi hM).1.untold
   rw [hM] at hB h0
   simp only [Option.map_some,atS] at hB
   have ht0:T++(untold S0).told=T:=List.append_nil T
   have base:Pgi T (O++nilB) (untold S0).pg:=.inr (by
    obtain ⟨ls,e1,e2,e3⟩:=h0
    exact ⟨ls,e1,by rw [data_app,nil_data,List.append_nil]; exact e2,e3⟩)
   split at hB
   ·rename_i hc
    injection hB with hB; subst hB
    unfold outAt
    rw [if_neg (fun e=>by omega)]
    have hgot:Tr T (O++nilB) [] (gotS (untold S0) a.bytes.data.toList):=by
     refine ⟨hk.got _,?_⟩
     show Pgi (T++(untold S0).told) _ (Pa.sendR S0.pg _)
     rw [ht0]
     refine Pgi.send hk.pg ?_ base
     have:=feed_goes a.bytes.data.toList (untold S0).tel
     simpa [bs] using this
    unfold feedS
    split
    ·exact (hgot.tell (l':=[]) (by decide) fl_fast).2
    ·exact hgot.2
   ·rename_i hc2
    split at hB
    ·rename_i hc
     injection hB with hB; subst hB
     unfold outAt
     rw [if_pos hc,do_out ha hi hM hc.1 hc.2]
     refine .inr ?_
     obtain ⟨ls,e1,e2,e3⟩:=h0
     have et:T++(Ho.takeS (untold S0) a.num).told=T:=List.append_nil T
     rw [et]
     refine ⟨ls,e1,?_,e3⟩
     show Goes ls ((O++S0.pg.ring.extract 0 (Pa.kOf S0.pg a.num)).data.toList++(S0.pg.ring.extract (Pa.kOf S0.pg a.num) S0.pg.ring.size).data.toList)
     rw [data_app,List.append_assoc,take_parts _ (kof_le _ _)]
     exact e2
    ·rename_i hc
     injection hB with hB; subst hB
     unfold outAt
     rw [if_neg hc,ht0]
     exact base
 rcases key.2 with e | e
 ·rw [hnc] at e; cases e
 ·exact e
structure Trm (n:Nat) (M:Hm) (T:Nat→List ByteArray) (O:Nat→ByteArray):Prop where
 tri:∀ i,i < 4→Tri (M.seat i) (T i) (O i)
 len:∀ i,i < 4→(T i).length≤1000*n
 size:∀ i,i < 4→(O i).size≤700*n
def nextT (M:Hm) (T:Nat→List ByteArray) (i:Nat):List ByteArray:=match M.seat i with
 | none=>[]
 | some S=>T i++S.told
def nextO (M:Hm) (a:Ac) (s:ByteArray) (O:Nat→ByteArray) (i:Nat):ByteArray:=match M.seat i with
 | none=>nilB
 | some S=>O i++outAt a s i
theorem trm_new:Trm 0 newM (fun _=>[]) (fun _=>nilB):=⟨fun i _=>⟨rfl,rfl⟩,fun i _=>Nat.le_refl _,fun i _=>Nat.le_refl _⟩
theorem do_outlen {M:Hm} (h:Iv 1000 M) (ha:M.acts < 400) (a:Ac) {i:Nat} (hi:i < 4) {S0:Se} (hM:M.seat i=some S0):(outAt a (doM M a).2.2 i).size≤700:=by
 unfold outAt
 split
 ·rename_i hc
  rw [do_out ha hi hM hc.1 hc.2]
  unfold outS
  rw [ByteArray.size_extract]
  have:=(h.sv.seat i S0 hi hM).1.pg.ring
  omega
 ·exact Nat.zero_le _
theorem do_outnil {M:Hm} (ha:M.acts < 400) (a:Ac) {i:Nat} (hi:i < 4) (hM:M.seat i=none):(outAt a (doM M a).2.2 i).size≤700:=by
 unfold outAt
 split
 ·rename_i hc
  have hsi:a.seat.toNat=i:=by omega
  have hS1:(forgetM M).seat i=none:=by simp only [forgetM,hM]; rfl
  have hr:refusedM (forgetM M) a=3:=by
   unfold refusedM
   rw [if_neg (by omega),if_neg (by omega),if_neg (by omega),hsi,hS1,if_neg]
   simp [hc.1]
  unfold doM
  rw [if_neg (by omega),if_neg (by rw [hr]; decide)]
  exact Nat.zero_le _
 ·exact Nat.zero_le _
theorem Trm.next {n:Nat} {M:Hm} {T:Nat→List ByteArray} {O:Nat→ByteArray} (h:Trm n M T O) (hI:Iv 1000 M) (hs:St M) (ha:M.acts < 400) (a:Ac):Trm (n+1) (doM M a).1 (nextT (doM M a).1 T) (nextO (doM M a).1 a (doM M a).2.2 O):=by
 refine ⟨fun i hi=>?_,fun i hi=>?_,fun i hi=>?_⟩
 ·unfold nextT nextO Tri
  cases hS:(doM M a).1.seat i with
  | none=>exact ⟨rfl,rfl⟩
  | some S=>exact do_tr hI hs ha a hi (h.tri i hi) hS
 ·unfold nextT
  cases hS:(doM M a).1.seat i with
  | none=>exact Nat.zero_le _
  | some S =>
   have h1:=((hI.does a).sv.seat i S hi hS).2
   have h2:=h.len i hi
   show (T i++S.told).length≤_
   rw [List.length_append]; omega
 ·unfold nextO
  cases hS:(doM M a).1.seat i with
  | none=>exact Nat.zero_le _
  | some S =>
   have h2:=h.size i hi
   have h1:(outAt a (doM M a).2.2 i).size≤700:=by
    cases hM:M.seat i with
    | none=>exact do_outnil ha a hi hM
    | some S0=>exact do_outlen hI ha a hi hM
   show (O i++outAt a (doM M a).2.2 i).size≤_
   rw [ByteArray.size_append]; omega
open Go.RowKit
def Tryz.lays145_ren:Go.Shelf.Ren:=⟨fun | 145=>40 | 220=>81 | 219=>99 | 217=>116 | 225=>117 | 224=>118 | 267=>119 | 266=>133 | 314=>134 | n=>n,fun | 9=>9 | 4=>4 | 59=>82 | 3=>3 | 5=>5 | 46=>139 | 146=>179 | 51=>178 | n=>n,fun | 1=>1 | n=>n⟩
theorem Tryz.lays145:Go.Proofs.LaysM.n145 Tryz.prog Tryz.lays145_ren:={
 mixed:=by kernel_rfl
 f145:=Tryz.func40.trans (congrArg some (by kernel_rfl))
 f217:=Tryz.func116.trans (congrArg some (by kernel_rfl))
 f219:=Tryz.func99.trans (congrArg some (by kernel_rfl))
 f220:=Tryz.func81.trans (congrArg some (by kernel_rfl))
 f224:=Tryz.func118.trans (congrArg some (by kernel_rfl))
 f225:=Tryz.func117.trans (congrArg some (by kernel_rfl))
 f266:=Tryz.func133.trans (congrArg some (by kernel_rfl))
 f267:=Tryz.func119.trans (congrArg some (by kernel_rfl))
 f314:=Tryz.func134.trans (congrArg some (by kernel_rfl))
 t3:=Tryz.underlying3
 a3:=Tryz.isAgg3
 z3:=Tryz.sizeOf3
 v3:=Tryz.zeroValue3
 t4:=Tryz.underlying4
 a4:=Tryz.isAgg4
 z4:=Tryz.sizeOf4
 v4:=Tryz.zeroValue4
 t5:=Tryz.underlying5
 a5:=Tryz.isAgg5
 z5:=Tryz.sizeOf5
 v5:=Tryz.zeroValue5
 t9:=Tryz.underlying9
 a9:=Tryz.isAgg9
 z9:=Tryz.sizeOf9
 v9:=Tryz.zeroValue9
 t46:=Tryz.underlying139
 a46:=Tryz.isAgg139
 z46:=Tryz.sizeOf139
 v46:=Tryz.zeroValue139
 t51:=Tryz.underlying178
 a51:=Tryz.isAgg178
 z51:=Tryz.sizeOf178
 v51:=Tryz.zeroValue178
 t59:=Tryz.underlying82
 a59:=Tryz.isAgg82
 z59:=Tryz.sizeOf82
 v59:=Tryz.zeroValue82
 t146:=Tryz.underlying179
 a146:=Tryz.isAgg179
 z146:=Tryz.sizeOf179
 v146:=Tryz.zeroValue179
 g1:=by kernel_rfl
 i3:=by kernel_rfl
 i4:=by kernel_rfl
 i5:=by kernel_rfl
 i9:=by kernel_rfl
 i46:=by kernel_rfl
 i51:=by kernel_rfl
 i59:=by kernel_rfl
 i146:=by kernel_rfl
 m1:=by kernel_rfl
 s1_3:=fun w h=>Go.Proofs.cell_of_shapedOpen_int (zero:=#[.int .i64 0]) (t:=3) h (of_decide_eq_true (by kernel_rfl)) (by kernel_rfl) rfl (by kernel_rfl) (by kernel_rfl) Tryz.underlying3 }
def Ct (W0:World):Prop:=∀ V,Below W0.heap.size W0 V→∀ s:ByteArray,s.size≤4000000000→Calls Tryz.prog 40 #[.string s,.string ⟨#[13,10]⟩] V fun e w'=>e=.returned (.tuple #[.string ⟨(Lib.cut s.data.toList [13,10]).1.toArray⟩,.string ⟨(Lib.cut s.data.toList [13,10]).2.1.toArray⟩,.bool (Lib.cut s.data.toList [13,10]).2.2])∧∃ n,w'=V.drewN n
theorem ct_of {W0:World} (h:W0.ShapedOpen Tryz.prog):Ct W0:=fun V hB s hs=>by
 obtain ⟨m,hm⟩:=Tryz.lays145.s1_3 W0 h
 have hm2:V.cell? ⟨Tryz.lays145_ren.g 1,0,none⟩=some (.int .i64 m):=by rw [hB.cell (cell_lt hm)]; exact hm
 have L:=Tryz.lays145
 exact Any.strings_Cut (P:=Tryz.prog) (ρ:=Tryz.lays145_ren) { L with } s ⟨#[13,10]⟩ m V (by omega) hm2
theorem index_end (r:List UInt8):∀ f:List UInt8,(∀ c ∈ f,c ≠ 13)→Lib.index (f++13::10::r) [13,10]=f.length:=by
 intro f
 induction f with
 | nil=>intro _; simp [Lib.index,List.isPrefixOf]
 | cons c f ih =>
  intro h
  have e:=ih fun d hd=>h d (List.mem_cons_of_mem _ hd)
  have hc:((13:UInt8)==c)=false:=by
   rw [beq_eq_false_iff_ne]
   exact fun e=>h c (List.mem_cons_self ..) e.symm
  show (if List.isPrefixOf [13,10] (c::(f++13::10::r))=true then (0:Int) else if (Lib.index (f++13::10::r) [13,10]==-1)=true then -1 else Lib.index (f++13::10::r) [13,10]+1)=_
  rw [e]
  have h1:List.isPrefixOf [13,10] (c::(f++13::10::r))=false:=by simp only [List.isPrefixOf,hc,Bool.false_and]
  have h2:((f.length:Int)==-1)=false:=by rw [beq_eq_false_iff_ne]; omega
  rw [h1,h2]
  simp
theorem cut_end {f:List UInt8} (r:List UInt8) (h:∀ c ∈ f,c ≠ 13):Lib.cut (f++13::10::r) [13,10]=(f,r,true):=by
 unfold Lib.cut
 rw [index_end r f h,if_pos (by omega)]
 simp
theorem end_cons (s:ByteArray) (ts:List ByteArray):endL (s::ts)=s.data.toList++13::10::endL ts:=by
 unfold endL
 rw [List.flatMap_cons,List.append_assoc]; rfl
theorem ct_line {W0 V:World} (h:Ct W0) (hB:Below W0.heap.size W0 V) {s:ByteArray} {ts:List ByteArray} (hv:∀ c ∈ s.data.toList,Li.vis c=true) (hs:(endL (s::ts)).length≤4000000000) :
 Calls Tryz.prog 40 #[.string (bs (endL (s::ts))),.string ⟨#[13,10]⟩] V fun e w'=>e=.returned (.tuple #[.string s,.string (bs (endL ts)),.bool true])∧∃ n,w'=V.drewN n:=by
 have e1:(bs (endL (s::ts))).data.toList=endL (s::ts):=by simp [bs]
 have:=h V hB (bs (endL (s::ts))) (by rw [← len_size,e1]; exact hs)
 rw [e1,end_cons,cut_end (endL ts) (fun c hc=>(vis_ne (hv c hc)).2)] at this
 rw [end_cons]
 exact this
end Go.Proofs.YtncgcejlkmoliaaGreatDoor.Ho
