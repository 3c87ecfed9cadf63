import Derived.Test.YtncgcejlkmoliaaGreatDoorMh00
import Derived.Test.YtncgcejlkmoliaaGreatDoorMh01
import Derived.Test.YtncgcejlkmoliaaGreatDoorMh02
import Derived.Test.YtncgcejlkmoliaaGreatDoorMh03
import Derived.Test.YtncgcejlkmoliaaGreatDoorMh04
import Derived.Test.YtncgcejlkmoliaaGreatDoorMh05
import Derived.Test.YtncgcejlkmoliaaGreatDoorMh06
import Derived.Test.YtncgcejlkmoliaaGreatDoorMh07
import Derived.Test.YtncgcejlkmoliaaGreatDoorMh08
import Derived.Test.YtncgcejlkmoliaaGreatDoorMh09
import Derived.Test.YtncgcejlkmoliaaGreatDoorMh10
import Derived.Test.YtncgcejlkmoliaaGreatDoorMh11
import Derived.Test.YtncgcejlkmoliaaGreatDoorMh12
import Derived.Test.YtncgcejlkmoliaaGreatDoorMh13
import Derived.Test.YtncgcejlkmoliaaGreatDoorMh14
import Derived.Test.YtncgcejlkmoliaaGreatDoorMh15
import Derived.Test.YtncgcejlkmoliaaGreatDoorMh16
import Derived.Test.YtncgcejlkmoliaaGreatDoorMh17
import Derived.Test.YtncgcejlkmoliaaGreatDoorMh18
import Derived.Test.YtncgcejlkmoliaaGreatDoorMh19
import Derived.Test.YtncgcejlkmoliaaGreatDoorMh20
import Derived.Test.YtncgcejlkmoliaaGreatDoorMh21
import Derived.Test.YtncgcejlkmoliaaGreatDoorMh22
import Derived.Test.YtncgcejlkmoliaaGreatDoorMh46
import Derived.Test.YtncgcejlkmoliaaGreatDoorMh23
import Derived.Test.YtncgcejlkmoliaaGreatDoorMk24
import Derived.Test.YtncgcejlkmoliaaGreatDoorMk25
import Derived.Test.YtncgcejlkmoliaaGreatDoorMh26
import Derived.Test.YtncgcejlkmoliaaGreatDoorMk27
import Derived.Test.YtncgcejlkmoliaaGreatDoorMh28
import Derived.Test.YtncgcejlkmoliaaGreatDoorMk29
import Derived.Test.YtncgcejlkmoliaaGreatDoorMk30
import Derived.Test.YtncgcejlkmoliaaGreatDoorMk31
import Derived.Test.YtncgcejlkmoliaaGreatDoorMk32
import Derived.Test.YtncgcejlkmoliaaGreatDoorMk33
import Derived.Test.YtncgcejlkmoliaaGreatDoorMk34
import Derived.Test.YtncgcejlkmoliaaGreatDoorMk35
import Derived.Test.YtncgcejlkmoliaaGreatDoorMh45
import Derived.Test.YtncgcejlkmoliaaGreatDoorMh36
import Derived.Test.YtncgcejlkmoliaaGreatDoorMh37
import Derived.Test.YtncgcejlkmoliaaGreatDoorMh38
import Derived.Test.YtncgcejlkmoliaaGreatDoorMk39
import Derived.Test.YtncgcejlkmoliaaGreatDoorMk40
import Derived.Test.YtncgcejlkmoliaaGreatDoorMk41
import Derived.Test.YtncgcejlkmoliaaGreatDoorMk42
import Derived.Test.YtncgcejlkmoliaaGreatDoorMk43
import Derived.Test.YtncgcejlkmoliaaGreatDoorMk44
import Derived.Test.YtncgcejlkmoliaaGreatDoorRows
import Derived.Test.YtncgcejlkmoliaaGreatDoorMk47
set_option linter.unusedVariables false
set_option maxRecDepth 100000
set_option maxHeartbeats 16000000
namespace Go.Proofs.YtncgcejlkmoliaaGreatDoor.Ho
open Go.RowKit
theorem flowL_idem (h:Int):∀ (q:List ByteArray) (P:Pa.Pg),P.wait=q→Pa.flowP h (Pa.flowL h q P)=Pa.flowL h q P:=by
 intro q
 induction q with
 | nil=>intro P hw; exact Pa.flow_nil hw
 | cons f r ih =>
  intro P hw
  unfold Pa.flowL
  by_cases h1:P.asking=true∨P.cut=true
  ·rw [if_pos h1]; exact Pa.flow_stop h1
  ·rw [if_neg h1]
   by_cases h2:h ≠ 0∧h≤P.shown
   ·rw [if_pos h2]; exact Pa.flow_stop (.inl (by unfold Pa.askedP; rw [Pa.sent_asking]))
   ·rw [if_neg h2]; exact ih _ (by unfold Pa.shownP; rw [Pa.sent_wait])
theorem flowR_idem (P:Pa.Pg) (h:Int):Pa.flowR (Pa.flowR P h) h=Pa.flowR P h:=by
 unfold Pa.flowR
 by_cases h1:Pa.flowG P h=true
 ·simp only [if_pos h1]
  have e:Pa.flowP h (Pa.flowP h P)=Pa.flowP h P:=flowL_idem h P.wait P rfl
  rw [e]
  split <;> rfl
 ·simp only [if_neg h1]
theorem flowS_idem (S:Se):flowS (flowS S)=flowS S:=by
 unfold flowS
 simp only [flowR_idem]
theorem cutK_still (M:Hm):∀ k,(cutK M k).2=false→(cutK M k).1={ M with seat:=fun j=>if j < k then (M.seat j).map flowS else M.seat j }∧∀ j S,j < k→M.seat j=some S→(flowS S).pg.cut=false:=by
 intro k
 induction k with
 | zero =>
  intro _
  refine ⟨?_,fun j S hj=>by omega⟩
  have e:(fun j=>if j < 0 then (M.seat j).map flowS else M.seat j)=M.seat:=by funext j; rw [if_neg (by omega)]
  rw [e]; rfl
 | succ k ih =>
  intro h
  simp only [cutK,Bool.or_eq_false_iff] at h
  obtain ⟨h1,h2⟩:=h
  obtain ⟨e1,e2⟩:=ih h1
  simp only [cutK]
  rw [e1] at h2 ⊢
  unfold cutsM at h2 ⊢
  simp only [Nat.lt_irrefl,if_false] at h2 ⊢
  cases hS:M.seat k with
  | none =>
   refine ⟨?_,fun j S hj hj2=>?_⟩
   ·simp only
    congr 1
    funext j
    by_cases hj:j=k
    ·subst hj; rw [if_neg (by omega),if_pos (by omega),hS]; rfl
    ·by_cases hl:j < k
     ·rw [if_pos hl,if_pos (by omega)]
     ·rw [if_neg hl,if_neg (by omega)]
   ·by_cases e:j=k
    ·subst e; rw [hS] at hj2; cases hj2
    ·exact e2 j S (by omega) hj2
  | some S =>
   simp only [hS] at h2 ⊢
   by_cases hc:(flowS S).pg.cut=true
   ·rw [if_pos hc] at h2; cases h2
   ·rw [if_neg hc]
    refine ⟨?_,fun j T hj hj2=>?_⟩
    ·simp only [Hm.put]
     congr 1
     funext j
     by_cases hj:j=k
     ·subst hj; rw [if_pos rfl,if_pos (by omega),hS]; rfl
     ·rw [if_neg hj]
      by_cases hl:j < k
      ·rw [if_pos hl,if_pos (by omega)]
      ·rw [if_neg hl,if_neg (by omega)]
    ·by_cases e:j=k
     ·subst e; rw [hS] at hj2; injection hj2 with hj2; subst hj2; simpa using hc
     ·exact e2 j T (by omega) hj2
theorem flow_fin {Q:Hm→Prop} (hQ:∀ X,Q X→Q (cutM X).1):∀ (n:Nat) {N:Nat} {M:Hm},Iv N M→cnt M < n→Q M→∃ X,Q X∧flowN n M=(cutM X).1∧(cutM X).2=false:=by
 intro n
 induction n with
 | zero=>intro N M h hc; omega
 | succ n ih =>
  intro N M h hc hM
  obtain ⟨N1,h1,h2,h3,h4⟩:=h.cutK 4 (Nat.le_refl _)
  unfold flowN
  by_cases e:(cutM M).2=true
  ·rw [if_pos e]
   have hlt:=h4 e
   exact ih h1 (by show cnt (cutK M 4).1 < n; omega) (hQ M hM)
  ·rw [if_neg e]
   exact ⟨M,hM,rfl,by simpa using e⟩
theorem flow_last {Q:Hm→Prop} (hQ:∀ X,Q X→Q (cutM X).1) {N:Nat} {M:Hm} (h:Iv N M) (hM:Q M):∃ X,Q X∧flowM M={ X with seat:=fun j=>if j < 4 then (X.seat j).map flowS else X.seat j }∧∀ j S,j < 4→X.seat j=some S→(flowS S).pg.cut=false:=by
 obtain ⟨X,h1,h2,h3⟩:=flow_fin hQ 5 h (by have:=cnt_le M; omega) hM
 obtain ⟨e1,e2⟩:=cutK_still X 4 h3
 exact ⟨X,h1,h2.trans e1,e2⟩
def St (M:Hm):Prop:=∀ i S,i < 4→M.seat i=some S→flowS S=S∧S.pg.cut=false
theorem st_new:St newM:=fun i S _ h=>by cases h
theorem st_forget {M:Hm} (h:St M) (n:Nat):St { forgetM M with acts:=n }:=fun i S hi hS=>by
 simp only [forgetM,Option.map_eq_some_iff] at hS
 obtain ⟨T,hT,rfl⟩:=hS
 obtain ⟨h1,h2⟩:=h i T hi hT
 exact ⟨by have:=congrArg Se.pg h1; unfold flowS at this ⊢; simp only at this ⊢; rw [this],h2⟩
theorem st_flow {N:Nat} {M:Hm} (h:Iv N M):St (flowM M):=by
 obtain ⟨X,_,e,hc⟩:=flow_last (Q:=fun _=>True) (fun _ _=>trivial) h trivial
 rw [e]
 intro i S hi hS
 simp only [if_pos hi,Option.map_eq_some_iff] at hS
 obtain ⟨T,hT,rfl⟩:=hS
 exact ⟨flowS_idem T,hc i T hi hT⟩
theorem Iv.st {M:Hm} (h:Iv 1000 M) (hs:St M) (a:Ac):St (doM M a).1:=by
 unfold doM
 split
 ·exact hs
 ·split
  ·rename_i hr
   exact st_flow ((h.forget (M.acts+1)).act (a:=a) hr)
  ·exact st_forget hs _
theorem run_st (l:List Ac):∀ {M:Hm},Iv 1000 M→St M→St (runM M l):=by
 induction l with
 | nil=>intro M _ h; exact h
 | cons a r ih=>intro M h1 h2; exact ih (h1.does a) (h1.st h2 a)
open Go.RowKit
def Qt (M:Hm) (b:Nat) (O:Od):Prop:=O.verb=20→∀ j S,j < 4→M.seat j=some S→S.being ≠ (b:Int)
structure Clq (Q:Hm→Prop):Prop where
 order:∀ (M:Hm) (b:Nat) (O:Od),goodL M.L=true→Nm M.L→b < 6→M.L.here b=true→OdT O→Qt M b O→Q M→Q (hapM M (actL M.L b O) (actE M.L b O))
 gone:∀ (M:Hm) (i:Nat) (S:Se),i < 4→M.seat i=some S→Q M→Q (M.put i none)
structure Clf (Q:Hm→Prop):Prop extends Clq Q where
 flow:∀ (M:Hm) (i:Nat) (S:Se),i < 4→M.seat i=some S→SeOk S→Q M→Q (M.put i (some (flowS S)))
structure Clo (Q:Hm→Prop):Prop extends Clq Q where
 round:∀ (M:Hm) (n:Nat),goodL M.L=true→Nm M.L→Q M→Q (hapM M (roundK M.L n 6).1 (roundK M.L n 6).2)
 own:∀ (M:Hm) (i:Nat) (S:Se) (s:ByteArray),i < 4→M.seat i=some S→s=whatT∨(plays S=false∧(s=noRoomT∨s=noNameT))→Q M→Q (M.put i (some (tellS S s)))
 pop:∀ (M:Hm) (i:Nat) (S:Se) (f:ByteArray) (r:List ByteArray),i < 4→M.seat i=some S→S.lin.q=f::r→Q M→Q (M.put i (some (popS S r)))
 enter:∀ (M:Hm) (i:Nat) (S:Se) (nm:ByteArray) (k:Nat),i < 4→M.seat i=some S→plays S=false→goodL M.L=true→Nm M.L→NameT nm→2≤k→k < 6→M.L.here k=false→Q M →
  Q (hapM (M.put i (some { S with being:=(k:Int) })) (entL M.L nm k) (beginE (entL M.L nm k) k))
section
variable {Q:Hm→Prop} {N:Nat} {M:Hm}
theorem Clq.leaves (c:Clq Q) (h:Iv N M) {i:Nat} (hi:i < 4) (hQ:Q M):Q (leaveM M i):=by
 unfold leaveM
 cases hS:M.seat i with
 | none=>exact hQ
 | some S =>
  simp only
  have h1:=c.gone M i S hi hS hQ
  split
  ·rename_i hp
   obtain ⟨b,hb,h2,h6,hh⟩:=h.play i S hi hS hp
   rw [hb,order_eq (M:=M.put i none) h.good h6 hh (by decide) (by decide)]
   refine c.order (M.put i none) b quitO h.good h.nm h6 hh odt_quit (fun _ j T hj hT e=>?_) h1
   simp only [Hm.put] at hT
   by_cases ej:j=i
   ·rw [if_pos ej] at hT; cases hT
   ·rw [if_neg ej] at hT
    exact ej (h.one i j S T hi hj hS hT hp (hb.trans e.symm)).symm
  ·exact h1
theorem Clo.enters (c:Clo Q) (h:Iv N M) {i:Nat} (hi:i < 4) {S:Se} (hS:M.seat i=some S) (hp:plays S=false) (nm:ByteArray) (hQ:Q M):Q (enterM M i S nm):=by
 unfold enterM
 by_cases hb0:bars M.L nm=0
 ·rw [if_pos hb0]
  obtain ⟨hg,hn,ht,k,hv,h2,h6,hh⟩:=bars_nil hb0
  rw [hv]
  simp only [Int.toNat_natCast]
  exact c.enter M i S nm k hi hS hp h.good h.nm (named_T hn) h2 h6 hh hQ
 ·rw [if_neg hb0]
  split
  ·exact c.own M i S _ hi hS (.inr ⟨hp,.inl rfl⟩) hQ
  ·exact c.own M i S _ hi hS (.inr ⟨hp,.inr rfl⟩) hQ
theorem Clo.obeys (c:Clo Q) (h:Iv N M) {i:Nat} (hi:i < 4) {S:Se} (hS:M.seat i=some S) (hp:plays S=true) {l:List UInt8} (hl:l.length≤60) (hv:∀ c ∈ l,Li.vis c=true) (hQ:Q M):Q (obeyM M i S l):=by
 unfold obeyM
 split
 ·exact c.own M i S _ hi hS (.inl rfl) hQ
 ·split
  ·exact c.toClq.leaves h hi hQ
  ·rename_i hq
   obtain ⟨b,hb,h2,h6,hh⟩:=h.play i S hi hS hp
   have hO:=parse_odt hl hv
   rw [hb,order_eq h.good h6 hh hO.v0 hO.v1]
   exact c.order M b _ h.good h.nm h6 hh hO (fun e=>absurd (show (parseL l).1.verb=20 by
    have e2:(((parseL l).1.verb:Nat):Int)=20:=e
    omega) hq) hQ
theorem Clo.turn (c:Clo Q) (h:Iv N M) {i:Nat} (hi:i < 4) (hQ:Q M):Q (turnM M i):=by
 unfold turnM
 split
 ·exact hQ
 ·rename_i S hS
  have hSo:=h.sv.seat i S hi hS
  split
  ·exact hQ
  ·rename_i f r hq
   have h1:Iv N (M.put i (some (popS S r))):=h.put (S':=popS S r) hi hS rfl (hSo.1.pop hq) (Nat.le_refl _) hSo.2
   have q1:=c.pop M i S f r hi hS hq hQ
   split
   ·exact q1
   ·split
    ·rename_i hp
     have hl:=line_ok hSo.1 hq
     exact c.obeys h1 hi (put_seat ..) hp hl.1 hl.2 q1
    ·rename_i hp
     exact c.enters h1 hi (put_seat ..) (by
      have:plays (popS S r)=plays S:=rfl
      rw [this]; simpa using hp) _ q1
theorem Clo.turns (c:Clo Q) (h:Iv N M) (hQ:Q M):∀ k,k≤4→Q (turnsM M k):=by
 intro k
 induction k with
 | zero=>intro _; exact hQ
 | succ k ih=>intro hk; exact c.turn (h.turns k (by omega)) (by omega) (ih (by omega))
theorem Clo.pulse (c:Clo Q) (h:Iv N M) (n:Int) (hQ:Q M):Q (pulseM M n):=by
 have h1:=h.turns 4 (Nat.le_refl _)
 exact c.round _ _ h1.good h1.nm (c.turns h hQ 4 (Nat.le_refl _))
theorem Clf.cuts (c:Clf Q) (h:Iv N M) {i:Nat} (hi:i < 4) (hQ:Q M):Q (cutsM M i).1:=by
 unfold cutsM
 split
 ·exact hQ
 ·rename_i S hS
  have hSo:=h.sv.seat i S hi hS
  have h1:Iv N (M.put i (some (flowS S))):=h.put (S':=flowS S) hi hS rfl hSo.1.flow (Nat.le_refl _) hSo.2
  have q1:=c.flow M i S hi hS hSo.1 hQ
  split
  ·exact c.toClq.leaves h1 hi q1
  ·exact q1
theorem Clf.cutK (c:Clf Q) (h:Iv N M) (hQ:Q M):∀ k,k≤4→Q (Ho.cutK M k).1:=by
 intro k
 induction k with
 | zero=>intro _; exact hQ
 | succ k ih =>
  intro hk
  obtain ⟨N1,h1,_⟩:=h.cutK k (by omega)
  exact c.cuts h1 (by omega) (ih (by omega))
theorem Clf.flows (c:Clf Q) (h:Iv N M) (hQ:Q M):Q (flowM M):=by
 have:∀ n {N:Nat} {M:Hm},Iv N M→Q M→Q (flowN n M):=by
  intro n
  induction n with
  | zero=>intro N M _ hQ; exact hQ
  | succ n ih =>
   intro N M h hQ
   obtain ⟨N1,h1,_⟩:=h.cutK 4 (Nat.le_refl _)
   unfold flowN
   split
   ·exact ih h1 (c.cutK h hQ 4 (Nat.le_refl _))
   ·exact c.cutK h hQ 4 (Nat.le_refl _)
 exact this 5 h hQ
end
def Ke (i:Nat) (P:List Ev→Se→Prop) (M:Hm):Prop:=∀ S,M.seat i=some S→P M.last S
structure Clh (P:List Ev→Se→Prop):Prop where
 hear:∀ l S E,Tx E→P l S→P (l++[E]) (heardS E S)
structure Clg (P:List Ev→Se→Prop):Prop extends Clh P where
 flow:∀ l S,SeOk S→P l S→P l (flowS S)
structure Cls (P:List Ev→Se→Prop):Prop extends Clh P where
 own:∀ l S s,s=whatT∨(plays S=false∧(s=noRoomT∨s=noNameT))→P l S→P l (tellS S s)
 pop:∀ l S f r,S.lin.q=f::r→P l S→P l (popS S r)
 enter:∀ l S (k:Nat),plays S=false→2≤k→P l S→P l { S with being:=(k:Int) }
theorem ke_hears {i:Nat} {P:List Ev→Se→Prop} (c:Clh P):∀ (Es:List Ev),All Es→∀ (M:Hm),Ke i P M→Ke i P (hearsM M Es):=by
 intro Es
 induction Es with
 | nil=>intro _ M h; exact h
 | cons E r ih =>
  intro hA M h
  refine ih (fun F hF=>hA F (List.mem_cons_of_mem _ hF)) (hearM E M) fun S hS=>?_
  simp only [hearM,Option.map_eq_some_iff] at hS
  obtain ⟨T,hT,rfl⟩:=hS
  exact c.hear _ _ _ (hA E (List.mem_cons_self ..)) (h T hT)
theorem ke_hap {i:Nat} {P:List Ev→Se→Prop} (c:Clh P) {M:Hm} (X:Ld) {Es:List Ev} (hA:All Es) (h:Ke i P M):Ke i P (hapM M X Es):=ke_hears c Es hA { M with L:=X } h
theorem ke_put {i j:Nat} {P:List Ev→Se→Prop} {M:Hm} {o:Option Se} (h:Ke i P M) (ho:i=j→∀ T,o=some T→P M.last T):Ke i P (M.put j o):=fun S hS=>by
 simp only [Hm.put] at hS
 by_cases e:i=j
 ·rw [if_pos e] at hS; exact ho e S hS
 ·rw [if_neg e] at hS; exact h S hS
theorem Clh.clq {P:List Ev→Se→Prop} (c:Clh P) (i:Nat):Clq (Ke i P) where
 order:=fun M b O hg hN hb hh hO _ h=>ke_hap c _ (act_tx hg hN hb hh O hO) h
 gone:=fun M j S hj hS h=>ke_put h fun e T hT=>by cases hT
theorem Clg.clf {P:List Ev→Se→Prop} (c:Clg P) (i:Nat):Clf (Ke i P) where
 toClq:=c.toClh.clq i
 flow:=fun M j S hj hS hk h=>ke_put h fun e T hT=>by injection hT with hT; subst hT; subst e; exact c.flow _ _ hk (h S hS)
theorem Cls.clo {P:List Ev→Se→Prop} (c:Cls P) (i:Nat):Clo (Ke i P) where
 toClq:=c.toClh.clq i
 round:=fun M n hg hN h=>ke_hap c.toClh _ (round_tx hN hg n 6 (Nat.le_refl _)) h
 own:=fun M j S s hj hS hs h=>ke_put h fun e T hT=>by injection hT with hT; subst hT; subst e; exact c.own _ _ _ hs (h S hS)
 pop:=fun M j S f r hj hS hq h=>ke_put h fun e T hT=>by injection hT with hT; subst hT; subst e; exact c.pop _ _ _ _ hq (h S hS)
 enter:=fun M j S nm k hj hS hp hg hN hn h2 h6 hh h=>ke_hap c.toClh _ (ent_tx hN hg hn h6 hh) (ke_put h fun e T hT=>by injection hT with hT; subst hT; subst e; exact c.enter _ _ _ hp h2 (h S hS))
open Go.RowKit
def atS (a:Ac) (i:Nat):Option Se→Option Se
 | none=>if a.kind=1∧a.seat=(i:Int) then some newS else none
 | some S=>if a.kind=2∧a.seat=(i:Int) then some (feedS S a.bytes.data.toList) else if a.kind=3∧a.seat=(i:Int) then some (Ho.takeS S a.num) else some S
theorem put_ne {M:Hm} {i j:Nat} {o:Option Se} (h:i ≠ j):(M.put j o).seat i=M.seat i:=by simp [Hm.put,h]
theorem at_else {a:Ac} {i:Nat} {o:Option Se} (h:a.seat ≠ (i:Int)):atS a i o=o:=by
 unfold atS
 cases o with
 | none=>simp only; rw [if_neg (fun e=>h e.2)]
 | some S=>simp only; rw [if_neg (fun e=>h e.2),if_neg (fun e=>h e.2)]
theorem do_ke {P P2:List Ev→Se→Prop} {a:Ac} (ch:Clh P) (c:a.kind=5→Cls P) (c2:Clg P2) (hPP:∀ l S,P l S→P2 l S) {M:Hm} (h:Iv 1000 M) (ha:M.acts < 400) {i:Nat} (hi:i < 4) (h0:∀ S,atS a i ((M.seat i).map untold)=some S→P [] S):Ke i P2 (doM M a).1:=by
 unfold doM
 rw [if_neg (by omega)]
 generalize hM1:({ forgetM M with acts:=M.acts+1 }:Hm)=M1
 have hI1:Iv 0 M1:=by rw [← hM1]; exact h.forget _
 have hs:M1.seat i=(M.seat i).map untold:=by rw [← hM1]; rfl
 have hl:M1.last=[]:=by rw [← hM1]; rfl
 have hr0:refusedM (forgetM M) a=refusedM M1 a:=by rw [← hM1]; rfl
 rw [hr0]
 rw [← hs] at h0
 have keep:(∀ S,M1.seat i=some S→¬ (a.kind=2∧a.seat=(i:Int))∧¬ (a.kind=3∧a.seat=(i:Int)))→Ke i P M1:=by
  intro hne S hS
  rw [hl]
  refine h0 S ?_
  obtain ⟨n1,n2⟩:=hne S hS
  rw [hS]
  unfold atS
  simp only
  rw [if_neg n1,if_neg n2]
 by_cases hr:refusedM M1 a=0
 ·rw [if_pos hr]
  have hact:=hI1.act hr
  refine (c2.clf i).flows hact ?_
  suffices hK:Ke i P (actM M1 a).1 from fun S hS=>hPP _ _ (hK S hS)
  have hr2:=hr
  unfold refusedM at hr2
  by_cases hk:a.kind < 1∨5 < a.kind
  ·rw [if_pos hk] at hr2; omega
  rw [if_neg hk] at hr2
  unfold actM
  by_cases h5:a.kind=5
  ·rw [if_pos h5]
   exact ((c h5).clo i).pulse hI1 _ (keep fun S hS=>⟨by omega,by omega⟩)
  rw [if_neg h5] at hr2 ⊢
  by_cases hq:a.seat < 0∨3 < a.seat
  ·rw [if_pos hq] at hr2; omega
  rw [if_neg hq] at hr2
  have hn:(M1.seat a.seat.toNat).isNone=decide (a.kind=1):=by
   by_cases e:(M1.seat a.seat.toNat).isNone=decide (a.kind=1)
   ·exact e
   ·rw [if_neg e] at hr2; omega
  have hput:∀ T,(a.seat=(i:Int)→atS a i (M1.seat i)=some T)→Ke i P (M1.put a.seat.toNat (some T)):=by
   intro T hT S hS
   by_cases e:a.seat=(i:Int)
   ·have e2:a.seat.toNat=i:=by omega
    rw [e2,put_seat] at hS
    injection hS with hS
    subst hS
    show P M1.last T
    rw [hl]; exact h0 _ (hT e)
   ·have e2:i ≠ a.seat.toNat:=by omega
    rw [put_ne e2] at hS
    show P M1.last S
    rw [hl]; exact h0 S (by rw [at_else e]; exact hS)
  by_cases h1:a.kind=1
  ·rw [if_pos h1]
   refine hput newS fun e=>?_
   have e2:a.seat.toNat=i:=by omega
   rw [h1,e2] at hn
   have hz:M1.seat i=none:=by simpa using hn
   rw [hz]
   unfold atS
   simp only
   rw [if_pos ⟨h1,e⟩]
  ·rw [if_neg h1]
   cases hS:M1.seat a.seat.toNat with
   | none =>
    have no:∀ T,M1.seat i=some T→a.seat ≠ (i:Int):=fun T hT e=>by
     have e2:a.seat.toNat=i:=by omega
     rw [e2,hT] at hS; cases hS
    exact keep fun S hS2=>⟨fun e=>no S hS2 e.2,fun e=>no S hS2 e.2⟩
   | some S =>
    simp only
    by_cases h2:a.kind=2
    ·rw [if_pos h2]
     refine hput _ fun e=>?_
     have e2:a.seat.toNat=i:=by omega
     rw [← e2,hS]
     unfold atS
     simp only
     rw [if_pos ⟨h2,by omega⟩]
    ·rw [if_neg h2]
     by_cases h3:a.kind=3
     ·rw [if_pos h3]
      refine hput _ fun e=>?_
      have e2:a.seat.toNat=i:=by omega
      rw [← e2,hS]
      unfold atS
      simp only
      rw [if_neg (fun x=>h2 x.1),if_pos ⟨h3,by omega⟩]
     ·rw [if_neg h3]
      exact (ch.clq i).leaves hI1 (by omega) (keep fun S hS=>⟨fun x=>h2 x.1,fun x=>h3 x.1⟩)
 ·rw [if_neg hr]
  have no:∀ S,M1.seat i=some S→∀ k:Int,(k=2∨k=3)→¬ (a.kind=k∧a.seat=(i:Int)):=by
   intro S hS k hk e
   refine hr ?_
   unfold refusedM
   have e2:a.seat.toNat=i:=by omega
   rw [if_neg (by omega),if_neg (by omega),if_neg (by omega),e2,hS,if_pos]
   simp; omega
  exact fun S hS=>hPP _ _ (keep (fun S hS=>⟨no S hS 2 (.inl rfl),no S hS 3 (.inr rfl)⟩) S hS)
def ownB (s:ByteArray):Bool:=decide (s=whoT) || decide (s=fastT) || decide (s=whatT) || decide (s=noNameT) || decide (s=noRoomT)
theorem line_own {s:ByteArray} (h:Ln s):ownB s=false:=by
 have hk:=h.ok
 unfold ownB
 have no:∀ t:ByteArray,okP t.data.toList=false→decide (s=t)=false:=fun t ht=>by
  rw [decide_eq_false_iff_not]
  rintro rfl
  rw [ht] at hk; cases hk
 rw [no whoT (by kernel_rfl),no fastT (by kernel_rfl),no whatT (by kernel_rfl),no noNameT (by kernel_rfl),no noRoomT (by kernel_rfl)]; rfl
def gotL (b:Int) (l:List Ev):List ByteArray:=l.filterMap fun E=>(tellL E b).map bs
def saidL (l:List ByteArray):List ByteArray:=l.filter fun s=>!ownB s
theorem tell_cut {P:Pa.Pg} (h:P.cut=true) (s:ByteArray):(Pa.tellP P s).cut=true:=by
 unfold Pa.tellP
 split
 ·split
  ·rfl
  ·exact h
 ·exact h
theorem flow_cut {P:Pa.Pg} (h:P.cut=true) (k:Int):(Pa.flowR P k).cut=true:=by
 unfold Pa.flowR
 split
 ·rw [Pa.flow_stop (.inr h)]; exact h
 ·exact h
def Hrd (b:Int) (l:List Ev) (S:Se):Prop:=S.being=b∧(S.pg.cut=true∨saidL S.told=gotL b l)
theorem hrd_own {b:Int} {l:List Ev} {S:Se} {s:ByteArray} (ho:ownB s=true) (h:Hrd b l S):Hrd b l (tellS S s):=by
 obtain ⟨h1,h2⟩:=h
 refine ⟨h1,?_⟩
 rcases h2 with h2 | h2
 ·exact .inl (tell_cut h2 s)
 ·refine .inr ?_
  unfold tellS
  simp only
  split
  ·exact h2
  ·unfold saidL at h2 ⊢
   rw [List.filter_append,h2]; simp [ho]
theorem hrd_clh {b:Int} (hb:2≤b):Clh (Hrd b) where
 hear:=fun l S E hE h=>by
  obtain ⟨h1,h2⟩:=h
  have hp:plays S=true:=by unfold plays; rw [h1]; simp only [bne_iff_ne,ne_eq]; omega
  unfold heardS
  rw [if_pos hp]
  unfold hearS
  rw [h1]
  cases ht:tellL E b with
  | none =>
   refine ⟨h1,?_⟩
   rcases h2 with h2 | h2
   ·exact .inl h2
   ·exact .inr (by unfold gotL at h2 ⊢; rw [List.filterMap_append,h2]; simp [ht])
  | some t =>
   refine ⟨h1,?_⟩
   rcases h2 with h2 | h2
   ·exact .inl (tell_cut h2 _)
   ·by_cases hc:(Pa.tellP S.pg (bs t)).cut=true
    ·exact .inl hc
    ·refine .inr ?_
     unfold tellS
     simp only
     rw [if_neg hc]
     unfold saidL gotL at h2 ⊢
     rw [List.filter_append,List.filterMap_append,h2]
     have:=line_own (hE.line ht)
     simp [ht,this]
theorem hrd_clg {b:Int} (hb:2≤b):Clg (Hrd b) where
 toClh:=hrd_clh hb
 flow:=fun l S hk h=>⟨h.1,by
  rcases h.2 with e | e
  ·exact .inl (flow_cut e _)
  ·exact .inr e⟩
theorem hrd_cls {b:Int} (hb:2≤b):Cls (Hrd b) where
 toClh:=hrd_clh hb
 own:=fun l S s hs h=>hrd_own (by
  rcases hs with rfl | ⟨_,rfl | rfl⟩
  ·kernel_rfl
  ·kernel_rfl
  ·kernel_rfl) h
 pop:=fun l S f r hq h=>h
 enter:=fun l S k hp h2 h=>by
  have:plays S=true:=by unfold plays; rw [h.1]; simp only [bne_iff_ne,ne_eq]; omega
  rw [this] at hp; cases hp
theorem do_heard {M:Hm} (h:Iv 1000 M) (hs:St M) (ha:M.acts < 400) (a:Ac) {i:Nat} (hi:i < 4) {S0 S:Se} (hS0:M.seat i=some S0) {b:Int} (hb:2≤b) (hb0:S0.being=b) (hS:(doM M a).1.seat i=some S):saidL S.told=gotL b (doM M a).1.last:=by
 have h1:Hrd b [] (untold S0):=⟨hb0,.inr rfl⟩
 have:=do_ke (hrd_clh hb) (fun _=>hrd_cls hb) (hrd_clg hb) (fun _ _ h=>h) h ha hi (fun T hT=>by
  rw [hS0] at hT
  unfold atS at hT
  simp only [Option.map_some] at hT
  split at hT
  ·injection hT with hT; subst hT
   have h2:Hrd b [] (gotS (untold S0) a.bytes.data.toList):=⟨hb0,.inr rfl⟩
   unfold feedS
   split
   ·exact hrd_own (by kernel_rfl) h2
   ·exact h2
  ·split at hT
   ·injection hT with hT; subst hT; exact ⟨hb0,.inr rfl⟩
   ·injection hT with hT; subst hT; exact h1) S hS
 rcases this.2 with e | e
 ·have:=(h.st hs a i S hi hS).2
  rw [this] at e; cases e
 ·exact e
open Go.RowKit
theorem do_clo {Q:Hm→Prop} (c:Clo Q) (c2:Clf Q) (hput:∀ (M:Hm) i S T,M.seat i=some S→T.being=S.being→Q M→Q (M.put i (some T))) {M:Hm} (h:Iv 1000 M) (ha:M.acts < 400) (a:Ac) (hQ:Q { forgetM M with acts:=M.acts+1 })
 (hcome:∀ i,M.seat i=none→Q (({ forgetM M with acts:=M.acts+1 }:Hm).put i (some newS))):Q (doM M a).1:=by
 unfold doM
 rw [if_neg (by omega)]
 have hI1:=h.forget (M.acts+1)
 have hr0:refusedM (forgetM M) a=refusedM { forgetM M with acts:=M.acts+1 } a:=rfl
 have hs0:∀ i,({ forgetM M with acts:=M.acts+1 }:Hm).seat i=none→M.seat i=none:=fun i e=>by
  have e':(M.seat i).map (fun S=>({ S with told:=[] }:Se))=none:=e
  simpa using e'
 rw [hr0]
 generalize ({ forgetM M with acts:=M.acts+1 }:Hm)=M1 at *
 by_cases hr:refusedM M1 a=0
 ·rw [if_pos hr]
  refine c2.flows (hI1.act hr) ?_
  have hr2:=hr
  unfold refusedM at hr2
  by_cases hk:a.kind < 1∨5 < a.kind
  ·rw [if_pos hk] at hr2; omega
  rw [if_neg hk] at hr2
  unfold actM
  by_cases h5:a.kind=5
  ·rw [if_pos h5]; exact c.pulse hI1 _ hQ
  rw [if_neg h5] at hr2 ⊢
  by_cases hq:a.seat < 0∨3 < a.seat
  ·rw [if_pos hq] at hr2; omega
  rw [if_neg hq] at hr2
  have hn:(M1.seat a.seat.toNat).isNone=decide (a.kind=1):=by
   by_cases e:(M1.seat a.seat.toNat).isNone=decide (a.kind=1)
   ·exact e
   ·rw [if_neg e] at hr2; omega
  by_cases h1:a.kind=1
  ·rw [if_pos h1]
   rw [h1] at hn
   exact hcome _ (hs0 _ (by simpa using hn))
  ·rw [if_neg h1]
   cases hS:M1.seat a.seat.toNat with
   | none=>exact hQ
   | some S =>
    simp only
    by_cases h2:a.kind=2
    ·rw [if_pos h2]; exact hput _ _ S _ hS (by unfold feedS; split <;> rfl) hQ
    ·rw [if_neg h2]
     by_cases h3:a.kind=3
     ·rw [if_pos h3]; exact hput _ _ S (Ho.takeS S a.num) hS rfl hQ
     ·rw [if_neg h3]; exact c.toClq.leaves hI1 (by omega) hQ
 ·rw [if_neg hr]; exact hQ
open Go.RowKit
def i4 (f:Nat→Int):Array Value:=#[.int .i64 (f 0),.int .i64 (f 1),.int .i64 (f 2),.int .i64 (f 3)]
theorem i4_set (f:Nat→Int) {k:Nat} (hk:k < 4) (x:Int):(i4 f).setIfInBounds k (.int .i64 x)=i4 (fun j=>if j=k then x else f j):=by
 match k,hk with
 | 0,_=>rfl
 | 1,_=>rfl
 | 2,_=>rfl
 | 3,_=>rfl
theorem i4_cell {w:World} {g T:Nat} {f:Nat→Int} (h:w.heap[g]?=some (.cells (i4 f) T (0,0))) {k:Nat} (hk:k < 4):w.cell? ⟨g,k,none⟩=some (.int .i64 (f k)):=by
 rw [cell_of_row _ _ _ _ _ _ h]
 match k,hk with
 | 0,_=>rfl
 | 1,_=>rfl
 | 2,_=>rfl
 | 3,_=>rfl
theorem i4_congr {f g:Nat→Int} (h:∀ i,i < 4→f i=g i):i4 f=i4 g:=by
 unfold i4
 rw [h 0 (by omega),h 1 (by omega),h 2 (by omega),h 3 (by omega)]
open Go.RowKit
def AllM (M:Hm):Prop:=All M.last
theorem allm_hap {M:Hm} {X:Ld} {Es:List Ev} (h:AllM M) (hE:All Es):AllM (hapM M X Es):=by
 unfold AllM
 rw [hap_eq]
 exact All.app h hE
theorem allm_clq:Clq AllM where
 order:=fun M b O hg hN hb hh hO _ h=>allm_hap h (act_tx hg hN hb hh O hO)
 gone:=fun M i S hi hS h=>h
theorem allm_clf:Clf AllM where
 toClq:=allm_clq
 flow:=fun M i S hi hS hk h=>h
theorem allm_clo:Clo AllM where
 toClq:=allm_clq
 round:=fun M n hg hN h=>allm_hap h (round_tx hN hg n 6 (Nat.le_refl _))
 own:=fun M i S s hi hS hs h=>h
 pop:=fun M i S f r hi hS hq h=>h
 enter:=fun M i S nm k hi hS hp hg hN hn h2 h6 hh h=>allm_hap (M:=M.put i (some { S with being:=(k:Int) })) h (ent_tx hN hg hn h6 hh)
theorem do_allm {M:Hm} (h:Iv 1000 M) (ha:M.acts < 400) (a:Ac):AllM (doM M a).1:=do_clo allm_clo allm_clf (fun _ _ _ _ _ _ h=>h) h ha a All.nil (fun _ _=>All.nil)
theorem got_next (b:Int) (Es:List Ev) {n:Nat} {E:Ev} (h:Es[n]?=some E):gotL b (Es.take (n+1))=gotL b (Es.take n)++(match tellL E b with | some t=>[bs t] | none=>[]):=by
 unfold gotL
 rw [List.take_add_one,h,List.filterMap_append]
 cases ht:tellL E b <;> simp [ht]
theorem said_next (q:List ByteArray) {n:Nat} {s:ByteArray} (h:q[n]?=some s):saidL (q.take (n+1))=saidL (q.take n)++(if ownB s=true then [] else [s]):=by
 unfold saidL
 rw [List.take_add_one,h,List.filter_append]
 cases ho:ownB s <;> simp [ho]
theorem got_len (b:Int) (Es:List Ev):(gotL b Es).length≤Es.length:=List.length_filterMap_le _ _
theorem said_len (q:List ByteArray):(saidL q).length≤q.length:=List.length_filter_le _ _
theorem own_any (s:ByteArray) (w:World):Calls Tryz.prog 36 #[.string s] w fun e w'=>e=.returned (.bool (ownB s))∧w'=w:=by
 by_cases h1:s=whoT
 ·subst h1
  go_enter Tryz.func36,Tryz.ntmps36
  unfold whoT
  go_wp2
  go_ret
  exact ⟨rfl,rfl⟩
 by_cases h2:s=fastT
 ·subst h2
  go_enter Tryz.func36,Tryz.ntmps36
  unfold fastT
  go_wp2
  go_ret
  exact ⟨rfl,rfl⟩
 by_cases h3:s=whatT
 ·subst h3
  go_enter Tryz.func36,Tryz.ntmps36
  unfold whatT
  go_wp2
  go_ret
  exact ⟨rfl,rfl⟩
 by_cases h4:s=noNameT
 ·subst h4
  go_enter Tryz.func36,Tryz.ntmps36
  unfold noNameT
  go_wp2
  go_ret
  exact ⟨rfl,rfl⟩
 by_cases h5:s=noRoomT
 ·subst h5
  go_enter Tryz.func36,Tryz.ntmps36
  unfold noRoomT
  go_wp2
  go_ret
  exact ⟨rfl,rfl⟩
 have HO:Hid (ownB s=false):=hide (by unfold ownB; simp [h1,h2,h3,h4,h5])
 have e1:=str_ne h1
 have e2:=str_ne h2
 have e3:=str_ne h3
 have e4:=str_ne h4
 have e5:=str_ne h5
 clear h1 h2 h3 h4 h5
 unfold whoT at e1
 simp at e1
 unfold fastT at e2
 simp at e2
 unfold whatT at e3
 simp at e3
 unfold noNameT at e4
 simp at e4
 unfold noRoomT at e5
 simp at e5
 go_enter Tryz.func36,Tryz.ntmps36
 go_wp2
 go_ret
 exact ⟨by rw [HO.out]; simp [e1,e2,e3,e4,e5],rfl⟩
theorem wown_at {w w':World} {base T:Nat} {v:Value} {n:Nat} {xs:List Value} (h:w.ownsRow base T 1 v n xs) (hb:Below w.heap.size w w'):w'.ownsRow base T 1 v n xs:=own_same h fun g hg=>hb.block g (own_lt h g hg).2
open Go.RowKit
theorem heardC {W0:World} (hvb:Vb W0) (hai:Ai W0) {lab:Nat→Nat} {w:World} {hb:Nat} {M:Hm} {f:Nat→Int} (H:HoC W0 lab w hb M) (hg:lab W0.heap.size=9) (hc:w.heap[W0.heap.size]?=some (.cells (i4 f) 69 (0,0))) (a:Ac) (c:Int) (s:ByteArray)
 (hall:All M.last) (hle:M.last.length≤1000) (hlt:∀ i:Nat,i < 4→(toldOf (seatAt M i)).length≤1000)
 (hlaw:∀ i:Nat,i < 4→(stateOf (seatAt M i)).1=2→f i=(stateOf (seatAt M i)).2→gotL (stateOf (seatAt M i)).2 M.last=saidL (toldOf (seatAt M i))) :
 Calls Tryz.prog 34 (#[.pointer (some ⟨hb,0,none⟩),.agg a.cells,.agg #[.int .i64 c,.string s]]++#[.pointer (some ⟨W0.heap.size,0,none⟩)]) w fun e w'=>e=.returned (.bool true)∧HoC W0 lab w' hb M∧w'.heap[W0.heap.size]?=some (.cells (i4 fun i=>(stateOf (seatAt M i)).2) 69 (0,0)):=by
 have e:(#[.pointer (some ⟨hb,0,none⟩),.agg a.cells,.agg #[.int .i64 c,.string s]]++#[.pointer (some ⟨W0.heap.size,0,none⟩)]:Array Value)=#[.pointer (some ⟨hb,0,none⟩),.agg a.cells,.agg #[.int .i64 c,.string s],.pointer (some ⟨W0.heap.size,0,none⟩)]:=by simp
 rw [e]
 clear e
 obtain ⟨i0,hi0,hz0,hz1,hz2⟩:=info_parts Tryz.info9
 have B0:=((Below.refl w.heap.size w).alloc (Nat.le_refl _) (.cells a.cells 23)).alloc (by simp) (.cells #[.int .i64 c,.string s] 29)
 have hgw:W0.heap.size < w.heap.size:=(Array.getElem?_eq_some_iff.1 hc).1
 have H0:=hide (H.below B0)
 have C0:=hide ((B0.block _ hgw).trans hc)
 have HLAW:=hide hlaw
 have HLT:=hide hlt
 have HALL:=hide hall
 have HG:=hide hg
 have HVB:=hide hvb
 have HAI:=hide hai
 clear H hc B0 hlaw hlt hg hall hvb hai
 generalize hgg:W0.heap.size=g at *
 have HGG:=hide hgg
 clear hgg
 go_enter Tryz.func34,Tryz.ntmps34
 go_upto_region 2 with fail
 generalize (w.alloc (.cells a.cells 23)).alloc (.cells #[.int .i64 c,.string s] 29)=w0 at *
 go_loopw [20] (fun i wr=>∃ k:Nat,k≤4∧i=.int .i64 (k:Int)∧HoC W0 lab wr hb M∧wr.heap[g]?=some (.cells (i4 fun j=>if j < k then (stateOf (seatAt M j)).2 else f j) 69 (0,0))) (fun i _=>4 - (intOf i).toNat)
 case atStart=>exact ⟨0,by omega,rfl,H0.out,by rw [C0.out]; simp⟩
 case round =>
  obtain ⟨k,hk,rfl,Hk,Ck⟩:=hrel
  clear H0 C0
  by_cases hk4:k < 4
  ·have hki:(k:Int) < 4:=by omega
   have CS:=hide (state_any Hk (k:Int))
   have hgr:g < wr.heap.size:=(Array.getElem?_eq_some_iff.1 Ck).1
   have KH:=hide Hk
   have KC:=hide Ck
   have LW:=hide (HLAW.out k hk4)
   have hTL:=HLT.out k hk4
   clear Hk Ck
   generalize hst:stateOf (seatAt M (k:Int))=st at *
   have HST:=hide hst
   clear hst
   generalize hTT:toldOf (seatAt M (k:Int))=Ts at *
   have HTT:=hide hTT
   clear hTT
   go_upto_region 5 with (go_at_call 16; refine CS.out.mono ?_; rintro e w3 ⟨rfl,b3⟩)
   have H3:=hide (KH.out.below b3)
   have C3:=hide ((b3.block _ hgr).trans KC.out)
   have cg:=i4_cell C3.out hk4
   rw [if_neg (Nat.lt_irrefl k)] at cg
   clear KH KC CS b3
   go_upto_region 7 with (refine wl_over1 3 (.tmp 34) (.tmp 33) rfl rfl g k (.int .i64 st.2) _ _ 69 rfl rfl C3.out (by show k < 4; omega) Tryz.sizeInt rfl (i4_set _ hk4 _) ?_; intro W1 g1 u1)
   have fin:i4 (fun j=>if j=k then st.2 else if j < k then (stateOf (seatAt M j)).2 else f j)=i4 (fun j=>if j < k+1 then (stateOf (seatAt M j)).2 else f j):=by
    refine i4_congr fun j hj=>?_
    by_cases e:j=k
    ·subst e; rw [if_pos rfl,if_pos (by omega),HST.out]
    ·rw [if_neg e]
     by_cases e2:j < k
     ·rw [if_pos e2,if_pos (by omega)]
     ·rw [if_neg e2,if_neg (by omega)]
   have H4:=hide (H3.out.other u1 HG.out (by rw [HGG.out]; exact Nat.le_refl _))
   have C4:=hide (show W1.heap[g]?=some (.cells (i4 fun j=>if j < k+1 then (stateOf (seatAt M j)).2 else f j) 69 (0,0)) by rw [g1,fin])
   clear fin H3 C3 g1 u1 cg
   by_cases h2:st.1=2
   ·by_cases hf:f k=st.2
    ·have LE:=hide (LW.out h2 hf)
     have h2b:(st.1 != 2)=false:=by simp [h2]
     have hfb:(f k != st.2)=false:=by simp [hf]
     have hgr1:g < W1.heap.size:=(Array.getElem?_eq_some_iff.1 C4.out).1
     have hV1:=hide (HVB.out.below H4.out.low (Nat.le_refl _))
     have hA1:=hide (HAI.out.below H4.out.low)
     generalize st.2=b at *
     clear LW h2 hf
     go_upto_region 10 with (go_at_call 19; refine (last_any H4.out (by omega)).mono ?_; rintro e w5 ⟨v5,rfl,o5,b5⟩; obtain ⟨av5,cap5,rfl⟩:=shapeE o5)
     have O5:=hide o5
     have V5:=hide (hV1.out.below b5 (Nat.le_refl _))
     have A5:=hide (hA1.out.below b5)
     have H5:=hide (H4.out.below b5)
     have C5:=hide ((b5.block _ hgr1).trans C4.out)
     have hgr5:g < w5.heap.size:=Nat.lt_of_lt_of_le hgr1 b5.size
     clear o5 b5 hV1 hA1 H4 C4
     generalize hEs:M.last=Es at *
     have HES:=hide hEs
     clear hEs
     generalize wr=wz at *
     clear wr
     go_loopw [45,12] (fun i v wr=>∃ n:Nat,n≤Es.length∧i=.int .i64 (n:Int)∧Below w5.heap.size w5 wr∧wr.ownsRow w5.heap.size 9 1 v (gotL b (Es.take n)).length (scells (gotL b (Es.take n)))) (fun i _ _=>Es.length - (intOf i).toNat)
     case atStart=>exact ⟨0,by omega,rfl,Below.refl _ _,World.ownsRow_nil _ _ _ _⟩
     case round =>
      obtain ⟨n,hn,rfl,Bn,On⟩:=hrel
      obtain ⟨avn,capn,rfl⟩:=own_shape On
      by_cases hlt:n < Es.length
      ·have hni:(n:Int) < (Es.length:Int):=by omega
       obtain ⟨E,hE⟩:∃ E,Es[n]?=some E:=⟨_,List.getElem?_eq_getElem hlt⟩
       obtain ⟨g2,cap2,ev,hg2,hrg⟩:=ev_range (own_same O5.out (w':=wr) fun b' hb'=>Bn.block b' (own_lt O5.out b' hb').2) n hlt
       injection ev with ev1 ev2 ev3
       subst ev1 ev3
       have hEE:Es[n]=E:=by rw [List.getElem?_eq_getElem hlt] at hE; exact Option.some.inj hE
       rw [hEE] at hrg
       have HRG:=hide hrg
       have hEt:=HALL.out E (List.mem_of_getElem? hE)
       have NX:=hide (got_next b Es hE)
       have hgl:=got_len b (Es.take n)
       rw [List.length_take] at hgl
       have BA:=Bn.alloc Bn.size (.cells E.cells 71)
       have CT:=hide (tell_fit E b (wr.alloc (.cells E.cells 71)) (V5.out.below BA (Nat.le_refl _)) (A5.out.below BA) hEt.fit)
       have CE:=hide (cev_new wr E)
       have B:=hide BA
       have O:=hide (On.alloc (.cells E.cells 71))
       clear Bn On BA hrg hEt hEE
       replace hE:=hide hE
       go_upto_region 12 with (first | (refine wl_mid 71 (.tmp 47) rfl rfl g2 (n*16) E.cells.toList _ rfl HRG.out Tryz.underlying71 rfl (by rw [Array.length_toList,E.size]; exact Tryz.sizeEvent) ?_; rw [Array.toArray_toList]) | (refine wl_new 71 (.tmp 15) (.tmp 48) rfl rfl _ _ rfl rfl rfl (by rw [E.size]; exact Tryz.sizeEvent) (by rw [E.size]; rfl) (Ev.one E) ?_))
       simp only [Act.put]
       go_wp2_with (refine wl_wanted rfl (wp_load_row 71 (.tmp 15) rfl wr.heap.size rfl 71 E.cells (0,0) _ CE.out Tryz.underlying71 rfl (by rw [E.size]; exact Tryz.sizeEvent) ?_))
       refine CT.out.mono ?_
       rintro e w6 ⟨rfl,b6⟩
       have B6:=hide (B.out.trans (b6.mono B.out.size))
       have O6:=hide (wown_at O.out b6)
       have hs6:=B6.out.size
       clear CT CE HRG B O b6
       generalize hG:gotL b (Es.take n)=G at *
       cases ht:tellL E b with
       | none =>
        rw [ht] at NX
        simp only [tellA]
        go_wp2
        exact ⟨⟨n+1,by omega,by go_num,B6.out,by rw [NX.out,List.append_nil]; exact O6.out⟩,by simp [intOf]; omega⟩
       | some t =>
        rw [ht] at NX
        simp only [tellA]
        go_wp2_with (at_builtin; refine wpList_append_own_at _ rfl (.tmp 56) (.tmp 58) 47 rfl w5.heap.size 9 i0 (.string ⟨#[]⟩) 1 16 Tryz.underlying47 hi0 hz0 hz1 hz2 rfl (by decide) _ G.length (scells G) rfl (O6.out.alloc _) ⟨w6.heap.size,0,none⟩ 1 1 (scells [bs t]) rfl ?c1 ?c2 (scells_one _) ?c3 ?c4 ?c5 ?_)
        case c1=>rfl
        case c2 =>
         intro j u hj
         cases j with
         | zero=>simp [scells] at hj; subst hj; first | rfl | exact cell_new (by simp) _ _
         | succ j=>simp [scells] at hj
        case c3=>unfold maxLen; omega
        case c4=>omega
        case c5=>first | omega | (simp; omega)
        intro v' w' ho hg' _ _
        have ho':w'.ownsRow w5.heap.size 9 1 v' (G++[bs t]).length (scells (G++[bs t])):=by rw [scells_append,List.length_append]; exact ho
        have hb':Below w5.heap.size w5 w':=(B6.out.alloc hs6 _).grown hg' (by simp; omega) (fun k e=>(own_lt O6.out k e).1)
        replace ho':=hide ho'
        replace hb':=hide hb'
        clear ho hg'
        go_wp2
        exact ⟨⟨n+1,by omega,by go_num,hb'.out,by rw [NX.out]; exact ho'.out⟩,by simp [intOf]; omega⟩
      ·obtain rfl:n=Es.length:=by omega
       have hni:¬ (Es.length:Int) < (Es.length:Int):=by omega
       rw [List.take_length] at On ⊢
       have CT:=told_any (H5.out.below Bn) (k:Int) (by rw [HTT.out]; omega)
       rw [HTT.out] at CT
       have C:=hide CT
       have On1:=hide On
       have Bn1:=hide Bn
       generalize hG:gotL b Es=G at *
       clear CT On Bn O5 V5 A5
       go_upto_region 17 with (go_at_call 20; refine C.out.mono ?_; rintro e w7 ⟨v7,rfl,o7,b7⟩; obtain ⟨av7,cap7,rfl⟩:=own_shape o7)
       have O7:=hide (reads_own o7)
       have B7:=hide (Bn1.out.trans (b7.mono Bn1.out.size))
       have R7:=hide (reads_own (wown_at On1.out b7))
       have hs7:=B7.out.size
       clear C o7 b7 Bn1 On1
       generalize wr=wy at *
       clear wr
       go_loopw [65,13] (fun i v wr=>∃ n:Nat,n≤Ts.length∧i=.int .i64 (n:Int)∧Below w7.heap.size w7 wr∧wr.ownsRow w7.heap.size 9 1 v (saidL (Ts.take n)).length (scells (saidL (Ts.take n)))) (fun i _ _=>Ts.length - (intOf i).toNat)
       case atStart=>exact ⟨0,by omega,rfl,Below.refl _ _,World.ownsRow_nil _ _ _ _⟩
       case round =>
        obtain ⟨m,hm,rfl,Bm,Om⟩:=hrel
        obtain ⟨avm,capm,rfl⟩:=own_shape Om
        by_cases hlt:m < Ts.length
        ·have hmi:(m:Int) < (Ts.length:Int):=by omega
         obtain ⟨t,hT⟩:∃ t,Ts[m]?=some t:=⟨_,List.getElem?_eq_getElem hlt⟩
         obtain ⟨av8,cap8,ev,_,_,_,hc8⟩:=O7.out.below Bm (Nat.le_refl _)
         injection ev with ev1 ev2 ev3
         subst ev1 ev3
         obtain ⟨b8,off8,rfl,hcell⟩:=hc8 (by omega)
         have c8:=hcell m hlt
         have hTT':Ts[m]=t:=by rw [List.getElem?_eq_getElem hlt] at hT; exact Option.some.inj hT
         rw [hTT'] at c8
         have NX:=hide (said_next Ts hT)
         have hgl:=said_len (Ts.take m)
         rw [List.length_take] at hgl
         have B:=hide Bm
         have O:=hide Om
         have hs8:=Bm.size
         have CO:=hide (own_any t wr)
         clear Bm Om hcell hc8 hTT' hT
         generalize saidL (Ts.take m)=A at *
         cases ho:ownB t with
         | true =>
          rw [ho] at NX CO
          go_wp2_with fail
          refine CO.out.mono ?_
          rintro e w9 ⟨rfl,hw9⟩
          rw [hw9]
          clear hw9 w9
          go_wp2
          exact ⟨⟨m+1,by omega,by go_num,B.out,by rw [NX.out,if_pos trivial,List.append_nil]; exact O.out⟩,by simp [intOf]; omega⟩
         | false =>
          rw [ho] at NX CO
          go_wp2_with fail
          refine CO.out.mono ?_
          rintro e w9 ⟨rfl,hw9⟩
          rw [hw9]
          clear hw9 w9
          go_wp2_with (at_builtin; refine wpList_append_own_at _ rfl (.tmp 72) (.tmp 74) 47 rfl w7.heap.size 9 i0 (.string ⟨#[]⟩) 1 16 Tryz.underlying47 hi0 hz0 hz1 hz2 rfl (by decide) _ A.length (scells A) rfl (O.out.alloc _) ⟨wr.heap.size,0,none⟩ 1 1 (scells [t]) rfl ?c1 ?c2 (scells_one _) ?c3 ?c4 ?c5 ?_)
          case c1=>rfl
          case c2 =>
           intro j u hj
           cases j with
           | zero=>simp [scells] at hj; subst hj; first | rfl | exact cell_new (by simp) _ _
           | succ j=>simp [scells] at hj
          case c3=>unfold maxLen; omega
          case c4=>omega
          case c5=>first | omega | (simp; omega)
          intro v' w' ho2 hg' _ _
          have ho':w'.ownsRow w7.heap.size 9 1 v' (A++[t]).length (scells (A++[t])):=by rw [scells_append,List.length_append]; exact ho2
          have hb':Below w7.heap.size w7 w':=(B.out.alloc hs8 _).grown hg' (by simp; omega) (fun k e=>(own_lt O.out k e).1)
          replace ho':=hide ho'
          replace hb':=hide hb'
          clear ho2 hg'
          go_wp2
          exact ⟨⟨m+1,by omega,by go_num,hb'.out,by rw [NX.out,if_neg (by simp)]; exact ho'.out⟩,by simp [intOf]; omega⟩
        ·obtain rfl:m=Ts.length:=by omega
         have hmi:¬ (Ts.length:Int) < (Ts.length:Int):=by omega
         rw [List.take_length] at Om ⊢
         have CO:=sametexts_any G (saidL Ts) _ _ wr (R7.out.below Bm (Nat.le_refl _)) (reads_own Om)
         rw [decide_eq_true LE.out] at CO
         have C:=hide CO
         have B:=hide (B7.out.trans (Bm.mono B7.out.size))
         generalize saidL Ts=A at *
         clear CO Bm Om O7 R7 B7
         go_wp2_with fail
         refine C.out.mono ?_
         rintro e w9 ⟨rfl,nn,rfl⟩
         have BD:=below_drewN B.out nn
         have HZ:=hide (H5.out.below BD)
         have CZ:=hide ((BD.block _ hgr5).trans C5.out)
         clear C B BD
         go_wp2
         exact ⟨⟨k+1,by omega,by go_num,HZ.out,CZ.out⟩,by simp [intOf]; omega⟩
    ·have h2b:(st.1 != 2)=false:=by simp [h2]
     have hfb:(f k != st.2)=true:=by simp [hf]
     clear LW h2 hf
     go_wp2
     exact ⟨⟨k+1,by omega,by go_num,H4.out,C4.out⟩,by simp [intOf]; omega⟩
   ·have h2b:(st.1 != 2)=true:=by simp [h2]
    clear LW h2
    go_wp2
    exact ⟨⟨k+1,by omega,by go_num,H4.out,C4.out⟩,by simp [intOf]; omega⟩
  ·obtain rfl:k=4:=by omega
   have KH:=hide Hk
   have KC:=hide Ck
   clear Hk Ck
   go_wp2
   go_ret
   refine ⟨rfl,KH.out,?_⟩
   rw [KC.out]
   congr 2
open Go.RowKit
theorem acts_lt {done:List Ac} (h:done.length < 150):(runM newM done).acts < 400:=by
 have h1:=run_acts done newM
 have h2:newM.acts=0:=rfl
 omega
theorem Tryz.zInts4:(Tryz.prog.info? 69).map (fun i=>(i.zero,i.size))=some (some (.agg (i4 fun _=>0)),4):=by kernel_rfl
open Go.RowKit
theorem hrd_enter (args:Array Value) (w:World):(callFunc 34 args).run Tryz.prog w=.ok (.enter 34 args) w:=by kernel_rfl
def beF (M:Hm) (i:Nat):Int:=(stateOf (seatAt M i)).2
theorem be_new (i:Nat):beF newM i=-1:=by
 unfold beF seatAt
 split <;> rfl
theorem state_some {o:Option Se} {b:Int} (h:(stateOf o).1=2):∃ S,o=some S∧plays S=true∧(stateOf o).2=S.being:=by
 cases o with
 | none=>exact absurd h (show ¬ (0:Int)=2 by decide)
 | some S =>
  simp only [stateOf] at h ⊢
  by_cases hp:plays S=true
  ·exact ⟨S,rfl,hp,by rw [if_pos hp]⟩
  ·rw [if_neg hp] at h; exact absurd h (show ¬ (1:Int)=2 by decide)
theorem being_some {o:Option Se} (h:0≤(stateOf o).2):∃ S,o=some S∧plays S=true∧(stateOf o).2=S.being:=by
 cases o with
 | none=>exact absurd h (show ¬ (0:Int)≤-1 by decide)
 | some S =>
  simp only [stateOf] at h ⊢
  by_cases hp:plays S=true
  ·exact ⟨S,rfl,hp,by rw [if_pos hp]⟩
  ·rw [if_neg hp] at h; exact absurd h (show ¬ (0:Int)≤-1 by decide)
theorem seat_nat (M:Hm) {i:Nat} (h:i < 4):seatAt M (i:Int)=M.seat i:=by unfold seatAt; rw [if_pos (by omega),Int.toNat_natCast]
theorem hrd_law {M:Hm} (h:Iv 1000 M) (hs:St M) (ha:M.acts < 400) (a:Ac) {i:Nat} (hi:i < 4) (h2:(stateOf (seatAt (doM M a).1 i)).1=2) (hf:beF M i=(stateOf (seatAt (doM M a).1 i)).2) :
 gotL (stateOf (seatAt (doM M a).1 i)).2 (doM M a).1.last=saidL (toldOf (seatAt (doM M a).1 i)):=by
 obtain ⟨S,e1,hp,e2⟩:=state_some (b:=0) h2
 have hS:(doM M a).1.seat i=some S:=by rw [← seat_nat _ hi]; exact e1
 obtain ⟨b,hb,hb2,hb6,_⟩:=(h.does a).play i S hi hS hp
 rw [e2] at hf ⊢
 obtain ⟨S0,f1,hp0,f2⟩:=being_some (o:=seatAt M i) (by show 0≤beF M i; rw [hf,hb]; omega)
 have hS0:M.seat i=some S0:=by rw [← seat_nat _ hi]; exact f1
 have hb0:S0.being=S.being:=by rw [← f2]; exact hf
 rw [e1]
 exact (do_heard h hs ha a hi hS0 (b:=S.being) (by omega) hb0 hS).symm
theorem heardW {v:Value} {l:List Ac} {w:World} (hvb:Vb w) (hai:Ai w) (hl:Rac w v l) (hsz:∀ a ∈ l,a.bytes.size≤140737488351232) :
 Calls Tryz.prog 6 #[v] w fun e w'=>e=.returned (.bool true)∧Below w.heap.size w w':=by
 have hz:=(zero_of_info Tryz.zInts4).1
 have B0:=below_box w (.cells (i4 fun _=>0) 69)
 have P:Hid (∀ w1:World,Below w.heap.size w w1→w1.heap[w.heap.size]?=some (.cells (i4 fun _=>-1) 69 (0,0))→Calls Tryz.prog 25 #[v,.func (.func 34) #[] #[.pointer (some ⟨w.heap.size,0,none⟩)]] w1 fun e w'=>∃ hb,e=.returned (.tuple #[.pointer (some ⟨hb,0,none⟩),.bool true])∧Below w.heap.size w w'):=hide (fun w1 hb1 hc1=>by
  have hlt1:w.heap.size < w1.heap.size:=(Array.getElem?_eq_some_iff.1 hc1).1
  exact (play_any hvb hai hl hsz 34 #[.pointer (some ⟨w.heap.size,0,none⟩)] (fun _ done lab W=>lab w.heap.size=9∧W.heap[w.heap.size]?=some (.cells (i4 (beF (runM newM done))) 69 (0,0))) hb1 hrd_enter
   (fun hb w' hh hB hH=>by
    refine ⟨if_neg (by omega),((hB.block _ hlt1).trans hc1).trans ?_⟩
    rw [i4_congr fun i _=>(be_new i).symm]; rfl)
   (fun hb done lab lab' W W' hJ ho hG=>by
    have hlt:=(Array.getElem?_eq_some_iff.1 hJ.2).1
    exact ⟨(hG.old _ hlt).trans hJ.1,(hG.same _ hlt (.inr hJ.1)).trans hJ.2⟩)
   (fun hb done a lab W hlen hsz H hJ=>by
    obtain ⟨iv,_⟩:=run_iv done iv_new (by decide)
    have st:=run_st done iv_new st_new
    have iv2:=iv.does a
    have hac:=acts_lt hlen
    rw [run_snoc] at H ⊢
    exact (heardC hvb hai H hJ.1 hJ.2 a _ _ (do_allm iv hac a) iv2.sv.last (fun i hi=>by
     rw [seat_nat _ hi]
     cases hS:(doM (runM newM done) a).1.seat i with
     | none=>exact Nat.zero_le _
     | some S=>exact (iv2.sv.seat i S hi hS).2) (fun i hi h2 hf=>hrd_law iv st hac a hi h2 hf)).mono fun e W' ⟨he,h1,h2⟩=>⟨he,lab,h1,hJ.1,h2⟩)).mono fun e w' ⟨hb,lab,he,_,H,_⟩=>⟨hb,he,H.low⟩)
 have C0:=hide (heap_alloc_new w (.cells (i4 fun _=>0) 69))
 have HB0:=hide B0
 obtain ⟨av,cap,rfl,_⟩:=hl
 clear hvb hai hsz B0
 unfold i4 at hz
 go_enter Tryz.func6,Tryz.ntmps6
 go_upto_region 3 with fail
 change Code.wp _ _ _ _ (w.alloc (.cells (i4 fun _=>0) 69))
 generalize w.alloc (.cells (i4 fun _=>0) 69)=w1 at *
 go_loopw [7] (fun i wr=>∃ k:Nat,k≤4∧i=.int .i64 (k:Int)∧Below w.heap.size w wr∧wr.heap[w.heap.size]?=some (.cells (i4 fun j=>if j < k then -1 else 0) 69 (0,0))) (fun i _=>4 - (intOf i).toNat)
 case atStart=>exact ⟨0,by omega,rfl,HB0.out,C0.out⟩
 case round =>
  obtain ⟨k,hk,rfl,Bk,Ck⟩:=hrel
  clear HB0 C0
  have B:=hide Bk
  have C:=hide Ck
  clear Bk Ck
  by_cases hk4:k < 4
  ·have hki:(k:Int) < 4:=by omega
   go_wp2_with (refine wl_over1 3 (.tmp 11) _ rfl rfl w.heap.size k (.int .i64 (-1)) _ _ 69 rfl rfl C.out (by show k < 4; omega) Tryz.sizeInt rfl (i4_set _ hk4 _) ?_; intro W1 g1 u1)
   refine ⟨⟨k+1,by omega,by go_num,Upd.below B.out u1 (Nat.le_refl _),?_⟩,by simp [intOf]; omega⟩
   rw [g1]
   congr 2
   refine i4_congr fun j hj=>?_
   by_cases e:j=k
   ·rw [if_pos e,if_pos (by omega)]
   ·rw [if_neg e]
    by_cases e2:j < k
    ·rw [if_pos e2,if_pos (by omega)]
    ·rw [if_neg e2,if_neg (by omega)]
  ·obtain rfl:k=4:=by omega
   have PP:=hide (P.out wr B.out (by rw [C.out]; rfl))
   clear P B C
   go_wp2_with fail
   refine PP.out.mono ?_
   rintro e w2 ⟨hb,rfl,B2⟩
   have B:=hide B2
   clear PP B2
   go_wp2
   go_ret
   exact ⟨rfl,B.out⟩
end Go.Proofs.YtncgcejlkmoliaaGreatDoor.Ho
namespace Go.Proofs.YtncgcejlkmoliaaGreatDoor.topHeard
open Go.ChangeShapes Go.WideShapes Go.ChangeAt Go.RowKit
theorem c_place:(Rows.topHeardRow.inPlace==Tryz.prog.inPlace 6)=true:=by kernel_rfl
theorem c_unf:(Rows.topHeardRow.unfollowed==Tryz.prog.unfollowed 6)=true:=by kernel_rfl
theorem c_rec:(Rows.topHeardRow.recurses==Tryz.prog.recurses 6)=true:=by kernel_rfl
theorem c_named:(Rows.topHeardRow.named==Tryz.prog.varsNamed 6)=true:=by kernel_rfl
theorem c_tie:namedTie Tryz.prog Rows.topHeardRow.named Rows.topHeardSpec.vars=true:=by kernel_rfl
theorem c_enter:Tryz.prog.mayEnter=true:=by kernel_rfl
theorem c_lift:(Rows.topHeardRow.lifted==Tryz.prog.liftsFinal)=true:=by kernel_rfl
theorem c_heard:Tryz.prog.stopsHeard=true:=by kernel_rfl
theorem closed:joinedFacts Tryz.prog 6 Tryz.f6 Rows.topHeardSpec Rows.topHeardRow=true:=by
 unfold joinedFacts
 rw [c_place,c_unf,c_rec,c_named,c_tie,c_enter,c_lift,c_heard,Tryz.laidOut]
 kernel_rfl
end Go.Proofs.YtncgcejlkmoliaaGreatDoor.topHeard
