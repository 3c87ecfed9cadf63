import Derived.Test.YtncgcejlkmoliaaGreatDoorMh00
import Derived.Test.YtncgcejlkmoliaaGreatDoorMh01
import Derived.Test.YtncgcejlkmoliaaGreatDoorMh02
import Derived.Test.YtncgcejlkmoliaaGreatDoorMh03
import Derived.Test.YtncgcejlkmoliaaGreatDoorMh04
import Derived.Test.YtncgcejlkmoliaaGreatDoorMh05
import Derived.Test.YtncgcejlkmoliaaGreatDoorMh06
import Derived.Test.YtncgcejlkmoliaaGreatDoorMh07
import Derived.Test.YtncgcejlkmoliaaGreatDoorMh08
import Derived.Test.YtncgcejlkmoliaaGreatDoorMh09
import Derived.Test.YtncgcejlkmoliaaGreatDoorMh10
import Derived.Test.YtncgcejlkmoliaaGreatDoorMh11
import Derived.Test.YtncgcejlkmoliaaGreatDoorMh12
import Derived.Test.YtncgcejlkmoliaaGreatDoorMh13
import Derived.Test.YtncgcejlkmoliaaGreatDoorMh14
import Derived.Test.YtncgcejlkmoliaaGreatDoorMh15
import Derived.Test.YtncgcejlkmoliaaGreatDoorMh16
import Derived.Test.YtncgcejlkmoliaaGreatDoorMh17
import Derived.Test.YtncgcejlkmoliaaGreatDoorMh18
import Derived.Test.YtncgcejlkmoliaaGreatDoorMh19
import Derived.Test.YtncgcejlkmoliaaGreatDoorMh20
import Derived.Test.YtncgcejlkmoliaaGreatDoorMh21
import Derived.Test.YtncgcejlkmoliaaGreatDoorMh22
import Derived.Test.YtncgcejlkmoliaaGreatDoorMh46
import Derived.Test.YtncgcejlkmoliaaGreatDoorMh23
import Derived.Test.YtncgcejlkmoliaaGreatDoorMk24
import Derived.Test.YtncgcejlkmoliaaGreatDoorMk25
import Derived.Test.YtncgcejlkmoliaaGreatDoorMh26
import Derived.Test.YtncgcejlkmoliaaGreatDoorMk27
import Derived.Test.YtncgcejlkmoliaaGreatDoorMh28
import Derived.Test.YtncgcejlkmoliaaGreatDoorMk29
import Derived.Test.YtncgcejlkmoliaaGreatDoorMk30
import Derived.Test.YtncgcejlkmoliaaGreatDoorMk31
import Derived.Test.YtncgcejlkmoliaaGreatDoorMk32
import Derived.Test.YtncgcejlkmoliaaGreatDoorMk33
import Derived.Test.YtncgcejlkmoliaaGreatDoorMk34
import Derived.Test.YtncgcejlkmoliaaGreatDoorMk35
import Derived.Test.YtncgcejlkmoliaaGreatDoorMh45
import Derived.Test.YtncgcejlkmoliaaGreatDoorMh36
import Derived.Test.YtncgcejlkmoliaaGreatDoorMh37
import Derived.Test.YtncgcejlkmoliaaGreatDoorMh38
import Derived.Test.YtncgcejlkmoliaaGreatDoorMk39
import Derived.Test.YtncgcejlkmoliaaGreatDoorMk40
import Derived.Test.YtncgcejlkmoliaaGreatDoorMk41
import Derived.Test.YtncgcejlkmoliaaGreatDoorMk42
import Derived.Test.YtncgcejlkmoliaaGreatDoorMk43
import Derived.Test.YtncgcejlkmoliaaGreatDoorMk44
import Derived.Test.YtncgcejlkmoliaaGreatDoorRows
import Derived.Test.YtncgcejlkmoliaaGreatDoorMk47
set_option linter.unusedVariables false
set_option maxRecDepth 100000
set_option maxHeartbeats 16000000
namespace Go.Proofs.YtncgcejlkmoliaaGreatDoor
open Go.RowKit
theorem good_room {L:Ld} (hg:goodL L=true) {i:Int} (hi:amg i 9=true):0≤(roomL L i).1∧(roomL L i).1 < 6:=by
 have hlt:=(last_lt L (way_pos L hi)).1
 have ht:=good_T hg (lastW L i) hlt
 have hi9:=amg_pos hi
 have h2:L.wh (lastW L i) ≠ 2:=by
  have:=good_T hg i.toNat (by omega)
  unfold goodT at this
  rw [show ((i.toNat:Nat):Int)=i by omega] at this
  simp only [Bool.and_eq_true,Bool.not_eq_true',beq_eq_false_iff_ne] at this
  exact this.2
 unfold goodT gplace at ht
 simp only [Bool.and_eq_true] at ht
 have hp:=ht.1.2
 unfold roomL
 rw [if_neg (way_pos L hi)]
 by_cases h0:L.wh (lastW L i)=0
 ·rw [if_pos h0] at hp ⊢
  exact amg_pos hp
 ·rw [if_neg h0] at hp ⊢
  by_cases h1:L.wh (lastW L i)=1
  ·rw [if_pos h1] at hp
   simp only [Bool.and_eq_true] at hp
   rw [if_pos ⟨h1,hp.1⟩]
   have hl:=amg_pos hp.1
   have hb:=good_B hg (L.loc (lastW L i)).toNat (by omega)
   unfold goodB gbeing at hb
   by_cases hc:amg (L.room (L.loc (lastW L i)).toNat) 6=false∨L.health (L.loc (lastW L i)).toNat < 0∨10 < L.health (L.loc (lastW L i)).toNat∨L.here (L.loc (lastW L i)).toNat ≠ decide (0 < L.health (L.loc (lastW L i)).toNat)
   ·rw [if_pos hc] at hb; simp at hb
   ·have:amg (L.room (L.loc (lastW L i)).toNat) 6=true:=by
     cases hx:amg (L.room (L.loc (lastW L i)).toNat) 6 with
     | true=>rfl
     | false=>exact absurd (.inl hx) hc
    exact amg_pos this
  ·rw [if_neg h1] at hp
   have:(L.wh (lastW L i)==2)=false:=by simp [h2]
   rw [this] at hp
   simp at hp
end Go.Proofs.YtncgcejlkmoliaaGreatDoor
namespace Go.Proofs.YtncgcejlkmoliaaGreatDoor.Ho
open Go.RowKit
def Qt (M:Hm) (b:Nat) (O:Od):Prop:=O.verb=20→∀ j S,j < 4→M.seat j=some S→S.being ≠ (b:Int)
structure Clq (Q:Hm→Prop):Prop where
 order:∀ (M:Hm) (b:Nat) (O:Od),goodL M.L=true→Nm M.L→b < 6→M.L.here b=true→OdT O→Qt M b O→Q M→Q (hapM M (actL M.L b O) (actE M.L b O))
 gone:∀ (M:Hm) (i:Nat) (S:Se),i < 4→M.seat i=some S→Q M→Q (M.put i none)
structure Clf (Q:Hm→Prop):Prop extends Clq Q where
 flow:∀ (M:Hm) (i:Nat) (S:Se),i < 4→M.seat i=some S→SeOk S→Q M→Q (M.put i (some (flowS S)))
structure Clo (Q:Hm→Prop):Prop extends Clq Q where
 round:∀ (M:Hm) (n:Nat),goodL M.L=true→Nm M.L→Q M→Q (hapM M (roundK M.L n 6).1 (roundK M.L n 6).2)
 own:∀ (M:Hm) (i:Nat) (S:Se) (s:ByteArray),i < 4→M.seat i=some S→s=whatT∨(plays S=false∧(s=noRoomT∨s=noNameT))→Q M→Q (M.put i (some (tellS S s)))
 pop:∀ (M:Hm) (i:Nat) (S:Se) (f:ByteArray) (r:List ByteArray),i < 4→M.seat i=some S→S.lin.q=f::r→Q M→Q (M.put i (some (popS S r)))
 enter:∀ (M:Hm) (i:Nat) (S:Se) (nm:ByteArray) (k:Nat),i < 4→M.seat i=some S→plays S=false→goodL M.L=true→Nm M.L→NameT nm→2≤k→k < 6→M.L.here k=false→Q M →
  Q (hapM (M.put i (some { S with being:=(k:Int) })) (entL M.L nm k) (beginE (entL M.L nm k) k))
section
variable {Q:Hm→Prop} {N:Nat} {M:Hm}
theorem Clq.leaves (c:Clq Q) (h:Iv N M) {i:Nat} (hi:i < 4) (hQ:Q M):Q (leaveM M i):=by
 unfold leaveM
 cases hS:M.seat i with
 | none=>exact hQ
 | some S =>
  simp only
  have h1:=c.gone M i S hi hS hQ
  split
  ·rename_i hp
   obtain ⟨b,hb,h2,h6,hh⟩:=h.play i S hi hS hp
   rw [hb,order_eq (M:=M.put i none) h.good h6 hh (by decide) (by decide)]
   refine c.order (M.put i none) b quitO h.good h.nm h6 hh odt_quit (fun _ j T hj hT e=>?_) h1
   simp only [Hm.put] at hT
   by_cases ej:j=i
   ·rw [if_pos ej] at hT; cases hT
   ·rw [if_neg ej] at hT
    exact ej (h.one i j S T hi hj hS hT hp (hb.trans e.symm)).symm
  ·exact h1
theorem Clo.enters (c:Clo Q) (h:Iv N M) {i:Nat} (hi:i < 4) {S:Se} (hS:M.seat i=some S) (hp:plays S=false) (nm:ByteArray) (hQ:Q M):Q (enterM M i S nm):=by
 unfold enterM
 by_cases hb0:bars M.L nm=0
 ·rw [if_pos hb0]
  obtain ⟨hg,hn,ht,k,hv,h2,h6,hh⟩:=bars_nil hb0
  rw [hv]
  simp only [Int.toNat_natCast]
  exact c.enter M i S nm k hi hS hp h.good h.nm (named_T hn) h2 h6 hh hQ
 ·rw [if_neg hb0]
  split
  ·exact c.own M i S _ hi hS (.inr ⟨hp,.inl rfl⟩) hQ
  ·exact c.own M i S _ hi hS (.inr ⟨hp,.inr rfl⟩) hQ
theorem Clo.obeys (c:Clo Q) (h:Iv N M) {i:Nat} (hi:i < 4) {S:Se} (hS:M.seat i=some S) (hp:plays S=true) {l:List UInt8} (hl:l.length≤60) (hv:∀ c ∈ l,Li.vis c=true) (hQ:Q M):Q (obeyM M i S l):=by
 unfold obeyM
 split
 ·exact c.own M i S _ hi hS (.inl rfl) hQ
 ·split
  ·exact c.toClq.leaves h hi hQ
  ·rename_i hq
   obtain ⟨b,hb,h2,h6,hh⟩:=h.play i S hi hS hp
   have hO:=parse_odt hl hv
   rw [hb,order_eq h.good h6 hh hO.v0 hO.v1]
   exact c.order M b _ h.good h.nm h6 hh hO (fun e=>absurd (show (parseL l).1.verb=20 by
    have e2:(((parseL l).1.verb:Nat):Int)=20:=e
    omega) hq) hQ
theorem Clo.turn (c:Clo Q) (h:Iv N M) {i:Nat} (hi:i < 4) (hQ:Q M):Q (turnM M i):=by
 unfold turnM
 split
 ·exact hQ
 ·rename_i S hS
  have hSo:=h.sv.seat i S hi hS
  split
  ·exact hQ
  ·rename_i f r hq
   have h1:Iv N (M.put i (some (popS S r))):=h.put (S':=popS S r) hi hS rfl (hSo.1.pop hq) (Nat.le_refl _) hSo.2
   have q1:=c.pop M i S f r hi hS hq hQ
   split
   ·exact q1
   ·split
    ·rename_i hp
     have hl:=line_ok hSo.1 hq
     exact c.obeys h1 hi (put_seat ..) hp hl.1 hl.2 q1
    ·rename_i hp
     exact c.enters h1 hi (put_seat ..) (by
      have:plays (popS S r)=plays S:=rfl
      rw [this]; simpa using hp) _ q1
theorem Clo.turns (c:Clo Q) (h:Iv N M) (hQ:Q M):∀ k,k≤4→Q (turnsM M k):=by
 intro k
 induction k with
 | zero=>intro _; exact hQ
 | succ k ih=>intro hk; exact c.turn (h.turns k (by omega)) (by omega) (ih (by omega))
theorem Clo.pulse (c:Clo Q) (h:Iv N M) (n:Int) (hQ:Q M):Q (pulseM M n):=by
 have h1:=h.turns 4 (Nat.le_refl _)
 exact c.round _ _ h1.good h1.nm (c.turns h hQ 4 (Nat.le_refl _))
theorem Clf.cuts (c:Clf Q) (h:Iv N M) {i:Nat} (hi:i < 4) (hQ:Q M):Q (cutsM M i).1:=by
 unfold cutsM
 split
 ·exact hQ
 ·rename_i S hS
  have hSo:=h.sv.seat i S hi hS
  have h1:Iv N (M.put i (some (flowS S))):=h.put (S':=flowS S) hi hS rfl hSo.1.flow (Nat.le_refl _) hSo.2
  have q1:=c.flow M i S hi hS hSo.1 hQ
  split
  ·exact c.toClq.leaves h1 hi q1
  ·exact q1
theorem Clf.cutK (c:Clf Q) (h:Iv N M) (hQ:Q M):∀ k,k≤4→Q (Ho.cutK M k).1:=by
 intro k
 induction k with
 | zero=>intro _; exact hQ
 | succ k ih =>
  intro hk
  obtain ⟨N1,h1,_⟩:=h.cutK k (by omega)
  exact c.cuts h1 (by omega) (ih (by omega))
theorem Clf.flows (c:Clf Q) (h:Iv N M) (hQ:Q M):Q (flowM M):=by
 have:∀ n {N:Nat} {M:Hm},Iv N M→Q M→Q (flowN n M):=by
  intro n
  induction n with
  | zero=>intro N M _ hQ; exact hQ
  | succ n ih =>
   intro N M h hQ
   obtain ⟨N1,h1,_⟩:=h.cutK 4 (Nat.le_refl _)
   unfold flowN
   split
   ·exact ih h1 (c.cutK h hQ 4 (Nat.le_refl _))
   ·exact c.cutK h hQ 4 (Nat.le_refl _)
 exact this 5 h hQ
end
open Go.RowKit
def Thg (M:Hm):Prop:=M.L.tname=nl.tname∧M.L.kind=nl.kind
theorem hap_L (M:Hm) (X:Ld) (Es:List Ev):(hapM M X Es).L=X:=by rw [hap_eq]
theorem thg_clq:Clq Thg where
 order:=fun M b O hg hN hb hh hO _ h=>by
  have:=act_kp hg hb hh O hO.v0 hO.v1
  unfold Thg
  rw [hap_L,this.tname,this.kind]; exact h
 gone:=fun M i S hi hS h=>h
theorem thg_clf:Clf Thg where
 toClq:=thg_clq
 flow:=fun M i S hi hS hk h=>h
theorem thg_clo:Clo Thg where
 toClq:=thg_clq
 round:=fun M n hg hN h=>by
  have:=(round_good hg n 6 (Nat.le_refl _)).2
  unfold Thg
  rw [hap_L,this.tname,this.kind]; exact h
 own:=fun M i S s hi hS hs h=>h
 pop:=fun M i S f r hi hS hq h=>h
 enter:=fun M i S nm k hi hS hp hg hN hn h2 h6 hh h=>by
  unfold Thg
  rw [hap_L]; exact h
theorem do_clo {Q:Hm→Prop} (c:Clo Q) (c2:Clf Q) (hput:∀ (M:Hm) i S T,M.seat i=some S→T.being=S.being→Q M→Q (M.put i (some T))) {M:Hm} (h:Iv 1000 M) (ha:M.acts < 400) (a:Ac) (hQ:Q { forgetM M with acts:=M.acts+1 })
 (hcome:∀ i,M.seat i=none→Q (({ forgetM M with acts:=M.acts+1 }:Hm).put i (some newS))):Q (doM M a).1:=by
 unfold doM
 rw [if_neg (by omega)]
 have hI1:=h.forget (M.acts+1)
 have hr0:refusedM (forgetM M) a=refusedM { forgetM M with acts:=M.acts+1 } a:=rfl
 have hs0:∀ i,({ forgetM M with acts:=M.acts+1 }:Hm).seat i=none→M.seat i=none:=fun i e=>by
  have e':(M.seat i).map (fun S=>({ S with told:=[] }:Se))=none:=e
  simpa using e'
 rw [hr0]
 generalize ({ forgetM M with acts:=M.acts+1 }:Hm)=M1 at *
 by_cases hr:refusedM M1 a=0
 ·rw [if_pos hr]
  refine c2.flows (hI1.act hr) ?_
  have hr2:=hr
  unfold refusedM at hr2
  by_cases hk:a.kind < 1∨5 < a.kind
  ·rw [if_pos hk] at hr2; omega
  rw [if_neg hk] at hr2
  unfold actM
  by_cases h5:a.kind=5
  ·rw [if_pos h5]; exact c.pulse hI1 _ hQ
  rw [if_neg h5] at hr2 ⊢
  by_cases hq:a.seat < 0∨3 < a.seat
  ·rw [if_pos hq] at hr2; omega
  rw [if_neg hq] at hr2
  have hn:(M1.seat a.seat.toNat).isNone=decide (a.kind=1):=by
   by_cases e:(M1.seat a.seat.toNat).isNone=decide (a.kind=1)
   ·exact e
   ·rw [if_neg e] at hr2; omega
  by_cases h1:a.kind=1
  ·rw [if_pos h1]
   rw [h1] at hn
   exact hcome _ (hs0 _ (by simpa using hn))
  ·rw [if_neg h1]
   cases hS:M1.seat a.seat.toNat with
   | none=>exact hQ
   | some S =>
    simp only
    by_cases h2:a.kind=2
    ·rw [if_pos h2]; exact hput _ _ S _ hS (by unfold feedS; split <;> rfl) hQ
    ·rw [if_neg h2]
     by_cases h3:a.kind=3
     ·rw [if_pos h3]; exact hput _ _ S (Ho.takeS S a.num) hS rfl hQ
     ·rw [if_neg h3]; exact c.toClq.leaves hI1 (by omega) hQ
 ·rw [if_neg hr]; exact hQ
theorem do_thg {M:Hm} (h:Iv 1000 M) (a:Ac) (hQ:Thg M):Thg (doM M a).1:=by
 by_cases ha:M.acts < 400
 ·exact do_clo thg_clo thg_clf (fun _ _ _ _ _ _ h=>h) h ha a hQ (fun _ _=>hQ)
 ·unfold doM; rw [if_pos (by omega)]; exact hQ
theorem thg_new:Thg newM:=⟨rfl,rfl⟩
theorem run_thg (l:List Ac):∀ {M:Hm},Iv 1000 M→Thg M→Thg (runM M l):=by
 induction l with
 | nil=>intro M _ h; exact h
 | cons a r ih=>intro M h1 h2; exact ih (h1.does a) (do_thg h1 a h2)
open Go.RowKit
theorem thingsC {W0:World} {lab:Nat→Nat} {w:World} {hb:Nat} {M:Hm} (H:HoC W0 lab w hb M) (hT:Thg M) (hgd:goodL M.L=true) {g0:Nat} (h0:Cod W0 g0 nl) (a:Ac) (c:Int) (s:ByteArray) :
 Calls Tryz.prog 32 (#[.pointer (some ⟨hb,0,none⟩),.agg a.cells,.agg #[.int .i64 c,.string s]]++#[.pointer (some ⟨g0,0,none⟩)]) w fun e w'=>e=.returned (.bool true)∧Below w.heap.size w w':=by
 have e:(#[.pointer (some ⟨hb,0,none⟩),.agg a.cells,.agg #[.int .i64 c,.string s]]++#[.pointer (some ⟨g0,0,none⟩)]:Array Value)=#[.pointer (some ⟨hb,0,none⟩),.agg a.cells,.agg #[.int .i64 c,.string s],.pointer (some ⟨g0,0,none⟩)]:=by simp
 rw [e]
 clear e
 have hz:=(zero_of_info Tryz.zLand).1
 have B0:=((Below.refl w.heap.size w).alloc (Nat.le_refl _) (.cells a.cells 23)).alloc (by simp) (.cells #[.int .i64 c,.string s] 29)
 have CL:=hide (land_any (H.below B0))
 have K0:=hide (show Cod _ g0 nl from (H.low.block _ h0.lt).trans h0)
 have hg0:g0 < w.heap.size:=K0.out.lt
 have HB:=hide B0
 have HTn:=hide hT.1
 have HTk:=hide hT.2
 have HGD:=hide hgd
 clear H h0 hT B0 hgd
 generalize M.L=L at *
 go_enter Tryz.func32,Tryz.ntmps32
 go_upto_region 3 with (first | (go_at_call 18; refine CL.out.mono ?_; rintro e w1 ⟨rfl,b1⟩) | (refine wl_new 43 (.tmp 8) (.tmp 13) rfl rfl _ _ rfl rfl rfl (by rw [L.size]; exact Tryz.sizeLand) (by rw [L.size,zl.size]) (land_one L) ?_))
 have B1:=HB.out.trans (b1.mono HB.out.size)
 have B2:=B1.alloc B1.size (.cells L.cells 43)
 have KL:=hide (cod_new w1 L)
 have KN:=hide (show Cod (w1.alloc (.cells L.cells 43)) g0 nl from (B2.block _ hg0).trans K0.out)
 have HB2:=hide B2
 clear CL b1 B1 B2 K0 HB
 generalize w1.heap.size=bl at *
 generalize w1.alloc (.cells L.cells 43)=w2 at *
 go_loopw [14] (fun i wr=>∃ k:Nat,k≤9∧i=.int .i64 (k:Int)∧Below w.heap.size w wr∧Cod wr bl L∧Cod wr g0 nl) (fun i _=>9 - (intOf i).toNat)
 case atStart=>exact ⟨0,by omega,rfl,HB2.out,KL.out,KN.out⟩
 case round =>
  obtain ⟨k,hk,rfl,Bk,Ck,Nk⟩:=hrel
  clear HB2 KL KN
  by_cases hk9:k < 9
  ·have hki:(k:Int) < 9:=by omega
   have c0:=Ck.thing k 0 hk9 (by omega)
   have c1:=Ck.thing k 1 hk9 (by omega)
   have n0:=Nk.thing k 0 hk9 (by omega)
   have n1:=Nk.thing k 1 hk9 (by omega)
   simp only [Ld.thingCell,Nat.add_zero] at c0 c1 n0 n1
   rw [HTn.out] at c0
   rw [HTk.out] at c1
   have gr:=good_room HGD.out (i:=(k:Int)) (amg_mk (by omega) (by omega))
   have CR:=hide (fun (w':World)=>room_any L (k:Int) w')
   have B:=hide Bk
   have C:=hide Ck
   have N:=hide Nk
   clear Bk Ck Nk
   generalize roomL L (k:Int)=ro at *
   go_upto_region 5 with fail
   go_quiet (fail)
   have cl:=hide (show Cod (wr.drewN nq) bl L from C.out)
   go_upto_region 8 with (first | (refine wl_land (.tmp 8) rfl rfl _ L rfl cl.out ?_) | (go_at_call 33; refine (CR.out _).mono ?_; rintro e w3 ⟨rfl,b3⟩))
   have b3':Below wr.heap.size wr w3:=(below_drewN (Below.refl wr.heap.size wr) nq).trans b3
   have B3:=hide (B.out.trans (b3'.mono B.out.size))
   have C3:=hide (C.out.behind b3' (Nat.le_refl _))
   have N3:=hide (N.out.behind b3' (Nat.le_refl _))
   have h1:¬ ro.1 < 0:=by omega
   have h2:¬ 6≤ro.1:=by omega
   clear B C N b3 b3' cl
   go_wp2
   exact ⟨⟨k+1,by omega,by go_num,B3.out,C3.out,N3.out⟩,by simp [intOf]; omega⟩
  ·obtain rfl:k=9:=by omega
   have B:=hide Bk
   clear Bk Ck Nk
   go_wp2
   go_ret
   exact ⟨rfl,B.out⟩
open Go.RowKit
theorem thg_enter (args:Array Value) (w:World):(callFunc 32 args).run Tryz.prog w=.ok (.enter 32 args) w:=by kernel_rfl
theorem thingsW {v:Value} {l:List Ac} {w:World} (hvb:Vb w) (hai:Ai w) (hl:Rac w v l) (hsz:∀ a ∈ l,a.bytes.size≤140737488351232) :
 Calls Tryz.prog 5 #[v] w fun e w'=>e=.returned (.bool true)∧Below w.heap.size w w':=by
 have hz:=(zero_of_info Tryz.zLand).1
 have P:Hid (∀ w1:World,Below w.heap.size w w1→Calls Tryz.prog 25 #[v,.func (.func 32) #[] #[.pointer (some ⟨w1.heap.size,0,none⟩)]] (w1.alloc (.cells nl.cells 43)) fun e w'=>∃ hb,e=.returned (.tuple #[.pointer (some ⟨hb,0,none⟩),.bool true])∧Below w.heap.size w w'):=hide (fun (w1:World) (hb1:Below w.heap.size w w1)=>by
  have B1:=hb1.alloc hb1.size (.cells nl.cells 43)
  have K1:=cod_new w1 nl
  have hvb1:=hvb.below B1 (Nat.le_refl _)
  have hai1:=hai.below B1
  have hl1:=hl.below B1
  exact (play_any hvb1 hai1 hl1 hsz 32 #[.pointer (some ⟨w1.heap.size,0,none⟩)] (fun _ _ _ _=>True) (Below.refl _ _) thg_enter (fun _ _ _ _ _=>trivial) (fun _ _ _ _ _ _ _ _ _=>trivial)
   (fun hb done a lab W hlen hsz H hJ=>by
    obtain ⟨iv,_⟩:=run_iv (done++[a]) iv_new (by decide)
    exact (thingsC H (run_thg (done++[a]) iv_new thg_new) iv.good K1 a _ _).mono fun e W' ⟨he,h1⟩=>⟨he,lab,H.below h1,trivial⟩)).mono fun e w' ⟨hb,lab,he,_,H,_⟩=>⟨hb,he,B1.trans (H.low.mono B1.size)⟩)
 obtain ⟨av,cap,rfl,_⟩:=hl
 clear hvb hai hsz
 go_enter Tryz.func5,Tryz.ntmps5
 go_wp2_with (first | (go_at_call 31; refine (new_any _).mono ?_; rintro e w1 ⟨rfl,b1⟩) | (refine wl_new 43 (.tmp 3) (.tmp 6) rfl rfl _ _ rfl rfl rfl (by rw [nl.size]; exact Tryz.sizeLand) (by rw [nl.size,zl.size]) (land_one nl) ?_))
 refine (P.out w1 b1).mono ?_
 rintro e w2 ⟨hb,rfl,B2⟩
 have B:=hide B2
 clear P B2
 go_wp2
 go_ret
 exact ⟨rfl,B.out⟩
end Go.Proofs.YtncgcejlkmoliaaGreatDoor.Ho
namespace Go.Proofs.YtncgcejlkmoliaaGreatDoor.topThings
open Go.ChangeShapes Go.WideShapes Go.ChangeAt Go.RowKit
theorem c_place:(Rows.topThingsRow.inPlace==Tryz.prog.inPlace 5)=true:=by kernel_rfl
theorem c_unf:(Rows.topThingsRow.unfollowed==Tryz.prog.unfollowed 5)=true:=by kernel_rfl
theorem c_rec:(Rows.topThingsRow.recurses==Tryz.prog.recurses 5)=true:=by kernel_rfl
theorem c_named:(Rows.topThingsRow.named==Tryz.prog.varsNamed 5)=true:=by kernel_rfl
theorem c_tie:namedTie Tryz.prog Rows.topThingsRow.named Rows.topThingsSpec.vars=true:=by kernel_rfl
theorem c_enter:Tryz.prog.mayEnter=true:=by kernel_rfl
theorem c_lift:(Rows.topThingsRow.lifted==Tryz.prog.liftsFinal)=true:=by kernel_rfl
theorem c_heard:Tryz.prog.stopsHeard=true:=by kernel_rfl
theorem closed:joinedFacts Tryz.prog 5 Tryz.f5 Rows.topThingsSpec Rows.topThingsRow=true:=by
 unfold joinedFacts
 rw [c_place,c_unf,c_rec,c_named,c_tie,c_enter,c_lift,c_heard,Tryz.laidOut]
 kernel_rfl
end Go.Proofs.YtncgcejlkmoliaaGreatDoor.topThings
