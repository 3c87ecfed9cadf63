import Derived.Test.YtncgcejlkmoliaaGreatDoorMh00
import Derived.Test.YtncgcejlkmoliaaGreatDoorMh01
import Derived.Test.YtncgcejlkmoliaaGreatDoorMh02
import Derived.Test.YtncgcejlkmoliaaGreatDoorMh03
import Derived.Test.YtncgcejlkmoliaaGreatDoorMh04
import Derived.Test.YtncgcejlkmoliaaGreatDoorMh05
import Derived.Test.YtncgcejlkmoliaaGreatDoorMh06
import Derived.Test.YtncgcejlkmoliaaGreatDoorMh07
import Derived.Test.YtncgcejlkmoliaaGreatDoorMh08
import Derived.Test.YtncgcejlkmoliaaGreatDoorMh09
import Derived.Test.YtncgcejlkmoliaaGreatDoorMh10
import Derived.Test.YtncgcejlkmoliaaGreatDoorMh11
import Derived.Test.YtncgcejlkmoliaaGreatDoorMh12
import Derived.Test.YtncgcejlkmoliaaGreatDoorMh13
import Derived.Test.YtncgcejlkmoliaaGreatDoorMh14
import Derived.Test.YtncgcejlkmoliaaGreatDoorMh15
import Derived.Test.YtncgcejlkmoliaaGreatDoorMh16
import Derived.Test.YtncgcejlkmoliaaGreatDoorMh17
import Derived.Test.YtncgcejlkmoliaaGreatDoorMh18
import Derived.Test.YtncgcejlkmoliaaGreatDoorMh19
import Derived.Test.YtncgcejlkmoliaaGreatDoorMh20
import Derived.Test.YtncgcejlkmoliaaGreatDoorMh21
import Derived.Test.YtncgcejlkmoliaaGreatDoorMh22
import Derived.Test.YtncgcejlkmoliaaGreatDoorMh46
import Derived.Test.YtncgcejlkmoliaaGreatDoorMh23
import Derived.Test.YtncgcejlkmoliaaGreatDoorMk24
import Derived.Test.YtncgcejlkmoliaaGreatDoorMk25
import Derived.Test.YtncgcejlkmoliaaGreatDoorMh26
import Derived.Test.YtncgcejlkmoliaaGreatDoorMk27
import Derived.Test.YtncgcejlkmoliaaGreatDoorMh28
import Derived.Test.YtncgcejlkmoliaaGreatDoorMk29
import Derived.Test.YtncgcejlkmoliaaGreatDoorMk30
import Derived.Test.YtncgcejlkmoliaaGreatDoorMk31
import Derived.Test.YtncgcejlkmoliaaGreatDoorMk32
import Derived.Test.YtncgcejlkmoliaaGreatDoorMk33
import Derived.Test.YtncgcejlkmoliaaGreatDoorMk34
import Derived.Test.YtncgcejlkmoliaaGreatDoorMk35
import Derived.Test.YtncgcejlkmoliaaGreatDoorMh45
import Derived.Test.YtncgcejlkmoliaaGreatDoorMh36
import Derived.Test.YtncgcejlkmoliaaGreatDoorMh37
import Derived.Test.YtncgcejlkmoliaaGreatDoorMh38
import Derived.Test.YtncgcejlkmoliaaGreatDoorMk39
import Derived.Test.YtncgcejlkmoliaaGreatDoorMk40
import Derived.Test.YtncgcejlkmoliaaGreatDoorMk41
import Derived.Test.YtncgcejlkmoliaaGreatDoorMk42
import Derived.Test.YtncgcejlkmoliaaGreatDoorMk43
import Derived.Test.YtncgcejlkmoliaaGreatDoorMk44
import Derived.Lib.ItoaLen
set_option linter.unusedVariables false
set_option maxRecDepth 100000
set_option maxHeartbeats 16000000
namespace Go.Proofs.YtncgcejlkmoliaaGreatDoor
open Go.RowKit
def Near (L X:Ld) (b:Nat) (Fs:List Ev):Prop:=∀ E ∈ Fs,EvOk L X b E
theorem Near.nil {L X:Ld} {b:Nat}:Near L X b []:=fun E h=>by simp at h
theorem Near.cons {L X:Ld} {b:Nat} {E:Ev} {Fs:List Ev} (h:EvOk L X b E) (k:Near L X b Fs):Near L X b (E::Fs):=fun F hF=>by
 rcases List.mem_cons.1 hF with rfl | hF
 ·exact h
 ·exact k F hF
theorem Near.app {L X:Ld} {b:Nat} {As Bs:List Ev} (h:Near L X b As) (k:Near L X b Bs):Near L X b (As++Bs):=fun F hF=>by
 rcases List.mem_append.1 hF with hF | hF
 ·exact h F hF
 ·exact k F hF
theorem Near.one {L X:Ld} {b:Nat} {E:Ev} (h:EvOk L X b E):Near L X b [E]:=Near.cons h Near.nil
theorem ok_ev {L X M K:Ld} {b:Nat} (hb:b < 6) (hM:∀ c:Nat,c < 6→c ≠ b→M.room c=L.room c) (hK:K.room b=L.room b∨K.room b=X.room b) (hn:(K.bname b).size≤1048576) (kind dir:Int) (thing text:ByteArray) (h1:thing.size≤50000000) (h2:text.size≤50000000) :
 EvOk L X b (allE M { evN K kind b with dir:=dir,thing:=thing,text:=text }) :=
 ok_all hM rfl hK rfl (by show (K.bname b).size≤_; omega) empty_small h1 h2
theorem near_look {L X M:Ld} {b:Nat} (hb:b < 6) (hf:Fine M) (hM:∀ c:Nat,c < 6→c ≠ b→M.room c=L.room c) (hK:M.room b=L.room b∨M.room b=X.room b):Near L X b (lookE M b):=by
 have hn:=hf.bname b hb
 obtain ⟨r,hr,er⟩:=hf.room b hb
 have ht:∀ s:ByteArray,s.size≤50000000→EvOk L X b (tellE M b s):=fun s h=>ok_tell hb hM hK hn s h
 unfold lookE
 split
 ·refine Near.app (Near.app (Near.cons (ht _ ?_) (Near.one (ht _ ?_))) ?_) ?_
  ·have h1:=hf.rname r hr
   have e1:theS.size=4:=rfl
   have e2:dotT.size=1:=rfl
   rw [er,Int.toNat_natCast,ByteArray.size_append,ByteArray.size_append,e1,e2]; omega
  ·have h1:=ways_size M (M.room b).toNat 6 (Nat.le_refl _)
   have e1:waysS.size=5:=rfl
   rw [ByteArray.size_append,e1]; omega
  ·split
   ·exact Near.nil
   ·refine Near.one (ht _ ?_)
    have hl:=sight_len M b
    have h1:=listed_size hf (fun x (hx:x ∈ sightL M b)=>sight_lt hx) (by omega)
    have e1:hereS.size=7:=rfl
    rw [ByteArray.size_append,e1]; omega
  ·intro E hE
   unfold othersK at hE
   obtain ⟨c,hc,rfl⟩:=List.mem_map.1 hE
   have hc6:c < 6:=by simpa using (List.mem_filter.1 hc).1
   refine ht _ ?_
   have h1:=hf.bname c hc6
   have e1:isHereS.size=9:=rfl
   rw [ByteArray.size_append,e1]; omega
 ·exact Near.one (ht _ (by decide))
theorem near_take {L X:Ld} {b:Nat} (hb:b < 6) (hf:Fine L) (q:List Int) (hq:∀ x ∈ q,∃ i:Nat,x=(i:Int)∧i < 9):Near L X b (takeS L b q).2:=by
 unfold takeS
 have key:∀ (q:List Int) (s:Ld × List Ev),(∀ x ∈ q,∃ i:Nat,x=(i:Int)∧i < 9)→Mv L s.1→Near L X b s.2→Near L X b (q.foldl (gstep b) s).2:=by
  intro q
  induction q with
  | nil=>intro s _ _ h; exact h
  | cons a q ih =>
   intro s hq hm h
   rw [List.foldl_cons]
   obtain ⟨i,rfl,hi⟩:=hq a (List.mem_cons_self ..)
   refine ih _ (fun x hx=>hq x (List.mem_cons_of_mem _ hx)) (hm.move i 1 (b:Int)) ?_
   have hs:=mv_same hm
   refine Near.app h (Near.one (ok_ev (K:=s.1) hb (fun c _ _=>?_) (.inl ?_) ?_ 3 0 _ ⟨#[]⟩ ?_ empty_small))
   ·show s.1.room c=L.room c
    rw [hs.2.2.2.1]
   ·rw [hs.2.2.2.1]
   ·rw [hs.2.2.2.2.2]; exact hf.bname b hb
   ·have h1:=hf.tname i hi
    show (s.1.tname i).size≤50000000
    rw [hs.2.2.2.2.1]; omega
 exact key q (L,[]) hq (Mv.refl L) Near.nil
theorem near_part {L X:Ld} {b:Nat} (hb:b < 6) (hf:Fine L) (O:Od) (wh loc:Int) (E:Ev) (hE:E.actor=(b:Int)∧E.room=L.room b∧E.num=0∧E.who.size≤50000000∧E.whom.size≤50000000∧E.text.size≤50000000):Near L X b (partE L b O wh loc E):=by
 unfold partE
 refine Near.app ?_ ?_
 ·unfold sigE
  split
  ·exact Near.one (ok_tell hb (fun _ _ _=>rfl) (.inl rfl) (hf.bname b hb) _ (by decide))
  ·exact Near.nil
 ·unfold partS
  have key:∀ (q:List Int) (s:Ld × List Ev),(∀ x ∈ q,∃ i:Nat,x=(i:Int)∧i < 9)→Mv L s.1→Near L X b s.2→Near L X b (q.foldl (pstep b wh loc E) s).2:=by
   intro q
   induction q with
   | nil=>intro s _ _ h; exact h
   | cons a q ih =>
    intro s hq hm h
    rw [List.foldl_cons]
    obtain ⟨i,rfl,hi⟩:=hq a (List.mem_cons_self ..)
    have hs:=mv_same hm
    have hM:∀ c:Nat,c < 6→c ≠ b→s.1.room c=L.room c:=fun c _ _=>by rw [hs.2.2.2.1]
    have hB:(s.1.bname b).size≤1048576:=by rw [hs.2.2.2.2.2]; exact hf.bname b hb
    unfold pstep
    by_cases hc:s.1.kind ((i:Int).toNat)=2∧s.1.on ((i:Int).toNat)=true
    ·rw [if_pos hc]
     exact ih _ (fun x hx=>hq x (List.mem_cons_of_mem _ hx)) hm (Near.app h (Near.one (ok_tell hb hM (.inl (by rw [hs.2.2.2.1])) hB _ (by decide))))
    ·rw [if_neg hc]
     by_cases hd:wh=2∧(i:Int) ∈ wayL s.1 loc
     ·rw [if_pos hd]
      exact ih _ (fun x hx=>hq x (List.mem_cons_of_mem _ hx)) hm (Near.app h (Near.one (ok_tell hb hM (.inl (by rw [hs.2.2.2.1])) hB _ (by decide))))
     ·rw [if_neg hd]
      refine ih _ (fun x hx=>hq x (List.mem_cons_of_mem _ hx)) (hm.move i wh loc) (Near.app h (Near.one (ok_all (fun c h6 hn=>?_) hE.1 (.inl hE.2.1) hE.2.2.1 hE.2.2.2.1 hE.2.2.2.2.1 ?_ hE.2.2.2.2.2)))
      ·exact hM c h6 hn
      ·have h1:=hf.tname i hi
       show (s.1.tname i).size≤50000000
       rw [hs.2.2.2.2.1]; omega
  exact key _ (L,[]) (fun x hx=>had_lt hx) (Mv.refl L) Near.nil
theorem near_turn {L X:Ld} {b:Nat} (hb:b < 6) (hf:Fine L) (O:Od) (C:Chg):Near L X b (turnE L b O C):=by
 unfold turnE
 split
 ·exact Near.one (ok_tell hb (fun _ _ _=>rfl) (.inl rfl) (hf.bname b hb) _ (by decide))
 ·rename_i i hi
  obtain ⟨h9,-,-⟩:=turnW_lt hi
  split
  ·exact Near.one (ok_tell hb (fun _ _ _=>rfl) (.inl rfl) (hf.bname b hb) _ (by decide))
  ·have h1:=hf.tname i h9
   refine Near.one (ok_ev (K:=L) hb (fun c _ _=>?_) (.inl rfl) (hf.bname b hb) C.event 0 _ ⟨#[]⟩ (by omega) empty_small)
   split <;> rfl
theorem box_small (L:Ld) (b:Nat) (word:ByteArray):(boxL L b word).2.size≤50000000:=by
 unfold boxL
 repeat' split
 all_goals first | exact empty_small | (show noThingS.size≤_; decide) | (show shutS.size≤_; decide)
theorem act_near {L:Ld} {b:Nat} (hg:goodL L=true) (hf:Fine L) (hb:b < 6) (hh:L.here b=true) (O:Od) (ht:O.text.size≤1048576) (h0:0≤O.verb) (h1:O.verb≤20):Near L (actL L b O) b (actE L b O):=by
 have hn:=hf.bname b hb
 have hT:∀ (X:Ld) (s:ByteArray),s.size≤50000000→EvOk L X b (tellE L b s):=fun X s h=>ok_tell hb (fun _ _ _=>rfl) (.inl rfl) hn s h
 refine act_cases L b O h0 h1 ?_ ?_ ?_ ?_ ?_ ?_ ?_ ?_ ?_ ?_ ?_ ?_ ?_
 ·intro h e1 e2; rw [e2]; exact near_look hb hf (fun _ _ _=>rfl) (.inl rfl)
 ·intro h e1 e2
  rw [e2]
  unfold getAE
  split
  ·refine Near.app ?_ (near_take hb hf _ fun x hx=>sight_lt (meant_mem hx))
   unfold sigE
   split
   ·exact Near.one (hT _ _ (by decide))
   ·exact Near.nil
  ·unfold getBE
   split
   ·refine Near.one (hT _ _ ?_)
    exact box_small L b O.second
   ·refine Near.app ?_ (near_take hb hf _ fun x hx=>has_lt (meant_mem hx))
    unfold sigE
    split
    ·exact Near.one (hT _ _ (by decide))
    ·exact Near.nil
 ·intro h e1 e2; rw [e2]; exact near_part hb hf O 0 (L.room b) _ ⟨rfl,rfl,rfl,by show (L.bname b).size≤_; omega,empty_small,empty_small⟩
 ·intro h e1 e2
  rw [e2]
  unfold putE
  split
  ·refine Near.one (hT _ _ ?_)
   exact box_small L b O.second
  ·rename_i i hi
   obtain ⟨h9,-,-,-⟩:=box_lt hi
   have h2:=hf.tname i h9
   exact near_part hb hf O 2 (i:Int) _ ⟨rfl,rfl,rfl,by show (L.bname b).size≤_; omega,empty_small,by show (L.tname i).size≤_; omega⟩
 ·intro h e1 e2
  rw [e2]
  unfold giveE
  split
  ·exact Near.one (hT _ _ (by decide))
  ·rename_i c hc
   obtain ⟨h6,-⟩:=who_sees hc
   have h2:=hf.bname c h6
   exact near_part hb hf O 1 (c:Int) _ ⟨rfl,rfl,rfl,by show (L.bname b).size≤_; omega,by show (L.bname c).size≤_; omega,empty_small⟩
 ·intro h e1 e2; rw [e2]; exact Near.one (ok_ev (K:=L) hb (fun _ _ _=>rfl) (.inl rfl) hn 7 0 ⟨#[]⟩ O.text empty_small (by omega))
 ·intro d hd h hx e1 e2
  rw [e2]
  unfold doorE
  split
  ·exact Near.one (hT _ _ (by decide))
  ·split
   ·exact Near.one (hT _ _ (by decide))
   ·have hr:∀ c,(doorL L b d (turnedC O.verb)).room c=L.room c∧(doorL L b d (turnedC O.verb)).bname c=L.bname c:=by
     intro c
     unfold doorL sideL
     repeat' split
     all_goals exact ⟨rfl,rfl⟩
    exact Near.one (ok_ev (K:=doorL L b d (turnedC O.verb)) hb (fun c _ _=>(hr c).1) (.inl (hr b).1) (by rw [(hr b).2]; exact hn) _ 0 doorT ⟨#[]⟩ (by decide) empty_small)
 ·intro h hx e1 e2; rw [e2]; exact near_turn hb hf O _
 ·intro h e1 e2; rw [e2]; exact near_turn hb hf O _
 ·intro h e1 e2
  rw [e2]
  unfold hitsE
  split
  ·exact Near.one (hT _ _ (by decide))
  ·rename_i c hc
   have hr:∀ c',(foesL L b c).room c'=L.room c'∧(foesL L b c).bname c'=L.bname c':=by
    intro c'
    unfold foesL
    split <;> exact ⟨rfl,rfl⟩
   exact Near.one (ok_tell hb (fun c' _ _=>(hr c').1) (.inl (hr b).1) (by rw [(hr b).2]; exact hn) _ (by decide))
 ·intro h e1 e2
  rw [e2]
  refine Near.one (hT _ _ ?_)
  have hl:=hand_len L b
  have h1:=listed_size hf (fun x (hx:x ∈ handL L b)=>hand_lt hx) (by omega)
  have e1:haveS.size=8:=rfl
  rw [ByteArray.size_append,e1]; omega
 ·intro h e1 e2; rw [e2]; exact Near.one (ok_ev (K:=L) hb (fun _ _ _=>rfl) (.inl rfl) hn 18 0 ⟨#[]⟩ ⟨#[]⟩ empty_small empty_small)
 ·intro d hd h e1 e2
  have hkp:=(act_kp hg hb hh O h0 h1)
  rw [e1] at hkp
  rw [e1,e2]
  unfold walkE
  split
  ·exact Near.one (hT _ _ (by decide))
  ·split
   ·exact Near.one (hT _ _ (by decide))
   ·have hX:∀ c:Nat,c < 6→c ≠ b→(walkL L b d).room c=L.room c:=fun c h6 hne=>(hkp.being c h6 hne).2.2.2.1
    have hbn:(walkL L b d).bname=L.bname:=by
     unfold walkL
     repeat' split
     all_goals rfl
    have hfx:Fine (walkL L b d):=fine_of hkp.good (fun r hr=>by rw [hkp.rname]; exact hf.rname r hr) (fun i hi=>by rw [hkp.tname]; exact hf.tname i hi) (fun c hc=>by rw [hbn]; exact hf.bname c hc)
    refine Near.app (Near.cons ?_ (Near.one ?_)) (near_look hb hfx hX (.inr rfl))
    ·exact ok_ev (K:=L) hb (fun _ _ _=>rfl) (.inl rfl) hn 1 d ⟨#[]⟩ ⟨#[]⟩ empty_small empty_small
    ·exact ok_ev (K:=walkL L b d) hb hX (.inr rfl) (by rw [hbn]; exact hn) 2 _ ⟨#[]⟩ ⟨#[]⟩ empty_small empty_small
end Go.Proofs.YtncgcejlkmoliaaGreatDoor
namespace Go.Proofs.YtncgcejlkmoliaaGreatDoor.Ho
open Go.RowKit
def Qt (M:Hm) (b:Nat) (O:Od):Prop:=O.verb=20→∀ j S,j < 4→M.seat j=some S→S.being ≠ (b:Int)
structure Clq (Q:Hm→Prop):Prop where
 order:∀ (M:Hm) (b:Nat) (O:Od),goodL M.L=true→Nm M.L→b < 6→M.L.here b=true→OdT O→Qt M b O→Q M→Q (hapM M (actL M.L b O) (actE M.L b O))
 gone:∀ (M:Hm) (i:Nat) (S:Se),i < 4→M.seat i=some S→Q M→Q (M.put i none)
structure Clf (Q:Hm→Prop):Prop extends Clq Q where
 flow:∀ (M:Hm) (i:Nat) (S:Se),i < 4→M.seat i=some S→SeOk S→Q M→Q (M.put i (some (flowS S)))
structure Clo (Q:Hm→Prop):Prop extends Clq Q where
 round:∀ (M:Hm) (n:Nat),goodL M.L=true→Nm M.L→Q M→Q (hapM M (roundK M.L n 6).1 (roundK M.L n 6).2)
 own:∀ (M:Hm) (i:Nat) (S:Se) (s:ByteArray),i < 4→M.seat i=some S→s=whatT∨(plays S=false∧(s=noRoomT∨s=noNameT))→Q M→Q (M.put i (some (tellS S s)))
 pop:∀ (M:Hm) (i:Nat) (S:Se) (f:ByteArray) (r:List ByteArray),i < 4→M.seat i=some S→S.lin.q=f::r→Q M→Q (M.put i (some (popS S r)))
 enter:∀ (M:Hm) (i:Nat) (S:Se) (nm:ByteArray) (k:Nat),i < 4→M.seat i=some S→plays S=false→goodL M.L=true→Nm M.L→NameT nm→2≤k→k < 6→M.L.here k=false→Q M →
  Q (hapM (M.put i (some { S with being:=(k:Int) })) (entL M.L nm k) (beginE (entL M.L nm k) k))
section
variable {Q:Hm→Prop} {N:Nat} {M:Hm}
theorem Clq.leaves (c:Clq Q) (h:Iv N M) {i:Nat} (hi:i < 4) (hQ:Q M):Q (leaveM M i):=by
 unfold leaveM
 cases hS:M.seat i with
 | none=>exact hQ
 | some S =>
  simp only
  have h1:=c.gone M i S hi hS hQ
  split
  ·rename_i hp
   obtain ⟨b,hb,h2,h6,hh⟩:=h.play i S hi hS hp
   rw [hb,order_eq (M:=M.put i none) h.good h6 hh (by decide) (by decide)]
   refine c.order (M.put i none) b quitO h.good h.nm h6 hh odt_quit (fun _ j T hj hT e=>?_) h1
   simp only [Hm.put] at hT
   by_cases ej:j=i
   ·rw [if_pos ej] at hT; cases hT
   ·rw [if_neg ej] at hT
    exact ej (h.one i j S T hi hj hS hT hp (hb.trans e.symm)).symm
  ·exact h1
theorem Clo.enters (c:Clo Q) (h:Iv N M) {i:Nat} (hi:i < 4) {S:Se} (hS:M.seat i=some S) (hp:plays S=false) (nm:ByteArray) (hQ:Q M):Q (enterM M i S nm):=by
 unfold enterM
 by_cases hb0:bars M.L nm=0
 ·rw [if_pos hb0]
  obtain ⟨hg,hn,ht,k,hv,h2,h6,hh⟩:=bars_nil hb0
  rw [hv]
  simp only [Int.toNat_natCast]
  exact c.enter M i S nm k hi hS hp h.good h.nm (named_T hn) h2 h6 hh hQ
 ·rw [if_neg hb0]
  split
  ·exact c.own M i S _ hi hS (.inr ⟨hp,.inl rfl⟩) hQ
  ·exact c.own M i S _ hi hS (.inr ⟨hp,.inr rfl⟩) hQ
theorem Clo.obeys (c:Clo Q) (h:Iv N M) {i:Nat} (hi:i < 4) {S:Se} (hS:M.seat i=some S) (hp:plays S=true) {l:List UInt8} (hl:l.length≤60) (hv:∀ c ∈ l,Li.vis c=true) (hQ:Q M):Q (obeyM M i S l):=by
 unfold obeyM
 split
 ·exact c.own M i S _ hi hS (.inl rfl) hQ
 ·split
  ·exact c.toClq.leaves h hi hQ
  ·rename_i hq
   obtain ⟨b,hb,h2,h6,hh⟩:=h.play i S hi hS hp
   have hO:=parse_odt hl hv
   rw [hb,order_eq h.good h6 hh hO.v0 hO.v1]
   exact c.order M b _ h.good h.nm h6 hh hO (fun e=>absurd (show (parseL l).1.verb=20 by
    have e2:(((parseL l).1.verb:Nat):Int)=20:=e
    omega) hq) hQ
theorem Clo.turn (c:Clo Q) (h:Iv N M) {i:Nat} (hi:i < 4) (hQ:Q M):Q (turnM M i):=by
 unfold turnM
 split
 ·exact hQ
 ·rename_i S hS
  have hSo:=h.sv.seat i S hi hS
  split
  ·exact hQ
  ·rename_i f r hq
   have h1:Iv N (M.put i (some (popS S r))):=h.put (S':=popS S r) hi hS rfl (hSo.1.pop hq) (Nat.le_refl _) hSo.2
   have q1:=c.pop M i S f r hi hS hq hQ
   split
   ·exact q1
   ·split
    ·rename_i hp
     have hl:=line_ok hSo.1 hq
     exact c.obeys h1 hi (put_seat ..) hp hl.1 hl.2 q1
    ·rename_i hp
     exact c.enters h1 hi (put_seat ..) (by
      have:plays (popS S r)=plays S:=rfl
      rw [this]; simpa using hp) _ q1
theorem Clo.turns (c:Clo Q) (h:Iv N M) (hQ:Q M):∀ k,k≤4→Q (turnsM M k):=by
 intro k
 induction k with
 | zero=>intro _; exact hQ
 | succ k ih=>intro hk; exact c.turn (h.turns k (by omega)) (by omega) (ih (by omega))
theorem Clo.pulse (c:Clo Q) (h:Iv N M) (n:Int) (hQ:Q M):Q (pulseM M n):=by
 have h1:=h.turns 4 (Nat.le_refl _)
 exact c.round _ _ h1.good h1.nm (c.turns h hQ 4 (Nat.le_refl _))
theorem Clf.cuts (c:Clf Q) (h:Iv N M) {i:Nat} (hi:i < 4) (hQ:Q M):Q (cutsM M i).1:=by
 unfold cutsM
 split
 ·exact hQ
 ·rename_i S hS
  have hSo:=h.sv.seat i S hi hS
  have h1:Iv N (M.put i (some (flowS S))):=h.put (S':=flowS S) hi hS rfl hSo.1.flow (Nat.le_refl _) hSo.2
  have q1:=c.flow M i S hi hS hSo.1 hQ
  split
  ·exact c.toClq.leaves h1 hi q1
  ·exact q1
theorem Clf.cutK (c:Clf Q) (h:Iv N M) (hQ:Q M):∀ k,k≤4→Q (Ho.cutK M k).1:=by
 intro k
 induction k with
 | zero=>intro _; exact hQ
 | succ k ih =>
  intro hk
  obtain ⟨N1,h1,_⟩:=h.cutK k (by omega)
  exact c.cuts h1 (by omega) (ih (by omega))
theorem Clf.flows (c:Clf Q) (h:Iv N M) (hQ:Q M):Q (flowM M):=by
 have:∀ n {N:Nat} {M:Hm},Iv N M→Q M→Q (flowN n M):=by
  intro n
  induction n with
  | zero=>intro N M _ hQ; exact hQ
  | succ n ih =>
   intro N M h hQ
   obtain ⟨N1,h1,_⟩:=h.cutK 4 (Nat.le_refl _)
   unfold flowN
   split
   ·exact ih h1 (c.cutK h hQ 4 (Nat.le_refl _))
   ·exact c.cutK h hQ 4 (Nat.le_refl _)
 exact this 5 h hQ
end
open Go.RowKit
theorem hap_L (M:Hm) (X:Ld) (Es:List Ev):(hapM M X Es).L=X:=by rw [hap_eq]
theorem do_clo {Q:Hm→Prop} (c:Clo Q) (c2:Clf Q) (hput:∀ (M:Hm) i S T,M.seat i=some S→T.being=S.being→Q M→Q (M.put i (some T))) {M:Hm} (h:Iv 1000 M) (ha:M.acts < 400) (a:Ac) (hQ:Q { forgetM M with acts:=M.acts+1 })
 (hcome:∀ i,M.seat i=none→Q (({ forgetM M with acts:=M.acts+1 }:Hm).put i (some newS))):Q (doM M a).1:=by
 unfold doM
 rw [if_neg (by omega)]
 have hI1:=h.forget (M.acts+1)
 have hr0:refusedM (forgetM M) a=refusedM { forgetM M with acts:=M.acts+1 } a:=rfl
 have hs0:∀ i,({ forgetM M with acts:=M.acts+1 }:Hm).seat i=none→M.seat i=none:=fun i e=>by
  have e':(M.seat i).map (fun S=>({ S with told:=[] }:Se))=none:=e
  simpa using e'
 rw [hr0]
 generalize ({ forgetM M with acts:=M.acts+1 }:Hm)=M1 at *
 by_cases hr:refusedM M1 a=0
 ·rw [if_pos hr]
  refine c2.flows (hI1.act hr) ?_
  have hr2:=hr
  unfold refusedM at hr2
  by_cases hk:a.kind < 1∨5 < a.kind
  ·rw [if_pos hk] at hr2; omega
  rw [if_neg hk] at hr2
  unfold actM
  by_cases h5:a.kind=5
  ·rw [if_pos h5]; exact c.pulse hI1 _ hQ
  rw [if_neg h5] at hr2 ⊢
  by_cases hq:a.seat < 0∨3 < a.seat
  ·rw [if_pos hq] at hr2; omega
  rw [if_neg hq] at hr2
  have hn:(M1.seat a.seat.toNat).isNone=decide (a.kind=1):=by
   by_cases e:(M1.seat a.seat.toNat).isNone=decide (a.kind=1)
   ·exact e
   ·rw [if_neg e] at hr2; omega
  by_cases h1:a.kind=1
  ·rw [if_pos h1]
   rw [h1] at hn
   exact hcome _ (hs0 _ (by simpa using hn))
  ·rw [if_neg h1]
   cases hS:M1.seat a.seat.toNat with
   | none=>exact hQ
   | some S =>
    simp only
    by_cases h2:a.kind=2
    ·rw [if_pos h2]; exact hput _ _ S _ hS (by unfold feedS; split <;> rfl) hQ
    ·rw [if_neg h2]
     by_cases h3:a.kind=3
     ·rw [if_pos h3]; exact hput _ _ S (Ho.takeS S a.num) hS rfl hQ
     ·rw [if_neg h3]; exact c.toClq.leaves hI1 (by omega) hQ
 ·rw [if_neg hr]; exact hQ
open Go.RowKit
theorem take_rm (L:Ld) (b:Nat) (q:List Int):(Go.Proofs.YtncgcejlkmoliaaGreatDoor.takeS L b q).1.room=L.room:=by
 unfold Go.Proofs.YtncgcejlkmoliaaGreatDoor.takeS
 have key:∀ (q:List Int) (s:Ld × List Ev),s.1.room=L.room→(q.foldl (gstep b) s).1.room=L.room:=by
  intro q
  induction q with
  | nil=>intro s h; exact h
  | cons a q ih=>intro s h; rw [List.foldl_cons]; exact ih _ h
 exact key q (L,[]) rfl
theorem part_rm (L:Ld) (b:Nat) (O:Od) (wh loc:Int) (E:Ev):(partL L b O wh loc E).room=L.room:=by
 unfold partL partS
 have key:∀ (q:List Int) (s:Ld × List Ev),s.1.room=L.room→(q.foldl (pstep b wh loc E) s).1.room=L.room:=by
  intro q
  induction q with
  | nil=>intro s h; exact h
  | cons a q ih =>
   intro s h
   rw [List.foldl_cons]
   refine ih _ ?_
   unfold pstep
   repeat' split
   all_goals exact h
 exact key _ (L,[]) rfl
theorem turn_rm (L:Ld) (b:Nat) (O:Od) (C:Chg):(turnL L b O C).room=L.room:=by
 unfold turnL
 repeat' split
 all_goals rfl
def wentE (b:Nat) (E:Ev):Bool:=decide (E.actor=(b:Int))&&(decide (E.kind=15) || decide (E.kind=1) || decide (E.kind=17))
theorem act_rm {L:Ld} {b:Nat} {O:Od} (h0:0≤O.verb) (h1:O.verb≤20) (hq:O.verb ≠ 20):(actL L b O).room=L.room∨∃ E ∈ actE L b O,wentE b E=true:=by
 refine act_cases L b O h0 h1 ?_ ?_ ?_ ?_ ?_ ?_ ?_ ?_ ?_ ?_ ?_ ?_ ?_
 ·intro h e1 e2; rw [e1]; exact .inl rfl
 ·intro h e1 e2
  rw [e1]
  unfold getAL getL getBL
  split
  ·exact .inl (take_rm ..)
  ·split
   ·exact .inl rfl
   ·exact .inl (take_rm ..)
 ·intro h e1 e2; rw [e1]; exact .inl (part_rm ..)
 ·intro h e1 e2
  rw [e1]
  unfold putL
  split
  ·exact .inl rfl
  ·exact .inl (part_rm ..)
 ·intro h e1 e2
  rw [e1]
  unfold giveL
  split
  ·exact .inl rfl
  ·exact .inl (part_rm ..)
 ·intro h e1 e2; rw [e1]; exact .inl rfl
 ·intro d hd h hx e1 e2
  rw [e1]
  unfold doorL sideL
  repeat' split
  all_goals exact .inl rfl
 ·intro h hx e1 e2; rw [e1]; exact .inl (turn_rm ..)
 ·intro h e1 e2; rw [e1]; exact .inl (turn_rm ..)
 ·intro h e1 e2
  rw [e1]
  unfold hitsL foesL
  repeat' split
  all_goals exact .inl rfl
 ·intro h e1 e2; rw [e1]; exact .inl rfl
 ·intro h; exact absurd h hq
 ·intro d hd h e1 e2
  rw [e1,e2]
  unfold walkL walkE
  split
  ·exact .inl rfl
  ·split
   ·exact .inl rfl
   ·refine .inr ⟨wayE L 1 b d,by simp,?_⟩
    have:(wayE L 1 b d).actor=(b:Int)∧(wayE L 1 b d).kind=1:=⟨rfl,rfl⟩
    unfold wentE
    rw [this.1,this.2]; simp
def Fx (b:Nat) (L X:Ld) (Es:List Ev):Prop:=(∃ E ∈ Es,wentE b E=true)∨(X.room b=L.room b∧∀ E ∈ Es,E.actor=(b:Int)∨E.by' b=0∨E.room=L.room b)
theorem Fx.trans {b:Nat} {L X Y:Ld} {Es Fs:List Ev} (h:Fx b L X Es) (k:Fx b X Y Fs):Fx b L Y (Es++Fs):=by
 rcases h with ⟨E,hE,h⟩ | ⟨h1,h2⟩
 ·exact .inl ⟨E,List.mem_append_left _ hE,h⟩
 ·rcases k with ⟨E,hE,k⟩ | ⟨k1,k2⟩
  ·exact .inl ⟨E,List.mem_append_right _ hE,k⟩
  ·refine .inr ⟨k1.trans h1,fun E hE=>?_⟩
   rcases List.mem_append.1 hE with hE | hE
   ·exact h2 E hE
   ·have:=k2 E hE
    rw [h1] at this; exact this
theorem Fx.refl (b:Nat) (L:Ld):Fx b L L []:=.inr ⟨rfl,fun E hE=>by simp at hE⟩
theorem fx_act {L:Ld} {b c:Nat} (hg:goodL L=true) (hN:Nm L) (hb:b < 6) (hc:c < 6) (hh:L.here c=true) {O:Od} (hO:OdT O) (hq:c=b→O.verb ≠ 20):Fx b L (actL L c O) (actE L c O):=by
 have hn:=act_near hg (hN.fine hg) hc hh O (by have:=hO.text.1; omega) hO.v0 hO.v1
 by_cases e:c=b
 ·subst e
  rcases act_rm (L:=L) (b:=c) hO.v0 hO.v1 (hq rfl) with h | h
  ·exact .inr ⟨by rw [h],fun E hE=>.inl (hn E hE).actor⟩
  ·exact .inl h
 ·have hk:=(act_kp hg hc hh O hO.v0 hO.v1).being b hb (fun e2=>e e2.symm)
  exact .inr ⟨hk.2.2.2.1,fun E hE=>.inr ((hn E hE).near b hb (fun e2=>e e2.symm))⟩
theorem fx_begin {L K:Ld} {b c:Nat} (hb:b < 6) (hc:c < 6) (hne:c ≠ b) (hf:Fine K) (hr:K.room b=L.room b):∀ E ∈ beginE K c,E.actor=(b:Int)∨E.by' b=0∨E.room=L.room b:=by
 intro E hE
 unfold beginE at hE
 rcases List.mem_cons.1 hE with rfl | hE
 ·rcases all_near K (evN K 17 c) b with h | h | h
  ·exact .inr (.inl h)
  ·exact .inl h
  ·exact .inr (.inr (h.trans hr))
 ·have:=(near_look (L:=K) (X:=K) hc hf (fun _ _ _=>rfl) (.inl rfl) E hE).near b hb (fun e=>hne e.symm)
  rw [hr] at this
  exact .inr this
theorem fx_fight {L:Ld} {b k:Nat} {n:Int} (hg:goodL L=true) (hN:Nm L) (hb:b < 6) (hk:k < 6) (h0:L.foe k ≠ 0):Fx b L (fightL L k n) (fightE L k n):=by
 have hB:=good_being hg k hk
 have hfo:foeN L k < 6:=by
  rcases hB.2.2.2.2 with e | e
  ·exact absurd e h0
  ·have:=amg_pos e.2; unfold foeN; omega
 unfold fightL fightE
 by_cases hm:meets L k=true
 ·rw [if_pos hm,if_pos hm]
  have hfh:L.here (foeN L k)=true:=by unfold meets at hm; rw [Bool.and_eq_true] at hm; exact hm.1
  have first:∀ E,E=allE L { evW L 14 k (foeN L k) with num:=n }→E.actor=(b:Int)∨E.by' b=0∨E.room=L.room b:=by
   rintro E rfl
   rcases all_near L { evW L 14 k (foeN L k) with num:=n } b with h | h | h
   ·exact .inr (.inl h)
   ·exact .inl h
   ·exact .inr (.inr h)
  by_cases hd:L.health (foeN L k) - n < 1
  ·rw [if_pos hd,if_pos hd]
   generalize foeN L k=f at *
   by_cases e:f=b
   ·subst e
    refine .inl ⟨_,List.mem_cons_of_mem _ (List.mem_cons_self ..),?_⟩
    unfold wentE
    show (decide ((f:Int)=(f:Int))&&(decide ((15:Int)=15) || _ || _))=true
    simp
   ·refine .inr ⟨?_,fun E hE=>?_⟩
    ·unfold dieL
     split
     ·show (if b=f then (0:Int) else L.room b)=L.room b
      rw [if_neg (fun x=>e x.symm)]
     ·show (if b=f then (0:Int) else L.room b)=L.room b
      rw [if_neg (fun x=>e x.symm)]
    ·rcases List.mem_cons.1 hE with hE | hE
     ·exact first E hE
     ·unfold dieE at hE
      rcases List.mem_cons.1 hE with rfl | hE
      ·rcases all_near ((hitL L f n).setHealth f 1) (evN ((hitL L f n).setHealth f 1) 15 f) b with h | h | h
       ·exact .inr (.inl h)
       ·exact .inl h
       ·exact .inr (.inr h)
      ·split at hE
       ·simp at hE
       ·have hg2:goodL ((hitL L f n).setHealth f 1)=true:=by unfold hitL; rw [health_twice]; exact good_health hg hfo hfh (by omega) (by omega)
        have hg3:=good_begin (good_letGo hg2 f hfo).1 f hfo hfh
        have hN3:Nm (beginL (letGoL ((hitL L f n).setHealth f 1) f) f):=⟨hN.rn,hN.tn,hN.bz,hN.bn⟩
        exact fx_begin hb hfo e (hN3.fine hg3) (by
         show (if b=f then (0:Int) else L.room b)=L.room b
         rw [if_neg (fun x=>e x.symm)]) E hE
  ·rw [if_neg hd,if_neg hd]
   exact .inr ⟨rfl,fun E hE=>first E (by simpa using hE)⟩
 ·rw [if_neg hm,if_neg hm]
  exact .inr ⟨rfl,fun E hE=>by simp at hE⟩
theorem fx_round {L:Ld} {b:Nat} (hg:goodL L=true) (hN:Nm L) (hb:b < 6) (dr:Nat):∀ k,k≤6→Fx b L (roundK L dr k).1 (roundK L dr k).2:=by
 intro k
 induction k with
 | zero=>intro _; exact Fx.refl b L
 | succ k ih =>
  intro hk
  have hG:=round_good hg dr k (by omega)
  have hM:=bh_nm hN (round_bh L dr k) hG.2
  have ih:=ih (by omega)
  simp only [roundK]
  split
  ·exact ih
  ·rename_i h0
   exact ih.trans (fx_fight hG.1 hM hb (by omega) h0)
def Far (i b:Nat) (r:Int) (M:Hm):Prop:=∀ S,M.seat i=some S→S.being=(b:Int)∧M.L.here b=true∧((∃ E ∈ M.last,wentE b E=true)∨(M.L.room b=r∧∀ E ∈ M.last,E.actor=(b:Int)∨E.by' b=0∨E.room=r))
theorem hap_seat {M:Hm} {X:Ld} {Es:List Ev} {i:Nat} {S:Se} (h:(hapM M X Es).seat i=some S):∃ T,M.seat i=some T∧S.being=T.being:=by
 rw [hap_eq] at h
 simp only [Option.map_eq_some_iff] at h
 obtain ⟨T,hT,rfl⟩:=h
 exact ⟨T,hT,(heardsS_keeps Es T).1⟩
theorem far_hap {i b:Nat} {r:Int} {M:Hm} {X:Ld} {Es:List Ev} (h:Far i b r M) (hx:∀ S,M.seat i=some S→S.being=(b:Int)→M.L.here b=true→X.here b=true∧Fx b M.L X Es):Far i b r (hapM M X Es):=by
 intro S hS
 obtain ⟨T,hT,e⟩:=hap_seat hS
 obtain ⟨h1,h2,h3⟩:=h T hT
 obtain ⟨x1,x2⟩:=hx T hT h1 h2
 have hl:(hapM M X Es).last=M.last++Es:=by rw [hap_eq]
 refine ⟨e.trans h1,by rw [hap_L]; exact x1,?_⟩
 rw [hap_L,hl]
 rcases h3 with ⟨E,hE,h3⟩ | ⟨h3,h4⟩
 ·exact .inl ⟨E,List.mem_append_left _ hE,h3⟩
 ·rcases x2 with ⟨E,hE,k⟩ | ⟨k1,k2⟩
  ·exact .inl ⟨E,List.mem_append_right _ hE,k⟩
  ·refine .inr ⟨k1.trans h3,fun E hE=>?_⟩
   rcases List.mem_append.1 hE with hE | hE
   ·exact h4 E hE
   ·have:=k2 E hE
    rw [h3] at this; exact this
theorem far_put {i b:Nat} {r:Int} {M:Hm} {j:Nat} {S T:Se} (hS:M.seat j=some S) (hT:T.being=S.being) (h:Far i b r M):Far i b r (M.put j (some T)):=by
 intro U hU
 simp only [Hm.put] at hU
 by_cases e:i=j
 ·rw [if_pos e] at hU
  injection hU with hU
  subst hU; subst e
  have:=h S hS
  rw [← hT] at this
  exact this
 ·rw [if_neg e] at hU
  exact h U hU
theorem far_clq {i b:Nat} (hi:i < 4) (hb:b < 6) (h2:2≤b) (r:Int):Clq (Far i b r) where
 order:=fun M c O hg hN hc hh hO hq h=>far_hap h fun S hS hbe hhb=>by
  have hne:c=b→O.verb ≠ 20:=fun e e2=>by
   subst e
   exact hq e2 i S hi hS hbe
  refine ⟨?_,fx_act hg hN hb hc hh hO hne⟩
  by_cases e:c=b
  ·have:=act_bh (L:=M.L) (b:=c) hO.v0 hO.v1 (hne e)
   rw [this.2]; exact hhb
  ·rw [((act_kp hg hc hh O hO.v0 hO.v1).being b hb (fun x=>e x.symm)).2.1]; exact hhb
 gone:=fun M j S hj hS h T hT=>by
  simp only [Hm.put] at hT
  by_cases e:i=j
  ·rw [if_pos e] at hT; cases hT
  ·rw [if_neg e] at hT; exact h T hT
theorem far_clf {i b:Nat} (hi:i < 4) (hb:b < 6) (h2:2≤b) (r:Int):Clf (Far i b r) where
 toClq:=far_clq hi hb h2 r
 flow:=fun M j S hj hS hk h=>far_put hS rfl h
theorem far_clo {i b:Nat} (hi:i < 4) (hb:b < 6) (h2:2≤b) (r:Int):Clo (Far i b r) where
 toClq:=far_clq hi hb h2 r
 round:=fun M n hg hN h=>far_hap h fun S hS hbe hhb=>by
  refine ⟨?_,fx_round hg hN hb n 6 (Nat.le_refl _)⟩
  rcases round_bh M.L n 6 b hb with e | e
  ·rw [e.2]; exact hhb
  ·omega
 own:=fun M j S s hj hS hs h=>far_put hS rfl h
 pop:=fun M j S f q hj hS hq h=>far_put hS rfl h
 enter:=fun M j S nm k hj hS hp hg hN hn hk2 h6 hh h=>by
  have h1:Far i b r (M.put j (some { S with being:=(k:Int) })):=by
   intro U hU
   simp only [Hm.put] at hU
   by_cases e:i=j
   ·subst e
    have:=(h S hS).1
    have hps:plays S=true:=by unfold plays; rw [this]; simp only [bne_iff_ne,ne_eq]; omega
    rw [hps] at hp; cases hp
   ·rw [if_neg e] at hU; exact h U hU
  refine far_hap h1 fun T hT hbe hhb=>?_
  have hhb':M.L.here b=true:=hhb
  have hne:k ≠ b:=fun e=>by subst e; rw [hh] at hhb'; cases hhb'
  refine ⟨by rw [(ent_bh M.L nm k b).2,if_neg (fun x=>hne x.symm)]; exact hhb',.inr ⟨?_,?_⟩⟩
  ·show (if b=k then (0:Int) else if b=k then (0:Int) else M.L.room b)=M.L.room b
   rw [if_neg (fun x=>hne x.symm),if_neg (fun x=>hne x.symm)]
  ·have hg2:=ent_good hg h6 hh nm
   exact fx_begin hb h6 hne ((ent_nm hN hn k).fine hg2) (by
    show (if b=k then (0:Int) else if b=k then (0:Int) else M.L.room b)=M.L.room b
    rw [if_neg (fun x=>hne x.symm),if_neg (fun x=>hne x.symm)])
theorem do_far {M:Hm} (h:Iv 1000 M) (ha:M.acts < 400) (a:Ac) {i b:Nat} (hi:i < 4) (h2:2≤b) (hb:b < 6) {S0:Se} (hS0:M.seat i=some S0) (hb0:S0.being=(b:Int)):Far i b (M.L.room b) (doM M a).1:=by
 obtain ⟨c,hc,_,_,hh⟩:=h.play i S0 hi hS0 (by unfold plays; rw [hb0]; simp only [bne_iff_ne,ne_eq]; omega)
 obtain rfl:c=b:=by omega
 have h1:Far i c (M.L.room c) { forgetM M with acts:=M.acts+1 }:=by
  intro S hS
  have e:(M.seat i).map (fun S=>({ S with told:=[] }:Se))=some S:=hS
  rw [hS0] at e
  injection e with e
  subst e
  exact ⟨hb0,hh,.inr ⟨rfl,fun E hE=>by cases hE⟩⟩
 refine do_clo (far_clo hi hb h2 _) (far_clf hi hb h2 _) (fun M j S T hS hT h=>far_put hS hT h) h ha a h1 fun j hj=>?_
 intro S hS
 have hne:i ≠ j:=by rintro rfl; rw [hS0] at hj; cases hj
 simp only [Hm.put] at hS
 rw [if_neg hne] at hS
 exact h1 S hS
open Go.RowKit
def i4 (f:Nat→Int):Array Value:=#[.int .i64 (f 0),.int .i64 (f 1),.int .i64 (f 2),.int .i64 (f 3)]
theorem i4_set (f:Nat→Int) {k:Nat} (hk:k < 4) (x:Int):(i4 f).setIfInBounds k (.int .i64 x)=i4 (fun j=>if j=k then x else f j):=by
 match k,hk with
 | 0,_=>rfl
 | 1,_=>rfl
 | 2,_=>rfl
 | 3,_=>rfl
theorem i4_cell {w:World} {g T:Nat} {f:Nat→Int} (h:w.heap[g]?=some (.cells (i4 f) T (0,0))) {k:Nat} (hk:k < 4):w.cell? ⟨g,k,none⟩=some (.int .i64 (f k)):=by
 rw [cell_of_row _ _ _ _ _ _ h]
 match k,hk with
 | 0,_=>rfl
 | 1,_=>rfl
 | 2,_=>rfl
 | 3,_=>rfl
theorem i4_congr {f g:Nat→Int} (h:∀ i,i < 4→f i=g i):i4 f=i4 g:=by
 unfold i4
 rw [h 0 (by omega),h 1 (by omega),h 2 (by omega),h 3 (by omega)]
open Go.RowKit
theorem went_eq (b:Nat) (E:Ev):wentE b E=(decide (E.actor=(b:Int))&&(decide (E.kind=15) || decide (E.kind=1) || decide (E.kind=17))):=rfl
theorem died_any (Es:List Ev) (v:Value) (b:Nat) (w:World) {base:Nat} (ho:w.ownsRow base 71 16 v Es.length (evc Es)) (hlen:Es.length≤1000) :
 Calls Tryz.prog 46 #[v,.int .i64 (b:Int)] w fun e w'=>e=.returned (.bool (Es.any (wentE b)))∧Below w.heap.size w w':=by
 obtain ⟨av,cap,rfl⟩:=shapeE ho
 have O:=hide ho
 clear ho
 go_enter Tryz.func46,Tryz.ntmps46
 go_upto_region 2 with fail
 go_loopw [9] (fun i wr=>∃ n:Nat,n≤Es.length∧i=.int .i64 (n:Int)∧Below w.heap.size w wr∧(Es.take n).any (wentE b)=false) (fun i _=>Es.length - (intOf i).toNat)
 case atStart=>exact ⟨0,by omega,rfl,Below.refl _ _,by simp⟩
 case round =>
  obtain ⟨n,hn,rfl,Bn,hno⟩:=hrel
  by_cases hlt:n < Es.length
  ·have hni:(n:Int) < (Es.length:Int):=by omega
   obtain ⟨E,hE⟩:∃ E,Es[n]?=some E:=⟨_,List.getElem?_eq_getElem hlt⟩
   obtain ⟨g2,cap2,ev,hg2,hrg⟩:=ev_range (own_same O.out (w':=wr) fun b' hb'=>Bn.block b' (own_lt O.out b' hb').2) n hlt
   injection ev with ev1 ev2 ev3
   subst ev1 ev3
   have hEE:Es[n]=E:=by rw [List.getElem?_eq_getElem hlt] at hE; exact Option.some.inj hE
   rw [hEE] at hrg
   have HRG:=hide hrg
   have CE:=cev_new wr E
   have ck:=CE.kind
   have ca:=CE.actor
   have B:=hide (Bn.alloc Bn.size (.cells E.cells 71))
   have NO:=hide (show wentE b E=false→(Es.take (n+1)).any (wentE b)=false from fun h=>by rw [List.take_add_one,hE,List.any_append,hno]; simp [h])
   have YES:=hide (show wentE b E=true→Es.any (wentE b)=true from fun h=>List.any_eq_true.2 ⟨E,List.mem_of_getElem? hE,h⟩)
   clear Bn hrg hEE hno CE hE
   go_upto_region 4 with (first | (refine wl_mid 71 (.tmp 11) rfl rfl g2 (n*16) E.cells.toList _ rfl HRG.out Tryz.underlying71 rfl (by rw [Array.length_toList,E.size]; exact Tryz.sizeEvent) ?_; rw [Array.toArray_toList]) | (refine wl_new 71 (.tmp 6) (.tmp 12) rfl rfl _ _ rfl rfl rfl (by rw [E.size]; exact Tryz.sizeEvent) (by rw [E.size]; rfl) (Ev.one E) ?_))
   simp only [Act.put]
   generalize wr.heap.size=be at *
   generalize wr.alloc (.cells E.cells 71)=w2 at *
   by_cases h1:E.actor=(b:Int)
   ·rw [h1] at ca
    by_cases h2:E.kind=15
    ·rw [h2] at ck
     have Y:=hide (YES.out (by rw [went_eq,h1,h2]; simp))
     clear NO YES
     go_wp2
     go_ret
     exact ⟨by rw [Y.out]; rfl,B.out⟩
    by_cases h3:E.kind=1
    ·rw [h3] at ck
     have Y:=hide (YES.out (by rw [went_eq,h1,h3]; simp))
     clear NO YES
     go_wp2
     go_ret
     exact ⟨by rw [Y.out]; rfl,B.out⟩
    by_cases h4:E.kind=17
    ·rw [h4] at ck
     have Y:=hide (YES.out (by rw [went_eq,h1,h4]; simp))
     clear NO YES
     go_wp2
     go_ret
     exact ⟨by rw [Y.out]; rfl,B.out⟩
    have k2:(E.kind==15)=false:=by simp [h2]
    have k3:(E.kind==1)=false:=by simp [h3]
    have k4:(E.kind==17)=false:=by simp [h4]
    have N:=hide (NO.out (by rw [went_eq]; simp [h2,h3,h4]))
    clear NO YES h2 h3 h4
    go_wp2
    exact ⟨⟨n+1,by omega,by go_num,B.out,N.out⟩,by simp [intOf]; omega⟩
   ·have k1:(E.actor==(b:Int))=false:=by simp [h1]
    have N:=hide (NO.out (by rw [went_eq]; simp [h1]))
    clear NO YES h1 ck
    go_wp2
    exact ⟨⟨n+1,by omega,by go_num,B.out,N.out⟩,by simp [intOf]; omega⟩
  ·obtain rfl:n=Es.length:=by omega
   rw [List.take_length] at hno
   have hni:¬ (Es.length:Int) < (Es.length:Int):=by omega
   have N:=hide hno
   have B:=hide Bn
   clear Bn hno
   go_wp2
   go_ret
   exact ⟨by rw [N.out]; rfl,B.out⟩
open Go.RowKit
def rmF (M:Hm) (i:Nat):Int:=if 0≤(stateOf (seatAt M i)).2 then M.L.room (stateOf (seatAt M i)).2.toNat else -1
theorem upto_next {F f:Nat→Int} {k:Nat} {x:Int} (hx:x=F k):i4 (fun j=>if j=k then x else if j < k then F j else f j)=i4 (fun j=>if j < k+1 then F j else f j):=by
 refine i4_congr fun j hj=>?_
 by_cases e:j=k
 ·subst e; rw [if_pos rfl,if_pos (by omega),hx]
 ·rw [if_neg e]
  by_cases e2:j < k
  ·rw [if_pos e2,if_pos (by omega)]
  ·rw [if_neg e2,if_neg (by omega)]
theorem farC {W0:World} {lab:Nat→Nat} {w:World} {hb:Nat} {M:Hm} {f fr:Nat→Int} (H:HoC W0 lab w hb M) (hg1:lab W0.heap.size=9) (hg2:lab (W0.heap.size+1)=9) (hc1:w.heap[W0.heap.size]?=some (.cells (i4 fr) 69 (0,0))) (hc2:w.heap[W0.heap.size+1]?=some (.cells (i4 f) 69 (0,0))) (a:Ac) (c:Int) (s:ByteArray)
 (hle:M.last.length≤1000) (hbe:∀ i:Nat,i < 4→(stateOf (seatAt M i)).2 < 6)
 (hlaw:∀ i:Nat,i < 4→0≤(stateOf (seatAt M i)).2→f i=(stateOf (seatAt M i)).2→fr i=rmF M i→M.last.any (wentE (stateOf (seatAt M i)).2.toNat)=true∨∀ E ∈ M.last,E.actor=(stateOf (seatAt M i)).2∨E.by' (stateOf (seatAt M i)).2.toNat=0∨E.room=rmF M i) :
 Calls Tryz.prog 45 (#[.pointer (some ⟨hb,0,none⟩),.agg a.cells,.agg #[.int .i64 c,.string s]]++#[.pointer (some ⟨W0.heap.size+1,0,none⟩),.pointer (some ⟨W0.heap.size,0,none⟩)]) w fun e w'=>e=.returned (.bool true)∧HoC W0 lab w' hb M∧w'.heap[W0.heap.size]?=some (.cells (i4 (rmF M)) 69 (0,0))∧w'.heap[W0.heap.size+1]?=some (.cells (i4 fun i=>(stateOf (seatAt M i)).2) 69 (0,0)):=by
 have e:(#[.pointer (some ⟨hb,0,none⟩),.agg a.cells,.agg #[.int .i64 c,.string s]]++#[.pointer (some ⟨W0.heap.size+1,0,none⟩),.pointer (some ⟨W0.heap.size,0,none⟩)]:Array Value)=#[.pointer (some ⟨hb,0,none⟩),.agg a.cells,.agg #[.int .i64 c,.string s],.pointer (some ⟨W0.heap.size+1,0,none⟩),.pointer (some ⟨W0.heap.size,0,none⟩)]:=by simp
 rw [e]
 clear e
 have hz:=(zero_of_info Tryz.zLand).1
 have B0:=((Below.refl w.heap.size w).alloc (Nat.le_refl _) (.cells a.cells 23)).alloc (by simp) (.cells #[.int .i64 c,.string s] 29)
 have hgw:W0.heap.size+1 < w.heap.size:=(Array.getElem?_eq_some_iff.1 hc2).1
 have CL:=hide (land_any (H.below B0))
 have HB:=hide B0
 have HH:=hide H
 have C1:=hide hc1
 have C2:=hide hc2
 have HLAW:=hide hlaw
 have HBE:=hide hbe
 have HG1:=hide hg1
 have HG2:=hide hg2
 clear H hc1 hc2 B0 hlaw hg1 hg2 hbe
 generalize hgg:W0.heap.size=g at *
 have HGG:=hide hgg
 clear hgg
 generalize hL:M.L=L at *
 have HL:=hide hL
 clear hL
 go_enter Tryz.func45,Tryz.ntmps45
 go_upto_region 3 with (first | (go_at_call 18; refine CL.out.mono ?_; rintro e w1 ⟨rfl,b1⟩) | (refine wl_new 43 (.tmp 9) (.tmp 17) rfl rfl _ _ rfl rfl rfl (by rw [L.size]; exact Tryz.sizeLand) (by rw [L.size,zl.size]) (land_one L) ?_))
 have B1:=HB.out.trans (b1.mono HB.out.size)
 have B2:=B1.alloc B1.size (.cells L.cells 43)
 have KL:=hide (cod_new w1 L)
 have hbl:w.heap.size≤w1.heap.size:=B1.size
 have H2:=hide (HH.out.below B2)
 have D1:=hide ((B2.block _ (by omega)).trans C1.out)
 have D2:=hide ((B2.block _ hgw).trans C2.out)
 clear CL b1 B1 B2 HB HH C1 C2
 generalize w1.heap.size=bl at *
 generalize w1.alloc (.cells L.cells 43)=w2 at *
 go_loopw [18] (fun i wr=>∃ k:Nat,k≤4∧i=.int .i64 (k:Int)∧HoC W0 lab wr hb M∧Cod wr bl L∧wr.heap[g]?=some (.cells (i4 fun j=>if j < k then rmF M j else fr j) 69 (0,0))∧wr.heap[g+1]?=some (.cells (i4 fun j=>if j < k then (stateOf (seatAt M j)).2 else f j) 69 (0,0))) (fun i _=>4 - (intOf i).toNat)
 case atStart=>exact ⟨0,by omega,rfl,H2.out,KL.out,by rw [D1.out]; simp,by rw [D2.out]; simp⟩
 case round =>
  obtain ⟨k,hk,rfl,Hk,Lk,R1,R2⟩:=hrel
  clear H2 KL D1 D2
  by_cases hk4:k < 4
  ·have hki:(k:Int) < 4:=by omega
   have CS:=hide (state_any Hk (k:Int))
   have LW:=hide (HLAW.out k hk4)
   have hb6:=HBE.out k hk4
   have hgr:g+1 < wr.heap.size:=(Array.getElem?_eq_some_iff.1 R2).1
   have HRM:Hid (rmF M k=if 0≤(stateOf (seatAt M (k:Int))).2 then L.room (stateOf (seatAt M (k:Int))).2.toNat else -1):=hide (by unfold rmF; rw [HL.out])
   have KH:=hide Hk
   have KL:=hide Lk
   have K1:=hide R1
   have K2:=hide R2
   clear Hk Lk R1 R2
   generalize hst:stateOf (seatAt M (k:Int))=st at *
   have HST:=hide hst
   clear hst
   generalize hrm:rmF M k=rm at *
   have HR:=hide hrm
   clear hrm
   go_upto_region 7 with (go_at_call 16; refine CS.out.mono ?_; rintro e w3 ⟨rfl,b3⟩)
   have H3:=hide (KH.out.below b3)
   have L3:=hide (KL.out.behind b3 (Nat.le_refl _))
   have E1:=hide ((b3.block _ (by omega)).trans K1.out)
   have E2:=hide ((b3.block _ hgr).trans K2.out)
   have hgr3:g+1 < w3.heap.size:=Nat.lt_of_lt_of_le hgr b3.size
   have c1:=i4_cell E1.out hk4
   have c2:=i4_cell E2.out hk4
   rw [if_neg (Nat.lt_irrefl k)] at c1 c2
   clear CS b3 KH KL K1 K2
   have FIN:Hid (∀ W:World,HoC W0 lab W hb M→Cod W bl L→W.heap[g]?=some (.cells (i4 fun j=>if j=k then rm else if j < k then rmF M j else fr j) 69 (0,0))→W.heap[g+1]?=some (.cells (i4 fun j=>if j=k then st.2 else if j < k then (stateOf (seatAt M j)).2 else f j) 69 (0,0)) →
    HoC W0 lab W hb M∧Cod W bl L∧W.heap[g]?=some (.cells (i4 fun j=>if j < k+1 then rmF M j else fr j) 69 (0,0))∧W.heap[g+1]?=some (.cells (i4 fun j=>if j < k+1 then (stateOf (seatAt M j)).2 else f j) 69 (0,0))):=hide (fun W h1 h2 h3 h4=>⟨h1,h2,by rw [h3,upto_next (F:=rmF M) HR.out.symm],by rw [h4,upto_next (F:=fun j:Nat=>(stateOf (seatAt M j)).2) (by rw [HST.out])]⟩)
   have STO:Hid (∀ W W1 W2:World,HoC W0 lab W hb M→Cod W bl L→W.heap[g+1]?=some (.cells (i4 fun j=>if j < k then (stateOf (seatAt M j)).2 else f j) 69 (0,0))→Upd g W W1→W1.heap[g]?=some (.cells (i4 fun j=>if j=k then rm else if j < k then rmF M j else fr j) 69 (0,0))→Upd (g+1) W1 W2→W2.heap[g+1]?=some (.cells (i4 fun j=>if j=k then st.2 else if j < k then (stateOf (seatAt M j)).2 else f j) 69 (0,0)) →
    HoC W0 lab W2 hb M∧Cod W2 bl L∧W2.heap[g]?=some (.cells (i4 fun j=>if j < k+1 then rmF M j else fr j) 69 (0,0))∧W2.heap[g+1]?=some (.cells (i4 fun j=>if j < k+1 then (stateOf (seatAt M j)).2 else f j) 69 (0,0))) :=
    hide (fun W W1 W2 hH hC h2 u1 g1 u2 g2=>FIN.out W2 ((hH.other u1 HG1.out (by rw [HGG.out]; exact Nat.le_refl _)).other u2 HG2.out (by rw [HGG.out]; omega)) (show _=_ from (u2.block _ (by omega)).trans ((u1.block _ (by omega)).trans hC)) ((u2.block _ (by omega)).trans g1) g2)
   clear FIN
   by_cases h0:0≤st.2
   ·obtain ⟨b,eb⟩:∃ b:Nat,st.2=(b:Int):=⟨st.2.toNat,by omega⟩
    have hb6':b < 6:=by omega
    have cb:=L3.out.being b 3 hb6' (by omega)
    simp only [Ld.beingCell] at cb
    rw [if_pos h0,eb,Int.toNat_natCast] at HRM
    have LW2:=LW.out h0
    rw [eb,Int.toNat_natCast] at LW2
    rw [eb] at STO
    rw [← HRM.out] at cb
    have hb0:¬ (b:Int) < 0:=by omega
    have hbn:0≤(b:Int):=by omega
    have LW3:=hide LW2
    clear LW LW2 h0 HST HRM HR
    have hb6i:(b:Int) < 6:=by omega
    clear hb6
    by_cases hf:f k=(b:Int)
    ·by_cases hr:fr k=rm
     ·have LE:=hide (LW3.out hf hr)
      rw [hf] at c2
      rw [hr] at c1
      rw [eb]
      clear LW3 eb hf hr
      go_upto_region 11 with (go_at_call 19; refine (last_any H3.out (by omega)).mono ?_; rintro e w5 ⟨v5,rfl,o5,b5⟩; obtain ⟨av5,cap5,rfl⟩:=shapeE o5)
      have O5:=hide o5
      have H5:=hide (H3.out.below b5)
      have L5:=hide (L3.out.behind b5 (Nat.le_refl _))
      have Z1:=hide ((b5.block _ (by omega)).trans E1.out)
      have Z2:=hide ((b5.block _ hgr3).trans E2.out)
      have hgr5:g+1 < w5.heap.size:=Nat.lt_of_lt_of_le hgr3 b5.size
      clear o5 b5 H3 L3 E1 E2 c1 c2 cb
      generalize hEs:M.last=Es at *
      have HES:=hide hEs
      clear hEs
      generalize wr=wz at *
      clear wr
      go_loopw [53] (fun i wr=>∃ n:Nat,n≤Es.length∧i=.int .i64 (n:Int)∧Below w5.heap.size w5 wr) (fun i _=>Es.length - (intOf i).toNat)
      case atStart=>exact ⟨0,by omega,rfl,Below.refl _ _⟩
      case round =>
       obtain ⟨n,hn,rfl,Bn⟩:=hrel
       by_cases hlt:n < Es.length
       ·have hni:(n:Int) < (Es.length:Int):=by omega
        obtain ⟨E,hE⟩:∃ E,Es[n]?=some E:=⟨_,List.getElem?_eq_getElem hlt⟩
        obtain ⟨x2,cap2,ev,hx2,hrg⟩:=ev_range (own_same O5.out (w':=wr) fun b' hb'=>Bn.block b' (own_lt O5.out b' hb').2) n hlt
        injection ev with ev1 ev2 ev3
        subst ev1 ev3
        have hEE:Es[n]=E:=by rw [List.getElem?_eq_getElem hlt] at hE; exact Option.some.inj hE
        rw [hEE] at hrg
        have HRG:=hide hrg
        have CE:=cev_new wr E
        have cr:=CE.room
        have ca:=CE.actor
        have cy:=CE.by' b hb6'
        have BA:=Bn.alloc Bn.size (.cells E.cells 71)
        have B:=hide BA
        have LL:=last_any (H5.out.below BA) (by rw [HES.out]; omega)
        rw [HES.out] at LL
        have CLL:=hide LL
        have hor:Es.any (wentE b)=true∨E.actor=(b:Int)∨E.by' b=0∨E.room=rm:=by
         rcases LE.out with h | h
         ·exact .inl h
         ·exact .inr (h E (List.mem_of_getElem? hE))
        clear Bn BA hrg hEE CE hE LL
        go_upto_region 13 with (first | (refine wl_mid 71 (.tmp 55) rfl rfl x2 (n*16) E.cells.toList _ rfl HRG.out Tryz.underlying71 rfl (by rw [Array.length_toList,E.size]; exact Tryz.sizeEvent) ?_; rw [Array.toArray_toList]) | (refine wl_new 71 (.tmp 15) (.tmp 56) rfl rfl _ _ rfl rfl rfl (by rw [E.size]; exact Tryz.sizeEvent) (by rw [E.size]; rfl) (Ev.one E) ?_))
        simp only [Act.put]
        generalize wr.heap.size=be at *
        generalize wr.alloc (.cells E.cells 71)=w6 at *
        by_cases h1:E.room=rm
        ·rw [h1] at cr
         clear hor CLL ca cy
         go_wp2
         exact ⟨⟨n+1,by omega,by go_num,B.out⟩,by simp [intOf]; omega⟩
        have k1:(E.room != rm)=true:=by simp [h1]
        by_cases h2:E.actor=(b:Int)
        ·rw [h2] at ca
         clear hor CLL cy h1
         go_wp2
         exact ⟨⟨n+1,by omega,by go_num,B.out⟩,by simp [intOf]; omega⟩
        have k2:(E.actor != (b:Int))=true:=by simp [h2]
        by_cases h3:E.by' b=0
        ·rw [h3] at cy
         clear hor CLL h1 h2
         go_wp2
         exact ⟨⟨n+1,by omega,by go_num,B.out⟩,by simp [intOf]; omega⟩
        have k3:(E.by' b != 0)=true:=by simp [h3]
        have hany:Hid (Es.any (wentE b)=true):=hide (by
         rcases hor with h | h | h | h
         ·exact h
         ·exact absurd h h2
         ·exact absurd h h3
         ·exact absurd h h1)
        clear hor h1 h2 h3
        go_wp2_with fail
        refine CLL.out.mono ?_
        rintro e w7 ⟨v7,rfl,o7,b7⟩
        have DI:=died_any Es v7 b w7 o7 (by omega)
        rw [hany.out] at DI
        have CD:=hide DI
        have B7:=hide (B.out.trans (b7.mono B.out.size))
        obtain ⟨av7,cap7,rfl⟩:=shapeE o7
        clear CLL DI o7 b7 B
        go_wp2_with fail
        refine CD.out.mono ?_
        rintro e w8 ⟨rfl,b8⟩
        have B8:=hide (B7.out.trans (b8.mono B7.out.size))
        clear CD b8 B7
        go_wp2
        exact ⟨⟨n+1,by omega,by go_num,B8.out⟩,by simp [intOf]; omega⟩
       ·obtain rfl:n=Es.length:=by omega
        have hni:¬ (Es.length:Int) < (Es.length:Int):=by omega
        have H6:=hide (H5.out.below Bn)
        have L6:=hide (L5.out.behind Bn (Nat.le_refl _))
        have Y1':=hide ((Bn.block _ (by omega)).trans Z1.out)
        have Y2':=hide ((Bn.block _ hgr5).trans Z2.out)
        clear H5 L5 Z1 Z2 Bn O5 LE
        go_wp2_with (first | (refine wl_over1 3 (.tmp 86) (.tmp 84) rfl rfl g k (.int .i64 rm) _ _ 69 rfl rfl Y1'.out (by show k < 4; omega) Tryz.sizeInt rfl (i4_set _ hk4 _) ?_; intro Y1 g1 u1) | (refine wl_over1 3 (.tmp 87) (.tmp 85) rfl rfl (g+1) k (.int .i64 (b:Int)) _ _ 69 rfl rfl ((u1.block _ (by omega)).trans Y2'.out) (by show k < 4; omega) Tryz.sizeInt rfl (i4_set _ hk4 _) ?_; intro Y2 g2 u2))
        exact ⟨⟨k+1,by omega,by go_num,STO.out _ _ _ H6.out L6.out Y2'.out u1 g1 u2 g2⟩,by simp [intOf]; omega⟩
     ·have hrb:(fr k==rm)=false:=by simp [hr]
      rw [hf] at c2
      rw [eb]
      clear LW3 eb hf hr
      go_wp2_with (first | (refine wl_over1 3 (.tmp 86) (.tmp 84) rfl rfl g k (.int .i64 rm) _ _ 69 rfl rfl E1.out (by show k < 4; omega) Tryz.sizeInt rfl (i4_set _ hk4 _) ?_; intro Y1 g1 u1) | (refine wl_over1 3 (.tmp 87) (.tmp 85) rfl rfl (g+1) k (.int .i64 (b:Int)) _ _ 69 rfl rfl ((u1.block _ (by omega)).trans E2.out) (by show k < 4; omega) Tryz.sizeInt rfl (i4_set _ hk4 _) ?_; intro Y2 g2 u2))
      exact ⟨⟨k+1,by omega,by go_num,STO.out _ _ _ H3.out L3.out E2.out u1 g1 u2 g2⟩,by simp [intOf]; omega⟩
    ·have hfb:(f k==(b:Int))=false:=by simp [hf]
     rw [eb]
     clear LW3 eb hf c1
     go_wp2_with (first | (refine wl_over1 3 (.tmp 86) (.tmp 84) rfl rfl g k (.int .i64 rm) _ _ 69 rfl rfl E1.out (by show k < 4; omega) Tryz.sizeInt rfl (i4_set _ hk4 _) ?_; intro Y1 g1 u1) | (refine wl_over1 3 (.tmp 87) (.tmp 85) rfl rfl (g+1) k (.int .i64 (b:Int)) _ _ 69 rfl rfl ((u1.block _ (by omega)).trans E2.out) (by show k < 4; omega) Tryz.sizeInt rfl (i4_set _ hk4 _) ?_; intro Y2 g2 u2))
     exact ⟨⟨k+1,by omega,by go_num,STO.out _ _ _ H3.out L3.out E2.out u1 g1 u2 g2⟩,by simp [intOf]; omega⟩
   ·rw [if_neg h0] at HRM
    have hrm:rm=-1:=HRM.out
    rw [hrm] at STO
    have h0b:¬ 0≤st.2:=h0
    clear LW HRM c1 c2
    go_wp2_with (first | (refine wl_over1 3 (.tmp 86) (.tmp 84) rfl rfl g k (.int .i64 (-1)) _ _ 69 rfl rfl E1.out (by show k < 4; omega) Tryz.sizeInt rfl (i4_set _ hk4 _) ?_; intro Y1 g1 u1) | (refine wl_over1 3 (.tmp 87) (.tmp 85) rfl rfl (g+1) k (.int .i64 st.2) _ _ 69 rfl rfl ((u1.block _ (by omega)).trans E2.out) (by show k < 4; omega) Tryz.sizeInt rfl (i4_set _ hk4 _) ?_; intro Y2 g2 u2))
    exact ⟨⟨k+1,by omega,by go_num,STO.out _ _ _ H3.out L3.out E2.out u1 g1 u2 g2⟩,by simp [intOf]; omega⟩
  ·obtain rfl:k=4:=by omega
   have KH:=hide Hk
   have K1:=hide R1
   have K2:=hide R2
   clear Hk Lk R1 R2
   go_wp2
   go_ret
   refine ⟨rfl,KH.out,?_,?_⟩
   ·rw [K1.out]; congr 2
   ·rw [K2.out]; congr 2
open Go.RowKit
theorem acts_lt {done:List Ac} (h:done.length < 150):(runM newM done).acts < 400:=by
 have h1:=run_acts done newM
 have h2:newM.acts=0:=rfl
 omega
theorem Tryz.zInts4:(Tryz.prog.info? 69).map (fun i=>(i.zero,i.size))=some (some (.agg (i4 fun _=>0)),4):=by kernel_rfl
open Go.RowKit
def beF (M:Hm) (i:Nat):Int:=(stateOf (seatAt M i)).2
theorem be_new (i:Nat):beF newM i=-1:=by
 unfold beF seatAt
 split <;> rfl
theorem being_some {o:Option Se} (h:0≤(stateOf o).2):∃ S,o=some S∧plays S=true∧(stateOf o).2=S.being:=by
 cases o with
 | none=>exact absurd h (show ¬ (0:Int)≤-1 by decide)
 | some S =>
  simp only [stateOf] at h ⊢
  by_cases hp:plays S=true
  ·exact ⟨S,rfl,hp,by rw [if_pos hp]⟩
  ·rw [if_neg hp] at h; exact absurd h (show ¬ (0:Int)≤-1 by decide)
theorem seat_nat (M:Hm) {i:Nat} (h:i < 4):seatAt M (i:Int)=M.seat i:=by unfold seatAt; rw [if_pos (by omega),Int.toNat_natCast]
end Go.Proofs.YtncgcejlkmoliaaGreatDoor.Ho
