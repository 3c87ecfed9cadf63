/-
  Who perceives what of what comes of an order: plain mathematics.
-/
import Derived.Test.YtaifjndkgfffpaaDoorRuKq
import Derived.Test.YtaifjndkgfffpaaDoorMgM
import Derived.Lib.ItoaLen
namespace Go.Proofs.YtaifjndkgfffpaaDoor
open Go.RowKit
set_option linter.unusedVariables false

/-- What is so of an event that comes of an order of b in L, behind which X is the land. -/
structure EvOk (L X : Ld) (b : Nat) (E : Ev) : Prop where
  actor : E.actor = (b : Int)
  told : ∀ c : Nat, c < 6 → c ≠ b → E.kind = 16 → E.by' c = 0
  far : ∀ c : Nat, c < 6 → c ≠ b → L.room c ≠ L.room b → L.room c ≠ X.room b → E.by' c = 0
  num : E.num = 0
  who : E.who.size ≤ 50000000
  whom : E.whom.size ≤ 50000000
  thing : E.thing.size ≤ 50000000
  text : E.text.size ≤ 50000000
def Near (L X : Ld) (b : Nat) (Fs : List Ev) : Prop := ∀ E ∈ Fs, EvOk L X b E
theorem Near.nil {L X : Ld} {b : Nat} : Near L X b [] := fun E h => by simp at h
theorem Near.cons {L X : Ld} {b : Nat} {E : Ev} {Fs : List Ev} (h : EvOk L X b E) (k : Near L X b Fs) : Near L X b (E :: Fs) := fun F hF => by
  rcases List.mem_cons.1 hF with rfl | hF
  · exact h
  · exact k F hF
theorem Near.app {L X : Ld} {b : Nat} {As Bs : List Ev} (h : Near L X b As) (k : Near L X b Bs) : Near L X b (As ++ Bs) := fun F hF => by
  rcases List.mem_append.1 hF with hF | hF
  · exact h F hF
  · exact k F hF
theorem Near.one {L X : Ld} {b : Nat} {E : Ev} (h : EvOk L X b E) : Near L X b [E] := Near.cons h Near.nil

theorem ok_all {L X M : Ld} {b : Nat} {E : Ev} (hM : ∀ c : Nat, c < 6 → c ≠ b → M.room c = L.room c) (ha : E.actor = (b : Int)) (hr : E.room = L.room b ∨ E.room = X.room b) (hn : E.num = 0) (h1 : E.who.size ≤ 50000000) (h2 : E.whom.size ≤ 50000000) (h3 : E.thing.size ≤ 50000000) (h4 : E.text.size ≤ 50000000) : EvOk L X b (allE M E) := by
  refine ⟨ha, fun c hc hne hk => ?_, fun c hc hne f1 f2 => ?_, hn, h1, h2, h3, h4⟩
  · show percL M (c : Int) E.kind E.room E.actor E.other = 0
    unfold percL
    by_cases hab : abtL M (c : Int) = false
    · rw [if_pos hab]
    · rw [if_neg hab, if_pos ⟨by rw [ha]; omega, .inl hk⟩]
  · show percL M (c : Int) E.kind E.room E.actor E.other = 0
    unfold percL
    by_cases hab : abtL M (c : Int) = false
    · rw [if_pos hab]
    · rw [if_neg hab, if_pos ⟨by rw [ha]; omega, .inr (by
        show M.room ((c : Int).toNat) ≠ E.room
        rw [Int.toNat_natCast, hM c hc hne]
        rcases hr with h | h
        · rw [h]; exact f1
        · rw [h]; exact f2)⟩]
theorem empty_small : (⟨#[]⟩ : ByteArray).size ≤ 50000000 := by decide
theorem ok_ev {L X M K : Ld} {b : Nat} (hb : b < 6) (hM : ∀ c : Nat, c < 6 → c ≠ b → M.room c = L.room c) (hK : K.room b = L.room b ∨ K.room b = X.room b) (hn : (K.bname b).size ≤ 1048576) (kind dir : Int) (thing text : ByteArray) (h1 : thing.size ≤ 50000000) (h2 : text.size ≤ 50000000) :
    EvOk L X b (allE M { evN K kind b with dir := dir, thing := thing, text := text }) :=
  ok_all hM rfl hK rfl (by show (K.bname b).size ≤ _; omega) empty_small h1 h2
theorem ok_tell {L X M : Ld} {b : Nat} (hb : b < 6) (hM : ∀ c : Nat, c < 6 → c ≠ b → M.room c = L.room c) (hK : M.room b = L.room b ∨ M.room b = X.room b) (hn : (M.bname b).size ≤ 1048576) (s : ByteArray) (h : s.size ≤ 50000000) : EvOk L X b (tellE M b s) :=
  ok_all hM rfl hK rfl (by show (M.bname b).size ≤ _; omega) empty_small empty_small h
theorem near_look {L X M : Ld} {b : Nat} (hb : b < 6) (hf : Fine M) (hM : ∀ c : Nat, c < 6 → c ≠ b → M.room c = L.room c) (hK : M.room b = L.room b ∨ M.room b = X.room b) : Near L X b (lookE M b) := by
  have hn := hf.bname b hb
  obtain ⟨r, hr, er⟩ := hf.room b hb
  have ht : ∀ s : ByteArray, s.size ≤ 50000000 → EvOk L X b (tellE M b s) := fun s h => ok_tell hb hM hK hn s h
  unfold lookE
  split
  · refine Near.app (Near.app (Near.cons (ht _ ?_) (Near.one (ht _ ?_))) ?_) ?_
    · have h1 := hf.rname r hr
      have e1 : theS.size = 4 := rfl
      have e2 : dotT.size = 1 := rfl
      rw [er, Int.toNat_natCast, ByteArray.size_append, ByteArray.size_append, e1, e2]; omega
    · have h1 := ways_size M (M.room b).toNat 6 (Nat.le_refl _)
      have e1 : waysS.size = 5 := rfl
      rw [ByteArray.size_append, e1]; omega
    · split
      · exact Near.nil
      · refine Near.one (ht _ ?_)
        have hl := sight_len M b
        have h1 := listed_size hf (fun x (hx : x ∈ sightL M b) => sight_lt hx) (by omega)
        have e1 : hereS.size = 7 := rfl
        rw [ByteArray.size_append, e1]; omega
    · intro E hE
      unfold othersK at hE
      obtain ⟨c, hc, rfl⟩ := List.mem_map.1 hE
      have hc6 : c < 6 := by simpa using (List.mem_filter.1 hc).1
      refine ht _ ?_
      have h1 := hf.bname c hc6
      have e1 : isHereS.size = 9 := rfl
      rw [ByteArray.size_append, e1]; omega
  · exact Near.one (ht _ (by decide))
theorem near_take {L X : Ld} {b : Nat} (hb : b < 6) (hf : Fine L) (q : List Int) (hq : ∀ x ∈ q, ∃ i : Nat, x = (i : Int) ∧ i < 9) : Near L X b (takeS L b q).2 := by
  unfold takeS
  have key : ∀ (q : List Int) (s : Ld × List Ev), (∀ x ∈ q, ∃ i : Nat, x = (i : Int) ∧ i < 9) → Mv L s.1 → Near L X b s.2 → Near L X b (q.foldl (gstep b) s).2 := by
    intro q
    induction q with
    | nil => intro s _ _ h; exact h
    | cons a q ih =>
      intro s hq hm h
      rw [List.foldl_cons]
      obtain ⟨i, rfl, hi⟩ := hq a (List.mem_cons_self ..)
      refine ih _ (fun x hx => hq x (List.mem_cons_of_mem _ hx)) (hm.move i 1 (b : Int)) ?_
      have hs := mv_same hm
      refine Near.app h (Near.one (ok_ev (K := s.1) hb (fun c _ _ => ?_) (.inl ?_) ?_ 3 0 _ ⟨#[]⟩ ?_ empty_small))
      · show s.1.room c = L.room c
        rw [hs.2.2.2.1]
      · rw [hs.2.2.2.1]
      · rw [hs.2.2.2.2.2]; exact hf.bname b hb
      · have h1 := hf.tname i hi
        show (s.1.tname i).size ≤ 50000000
        rw [hs.2.2.2.2.1]; omega
  exact key q (L, []) hq (Mv.refl L) Near.nil
theorem near_part {L X : Ld} {b : Nat} (hb : b < 6) (hf : Fine L) (O : Od) (wh loc : Int) (E : Ev) (hE : E.actor = (b : Int) ∧ E.room = L.room b ∧ E.num = 0 ∧ E.who.size ≤ 50000000 ∧ E.whom.size ≤ 50000000 ∧ E.text.size ≤ 50000000) : Near L X b (partE L b O wh loc E) := by
  unfold partE
  refine Near.app ?_ ?_
  · unfold sigE
    split
    · exact Near.one (ok_tell hb (fun _ _ _ => rfl) (.inl rfl) (hf.bname b hb) _ (by decide))
    · exact Near.nil
  · unfold partS
    have key : ∀ (q : List Int) (s : Ld × List Ev), (∀ x ∈ q, ∃ i : Nat, x = (i : Int) ∧ i < 9) → Mv L s.1 → Near L X b s.2 → Near L X b (q.foldl (pstep b wh loc E) s).2 := by
      intro q
      induction q with
      | nil => intro s _ _ h; exact h
      | cons a q ih =>
        intro s hq hm h
        rw [List.foldl_cons]
        obtain ⟨i, rfl, hi⟩ := hq a (List.mem_cons_self ..)
        have hs := mv_same hm
        have hM : ∀ c : Nat, c < 6 → c ≠ b → s.1.room c = L.room c := fun c _ _ => by rw [hs.2.2.2.1]
        have hB : (s.1.bname b).size ≤ 1048576 := by rw [hs.2.2.2.2.2]; exact hf.bname b hb
        unfold pstep
        by_cases hc : s.1.kind ((i : Int).toNat) = 2 ∧ s.1.on ((i : Int).toNat) = true
        · rw [if_pos hc]
          exact ih _ (fun x hx => hq x (List.mem_cons_of_mem _ hx)) hm (Near.app h (Near.one (ok_tell hb hM (.inl (by rw [hs.2.2.2.1])) hB _ (by decide))))
        · rw [if_neg hc]
          by_cases hd : wh = 2 ∧ (i : Int) ∈ wayL s.1 loc
          · rw [if_pos hd]
            exact ih _ (fun x hx => hq x (List.mem_cons_of_mem _ hx)) hm (Near.app h (Near.one (ok_tell hb hM (.inl (by rw [hs.2.2.2.1])) hB _ (by decide))))
          · rw [if_neg hd]
            refine ih _ (fun x hx => hq x (List.mem_cons_of_mem _ hx)) (hm.move i wh loc) (Near.app h (Near.one (ok_all (fun c h6 hn => ?_) hE.1 (.inl hE.2.1) hE.2.2.1 hE.2.2.2.1 hE.2.2.2.2.1 ?_ hE.2.2.2.2.2)))
            · exact hM c h6 hn
            · have h1 := hf.tname i hi
              show (s.1.tname i).size ≤ 50000000
              rw [hs.2.2.2.2.1]; omega
    exact key _ (L, []) (fun x hx => had_lt hx) (Mv.refl L) Near.nil
theorem near_turn {L X : Ld} {b : Nat} (hb : b < 6) (hf : Fine L) (O : Od) (C : Chg) : Near L X b (turnE L b O C) := by
  unfold turnE
  split
  · exact Near.one (ok_tell hb (fun _ _ _ => rfl) (.inl rfl) (hf.bname b hb) _ (by decide))
  · rename_i i hi
    obtain ⟨h9, -, -⟩ := turnW_lt hi
    split
    · exact Near.one (ok_tell hb (fun _ _ _ => rfl) (.inl rfl) (hf.bname b hb) _ (by decide))
    · have h1 := hf.tname i h9
      refine Near.one (ok_ev (K := L) hb (fun c _ _ => ?_) (.inl rfl) (hf.bname b hb) C.event 0 _ ⟨#[]⟩ (by omega) empty_small)
      split <;> rfl
theorem box_small (L : Ld) (b : Nat) (word : ByteArray) : (boxL L b word).2.size ≤ 50000000 := by
  unfold boxL
  repeat' split
  all_goals first | exact empty_small | (show noThingS.size ≤ _; decide) | (show shutS.size ≤ _; decide)
theorem act_near {L : Ld} {b : Nat} (hg : goodL L = true) (hf : Fine L) (hb : b < 6) (hh : L.here b = true) (O : Od) (ht : O.text.size ≤ 1048576) (h0 : 0 ≤ O.verb) (h1 : O.verb ≤ 20) : Near L (actL L b O) b (actE L b O) := by
  have hn := hf.bname b hb
  have hT : ∀ (X : Ld) (s : ByteArray), s.size ≤ 50000000 → EvOk L X b (tellE L b s) := fun X s h => ok_tell hb (fun _ _ _ => rfl) (.inl rfl) hn s h
  refine act_cases L b O h0 h1 ?_ ?_ ?_ ?_ ?_ ?_ ?_ ?_ ?_ ?_ ?_ ?_ ?_
  · intro h e1 e2; rw [e2]; exact near_look hb hf (fun _ _ _ => rfl) (.inl rfl)
  · intro h e1 e2
    rw [e2]
    unfold getAE
    split
    · refine Near.app ?_ (near_take hb hf _ fun x hx => sight_lt (meant_mem hx))
      unfold sigE
      split
      · exact Near.one (hT _ _ (by decide))
      · exact Near.nil
    · unfold getBE
      split
      · refine Near.one (hT _ _ ?_)
        exact box_small L b O.second
      · refine Near.app ?_ (near_take hb hf _ fun x hx => has_lt (meant_mem hx))
        unfold sigE
        split
        · exact Near.one (hT _ _ (by decide))
        · exact Near.nil
  · intro h e1 e2; rw [e2]; exact near_part hb hf O 0 (L.room b) _ ⟨rfl, rfl, rfl, by show (L.bname b).size ≤ _; omega, empty_small, empty_small⟩
  · intro h e1 e2
    rw [e2]
    unfold putE
    split
    · refine Near.one (hT _ _ ?_)
      exact box_small L b O.second
    · rename_i i hi
      obtain ⟨h9, -, -, -⟩ := box_lt hi
      have h2 := hf.tname i h9
      exact near_part hb hf O 2 (i : Int) _ ⟨rfl, rfl, rfl, by show (L.bname b).size ≤ _; omega, empty_small, by show (L.tname i).size ≤ _; omega⟩
  · intro h e1 e2
    rw [e2]
    unfold giveE
    split
    · exact Near.one (hT _ _ (by decide))
    · rename_i c hc
      obtain ⟨h6, -⟩ := who_sees hc
      have h2 := hf.bname c h6
      exact near_part hb hf O 1 (c : Int) _ ⟨rfl, rfl, rfl, by show (L.bname b).size ≤ _; omega, by show (L.bname c).size ≤ _; omega, empty_small⟩
  · intro h e1 e2; rw [e2]; exact Near.one (ok_ev (K := L) hb (fun _ _ _ => rfl) (.inl rfl) hn 7 0 ⟨#[]⟩ O.text empty_small (by omega))
  · intro d hd h hx e1 e2
    rw [e2]
    unfold doorE
    split
    · exact Near.one (hT _ _ (by decide))
    · split
      · exact Near.one (hT _ _ (by decide))
      · have hr : ∀ c, (doorL L b d (turnedC O.verb)).room c = L.room c ∧ (doorL L b d (turnedC O.verb)).bname c = L.bname c := by
          intro c
          unfold doorL sideL
          repeat' split
          all_goals exact ⟨rfl, rfl⟩
        exact Near.one (ok_ev (K := doorL L b d (turnedC O.verb)) hb (fun c _ _ => (hr c).1) (.inl (hr b).1) (by rw [(hr b).2]; exact hn) _ 0 doorT ⟨#[]⟩ (by decide) empty_small)
  · intro h hx e1 e2; rw [e2]; exact near_turn hb hf O _
  · intro h e1 e2; rw [e2]; exact near_turn hb hf O _
  · intro h e1 e2
    rw [e2]
    unfold hitsE
    split
    · exact Near.one (hT _ _ (by decide))
    · rename_i c hc
      have hr : ∀ c', (foesL L b c).room c' = L.room c' ∧ (foesL L b c).bname c' = L.bname c' := by
        intro c'
        unfold foesL
        split <;> exact ⟨rfl, rfl⟩
      exact Near.one (ok_tell hb (fun c' _ _ => (hr c').1) (.inl (hr b).1) (by rw [(hr b).2]; exact hn) _ (by decide))
  · intro h e1 e2
    rw [e2]
    refine Near.one (hT _ _ ?_)
    have hl := hand_len L b
    have h1 := listed_size hf (fun x (hx : x ∈ handL L b) => hand_lt hx) (by omega)
    have e1 : haveS.size = 8 := rfl
    rw [ByteArray.size_append, e1]; omega
  · intro h e1 e2; rw [e2]; exact Near.one (ok_ev (K := L) hb (fun _ _ _ => rfl) (.inl rfl) hn 18 0 ⟨#[]⟩ ⟨#[]⟩ empty_small empty_small)
  · intro d hd h e1 e2
    have hkp := (act_kp hg hb hh O h0 h1)
    rw [e1] at hkp
    rw [e1, e2]
    unfold walkE
    split
    · exact Near.one (hT _ _ (by decide))
    · split
      · exact Near.one (hT _ _ (by decide))
      · have hX : ∀ c : Nat, c < 6 → c ≠ b → (walkL L b d).room c = L.room c := fun c h6 hne => (hkp.being c h6 hne).2.2.2.1
        have hbn : (walkL L b d).bname = L.bname := by
          unfold walkL
          repeat' split
          all_goals rfl
        have hfx : Fine (walkL L b d) := fine_of hkp.good (fun r hr => by rw [hkp.rname]; exact hf.rname r hr) (fun i hi => by rw [hkp.tname]; exact hf.tname i hi) (fun c hc => by rw [hbn]; exact hf.bname c hc)
        refine Near.app (Near.cons ?_ (Near.one ?_)) (near_look hb hfx hX (.inr rfl))
        · exact ok_ev (K := L) hb (fun _ _ _ => rfl) (.inl rfl) hn 1 d ⟨#[]⟩ ⟨#[]⟩ empty_small empty_small
        · exact ok_ev (K := walkL L b d) hb hX (.inr rfl) (by rw [hbn]; exact hn) 2 _ ⟨#[]⟩ ⟨#[]⟩ empty_small empty_small

/-! ### What another one is told of it is not empty. -/
theorem called_lenR (d : Int) : (calledI d).length ≤ 5 := by
  unfold calledI
  split
  · unfold calledL
    split
    · rename_i h
      rcases (show d.toNat = 0 ∨ d.toNat = 1 ∨ d.toNat = 2 ∨ d.toNat = 3 ∨ d.toNat = 4 ∨ d.toNat = 5 by omega) with e | e | e | e | e | e <;> rw [e] <;> decide
    · simp
  · simp
theorem formO_sp (k : Int) : formO k = [] ∨ (32 : UInt8) ∈ formO k := by
  rcases kind_cases k with rfl | rfl | rfl | rfl | rfl | rfl | rfl | rfl | rfl | rfl | rfl | rfl | rfl | rfl | rfl | rfl | rfl | rfl | h
  iterate 18 (first | exact .inr (by decide) | exact .inl rfl)
  exact .inl (formO_none h)
theorem fill_some {E : Ev} {f : List UInt8} (h : (32 : UInt8) ∈ f) : fillL E f ≠ [] := by
  intro e
  unfold fillL at e
  have := List.flatMap_eq_nil_iff.1 e 32 h
  simp [markL] at this
theorem told_some {E : Ev} {c : Nat} {l : List UInt8} (hc : (c : Int) ≠ E.actor) (h : tellL E (c : Int) = some l) : l ≠ [] := by
  unfold tellL at h
  split at h
  · rename_i hx
    simp only [Option.some.injEq, Int.toNat_natCast] at h
    have hf : formOf E c = formO E.kind := by unfold formOf; rw [if_neg hc]
    have hx2 := hx.2.2
    rw [Int.toNat_natCast, hf] at hx2
    rw [← h, hf]
    rcases formO_sp E.kind with e | e
    · exact absurd e hx2
    · exact fill_some e
  · simp at h
theorem mark_big {E : Ev} (h1 : E.who.size ≤ 50000000) (h2 : E.whom.size ≤ 50000000) (h3 : E.thing.size ≤ 50000000) (h4 : E.text.size ≤ 50000000) (hn : E.num = 0) (c : UInt8) : (markL E c).length ≤ 50000000 := by
  unfold markL
  have e1 := size_len E.who
  have e2 := size_len E.whom
  have e3 := size_len E.thing
  have e4 := size_len E.text
  have e5 := called_lenR E.dir
  have e6 := Lib.itoa_length_le E.num (by omega) (by omega)
  repeat' split
  all_goals first | omega | simp
theorem fill_big {E : Ev} (h1 : E.who.size ≤ 50000000) (h2 : E.whom.size ≤ 50000000) (h3 : E.thing.size ≤ 50000000) (h4 : E.text.size ≤ 50000000) (hn : E.num = 0) : ∀ f : List UInt8, (fillL E f).length ≤ f.length * 50000000 := by
  intro f
  induction f with
  | nil => simp [fillL]
  | cons c f ih =>
    have := mark_big h1 h2 h3 h4 hn c
    have e : fillL E (c :: f) = markL E c ++ fillL E f := rfl
    rw [e, List.length_append, List.length_cons]
    omega
theorem ok_fill {L X : Ld} {b : Nat} {E : Ev} (h : EvOk L X b E) (k : Nat) : (fillL (asKnown E k) (formOf E k)).length + 21 ≤ 140737488355328 := by
  have hw : (asKnown E k).who.size ≤ 50000000 := by
    show (if bitB (E.by' k) 2 = true then bs someoneL else E.who).size ≤ _
    split
    · decide
    · exact h.who
  have hm : (asKnown E k).whom.size ≤ 50000000 := by
    show (if (k : Int) = E.other then bs youL else if bitB (E.by' k) 4 = true then bs someoneL else E.whom).size ≤ _
    split
    · decide
    · split
      · decide
      · exact h.whom
  have h1 := fill_big (E := asKnown E k) hw hm h.thing h.text h.num (formOf E k)
  have h2 : (formOf E k).length ≤ 25 := by
    have := form_len E.kind
    unfold formOf
    split
    · exact this.1
    · exact this.2
  omega
end Go.Proofs.YtaifjndkgfffpaaDoor
