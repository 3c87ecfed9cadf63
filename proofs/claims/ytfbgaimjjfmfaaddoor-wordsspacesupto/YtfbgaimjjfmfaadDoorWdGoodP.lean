/-
  What is parsed is such as it may be; spaces ahead and behind change nothing: plain mathematics.
-/
import Derived.Test.YtfbgaimjjfmfaadDoorWdTrim
namespace Go.Proofs.YtfbgaimjjfmfaadDoor
set_option linter.unusedVariables false

/-- What holds of an order that was parsed. -/
structure GoodO (o : Ord) : Prop where
  verb : o.verb ≤ 20
  nth : o.nth ≤ 99
  all : o.all = true → o.verb = 7 ∨ o.verb = 8 ∨ o.verb = 9
  text : o.text ≠ [] ↔ o.verb = 11
  sec : o.second ≠ [] → o.verb = 7 ∨ o.verb = 9 ∨ o.verb = 10
  must : o.second = [] → o.verb ≠ 9 ∧ o.verb ≠ 10

theorem nounT_bound {f name : List UInt8} {n : Nat} {x : List UInt8} {b : Bool} (h : nounT f name = some (n, x, b)) : n ≤ 99 := by
  unfold nounT at h
  by_cases h1 : name = [] ∨ 46 ∈ name
  · rw [if_pos h1] at h; cases h
  · rw [if_neg h1] at h
    by_cases h2 : f = allW
    · rw [if_pos h2] at h; cases h; omega
    · rw [if_neg h2] at h
      cases hn : numL f with
      | none => rw [hn] at h; cases h
      | some k =>
        rw [hn] at h
        cases h
        exact (num_bound hn).2

theorem nounL_bound {w : List UInt8} {n : Nat} {x : List UInt8} {b : Bool} (h : nounL w = some (n, x, b)) : n ≤ 99 := by
  unfold nounL at h
  by_cases h1 : w = allW
  · rw [if_pos h1] at h; cases h; omega
  · rw [if_neg h1] at h
    by_cases h2 : (cutL 46 w).2.2 = true
    · rw [if_pos h2] at h; exact nounT_bound h
    · rw [if_neg h2] at h; exact nounT_bound h

theorem lone_some {r : List (List UInt8)} {x : List UInt8} (h : lone r = some x) : r = [x] := by
  match r, h with
  | [y], h => simp [lone] at h; simp [h]
  | [], h => simp [lone] at h
  | a :: b :: c, h => simp [lone] at h

theorem second_good {v : Nat} {rest : List (List UInt8)} {to : List UInt8} (hr : ∀ x ∈ rest, x ≠ []) (h : secondL v rest = some to) :
    (to ≠ [] → v = 7 ∨ v = 9 ∨ v = 10) ∧ (to = [] → v ≠ 9 ∧ v ≠ 10) := by
  unfold secondL at h
  by_cases hv : v = 7 ∨ v = 9 ∨ v = 10
  · rw [if_pos hv] at h
    refine ⟨fun _ => hv, fun e => ?_⟩
    subst e
    match rest, h, hr with
    | [], h, _ =>
      by_cases h7 : v = 7
      · omega
      · simp [h7] at h
    | x :: r, h, hr =>
      simp only at h
      by_cases hj : joins x = true
      · rw [if_pos hj] at h
        have := lone_some h
        exact absurd rfl (hr [] (by rw [this]; simp))
      · rw [if_neg hj] at h
        have := lone_some h
        exact absurd rfl (hr [] (by rw [this]; simp))
  · rw [if_neg hv] at h
    by_cases hn : rest = []
    · rw [if_pos hn] at h
      cases h
      exact ⟨fun e => absurd rfl e, fun _ => by omega⟩
    · rw [if_neg hn] at h; cases h

theorem deed_good {v : Nat} {y : List UInt8} {rest : List (List UInt8)} {o : Ord} (hv : v ≤ 20) (h11 : v ≠ 11) (hr : ∀ x ∈ rest, x ≠ []) (h : deedL v y rest = some o) : GoodO o := by
  unfold deedL at h
  cases hn : nounL y with
  | none => rw [hn] at h; cases h
  | some t =>
    obtain ⟨n, name, every⟩ := t
    rw [hn] at h
    simp only at h
    by_cases he : every = true ∧ v ≠ 7 ∧ v ≠ 8 ∧ v ≠ 9
    · rw [if_pos he] at h; cases h
    · rw [if_neg he] at h
      cases h2 : secondL v rest with
      | none => rw [h2] at h; cases h
      | some to =>
        rw [h2] at h
        cases h
        have hg := second_good hr h2
        exact ⟨hv, nounL_bound hn, fun e => by simp only at e; by_cases a : v = 7; exact .inl a; by_cases b : v = 8; exact .inr (.inl b); by_cases c : v = 9; exact .inr (.inr c); exact absurd ⟨e, a, b, c⟩ he, by simp [h11], hg.1, hg.2⟩

theorem plain_good {v n : Nat} {name : List UInt8} (hv : v ≤ 20) (hn : n ≤ 99) (h11 : v ≠ 11) (h9 : v ≠ 9) (h10 : v ≠ 10) : GoodO { zo with verb := v, nth := n, name := name } :=
  ⟨hv, hn, fun e => (by cases e), by simp [zo, h11], fun e => absurd rfl e, fun _ => ⟨h9, h10⟩⟩

theorem order_good {s : List UInt8} {v : Nat} {rest : List (List UInt8)} {o : Ord} (hv : v ≤ 20) (hr : ∀ x ∈ rest, x ≠ []) (h : orderL s v rest = some o) : GoodO o := by
  unfold orderL at h
  by_cases h11 : v = 11
  · rw [if_pos h11] at h
    unfold speechL at h
    by_cases ht : trimL (trimR (cutL 32 (trimL s)).2.1) = []
    · rw [if_pos ht] at h; cases h
    · rw [if_neg ht] at h
      cases h
      exact ⟨by simp, by simp, fun e => (by cases e), by simp [ht], fun e => absurd rfl e, fun _ => ⟨by simp, by simp⟩⟩
  · rw [if_neg h11] at h
    by_cases ha : aloneB v = true
    · rw [if_pos ha] at h
      have h910 : v ≠ 9 ∧ v ≠ 10 := ⟨fun e => (by subst e; cases ha), fun e => (by subst e; cases ha)⟩
      by_cases hn : rest = []
      · rw [if_pos hn] at h
        cases h
        exact plain_good (n := 0) (name := []) hv (by omega) h11 h910.1 h910.2
      · rw [if_neg hn] at h; cases h
    · rw [if_neg ha] at h
      match rest, hr, h with
      | [], _, h => cases h
      | x :: r, hr, h =>
        have hr' : ∀ y ∈ r, y ≠ [] := fun y hy => hr y (List.mem_cons_of_mem _ hy)
        simp only at h
        by_cases hk : (v = 12 ∨ v = 13) ∧ r = []
        · rw [if_pos hk] at h
          cases hx : verbL x with
          | none => rw [hx] at h; exact deed_good hv h11 hr' h
          | some d =>
            rw [hx] at h
            simp only at h
            by_cases h6 : d < 6
            · rw [if_pos h6] at h
              cases h
              exact plain_good (n := 1) hv (by omega) h11 (by omega) (by omega)
            · rw [if_neg h6] at h; exact deed_good hv h11 hr' h
        · rw [if_neg hk] at h; exact deed_good hv h11 hr' h

/-- What holds of what Parse answers. -/
theorem parse_good (s : List UInt8) : ((parseL s).1 = zo ∧ ((parseL s).2 = 1 ∨ (parseL s).2 = 3)) ∨ (GoodO (parseL s).1 ∧ (parseL s).2 = 0) := by
  unfold parseL
  cases hL : splitL s with
  | nil => exact .inl ⟨rfl, .inl rfl⟩
  | cons x rest =>
    simp only
    cases hx : verbL x with
    | none => exact .inl ⟨rfl, .inr rfl⟩
    | some v =>
      simp only
      cases ho : orderL s v rest with
      | none => exact .inl ⟨rfl, .inl rfl⟩
      | some o =>
        refine .inr ⟨order_good (by have := verb_lt hx; omega) (fun y hy => split_ne (l := s) (by rw [hL]; exact List.mem_cons_of_mem _ hy)) ho, rfl⟩

/-- Spaces alone. -/
def Sps (g : List UInt8) : Prop := ∀ b ∈ g, b = 32

theorem Sps.tail {b : UInt8} {g : List UInt8} (h : Sps (b :: g)) : Sps g := fun c hc => h c (List.mem_cons_of_mem _ hc)
theorem Sps.head {b : UInt8} {g : List UInt8} (h : Sps (b :: g)) : b = 32 := h b (List.mem_cons_self ..)

theorem sp_spaces : ∀ (g acc : List UInt8), Sps g → sp acc g = one acc
  | [], acc, _ => rfl
  | b :: g, acc, h => by
    have := sp_spaces g [] h.tail
    simp [sp, h.head, this]; rfl

theorem sp_behind (g : List UInt8) (hg : Sps g) : ∀ (l acc : List UInt8), sp acc (l ++ g) = sp acc l
  | [], acc => by simp [sp_spaces g acc hg, sp]
  | x :: r, acc => by
    by_cases hx : x = 32
    · simp [sp, hx, sp_behind g hg r []]
    · simp [sp, hx, sp_behind g hg r (acc ++ [x])]

theorem sp_ahead : ∀ (g l : List UInt8), Sps g → sp [] (g ++ l) = sp [] l
  | [], l, _ => rfl
  | b :: g, l, h => by
    have := sp_ahead g l h.tail
    simp [sp, h.head, this, one]

theorem split_spaces (g l : List UInt8) (hg : Sps g) : splitL (g ++ l ++ g) = splitL l := by
  unfold splitL
  rw [sp_behind g hg, sp_ahead g l hg]

theorem trimL_ahead : ∀ (g l : List UInt8), Sps g → trimL (g ++ l) = trimL l
  | [], l, _ => rfl
  | b :: g, l, h => by rw [List.cons_append, trimL_cons, if_pos h.head]; exact trimL_ahead g l h.tail

theorem trimL_sps : ∀ (g : List UInt8), Sps g → trimL g = []
  | [], _ => rfl
  | b :: g, h => by rw [trimL_cons, if_pos h.head]; exact trimL_sps g h.tail

theorem trimL_behind (g : List UInt8) (hg : Sps g) : ∀ l : List UInt8, trimL (l ++ g) = if trimL l = [] then [] else trimL l ++ g
  | [] => by rw [List.nil_append, trimL_sps g hg]; rfl
  | x :: r => by
    rw [List.cons_append, trimL_cons, trimL_cons]
    by_cases hx : x = 32
    · rw [if_pos hx, if_pos hx]; exact trimL_behind g hg r
    · rw [if_neg hx, if_neg hx]; simp

theorem sps_reverse {g : List UInt8} (h : Sps g) : Sps g.reverse := fun b hb => h b (List.mem_reverse.1 hb)

theorem trimR_behind (g l : List UInt8) (hg : Sps g) : trimR (l ++ g) = trimR l := by
  unfold trimR
  rw [List.reverse_append, trimL_ahead _ _ (sps_reverse hg)]

theorem cut_behind (g : List UInt8) (hg : Sps g) : ∀ t : List UInt8, trimR (cutL 32 (t ++ g)).2.1 = trimR (cutL 32 t).2.1
  | [] => by
    match g, hg with
    | [], _ => rfl
    | b :: g, hg =>
      have h1 : (cutL 32 (b :: g)).2.1 = g := by simp [cutL, hg.head]
      show trimR (cutL 32 (b :: g)).2.1 = trimR []
      rw [h1]
      have := trimR_behind g [] hg.tail
      simpa using this
  | x :: r => by
    by_cases hx : x = 32
    · have h1 : (cutL 32 (x :: r ++ g)).2.1 = r ++ g := by simp [cutL, hx]
      have h2 : (cutL 32 (x :: r)).2.1 = r := by simp [cutL, hx]
      rw [h1, h2]; exact trimR_behind g r hg
    · have h1 : (cutL 32 (x :: r ++ g)).2.1 = (cutL 32 (r ++ g)).2.1 := by simp [cutL, hx]
      have h2 : (cutL 32 (x :: r)).2.1 = (cutL 32 r).2.1 := by simp [cutL, hx]
      rw [h1, h2]; exact cut_behind g hg r

theorem speech_spaces (g l : List UInt8) (hg : Sps g) : speechL (g ++ l ++ g) = speechL l := by
  have h : trimR (cutL 32 (trimL (g ++ l ++ g))).2.1 = trimR (cutL 32 (trimL l)).2.1 := by
    rw [List.append_assoc, trimL_ahead _ _ hg, trimL_behind g hg]
    by_cases h : trimL l = []
    · rw [if_pos h, h]
    · rw [if_neg h]; exact cut_behind g hg _
  unfold speechL
  rw [h]

theorem order_spaces (g l : List UInt8) (hg : Sps g) (v : Nat) (rest : List (List UInt8)) : orderL (g ++ l ++ g) v rest = orderL l v rest := by
  unfold orderL
  rw [speech_spaces g l hg]

theorem parse_spaces (g l : List UInt8) (hg : Sps g) : parseL (g ++ l ++ g) = parseL l := by
  unfold parseL
  rw [split_spaces g l hg]
  cases splitL l with
  | nil => rfl
  | cons x rest =>
    simp only
    cases verbL x with
    | none => rfl
    | some v => simp only [order_spaces g l hg]
end Go.Proofs.YtfbgaimjjfmfaadDoor
