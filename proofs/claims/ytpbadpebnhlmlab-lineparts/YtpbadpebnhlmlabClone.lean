/-
  The contract of slices.Clone at lists of texts.
-/
import Derived.Test.YtpbadpebnhlmlabGoodb
namespace Go.Proofs.Ytpbadpebnhlmlab
open Go.RowKit
set_option linter.unusedVariables false

theorem Reads.list {w : World} {a : Addr} {cap : Nat} {q : List ByteArray}
    (hc : 0 < q.length → ∃ b off, some a = some (⟨b, off, none⟩ : Addr) ∧ ∀ i (h : i < q.length), w.cell? ⟨b, off + i, none⟩ = some (.string q[i])) :
    ∀ j u, (scells q)[j]? = some u → w.cell? (a.add j) = some u := by
  intro j u hj
  have hlt : j < q.length := by
    have := (List.getElem?_eq_some_iff.1 hj).1; simpa [scells] using this
  obtain ⟨b, off, e, h⟩ := hc (by omega)
  injection e with e; subst e
  have e2 : u = .string q[j] := by
    simp [scells, hlt] at hj; exact hj.symm
  subst e2
  rw [← h j hlt]
  by_cases h0 : j = 0
  · subst h0; rfl
  · simp [Addr.add, h0]

theorem scells_one (q : List ByteArray) : ∀ u ∈ scells q, u.oneCell' = true := by
  intro u hu; simp only [scells, List.mem_map] at hu; obtain ⟨s, _, rfl⟩ := hu; rfl

theorem own_empty (w : World) : (w.alloc (.cells #[] 9)).ownsRow w.heap.size 9 1 (.slice (some ⟨w.heap.size, 0, none⟩) 0 0) 0 [] :=
  ⟨rfl, .inr ⟨w.heap.size, 0, #[], rfl, Nat.le_refl _, heap_alloc_new w _, Nat.le_refl _, Nat.zero_le _, rfl, rfl⟩⟩

set_option maxRecDepth 100000 in
set_option maxHeartbeats 400000 in
theorem clone_any (q : List ByteArray) (v : Value) (w : World) (hv : Reads w v q) (hq : q.length ≤ 8796093022208) : Calls Try.prog 21 #[v] w fun e w' => ∃ v', e = .returned v' ∧ w'.ownsRow w.heap.size 9 1 v' q.length (scells q) ∧ Below w.heap.size w w' := by
  obtain ⟨av, cap, rfl, hl, hm, hn, hc⟩ := hv
  obtain ⟨i0, hi, hz0, hz1, hz2⟩ := info_parts Try.info9
  have hnil : ∀ (w : World) (a : Option Addr) (n c : Nat), (binOp .eql 22 (.slice a n c) (.slice none 0 0)).run Try.prog w = .ok (.bool a.isNone) w := fun w a n c => by
    rw [Lib.run_eql_slice_nil w 22 9 a n c 0 0 Try.underlying22]
  cases av with
  | none =>
    have := hn rfl
    have hq0 : q = [] := List.eq_nil_of_length_eq_zero (by omega)
    subst this hq0
    clear hn hc
    go_enter Try.func21, Try.ntmps21
    go_wp2
    go_ret
    exact ⟨_, rfl, World.ownsRow_nil _ _ _ _, Below.refl _ _⟩
  | some a =>
    have hlist := Reads.list (cap := cap) hc
    replace hlist := hide hlist
    clear hc hn
    go_enter Try.func21, Try.ntmps21
    go_wp2_with (at_builtin; refine wpList_append_own_at _ rfl (.tmp 5) (.tmp 6) 22 rfl w.heap.size 9 i0 (.string ⟨#[]⟩) 1 16 Try.underlying22 hi hz0 hz1 hz2 rfl (by decide) _ 0 [] rfl (own_empty w) a q.length cap (scells q) rfl ?c1 ?c2 (scells_one q) ?c3 ?c4 ?c5 ?_)
    case c1 => simp [scells]
    case c2 =>
      intro j u hj
      have h := hlist.out j u hj
      have hlt := cell_lt h
      rw [((Below.refl w.heap.size w).alloc (Nat.le_refl _) _).cell (p := a.add j) hlt]; exact h
    case c3 => unfold maxLen; omega
    case c4 => omega
    case c5 => simp
    intro v' w' ho hg _ _
    go_wp2
    go_ret
    refine ⟨v', rfl, by simpa using ho, ?_⟩
    exact ((Below.refl _ _).alloc (Nat.le_refl _) _).grown hg (by simp) (fun k e => by simp [Value.ownBlock] at e; omega)
end Go.Proofs.Ytpbadpebnhlmlab
