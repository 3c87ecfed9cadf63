/-
  An order is equal to itself, as the program's == finds.
-/
import Derived.Test.YtfbgaimjjfmfaadDoorWdParse
import Derived.Test.YtfbgaimjjfmfaadDoorWdGoodP
import Derived.Laws.StructEq
namespace Go.Proofs.YtfbgaimjjfmfaadDoor
open Go.RowKit
set_option linter.unusedVariables false

section
variable {P : Program} {w : World}
theorem eq_fields {d : Nat} {xs : Array Value} : ∀ (fs : List Field), (∀ f ∈ fs, ∃ v, (part f.type xs f.offset).run P w = .ok v w ∧ (Op.equalIn d f.type v v).run P w = .ok true w) → (Op.eqFields d xs xs fs).run P w = .ok true w
  | [], _ => by simp [Op.eqFields]
  | f :: fs, h => by
    obtain ⟨v, h1, h2⟩ := h f (List.mem_cons_self ..)
    have ih := eq_fields fs (fun g hg => h g (List.mem_cons_of_mem _ hg))
    by_cases hn : f.name = "_"
    · simpa [Op.eqFields, hn] using ih
    · simp only [Op.eqFields, hn, ne_eq, not_false_eq_true, if_true, Sem.run_bind, h1, h2, Result.andThen_ok]
      simpa using ih
end

section
variable {w : World}
theorem part1 (t : TypeId) (d : TypeDesc) (ht : Tryd.prog.underlying t = some d) (hd : (match d with | .struct _ | .array _ _ => true | _ => false) = false) (i : Nat) (x : Value) (xs : Array Value) (h : xs[i]? = some x) : (part t xs i).run Tryd.prog w = .ok x w := by
  have ha : (isAgg t).run Tryd.prog w = .ok false w := by
    unfold isAgg; rw [Sem.run_bind, run_underlying ht w]
    cases d <;> simp_all
  simp [part, ha, h]
theorem eqi (d : Nat) (a : Int) : (Op.equalIn (d + 1) 3 (.int .i64 a) (.int .i64 a)).run Tryd.prog w = .ok true w := by
  rw [run_equalIn_int w d 3 .i64 .i64 a a Tryd.underlying3]; simp
theorem eqb (d : Nat) (a : Bool) : (Op.equalIn (d + 1) 4 (.bool a) (.bool a)).run Tryd.prog w = .ok true w := by
  rw [run_equalIn_bool w d 4 a a Tryd.underlying4]; simp
theorem eqs (d : Nat) (a : ByteArray) : (Op.equalIn (d + 1) 9 (.string a) (.string a)).run Tryd.prog w = .ok true w := by
  rw [run_equalIn_string w d 9 a a Tryd.underlying9]; simp

theorem eqOrd (w : World) (v n : Int) (b : Bool) (p q r : ByteArray) : (Op.equalIn 10000 29 (.agg #[.int .i64 v, .int .i64 n, .bool b, .string p, .string q, .string r]) (.agg #[.int .i64 v, .int .i64 n, .bool b, .string p, .string q, .string r])).run Tryd.prog w = .ok true w := by
  have hf : Tryd.prog.underlying 29 = some (.struct (Tryd.prog.fieldsOf 29)) := by simp [Program.fieldsOf, Tryd.underlying29]
  rw [run_equalIn_struct w 9999 29 _ _ hf (by kernel_rfl)]
  refine eq_fields _ ?_
  simp only [Program.fieldsOf, Tryd.underlying29]
  intro f hfm
  simp at hfm
  rcases hfm with rfl | rfl | rfl | rfl | rfl | rfl
  · exact ⟨_, part1 3 _ Tryd.underlying3 rfl 0 _ _ rfl, eqi 9998 _⟩
  · exact ⟨_, part1 3 _ Tryd.underlying3 rfl 1 _ _ rfl, eqi 9998 _⟩
  · exact ⟨_, part1 4 _ Tryd.underlying4 rfl 2 _ _ rfl, eqb 9998 _⟩
  · exact ⟨_, part1 9 _ Tryd.underlying9 rfl 3 _ _ rfl, eqs 9998 _⟩
  · exact ⟨_, part1 9 _ Tryd.underlying9 rfl 4 _ _ rfl, eqs 9998 _⟩
  · exact ⟨_, part1 9 _ Tryd.underlying9 rfl 5 _ _ rfl, eqs 9998 _⟩
theorem eqlOrd (w : World) (v n : Int) (b : Bool) (p q r : ByteArray) : (binOp .eql 29 (.agg #[.int .i64 v, .int .i64 n, .bool b, .string p, .string q, .string r]) (.agg #[.int .i64 v, .int .i64 n, .bool b, .string p, .string q, .string r])).run Tryd.prog w = .ok (.bool true) w := by
  rw [run_eql_struct, eqOrd]; rfl
end
end Go.Proofs.YtfbgaimjjfmfaadDoor
