/-
  A codec is equal to itself, as the program's == finds.
-/
import Derived.Test.YtbjcmnemcgadjaaEsc
namespace Go.Proofs.Ytbjcmnemcgadjaa
open Go.RowKit
set_option linter.unusedVariables false


theorem Try.cells3 : Try.prog.cellsOf 3 = 1 := by kernel_rfl

theorem Try.info3 : (Try.prog.info? 3).map (fun i => (i.zero, i.size, i.bytes)) = some (some (.int .i64 0), 1, 8) := by kernel_rfl

theorem part3 (i : Nat) (x : Int) (xs : Array Value) (h : xs[i]? = some (.int .i64 x)) (w : World) : (part 3 xs i).run Try.prog w = .ok (.int .i64 x) w := by
  have ha : (isAgg 3).run Try.prog w = .ok false w := by unfold isAgg; rw [Sem.run_bind, run_underlying Try.underlying3 w]; rfl
  simp [part, ha, h]

theorem part9 (i : Nat) (x : ByteArray) (xs : Array Value) (h : xs[i]? = some (.string x)) (w : World) : (part 9 xs i).run Try.prog w = .ok (.string x) w := by
  have ha : (isAgg 9).run Try.prog w = .ok false w := by unfold isAgg; rw [Sem.run_bind, run_underlying Try.underlying9 w]; rfl
  simp [part, ha, h]

theorem part23 (i : Nat) (xs : Array Value) (w : World) : (part 23 xs i).run Try.prog w = .ok (.agg (xs.extract i (i + 3))) w := by
  have ha : (isAgg 23).run Try.prog w = .ok true w := by unfold isAgg; rw [Sem.run_bind, run_underlying Try.underlying23 w]; rfl
  simp [part, ha]

theorem eqi (d : Nat) (a : Int) (w : World) : (Op.equalIn (d + 1) 3 (.int .i64 a) (.int .i64 a)).run Try.prog w = .ok true w := by
  rw [run_equalIn_int w d 3 .i64 .i64 a a Try.underlying3]; simp

theorem eqs (d : Nat) (a : ByteArray) (w : World) : (Op.equalIn (d + 1) 9 (.string a) (.string a)).run Try.prog w = .ok true w := by
  rw [run_equalIn_string w d 9 a a Try.underlying9]; simp

theorem eq23 (d : Nat) (a b c : Int) (w : World) : (Op.equalIn (d + 2) 23 (.agg #[.int .i64 a, .int .i64 b, .int .i64 c]) (.agg #[.int .i64 a, .int .i64 b, .int .i64 c])).run Try.prog w = .ok true w := by
  obtain ⟨i0, hi, _, _, _⟩ := info_parts Try.info3
  rw [run_equalIn_array (P := Try.prog) w (d + 1) _ _ Try.underlying23 hi, Try.cells3]
  have e : List.range 3 = [0, 1, 2] := rfl
  rw [e]
  have q1 := part3 1 b #[.int .i64 a, .int .i64 b, .int .i64 c] rfl
  have q2 := part3 2 c #[.int .i64 a, .int .i64 b, .int .i64 c] rfl
  simp only [Op.eqItems, Sem.run_bind, part3 (0 * 1) a #[.int .i64 a, .int .i64 b, .int .i64 c] rfl, Result.andThen_ok, eqi]
  simp [q1, q2, eqi]

theorem eq25 (t : Tel) (w : World) : (Op.equalIn 10000 25 t.val t.val).run Try.prog w = .ok true w := by
  have hf : Try.prog.underlying 25 = some (.struct (Try.prog.fieldsOf 25)) := by simp [Program.fieldsOf, Try.underlying25]
  have hp : Try.prog.stoodInHeld 25 = false := by kernel_rfl
  unfold Tel.val Tel.cells
  rw [run_equalIn_struct w 9999 25 _ _ hf hp]
  have e : (Try.prog.fieldsOf 25).toList = [{ name := "At", type := 3, offset := 0, embedded := false, tag := "", pkgPath := "", byteOffset := 0 },
        { name := "Verb", type := 3, offset := 1, embedded := false, tag := "", pkgPath := "", byteOffset := 8 },
        { name := "Sub", type := 9, offset := 2, embedded := false, tag := "", pkgPath := "", byteOffset := 16 },
        { name := "Us", type := 23, offset := 3, embedded := false, tag := "", pkgPath := "", byteOffset := 32 },
        { name := "Them", type := 23, offset := 6, embedded := false, tag := "", pkgPath := "", byteOffset := 56 },
        { name := "Height", type := 3, offset := 9, embedded := false, tag := "", pkgPath := "", byteOffset := 80 }] := by simp [Program.fieldsOf, Try.underlying25]
  rw [e]
  have q := fun (i : Nat) (x : Int) h => part3 i x t.cells h
  unfold Tel.cells at q
  have q0 := q 0 t.pos rfl
  have q1 := q 1 t.verb rfl
  have q9 := q 9 t.height rfl
  have q2 := part9 2 t.sub t.cells rfl
  unfold Tel.cells at q2
  clear q
  simp [Op.eqFields, q0, q1, q2, q9, part23]
  simp only [eqi, eqs, eq23, Result.andThen_ok]
  simp
end Go.Proofs.Ytbjcmnemcgadjaa
