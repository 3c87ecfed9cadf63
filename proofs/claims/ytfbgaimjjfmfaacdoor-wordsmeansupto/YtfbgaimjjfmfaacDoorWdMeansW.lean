/-
  WordsMeans' walk.
-/
import Derived.Test.YtfbgaimjjfmfaacDoorWdParse
import Derived.Test.YtfbgaimjjfmfaacDoorWdRefV
import Derived.Test.YtfbgaimjjfmfaacDoorWdRefM
namespace Go.Proofs.YtfbgaimjjfmfaacDoor
open Go.RowKit
set_option linter.unusedVariables false

set_option maxHeartbeats 4000000 in
set_option maxRecDepth 100000 in
theorem sense_walk (s : ByteArray) (n : Int) (w : World) (hs : s.size ≤ 8796093022207) (hv : Vb w) (hr : Vr w) (k : Int) (x : List UInt8) (b : Bool) (e0 : Int) (hn : nounA (nounL s.data.toList) = .tuple #[.int .i64 k, .string (bs x), .bool b, .int .i64 e0]) :
    Calls Tryd.prog 4 #[.string s, .int .i64 n] w fun e w' => e = .returned (.bool true) ∧ Below w.heap.size w w' := by
  have C1 := hide (fun w' h => verb_any s w' h)
  have C2 := hide (fun w' h => verbof_any s w' (by omega) h)
  have C3 := hide (fun w' => noun_b s w' (by omega))
  have C4 := hide (fun w' => refnoun_any s w' hs)
  have C5 := hide (fun w' h => dir_any s w' h)
  have C6 := hide (fun w' h => dirof_any s w' h)
  rw [hn] at C3 C4
  have hbt := bs_toList
  have hv0 := hide hv
  have hr0 := hide hr
  generalize (verbA s.data.toList).1 = a1 at C1 C2
  generalize (verbA s.data.toList).2 = a2 at C1 C2
  generalize (dirA s.data.toList).1 = d1 at C5 C6
  generalize (dirA s.data.toList).2 = d2 at C5 C6
  clear hv hr hn
  go_enter Tryd.func4, Tryd.ntmps4
  go_wp2_with fail
  refine (C1.out _ hv0.out).mono ?_
  rintro e w1 ⟨rfl, rfl⟩
  go_wp2_with fail
  refine (C2.out _ hr0.out).mono ?_
  rintro e w1 ⟨rfl, rfl⟩
  go_wp2_with fail
  refine (C3.out _).mono ?_
  rintro e w3 ⟨rfl, hb3⟩
  go_wp2_with fail
  refine (C4.out _).mono ?_
  rintro e w4 ⟨rfl, hb4⟩
  have HB := hide (hb3.trans (hb4.mono hb3.size))
  have hv4 := hide (hv0.out.below HB.out (Nat.le_refl _))
  have hr4 := hide (hr0.out.below HB.out (Nat.le_refl _))
  clear hb3 hb4
  go_wp2_with fail
  refine (C5.out _ hv4.out).mono ?_
  rintro e w4 ⟨rfl, rfl⟩
  go_wp2_with fail
  refine (C6.out _ hr4.out).mono ?_
  rintro e w4 ⟨rfl, rfl⟩
  go_wp2_with fail
  refine (called_any n _ hv4.out).mono ?_
  rintro e w4 ⟨rfl, rfl⟩
  go_wp2_with fail
  refine (calledof_any n _ hr4.out).mono ?_
  rintro e w4 ⟨rfl, rfl⟩
  go_wp2_with fail
  refine (means_any _ hv4.out).mono ?_
  rintro e w5 ⟨rfl, hb5⟩
  go_wp2
  go_ret
  exact ⟨rfl, HB.out.trans (hb5.mono HB.out.size)⟩

theorem words_means (s : ByteArray) (n : Int) (w : World) (hs : s.size ≤ 8796093022207) (hv : Vb w) (hr : Vr w) :
    Calls Tryd.prog 4 #[.string s, .int .i64 n] w fun e w' => e = .returned (.bool true) ∧ Below w.heap.size w w' := by
  cases hn : nounL s.data.toList with
  | none => exact sense_walk s n w hs hv hr 0 [] false 1 (by rw [hn]; rfl)
  | some t =>
    obtain ⟨k, x, b⟩ := t
    exact sense_walk s n w hs hv hr k x b 0 (by rw [hn]; rfl)
end Go.Proofs.YtfbgaimjjfmfaacDoor
