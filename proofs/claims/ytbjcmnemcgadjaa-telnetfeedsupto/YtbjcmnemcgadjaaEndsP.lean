/-
  Plain mathematics: what is answered to one command, and to that answer, comes to an end.
-/
import Derived.Test.YtbjcmnemcgadjaaPure
namespace Go.Proofs.Ytbjcmnemcgadjaa
open Go.RowKit
set_option linter.unusedVariables false

/-- A codec that is brought back into text. -/
def calm (t : Tel) : Tel := { t with pos := 0, verb := 0, sub := ⟨#[]⟩ }

theorem fine_calm {t : Tel} (f : Fine t) : Fine (calm t) :=
  ⟨by simp [calm], by simp [calm], by show (ByteArray.mk #[]).size ≤ 16; decide, fun _ => rfl, by simp [calm], fun _ => rfl, f.u0, f.u1, f.u2, f.t0, f.t1, f.t2, f.h0, f.h200⟩

theorem three {n : Int} (h : 0 ≤ n ∧ n ≤ 2) : n = 0 ∨ n = 1 ∨ n = 2 := by omega

/-- The chain of answers ends. -/
def Ended (t u : Tel) (s : List UInt8) : Prop :=
  (feedL t s).2.2 = [] ∨ (feedL u (feedL t s).2.2).2.2 = [] ∨ (feedL (feedL t s).1 (feedL u (feedL t s).2.2).2.2).2.2 = [] ∨
    (feedL (feedL u (feedL t s).2.2).1 (feedL (feedL t s).1 (feedL u (feedL t s).2.2).2.2).2.2).2.2 = []

theorem byte_ne (o : UInt8) (n : Nat) (hn : n < 256) (h : o ≠ UInt8.ofNat n) : ¬ ((o.toNat : Nat) : Int) = (n : Int) := by
  intro e
  apply h
  apply UInt8.toNat.inj
  rw [UInt8.toNat_ofNat']
  omega

theorem quiet_else (t : Tel) (v o : UInt8) (h1 : v ≠ 251) (h2 : v ≠ 252) (h3 : v ≠ 253) (h4 : v ≠ 254) : (feedL (calm t) [255, v, o]).2.2 = [] := by
  have n1 := byte_ne v 251 (by omega) h1
  have n2 := byte_ne v 252 (by omega) h2
  have n3 := byte_ne v 253 (by omega) h3
  have n4 := byte_ne v 254 (by omega) h4
  have hv : ¬ (251 ≤ ((v.toNat : Nat) : Int) ∧ ((v.toNat : Nat) : Int) ≤ 254) := by omega
  by_cases h250 : ((v.toNat : Nat) : Int) = 250
  · simp only [feedL, step, calm, cmd, h250]
    simp
  · simp only [feedL, step, calm, cmd, h250, hv]
    simp
    split <;> simp

theorem ends_other (t u : Tel) (v o : UInt8) (ho1 : o ≠ 1) (ho3 : o ≠ 3) (ho31 : o ≠ 31) (hv : v = 251 ∨ v = 252 ∨ v = 253 ∨ v = 254) : Ended (calm t) (calm u) [255, v, o] := by
  have n1 := byte_ne o 1 (by omega) ho1
  have n3 := byte_ne o 3 (by omega) ho3
  have n31 := byte_ne o 31 (by omega) ho31
  have hb : UInt8.ofNat ((o.toNat : Nat) : Int).toNat = o := by simp
  have m1 : ¬ ((o.toNat : Nat) : Int) = 1 := n1
  have m3 : ¬ ((o.toNat : Nat) : Int) = 3 := n3
  have m31 : ¬ ((o.toNat : Nat) : Int) = 31 := n31
  rcases hv with rfl | rfl | rfl | rfl
  · right; left
    simp [feedL, step, calm, cmd, setl, sayL, m1, m3, m31]
  · left
    simp [feedL, step, calm, cmd, setl, m3, m31]
  · right; left
    simp [feedL, step, calm, cmd, setl, sayL, m1, m3, m31]
  · left
    simp [feedL, step, calm, cmd, setl, m1, m3]

theorem ends_known (t u : Tel) (ft : Fine t) (fu : Fine u) (v o : UInt8) (ho : o = 1 ∨ o = 3 ∨ o = 31) (hv : v = 251 ∨ v = 252 ∨ v = 253 ∨ v = 254) : Ended (calm t) (calm u) [255, v, o] := by
  obtain ⟨p, vb, s, a0, a1, a2, b0, b1, b2, hh⟩ := t
  obtain ⟨p', vb', s', c0, c1, c2, d0, d1, d2, hh'⟩ := u
  have x0 : a0 = 0 ∨ a0 = 1 ∨ a0 = 2 := three ft.u0
  have x1 : a1 = 0 ∨ a1 = 1 ∨ a1 = 2 := three ft.u1
  have x2 : b1 = 0 ∨ b1 = 1 ∨ b1 = 2 := three ft.t1
  have x3 : b2 = 0 ∨ b2 = 1 ∨ b2 = 2 := three ft.t2
  have y0 : c0 = 0 ∨ c0 = 1 ∨ c0 = 2 := three fu.u0
  have y1 : c1 = 0 ∨ c1 = 1 ∨ c1 = 2 := three fu.u1
  have y2 : d1 = 0 ∨ d1 = 1 ∨ d1 = 2 := three fu.t1
  have y3 : d2 = 0 ∨ d2 = 1 ∨ d2 = 2 := three fu.t2
  clear ft fu
  unfold calm
  rcases ho with rfl | rfl | rfl
  · rcases hv with rfl | rfl | rfl | rfl
    · rcases y0 with rfl | rfl | rfl <;> first | exact .inl rfl | exact .inr (.inl rfl) | exact .inr (.inr (.inl rfl)) | exact .inr (.inr (.inr rfl))
    · rcases y0 with rfl | rfl | rfl <;> first | exact .inl rfl | exact .inr (.inl rfl) | exact .inr (.inr (.inl rfl)) | exact .inr (.inr (.inr rfl))
    · rcases x0 with rfl | rfl | rfl <;> first | exact .inl rfl | exact .inr (.inl rfl) | exact .inr (.inr (.inl rfl)) | exact .inr (.inr (.inr rfl))
    · rcases x0 with rfl | rfl | rfl <;> first | exact .inl rfl | exact .inr (.inl rfl) | exact .inr (.inr (.inl rfl)) | exact .inr (.inr (.inr rfl))
  · rcases hv with rfl | rfl | rfl | rfl
    · rcases x2 with rfl | rfl | rfl <;> rcases y1 with rfl | rfl | rfl <;> first | exact .inl rfl | exact .inr (.inl rfl) | exact .inr (.inr (.inl rfl)) | exact .inr (.inr (.inr rfl))
    · rcases x2 with rfl | rfl | rfl <;> rcases y1 with rfl | rfl | rfl <;> first | exact .inl rfl | exact .inr (.inl rfl) | exact .inr (.inr (.inl rfl)) | exact .inr (.inr (.inr rfl))
    · rcases x1 with rfl | rfl | rfl <;> rcases y2 with rfl | rfl | rfl <;> first | exact .inl rfl | exact .inr (.inl rfl) | exact .inr (.inr (.inl rfl)) | exact .inr (.inr (.inr rfl))
    · rcases x1 with rfl | rfl | rfl <;> rcases y2 with rfl | rfl | rfl <;> first | exact .inl rfl | exact .inr (.inl rfl) | exact .inr (.inr (.inl rfl)) | exact .inr (.inr (.inr rfl))
  · rcases hv with rfl | rfl | rfl | rfl
    · rcases x3 with rfl | rfl | rfl <;> first | exact .inl rfl | exact .inr (.inl rfl) | exact .inr (.inr (.inl rfl)) | exact .inr (.inr (.inr rfl))
    · rcases x3 with rfl | rfl | rfl <;> first | exact .inl rfl | exact .inr (.inl rfl) | exact .inr (.inr (.inl rfl)) | exact .inr (.inr (.inr rfl))
    · rcases y3 with rfl | rfl | rfl <;> first | exact .inl rfl | exact .inr (.inl rfl) | exact .inr (.inr (.inl rfl)) | exact .inr (.inr (.inr rfl))
    · rcases y3 with rfl | rfl | rfl <;> first | exact .inl rfl | exact .inr (.inl rfl) | exact .inr (.inr (.inl rfl)) | exact .inr (.inr (.inr rfl))

theorem ends_all (t u : Tel) (ft : Fine t) (fu : Fine u) (v o : UInt8) : Ended (calm t) (calm u) [255, v, o] := by
  by_cases hv : v = 251 ∨ v = 252 ∨ v = 253 ∨ v = 254
  · by_cases ho : o = 1 ∨ o = 3 ∨ o = 31
    · exact ends_known t u ft fu v o ho hv
    · exact ends_other t u v o (fun e => ho (.inl e)) (fun e => ho (.inr (.inl e))) (fun e => ho (.inr (.inr e))) hv
  · exact .inl (quiet_else t v o (fun e => hv (.inl e)) (fun e => hv (.inr (.inl e))) (fun e => hv (.inr (.inr (.inl e)))) (fun e => hv (.inr (.inr (.inr e)))))
end Go.Proofs.Ytbjcmnemcgadjaa
