/-
  The map of the document's own answer: which option stands where.
-/
import Derived.Test.YtbjcmnemcgadjaaOffer
import Derived.Test.YtbjcmnemcgadjaaRefBytes
import Derived.Maps.OwnSet
namespace Go.Proofs.Ytbjcmnemcgadjaa
open Go.RowKit Go.Maps
set_option linter.unusedVariables false

theorem wp_insert {H : Type} {P : Program} (w : World) {ops : Array Oper} {rest : List Oper} {o : Oper} {a : Act} {Q : Exit → Act → World → Prop}
    (hg : o.guard = none) (m x v : Operand) (t : TypeId) (hop : o.op = Op.insert t m x v)
    (k e : TypeId) (K : Keyed P k) (ht : P.underlying t = some (.map k e)) (R : Value → Option (DataW H × List MemPlace)) (b n : Nat) (D : DataW H)
    (hm : a.eval m = .map (some b)) (hown : w.ownsMap P k R b n D) (hn : n < maxLen) (key val : Value) (kl : Lit) (hx : a.eval x = key) (hv : a.eval v = val) (hkey : keyOf P k key = some kl)
    (d : DataW H) (ps : List MemPlace) (hval : R val = some (d, ps))
    (hK : ∀ w', w'.ownsMap P k R b (n + 1) (D.put kl d) → w.grownBy w' (some b) → wpList P ops Q rest (a.put o.dst undef) w') :
    wpList P ops Q (o :: rest) a w := by
  refine wpList_plain hg fun K' hK' => ?_
  obtain ⟨w', hrun, r1, r2⟩ := hown.update K ht hn hkey hval
  unfold Oper.wp
  simp [execOp, hop, hm, hx, hv, hrun, Result.andThen]
  exact hK' _ _ (hK w' r1 r2)

theorem Try.keyed : Keyed Try.prog 3 := int_keyed Try.underlying3
theorem Try.zero3 (w : World) : (zeroValue 3).run Try.prog w = .ok (.int .i64 0) w := by kernel_rfl

theorem wf_of (n : Int) (h0 : 0 ≤ n) (h255 : n ≤ 255) : (Lit.int .i64 n).wf = true := by
  simp [Lit.wf, IntKind.min, IntKind.max, IntKind.signed, IntKind.bits]; omega

/-- The map: 1 at 0, 3 at 1, 31 at 2. -/
def mapD : DataW Unit := (((DataW.map []).put (.int .i64 1) (.lit (.int .i64 0))).put (.int .i64 3) (.lit (.int .i64 1))).put (.int .i64 31) (.lit (.int .i64 2))

theorem mapD_1 : mapD.atKey (.int .i64 1) (.lit (.int .i64 0)) = .lit (.int .i64 0) ∧ Maps.has mapD (.int .i64 1) = true := ⟨rfl, rfl⟩
theorem mapD_3 : mapD.atKey (.int .i64 3) (.lit (.int .i64 0)) = .lit (.int .i64 1) ∧ Maps.has mapD (.int .i64 3) = true := ⟨rfl, rfl⟩
theorem mapD_31 : mapD.atKey (.int .i64 31) (.lit (.int .i64 0)) = .lit (.int .i64 2) ∧ Maps.has mapD (.int .i64 31) = true := ⟨rfl, rfl⟩
theorem mapD_no (o : Int) (h1 : ¬ o = 1) (h3 : ¬ o = 3) (h31 : ¬ o = 31) : mapD.atKey (.int .i64 o) (.lit (.int .i64 0)) = .lit (.int .i64 0) ∧ Maps.has mapD (.int .i64 o) = false := by
  have e : mapD = .map [(.int .i64 1, .lit (.int .i64 0)), (.int .i64 3, .lit (.int .i64 1)), (.int .i64 31, .lit (.int .i64 2))] := rfl
  rw [e]
  have hf : List.find? (fun p : Lit × DataW Unit => p.1.sameKey (.int .i64 o)) [(.int .i64 1, .lit (.int .i64 0)), (.int .i64 3, .lit (.int .i64 1)), (.int .i64 31, .lit (.int .i64 2))] = none := by
    rw [List.find?_eq_none]
    intro x hx
    simp only [List.mem_cons, List.not_mem_nil, or_false] at hx
    rcases hx with rfl | rfl | rfl <;> simp [Lit.sameKey] <;> omega
  constructor
  · simp only [DataW.atKey]
    rw [hf]
  · simp [Maps.has, Lit.sameKey]
    omega
end Go.Proofs.Ytbjcmnemcgadjaa
