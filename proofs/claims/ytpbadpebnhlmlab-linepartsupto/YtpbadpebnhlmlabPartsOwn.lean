/-
  Proved: for all lines and text in two parts whose reading together is of bulk at most 1048576, the law inglenookkeep.LineParts of the landed program returns true and leaves its arguments as they were: what comes of one part and then of the other is what comes of both together. Condition: the bulk alone.
-/
import Derived.Test.YtpbadpebnhlmlabPartsW
import Derived.Test.YtpbadpebnhlmlabOpen
namespace Go.Proofs.Ytpbadpebnhlmlab.lineParts
open Go.ChangeShapes Go.WideShapes Go.ChangeAt Go.RowKit
open Go.ChangeMaps (open_string shut_string)
set_option linter.unusedVariables false

theorem walk (L : Lin) (v : Value) (a b : ByteArray) (w : World) (hv : Reads w v L.q) (hs : Small L) (hq : L.q.length ≤ 2097152) (hab : a.size + b.size ≤ 1048576) :
    Calls Try.prog 4 #[.agg (L.cells v), .string a, .string b] w fun e w' => e = .returned (.bool true) ∧ Below w.heap.size w w' := by
  cases hg : good L
  · exact parts_bad L v a b w hv hs hq hab hg
  · exact parts_good L v a b w hv ((fine_iff L).1 hg) hab

theorem short {H : Type} {d : DataW H} {a b : ByteArray} (hk : Rows.uptoSmall H [d, .lit (.string a.data.toList), .lit (.string b.data.toList)] = true) : Rows.uptoBulk d ≤ 1048576 ∧ a.size + b.size ≤ 1048576 := by
  have h : Rows.uptoBulkAll [d, DataW.lit (H := H) (.string a.data.toList), DataW.lit (H := H) (.string b.data.toList)] ≤ 1048576 := of_decide_eq_true hk
  simp only [Rows.uptoBulkAll, Rows.uptoBulk] at h
  have e : a.data.toList.length = a.size := by rw [Array.length_toList]; rfl
  have e' : b.data.toList.length = b.size := by rw [Array.length_toList]; rfl
  omega

theorem contract (H : Type) (enc : TypeId × Value → H) (W : World) (base : Nat) (args : Array Value) (ds gs : List (DataW H)) (before : List MemPlace)
    (hval : ∀ (j : Nat) t v, Try.f4.params[j]? = some t → args[j]? = some v → Value.okWide Try.prog W .any base t v)
    (hW : DataW.Whole enc Try.prog Try.f4.params.toList Rows.linePartsSpec.vars false W args.toList ds gs before) (hk : Rows.uptoSmall H (ds ++ gs) = true) :
    Calls Try.prog 4 args W fun e W' => ∃ v, e = .returned v ∧ Rows.linePartsSpec.post enc Try.prog Try.f4 false true false false W args v W' := by
  have hW' := hW
  obtain ⟨p, q, hA0, hV, rfl, hfz, hnd⟩ := hW
  have hA : DataW.TrodAll enc Try.prog W 0 (fun _ => true) true Try.f4.params.toList args.toList ds p := hA0
  rw [Try.params4] at hA hval
  obtain ⟨v0, vs0, d0, ds0, p0, q0, hargs, rfl, rfl, h0, r0⟩ := trodAll_cons hA
  obtain ⟨v1, vs1, d1, ds1, p1, q1, rfl, rfl, rfl, h1, r1⟩ := trodAll_cons r0
  obtain ⟨v2, vs2, d2, ds2, p2, q2, rfl, rfl, rfl, h2, r2⟩ := trodAll_cons r1
  obtain ⟨rfl, rfl, rfl⟩ := trodAll_nil r2
  obtain rfl : args = #[v0, v1, v2] := by cases args; simp_all
  obtain ⟨rfl, rfl⟩ := trodVars_none hV
  obtain ⟨L, u, rfl, hr, hs, hbk⟩ := open_line (hval 0 24 v0 rfl rfl) h0
  obtain ⟨a, rfl, rfl, rfl, hmax⟩ := open_string Try.underlying9 (hval 1 9 v1 rfl rfl) h1
  obtain ⟨b, rfl, rfl, rfl, hmax'⟩ := open_string Try.underlying9 (hval 2 9 v2 rfl rfl) h2
  clear hA0
  simp only [List.append_nil] at hW' hk
  obtain ⟨hb0, hab⟩ := short hk
  refine (walk L u a b W hr hs (by omega) hab).mono fun e W' ⟨he, hb⟩ => ?_
  subst he
  refine ⟨_, rfl, post_true hW' (by kernel_rfl) rfl (pa := p0 ++ ([] ++ ([] ++ []))) ?_ rfl hb⟩
  rw [Try.params4]
  exact trodAll_cons_mk (hb.trod Try.laidOut Try.rec24 (of_decide_eq_true (by kernel_rfl)) h0 (trod_lt' h0)) (trodAll_cons_mk (hb.trod Try.laidOut Try.rec9 (of_decide_eq_true (by kernel_rfl)) h1 (by simp)) (trodAll_cons_mk (hb.trod Try.laidOut Try.rec9 (of_decide_eq_true (by kernel_rfl)) h2 (by simp)) trodAll_mk0))

set_option maxRecDepth 100000 in
theorem lifted (os : Os) (started : os.Started) (H : Type) (enc : TypeId × Value → H) (F : Stop.Interp) :
    ReturnsInHanded {} Try.checked os 4 .any ((Rows.OpenSpec.upto Rows.linePartsSpec).pre6 enc Try.prog Try.f4 Rows.linePartsUptoRow.domain false) (((Rows.OpenSpec.upto Rows.linePartsSpec).at F).post enc Try.prog Try.f4 false true false false) := by
  refine returnsInHanded_of_cond (C := Try.checked) (s := Rows.OpenSpec.upto Rows.linePartsSpec) (k := Rows.uptoSmall) rfl Try.own started (by kernel_rfl) Try.func4
    (OpenSpec.witness (enc := enc) (C := Try.checked) (s := Rows.OpenSpec.upto Rows.linePartsSpec) (k := Rows.uptoSmall) rfl false ⟨#[], #[.agg #[.string .empty, .bool false, .bool false, .slice none 0 0], .string .empty, .string .empty], []⟩ 8 (by kernel_rfl) (by kernel_rfl) (by kernel_rfl)
      (x := ([.agg [.lit (.string []), .lit (.bool false), .lit (.bool false), .nil], .lit (.string []), .lit (.string [])], [], [])) (by kernel_rfl) rfl (by kernel_rfl)) ?_
  intro W base args ds gs before hval hW _ hk _
  exact contract H enc W base args ds gs before hval hW hk

theorem proved : Rows.LinePartsUptoSaid :=
  OpenClaim.holds_of_cond 4 Try.f4 rfl rfl rfl rfl rfl rfl rfl ⟨rfl, rfl, rfl, rfl, rfl⟩ rfl rfl rfl rfl rfl (by kernel_rfl) Try.func4 (by kernel_rfl)
    (of_decide_eq_true (by kernel_rfl)) (by unfold Func.isWrapper; first | (rw [if_pos (by decide +kernel)]; kernel_rfl) | (rw [if_neg (by decide +kernel)]; exact ⟨rfl, rfl⟩))
    (fun os started H enc _ F => lifted os started H enc F)
#print axioms proved
end Go.Proofs.Ytpbadpebnhlmlab.lineParts
