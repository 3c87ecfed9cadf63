/-
  Appending to rows of bytes that a call owns, and turning such a row into a text.
-/
import Derived.Test.YtbjcmnemcgadjaaSettle
namespace Go.Proofs.Ytbjcmnemcgadjaa
open Go.RowKit
set_option linter.unusedVariables false

theorem Try.info5 : (Try.prog.info? 5).map (fun i => (i.zero, i.size, i.bytes)) = some (some (.int .u8 0), 1, 1) := by kernel_rfl

theorem bcells_length (l : List UInt8) : (bcells l).length = l.length := by simp [bcells]
theorem bcells_append (l m : List UInt8) : bcells (l ++ m) = bcells l ++ bcells m := by simp [bcells]
theorem bcells_str (l : List UInt8) : Lib.strCells ⟨l.toArray⟩ = bcells l := by simp [Lib.strCells, bcells]
theorem size_mk (l : List UInt8) : (ByteArray.mk l.toArray).size = l.length := by simp [ByteArray.size]

theorem append1 (w : World) (ty : TypeId) (base : Nat) (v : Value) (l : List UInt8) (hown : w.ownsRow base 5 1 v l.length (bcells l)) (c : UInt8) (ad : Addr)
    (hnew : w.cell? ad = some (.int .u8 c.toNat)) (hsz : l.length + 1 ≤ 8388608) (hbase : base ≤ w.heap.size) :
    ∃ v' w', (Builtin.append_ #[36, 36] ty #[v, .slice (some ad) 1 1]).run Try.prog w = .ok v' w' ∧ w'.ownsRow base 5 1 v' (l ++ [c]).length (bcells (l ++ [c])) ∧ w.grownBy w' v.ownBlock ∧
      (v'.ownBlock = v.ownBlock ∨ v'.ownBlock = some w.heap.size) := by
  obtain ⟨i0, hi, hz0, hz1, hz2⟩ := info_parts Try.info5
  have hn : ∀ j u, ([Value.int .u8 c.toNat] : List Value)[j]? = some u → w.cell? (ad.add j) = some u := by
    intro j u hj
    cases j with
    | zero => simp at hj; subst hj; simpa [Addr.add] using hnew
    | succ j => simp at hj
  have h1 : ∀ u ∈ ([Value.int .u8 c.toNat] : List Value), u.oneCell' = true := by intro u hu; simp at hu; subst hu; rfl
  have hm : l.length + 1 ≤ maxLen := by unfold maxLen; omega
  obtain ⟨v', w', hr, ho, hg, _⟩ := run_append_own (P := Try.prog) w base 36 ty 5 i0 (.int .u8 0) 1 1 Try.underlying36 hi hz0 hz1 hz2 rfl (by decide) v l.length (bcells l) hown ad 1 1 [.int .u8 c.toNat] rfl hn h1 hm (by omega) hbase
  refine ⟨v', w', hr, by simpa [bcells] using ho, hg, ?_⟩
  have hl : ([Value.int .u8 c.toNat] : List Value).length = 1 * i0.size := by rw [hz1]; rfl
  rcases hown.2 with ⟨rfl, h0⟩ | ⟨g, cap, cur, rfl, hbg, hgg, hnc, hcm, hcs, htake⟩
  · have := run_append_nil (P := Try.prog) w 36 ty 5 i0 (.int .u8 0) Try.underlying36 hi hz0 ad 1 1 [.int .u8 c.toNat] hl hn (by omega) (by omega) (by rw [hz2]; omega)
    rw [this] at hr
    injection hr with e1 e2
    subst e1
    right
    simp [Value.ownBlock]
  · by_cases hroom : l.length + 1 ≤ cap
    · have := run_append_room (P := Try.prog) w 36 ty 5 i0 Try.underlying36 hi g l.length cap cur hgg ad 1 1 [.int .u8 c.toNat] hl hn h1 hroom (by rw [hz1, hcs]; simp; omega)
      rw [this] at hr
      injection hr with e1 e2
      subst e1
      left
      simp [Value.ownBlock]
    · have holds : ∀ j u, (bcells l)[j]? = some u → w.cell? ((⟨g, 0, none⟩ : Addr).add j) = some u := hown.cells (g := g) rfl
      have := run_append_grow (P := Try.prog) w 36 ty 5 i0 (.int .u8 0) Try.underlying36 hi hz0 ⟨g, 0, none⟩ l.length cap (bcells l) (by rw [hz1, bcells_length]; omega) holds ad 1 1 [.int .u8 c.toNat] hl hn (by omega) (by omega) (growslice_fits (by omega) (by rw [hz2]; omega))
      rw [this] at hr
      injection hr with e1 e2
      subst e1
      right
      simp [Value.ownBlock]

theorem appendS (w : World) (ty : TypeId) (base : Nat) (v : Value) (l m : List UInt8) (hown : w.ownsRow base 5 1 v l.length (bcells l))
    (hsz : l.length + m.length ≤ 8388608) (hbase : base ≤ w.heap.size) :
    ∃ v' w', (Builtin.append_ #[36, 9] ty #[v, .string ⟨m.toArray⟩]).run Try.prog w = .ok v' w' ∧ w'.ownsRow base 5 1 v' (l ++ m).length (bcells (l ++ m)) ∧ w.grownBy w' v.ownBlock ∧
      (v'.ownBlock = v.ownBlock ∨ v'.ownBlock = some w.heap.size) := by
  obtain ⟨i0, hi, hz0, hz1, hz2⟩ := info_parts Try.info5
  have hm : l.length + m.length ≤ maxLen := by unfold maxLen; omega
  have em : (ByteArray.mk m.toArray).size = m.length := size_mk m
  obtain ⟨v', w', hr, ho, hg, hn0⟩ := Lib.run_append_own_string (P := Try.prog) w base 36 9 ty 5 i0 Try.underlying36 Try.underlying9 hi hz0 hz1 hz2 v l.length (bcells l) hown ⟨m.toArray⟩ (by rw [em]; exact hm) (by rw [em]; omega) hbase
  refine ⟨v', w', hr, by rw [bcells_append, List.length_append, ← em, ← bcells_str m]; exact ho, hg, ?_⟩
  rcases hown.2 with ⟨rfl, h0⟩ | ⟨g, cap, cur, rfl, hbg, hgg, hnc, hcm, hcs, htake⟩
  · by_cases hm0 : m.length = 0
    · left
      have := hn0.2 ⟨rfl, by rw [em]; exact hm0⟩
      rw [this]
    · have := run_append_nil_string (P := Try.prog) w 36 9 ty 5 i0 (.int .u8 0) Try.underlying36 Try.underlying9 hi hz0 ⟨m.toArray⟩ (by rw [em]; omega) (by rw [em]; omega) (by rw [em, hz2]; omega)
      rw [this] at hr
      injection hr with e1 e2
      subst e1
      right
      simp [Value.ownBlock]
  · by_cases hroom : l.length + m.length ≤ cap
    · have := Lib.run_append_room_string (P := Try.prog) w 36 9 ty 5 i0 Try.underlying36 Try.underlying9 hi hz1 g l.length cap cur hgg ⟨m.toArray⟩ (by rw [em]; exact hroom) (by rw [em, hcs]; omega)
      rw [this] at hr
      injection hr with e1 e2
      subst e1
      left
      simp [Value.ownBlock]
    · have holds : ∀ j u, (bcells l)[j]? = some u → w.cell? ((⟨g, 0, none⟩ : Addr).add j) = some u := hown.cells (g := g) rfl
      have := Lib.run_append_grow_string (P := Try.prog) w 36 9 ty 5 i0 (.int .u8 0) Try.underlying36 Try.underlying9 hi hz0 ⟨g, 0, none⟩ l.length cap (bcells l) (by rw [hz1, bcells_length]; omega) holds ⟨m.toArray⟩ (by rw [em]; omega) (by rw [em]; omega) (growslice_fits (by rw [em]; omega) (by rw [em, hz2]; omega))
      rw [this] at hr
      injection hr with e1 e2
      subst e1
      right
      simp [Value.ownBlock]

theorem wp_append1 {ops : Array Oper} {rest : List Oper} {o : Oper} {a : Act} {Q : Exit → Act → World → Prop} (w : World) (hgd : o.guard = none) (s x : Operand)
    (ho : o.op = .call { callee := .builtin .append, args := #[s, x], argTypes := #[36, 36] }) (base : Nat) (v : Value) (l : List UInt8) (hs : a.eval s = v)
    (hown : w.ownsRow base 5 1 v l.length (bcells l)) (c : UInt8) (ad : Addr) (hx : a.eval x = .slice (some ad) 1 1)
    (hnew : w.cell? ad = some (.int .u8 c.toNat)) (hsz : l.length + 1 ≤ 8388608) (hbase : base ≤ w.heap.size)
    (h : ∀ v' w', w'.ownsRow base 5 1 v' (l ++ [c]).length (bcells (l ++ [c])) → w.grownBy w' v.ownBlock → (v'.ownBlock = v.ownBlock ∨ v'.ownBlock = some w.heap.size) → wpList Try.prog ops Q rest (a.put o.dst v') w') :
    wpList Try.prog ops Q (o :: rest) a w := by
  refine wpList_plain hgd fun K hK => ?_
  obtain ⟨v', w', hr, h2, h3, h4⟩ := append1 w o.type base v l hown c ad hnew hsz hbase
  unfold Oper.wp execOp
  simp only [ho, resolve, invoke, builtin, Sem.run_bind, Sem.run_pure, Result.andThen_ok, List.map_toArray, List.map_cons, List.map_nil, hs, hx, hr]
  exact hK _ _ (h v' w' h2 h3 h4)

theorem wp_appendS {ops : Array Oper} {rest : List Oper} {o : Oper} {a : Act} {Q : Exit → Act → World → Prop} (w : World) (hgd : o.guard = none) (s x : Operand)
    (ho : o.op = .call { callee := .builtin .append, args := #[s, x], argTypes := #[36, 9] }) (base : Nat) (v : Value) (l m : List UInt8) (hs : a.eval s = v)
    (hown : w.ownsRow base 5 1 v l.length (bcells l)) (hx : a.eval x = .string ⟨m.toArray⟩) (hsz : l.length + m.length ≤ 8388608) (hbase : base ≤ w.heap.size)
    (h : ∀ v' w', w'.ownsRow base 5 1 v' (l ++ m).length (bcells (l ++ m)) → w.grownBy w' v.ownBlock → (v'.ownBlock = v.ownBlock ∨ v'.ownBlock = some w.heap.size) → wpList Try.prog ops Q rest (a.put o.dst v') w') :
    wpList Try.prog ops Q (o :: rest) a w := by
  refine wpList_plain hgd fun K hK => ?_
  obtain ⟨v', w', hr, h2, h3, h4⟩ := appendS w o.type base v l m hown hsz hbase
  unfold Oper.wp execOp
  simp only [ho, resolve, invoke, builtin, Sem.run_bind, Sem.run_pure, Result.andThen_ok, List.map_toArray, List.map_cons, List.map_nil, hs, hx, hr]
  exact hK _ _ (h v' w' h2 h3 h4)

theorem conv_nil (w : World) : (convert 36 9 (.slice none 0 0)).run Try.prog w = .ok (.string ⟨#[]⟩) w := by
  rw [run_convert_bytes_string w 36 9 5 none 0 0 Try.underlying36 Try.underlying5 Try.underlying9]
  rfl

theorem conv_own (w : World) (base : Nat) (v : Value) (l : List UInt8) (hown : w.ownsRow base 5 1 v l.length (bcells l)) (W : World) (hW : W.heap = w.heap) :
    (convert 36 9 v).run Try.prog W = .ok (.string ⟨l.toArray⟩) W := by
  rcases hown.2 with ⟨rfl, h0⟩ | ⟨g, cap, cur, rfl, hbg, hgg, hnc, hcm, hcs, htake⟩
  · have : l = [] := List.eq_nil_of_length_eq_zero h0
    subst this
    exact conv_nil W
  · refine conv_bytes W _ _ _ l rfl ?_
    intro j u hj
    have := hown.cells (g := g) rfl j u hj
    simpa [World.cell?, hW] using this
end Go.Proofs.Ytbjcmnemcgadjaa
