/-
  An order that comes in: how it is read; its texts are not too long.
-/
import Derived.Test.YtaifjndkgfffpaaDoorRuOpen
import Derived.Test.YtaifjndkgfffpaaDoorRuActA
namespace Go.Proofs.YtaifjndkgfffpaaDoor
open Go.ChangeShapes Go.WideShapes Go.ChangeAt Go.RowKit
open Go.ChangeMaps (open_string shut_string)
set_option linter.unusedVariables false

theorem Tryd.cellsOrder : Tryd.prog.cellsOf 47 = 6 := by kernel_rfl
theorem Tryd.recOrder : Tryd.prog.readableRec 47 = true := by kernel_rfl
def odOf (c : Nat → Value) : Od := { verb := intOf (c 0), nth := intOf (c 1), all := bOf (c 2), name := sOf (c 3), second := sOf (c 4), text := sOf (c 5) }
def rOrderD {H : Type} : DataW H := .agg [.lit (.int .i64 0), .lit (.int .i64 0), .lit (.bool false), .lit (.string []), .lit (.string []), .lit (.string [])]
def zOrd : Od := { verb := 0, nth := 0, all := false, name := ⟨#[]⟩, second := ⟨#[]⟩, text := ⟨#[]⟩ }

set_option maxRecDepth 100000 in
theorem open_order {H : Type} {enc : TypeId × Value → H} {w : World} {base : Nat} {spare : Nat → Bool} {held : Bool} {r : Reach} {b0 : Nat} {v : Value} {d : DataW H} {p : List MemPlace} (hv : Value.okWide Tryd.prog w r b0 47 v) (h : DataW.Trod enc Tryd.prog w base spare held 47 v d p) :
    ∃ O : Od, v = .agg O.cells ∧ (-9223372036854775808 ≤ O.nth ∧ O.nth ≤ 9223372036854775807) ∧ O.name.size ≤ Rows.uptoBulk d ∧ O.second.size ≤ Rows.uptoBulk d ∧ O.text.size ≤ Rows.uptoBulk d := by
  obtain ⟨cs, rfl, hsz⟩ := okWide_struct Tryd.underlying47 hv
  rw [Tryd.cellsOrder] at hsz
  obtain ⟨fuel, hf⟩ := h
  obtain ⟨ys, m, _, ex, _, hl, hf⟩ := DataW.trod_struct Tryd.underlying47 hf
  have hs : Sub (fun n => cs.getD n undef) 0 6 cs.toList := ⟨by simpa using hsz, fun j hj => by simp [hsz, hj]⟩
  have g0 : DataW.trod enc Tryd.prog w base spare held m 3 ((cs.toList.drop 0).take (Tryd.prog.cellsOf 3)) = ys[0]? := hf 0 _ rfl
  rw [Tryd.cells3] at g0
  have i0 := sub_int (hs.cut 0 1 (by omega)) g0 (isSome_get hl (by decide))
  have g1 : DataW.trod enc Tryd.prog w base spare held m 3 ((cs.toList.drop 1).take (Tryd.prog.cellsOf 3)) = ys[1]? := hf 1 _ rfl
  rw [Tryd.cells3] at g1
  have i1 := sub_int (hs.cut 1 1 (by omega)) g1 (isSome_get hl (by decide))
  have g2 : DataW.trod enc Tryd.prog w base spare held m 4 ((cs.toList.drop 2).take (Tryd.prog.cellsOf 4)) = ys[2]? := hf 2 _ rfl
  rw [Tryd.cells4] at g2
  have i2 := sub_bool (hs.cut 2 1 (by omega)) g2 (isSome_get hl (by decide))
  have g3 : DataW.trod enc Tryd.prog w base spare held m 9 ((cs.toList.drop 3).take (Tryd.prog.cellsOf 9)) = ys[3]? := hf 3 _ rfl
  rw [Tryd.cells9] at g3
  have s3 := sub_str (hs.cut 3 1 (by omega)) g3 (isSome_get hl (by decide))
  have g4 : DataW.trod enc Tryd.prog w base spare held m 9 ((cs.toList.drop 4).take (Tryd.prog.cellsOf 9)) = ys[4]? := hf 4 _ rfl
  rw [Tryd.cells9] at g4
  have s4 := sub_str (hs.cut 4 1 (by omega)) g4 (isSome_get hl (by decide))
  have g5 : DataW.trod enc Tryd.prog w base spare held m 9 ((cs.toList.drop 5).take (Tryd.prog.cellsOf 9)) = ys[5]? := hf 5 _ rfl
  rw [Tryd.cells9] at g5
  have s5 := sub_str (hs.cut 5 1 (by omega)) g5 (isSome_get hl (by decide))
  simp only [Prod.mk.injEq] at ex
  have hbig : ∀ (i : Nat) (o : Nat) (l : List Value), i < 6 → Sub (fun n => cs.getD n undef) o 1 l → DataW.trod enc Tryd.prog w base spare held m 9 l = ys[i]? → (sOf (cs.getD o undef)).size ≤ Rows.uptoBulk d := by
    intro i o l hi hsub hg
    obtain ⟨y, hy⟩ := Option.isSome_iff_exists.1 (isSome_get (i := i) hl hi)
    rw [hy] at hg
    obtain ⟨z, e1, e2⟩ := bulk_str hsub hg
    have hm := rbulk_mem (ys.map (·.1)) i y.1 (by rw [List.getElem?_map, hy]; rfl)
    have e3 : sOf (cs.getD o undef) = z := by
      have : cs.getD o undef = .string z := e1
      rw [this]; rfl
    rw [e3, ex.1]
    simp only [Rows.uptoBulk]
    omega
  have z3 := hbig 3 _ _ (by omega) (hs.cut 3 1 (by omega)) g3
  have z4 := hbig 4 _ _ (by omega) (hs.cut 4 1 (by omega)) g4
  have z5 := hbig 5 _ _ (by omega) (hs.cut 5 1 (by omega)) g5
  simp only [Nat.zero_add] at i0 i1 i2 s3 s4 s5 z3 z4 z5
  refine ⟨odOf (fun n => cs.getD n undef), congrArg Value.agg ?_, i1.bounds, z3, z4, z5⟩
  have hc : ∀ n, n < 6 → cs[n]? = some (cs.getD n undef) := fun n hn => by simp [hsz, hn]
  apply Array.ext_getElem?
  intro n
  by_cases hn : n < 6
  · rw [hc n hn]
    have key : ∀ m, m < 6 → (odOf (fun n => cs.getD n undef)).cells[m]? = some (cs.getD m undef) := by
      intro m hm
      match m, hm with
      | 0, _ => exact congrArg some i0.eq
      | 1, _ => exact congrArg some i1.eq
      | 2, _ => exact congrArg some i2.eq
      | 3, _ => exact congrArg some s3.eq
      | 4, _ => exact congrArg some s4.eq
      | 5, _ => exact congrArg some s5.eq
      | n + 6, h => exact absurd h (by omega)
    exact (key n hn).symm
  · rw [Array.getElem?_eq_none (by omega), Array.getElem?_eq_none (by simp [Od.cells]; omega)]
end Go.Proofs.YtaifjndkgfffpaaDoor
