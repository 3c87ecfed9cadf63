/-
  Where an event's reading is of bulk at most 1048576, so are its texts.
-/
import Derived.Test.YtdembcpljjgbkadDoorSnOpen
import Derived.Test.YtdembcpljjgbkadDoorSnTell2
namespace Go.Proofs.YtdembcpljjgbkadDoor
open Go.ChangeShapes Go.WideShapes Go.ChangeAt Go.RowKit
open Go.ChangeMaps (open_string shut_string)
set_option linter.unusedVariables false

theorem bulk_mem {H : Type} : ∀ (l : List (DataW H)) (i : Nat) (d : DataW H), l[i]? = some d → Rows.uptoBulk d ≤ Rows.uptoBulkAll l
  | [], i, d, h => by simp at h
  | x :: l, 0, d, h => by
    simp at h; subst h
    simp only [Rows.uptoBulkAll]; omega
  | x :: l, i + 1, d, h => by
    have := bulk_mem l i d (by simpa using h)
    simp only [Rows.uptoBulkAll]; omega

theorem event_size {H : Type} {enc : TypeId × Value → H} {w : World} {base : Nat} {spare : Nat → Bool} {held : Bool} {E : Ev} {d : DataW H} {p : List MemPlace} (h : DataW.Trod enc Tryd.prog w base spare held 48 (.agg E.cells) d p) (hk : Rows.uptoBulk d ≤ 1048576)
    (i : Nat) (hi : i < 11) (s : ByteArray) (f : Field) (hf0 : (Tryd.prog.fieldsOf 48)[i]? = some f) (hft : f.type = 9) (hc : (E.cells.toList.drop f.offset).take 1 = [.string s]) : s.size ≤ 1048576 := by
  obtain ⟨fuel, hf⟩ := h
  have hu : Tryd.prog.underlying 48 = some (.struct (Tryd.prog.fieldsOf 48)) := by simp [Program.fieldsOf, Tryd.underlying48]
  obtain ⟨ys, m, _, ex, _, hl, hf⟩ := DataW.trod_struct hu hf
  have g := hf i f hf0
  rw [hft, Tryd.cells9] at g
  have hl' : ys.length = 11 := by rw [hl]; kernel_rfl
  rw [show ((Value.agg E.cells).cells.toList.drop f.offset).take 1 = [.string s] from hc] at g
  rw [List.getElem?_eq_getElem (by omega : i < ys.length)] at g
  obtain ⟨z, e1, e2, _⟩ := DataW.trod_string Tryd.underlying9 g
  simp only [Prod.mk.injEq] at ex
  rw [ex.1] at hk
  simp only [Rows.uptoBulk] at hk
  have hm := bulk_mem (ys.map (·.1)) i (ys[i]'(by omega)).1 (by rw [List.getElem?_map, List.getElem?_eq_getElem (by omega : i < ys.length)]; rfl)
  rw [e2] at hm
  simp only [Rows.uptoBulk] at hm
  simp only [List.cons.injEq, Value.string.injEq, and_true] at e1
  rw [e1]
  have := size_len z
  omega

theorem event_fit {H : Type} {enc : TypeId × Value → H} {w : World} {base : Nat} {spare : Nat → Bool} {held : Bool} {E : Ev} {d : DataW H} {p : List MemPlace} (h : DataW.Trod enc Tryd.prog w base spare held 48 (.agg E.cells) d p) (hk : Rows.uptoBulk d ≤ 1048576) (hw : WfE E) : Fit E :=
  ⟨hw.num.1, hw.num.2, event_size h hk 6 (by omega) _ _ (by simp only [Program.fieldsOf, Tryd.underlying48]; rfl) rfl rfl, event_size h hk 7 (by omega) _ _ (by simp only [Program.fieldsOf, Tryd.underlying48]; rfl) rfl rfl,
    event_size h hk 8 (by omega) _ _ (by simp only [Program.fieldsOf, Tryd.underlying48]; rfl) rfl rfl, event_size h hk 9 (by omega) _ _ (by simp only [Program.fieldsOf, Tryd.underlying48]; rfl) rfl rfl⟩
end Go.Proofs.YtdembcpljjgbkadDoor
