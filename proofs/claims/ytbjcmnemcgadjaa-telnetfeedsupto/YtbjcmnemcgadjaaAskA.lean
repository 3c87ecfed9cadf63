/-
  The contract of asked of the document's own answer, the worlds.
-/
import Derived.Test.YtbjcmnemcgadjaaMap
import Derived.Test.YtbjcmnemcgadjaaEq
namespace Go.Proofs.Ytbjcmnemcgadjaa
open Go.RowKit Go.Maps
set_option linter.unusedVariables false

theorem map_world {w w1 w2 w3 : World} {t : Tel} (hg1 : (((w.alloc (.cells t.cells 25)).alloc (.cells zt.cells 25)).alloc (.map #[] 0)).grownBy w1 (some (w.heap.size + 1 + 1)))
    (hg2 : w1.grownBy w2 (some (w.heap.size + 1 + 1))) (hg3 : w2.grownBy w3 (some (w.heap.size + 1 + 1))) :
    Cod w3 w.heap.size t ∧ Cod w3 (w.heap.size + 1) zt ∧ Below w.heap.size w w3 := by
  have hg := grown_trans (grown_trans hg1 hg2) hg3
  have hb : Below (w.heap.size + 2) (((w.alloc (.cells t.cells 25)).alloc (.cells zt.cells 25)).alloc (.map #[] 0)) w3 :=
    ⟨hg.os, hg.tape, hg.output, hg.size, fun k hk => hg.block k (by simp; omega) (by simp; omega)⟩
  refine ⟨?_, ?_, ((((Below.refl _ _).alloc (Nat.le_refl _) _).alloc (by simp) _).alloc (by simp; omega) _).trans (hb.mono (by omega))⟩
  · unfold Cod; rw [hb.block _ (by omega), Below.heap_alloc _ _ _ (by simp; omega), Below.heap_alloc _ _ _ (by simp)]; exact heap_alloc_new w _
  · have := heap_alloc_new (w.alloc (.cells t.cells 25)) (.cells zt.cells 25)
    rw [World.size_alloc] at this
    unfold Cod; rw [hb.block _ (by omega), Below.heap_alloc _ _ _ (by simp)]; exact this

theorem res2 {fn : Func} {p a1 : Tmp} (hf : fn.results = #[.cell p 25, .tmp a1]) {tmps : Array Value} {w : World} {b : Nat} {t : Tel} {x : Value}
    (h4 : tmps.getD p undef = .pointer (some ⟨b, 0, none⟩)) (h5 : tmps.getD a1 undef = x) (hc : Cod w b t) :
    (results fn tmps).run Try.prog w = .ok (.tuple #[t.val, x]) w := by
  simp only [Array.getD_eq_getD_getElem?] at h4 h5
  simp only [results, hf]
  simp [Result.andThen, h4, h5, asAddr, load25 w b t hc]

theorem set_world {w w1 w3 : World} {t : Tel} (t' : Tel) {o : Obj} {f : Nat} {v : Value} (k1 : Cod w1 w.heap.size t) (r1 : Cod w1 (w.heap.size + 1) zt) (l1 : Below w.heap.size w w1)
    (hb3 : Below (((w1.setCell ⟨w.heap.size, f, none⟩ v).alloc o).drew).heap.size (((w1.setCell ⟨w.heap.size, f, none⟩ v).alloc o).drew) w3) (hc : t.cells.setIfInBounds f v = t'.cells) :
    Cod w3 w.heap.size t' ∧ Cod w3 (w.heap.size + 1) zt ∧ Below w.heap.size w w3 := by
  have z := r1.lt
  have hz : w.heap.size + 1 < (((w1.setCell ⟨w.heap.size, f, none⟩ v).alloc o).drew).heap.size := by simp; omega
  refine ⟨cod_mk (cod_below (cod_drew (cod_alloc (cod_set k1 f v) o)) hb3 (by omega)) hc, cod_mk (cod_below (cod_drew (cod_alloc (cod_ne r1 (by omega) f v) o)) hb3 hz) rfl, ?_⟩
  refine (((l1.setCell (Nat.le_refl _) v).alloc ?_ o).drew).trans (hb3.mono (by omega))
  simp; omega

theorem say_world {w w1 w3 : World} {t : Tel} {o : Obj} (k1 : Cod w1 w.heap.size t) (r1 : Cod w1 (w.heap.size + 1) zt) (l1 : Below w.heap.size w w1)
    (hb3 : Below ((w1.alloc o).drew).heap.size ((w1.alloc o).drew) w3) :
    Cod w3 w.heap.size t ∧ Cod w3 (w.heap.size + 1) zt ∧ Below w.heap.size w w3 := by
  have z := r1.lt
  have hz : w.heap.size + 1 < ((w1.alloc o).drew).heap.size := by simp; omega
  refine ⟨cod_mk (cod_below (cod_drew (cod_alloc k1 o)) hb3 (by omega)) rfl, cod_mk (cod_below (cod_drew (cod_alloc r1 o)) hb3 hz) rfl, ?_⟩
  refine ((l1.alloc ?_ o).drew).trans (hb3.mono (by omega))
  omega

theorem lit_int {a b : Int} (h : (DataW.lit (H := Unit) (.int .i64 a)) = .lit (.int .i64 b)) : b = a := by
  injection h with h; injection h with _ h; exact h.symm

end Go.Proofs.Ytbjcmnemcgadjaa
