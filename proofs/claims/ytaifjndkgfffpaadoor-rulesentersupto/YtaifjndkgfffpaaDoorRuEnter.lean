/-
  A player enters: the contract. Written by a program.
-/
import Derived.Test.YtaifjndkgfffpaaDoorRuTaken
import Derived.Test.YtaifjndkgfffpaaDoorMgG
import Derived.Test.YtaifjndkgfffpaaDoorMgO
namespace Go.Proofs.YtaifjndkgfffpaaDoor
open Go.RowKit
set_option linter.unusedVariables false

/-- Four results, the first one a land in a block. -/
theorem res_land4 {fn : Func} {p u t q : Tmp} (h : fn.results = #[.cell p 34, .tmp u, .tmp t, .tmp q]) (tmps : Array Value) (w : World) (g : Nat) (L : Ld) (x y z : Value)
    (hp : tmps.getD p undef = .pointer (some ⟨g, 0, none⟩)) (hx : tmps.getD u undef = x) (hy : tmps.getD t undef = y) (hz : tmps.getD q undef = z) (hg : w.heap[g]? = some (.cells L.cells 34 (0, 0))) :
    (results fn tmps).run Tryd.prog w = .ok (.tuple #[.agg L.cells, x, y, z]) w := by
  have hp' : tmps[p]?.getD undef = .pointer (some ⟨g, 0, none⟩) := by simpa using hp
  have hx' : tmps[u]?.getD undef = x := by simpa using hx
  have hy' : tmps[t]?.getD undef = y := by simpa using hy
  have hz' : tmps[q]?.getD undef = z := by simpa using hz
  have hl := run_loadVar_row (P := Tryd.prog) w g 34 34 L.cells (0, 0) _ hg Tryd.underlying34 rfl (by rw [L.size]; exact Tryd.sizeLand)
  simp [results, h, hp', hx', hy', hz', asAddr, hl]

/-- What lies where Enter has entered. -/
structure EnRel (L : Ld) (w w1 : World) : Prop where
  cod : Cod w1 w.heap.size L
  res : w1.heap[w.heap.size + 1]? = some (.cells zl.cells 34 (0, 0))
  low : Below w.heap.size w w1
theorem en_start (L : Ld) (w : World) : EnRel L w ((w.alloc (.cells L.cells 34)).alloc (.cells zl.cells 34)) := by
  refine ⟨(cod_new w L).alloc (.cells zl.cells 34), ?_, (below_box w (.cells L.cells 34)).alloc (by simp) (.cells zl.cells 34)⟩
  have := heap_alloc_new (w.alloc (.cells L.cells 34)) (.cells zl.cells 34)
  rw [World.size_alloc] at this; exact this
theorem EnRel.call {L : Ld} {w w1 w2 : World} (h : EnRel L w w1) (hb : Below w1.heap.size w1 w2) : EnRel L w w2 := by
  have hl := (Array.getElem?_eq_some_iff.1 h.res).1
  exact ⟨h.cod.behind hb (Nat.le_refl _), by rw [hb.block _ (by omega)]; exact h.res, h.low.trans (hb.mono h.low.size)⟩

/-- What Enter refuses. -/
def bars (L : Ld) (nm : ByteArray) : Int := if goodL L = false then 2 else if namedB nm = false then 1 else if takenL L nm = true then 1 else if (vacA L).2 = false then 4 else 0

set_option maxRecDepth 100000 in
set_option maxHeartbeats 4000000 in
theorem enter_bad (L : Ld) (nm : ByteArray) (w : World) (hwf : Wf L) (hs : nm.size ≤ 140737488355328) (hr : bars L nm ≠ 0) :
    Calls Tryd.prog 9 #[.agg L.cells, .string nm] w fun e w' => e = .returned (.tuple #[.agg L.cells, .int .i64 0, .slice none 0 0, .int .i64 (bars L nm)]) ∧ Below w.heap.size w w' := by
  have hz := (zero_of_info Tryd.zLand).1
  have D0 := hide (en_start L w)
  go_enter Tryd.func9, Tryd.ntmps9
  go_wp2_with (refine wl_land (.tmp 2) rfl rfl _ L rfl D0.out.cod ?_)
  refine (good_any L _ hwf).mono ?_
  rintro e w1 ⟨rfl, hb1⟩
  have D1 := hide (D0.out.call hb1)
  clear hb1 D0
  cases hg : goodL L with
  | false =>
    have HV := hide (show bars L nm = 2 by unfold bars; rw [if_pos hg])
    clear hg hr
    go_wp2_with (first | (refine wl_land (.tmp 2) rfl rfl _ L rfl D1.out.cod ?_) | (refine wl_row 34 (.tmp 4) (.tmp 15) rfl rfl (w.heap.size + 1) L.cells rfl rfl 34 zl.cells D1.out.res (by rw [L.size]; exact Tryd.sizeLand) (by rw [L.size, zl.size]) (land_one L) ?_))
    exact bodyPost_ret (v := .tuple #[.agg L.cells, .int .i64 0, .slice none 0 0, .int .i64 2]) (res_land4 rfl _ _ (w.heap.size + 1) L _ _ _ rfl rfl rfl rfl (setRow_heap _ _ _ _ _ _ D1.out.res)) rfl ⟨by rw [HV.out], below_setRow D1.out.low (by omega) _⟩
  | true =>
    go_wp2_with fail
    refine (rnamed_any nm _ hs).mono ?_
    rintro e w1' ⟨rfl, hw⟩
    rw [hw]
    clear hw w1'
    cases hn : namedB nm with
    | false =>
      have HV := hide (show bars L nm = 1 by unfold bars; rw [if_neg (by simp [hg]), if_pos hn])
      clear hg hr hn
      go_wp2_with (first | (refine wl_land (.tmp 2) rfl rfl _ L rfl D1.out.cod ?_) | (refine wl_row 34 (.tmp 4) (.tmp 25) rfl rfl (w.heap.size + 1) L.cells rfl rfl 34 zl.cells D1.out.res (by rw [L.size]; exact Tryd.sizeLand) (by rw [L.size, zl.size]) (land_one L) ?_))
      exact bodyPost_ret (v := .tuple #[.agg L.cells, .int .i64 0, .slice none 0 0, .int .i64 1]) (res_land4 rfl _ _ (w.heap.size + 1) L _ _ _ rfl rfl rfl rfl (setRow_heap _ _ _ _ _ _ D1.out.res)) rfl ⟨by rw [HV.out], below_setRow D1.out.low (by omega) _⟩
    | true =>
      go_wp2_with (refine wl_land (.tmp 2) rfl rfl _ L rfl D1.out.cod ?_)
      refine (rtaken_any L nm _).mono ?_
      rintro e w2 ⟨rfl, hb2⟩
      have D2 := hide (D1.out.call hb2)
      clear hb2 D1
      cases ht : takenL L nm with
      | true =>
        have HV := hide (show bars L nm = 1 by unfold bars; rw [if_neg (by simp [hg]), if_neg (by simp [hn]), if_pos ht])
        clear hg hr hn ht
        go_wp2_with (first | (refine wl_land (.tmp 2) rfl rfl _ L rfl D2.out.cod ?_) | (refine wl_row 34 (.tmp 4) (.tmp 25) rfl rfl (w.heap.size + 1) L.cells rfl rfl 34 zl.cells D2.out.res (by rw [L.size]; exact Tryd.sizeLand) (by rw [L.size, zl.size]) (land_one L) ?_))
        exact bodyPost_ret (v := .tuple #[.agg L.cells, .int .i64 0, .slice none 0 0, .int .i64 1]) (res_land4 rfl _ _ (w.heap.size + 1) L _ _ _ rfl rfl rfl rfl (setRow_heap _ _ _ _ _ _ D2.out.res)) rfl ⟨by rw [HV.out], below_setRow D2.out.low (by omega) _⟩
      | false =>
        have hv : (vacA L).2 = false := by
          cases h : (vacA L).2 with
          | false => rfl
          | true => exact absurd (by unfold bars; rw [if_neg (by simp [hg]), if_neg (by simp [hn]), if_neg (by simp [ht]), if_neg (by simp [h])]) hr
        have HV := hide (show bars L nm = 4 by unfold bars; rw [if_neg (by simp [hg]), if_neg (by simp [hn]), if_neg (by simp [ht]), if_pos hv])
        clear hg hr hn ht
        go_wp2_with (refine wl_land (.tmp 2) rfl rfl _ L rfl D2.out.cod ?_)
        refine (rfree_any L _).mono ?_
        rintro e w3 ⟨rfl, hb3⟩
        have D3 := hide (D2.out.call hb3)
        clear hb3 D2
        rw [hv]
        clear hv
        generalize (vacA L).1 = c
        go_wp2_with (first | (refine wl_land (.tmp 2) rfl rfl _ L rfl D3.out.cod ?_) | (refine wl_row 34 (.tmp 4) (.tmp 33) rfl rfl (w.heap.size + 1) L.cells rfl rfl 34 zl.cells D3.out.res (by rw [L.size]; exact Tryd.sizeLand) (by rw [L.size, zl.size]) (land_one L) ?_))
        exact bodyPost_ret (v := .tuple #[.agg L.cells, .int .i64 0, .slice none 0 0, .int .i64 4]) (res_land4 rfl _ _ (w.heap.size + 1) L _ _ _ rfl rfl rfl rfl (setRow_heap _ _ _ _ _ _ D3.out.res)) rfl ⟨by rw [HV.out], below_setRow D3.out.low (by omega) _⟩

end Go.Proofs.YtaifjndkgfffpaaDoor
