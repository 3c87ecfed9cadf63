/-
  acts: its contract.
-/
import Derived.Test.YtaifjndkgfffpaaDoorRuDo
import Derived.Test.YtaifjndkgfffpaaDoorLdNestP
namespace Go.Proofs.YtaifjndkgfffpaaDoor
open Go.RowKit
set_option linter.unusedVariables false

def mugO : Od := { verb := 7, nth := 1, all := false, name := ⟨#[109, 117, 103]⟩, second := ⟨#[]⟩, text := ⟨#[]⟩ }
theorem mug_len : (getE nl 0 mugO).length = 1 := by kernel_rfl
theorem mug_kind : ((getE nl 0 mugO).map (·.kind)) = [3] := by kernel_rfl
theorem mug_on : (getL nl 0 mugO).wh 6 = 1 := by kernel_rfl
theorem mug_first (h : 0 < (getE nl 0 mugO).length) : (getE nl 0 mugO)[0].kind = 3 := by
  have h2 : ((getE nl 0 mugO).map (·.kind))[0]? = some 3 := by rw [mug_kind]; rfl
  rw [List.getElem?_map, List.getElem?_eq_getElem h] at h2
  simpa using h2
theorem nl_here : nl.here 0 = true := by kernel_rfl

theorem event_of {w : World} {base : Nat} {v : Value} {Fs : List Ev} (h : w.ownsRow base 52 16 v Fs.length (evc Fs)) (k : Nat) (hk : k < Fs.length) : ∃ g cap, v = .slice (some ⟨g, 0, none⟩) Fs.length cap ∧ base ≤ g ∧ ∀ j, j < 16 → w.cell? ⟨g, k * 16 + j, none⟩ = Fs[k].cells[j]? := by
  rcases h.2 with ⟨rfl, h0⟩ | ⟨g, cap, cur, rfl, h1, h2, h3, h4, h5, h6⟩
  · omega
  · refine ⟨g, cap, rfl, h1, fun j hj => ?_⟩
    rw [cell_of_row w g _ _ _ _ h2]
    have hl : k * 16 + j < Fs.length * 16 := by omega
    have e1 : cur[k * 16 + j]? = (evc Fs)[k * 16 + j]? := by
      rw [← h6, List.getElem?_take, if_pos hl, Array.getElem?_toList]
    rw [e1]
    have key : ∀ (Gs : List Ev) (k : Nat) (hk : k < Gs.length), (evc Gs)[k * 16 + j]? = Gs[k].cells[j]? := by
      intro Gs
      induction Gs with
      | nil => intro k hk; simp at hk
      | cons E Gs ih =>
        intro k hk
        have hsz : E.cells.toList.length = 16 := by rw [Array.length_toList, Ev.size]
        show (E.cells.toList ++ evc Gs)[k * 16 + j]? = _
        cases k with
        | zero => rw [List.getElem?_append_left (by omega)]; simp
        | succ k =>
          rw [List.getElem?_append_right (by omega), hsz, show (k + 1) * 16 + j - 16 = k * 16 + j by omega]
          exact ih k (by simpa using hk)
    exact key Fs k hk

set_option maxRecDepth 100000 in
set_option maxHeartbeats 4000000 in
theorem kacts_any (w : World) (hv : Vb w) : Calls Tryd.prog 18 #[] w fun e w' => e = .returned (.bool true) ∧ Below w.heap.size w w' := by
  have hz := (zero_of_info Tryd.zLand).1
  go_enter Tryd.func18, Tryd.ntmps18
  go_wp2_with fail
  refine (new_any _).mono ?_
  rintro e w1 ⟨rfl, hb1⟩
  have B1 := hide hb1
  have HV := hide (hv.below hb1 (Nat.le_refl _))
  clear hb1 hv
  go_wp2_with fail
  refine (do_any nl (getL nl 0 mugO) (getE nl 0 mugO) 0 mugO _ HV.out wf_nl good_nl (by omega) nl_here (by decide) (by decide) (fun w0 w _ hS => act_get hS 0 (by omega) mugO rfl rfl (by decide) (by decide) (by simp))).mono ?_
  rintro e w2 ⟨v, rfl, ho, hb2⟩
  have B2 := hide (B1.out.trans (hb2.mono B1.out.size))
  obtain ⟨g, cap, rfl, hbg, hc⟩ := event_of ho 0 (by rw [mug_len]; omega)
  have hglt := (ho.lt g rfl).2
  have hk0 : w2.cell? ⟨g, 0, none⟩ = some (.int .i64 3) := by
    have := hc 0 (by omega)
    simp only [Nat.zero_mul, Nat.zero_add] at this
    rw [this]
    exact (show (getE nl 0 mugO)[0].cells[0]? = some (.int .i64 (getE nl 0 mugO)[0].kind) from rfl).trans (by rw [mug_first])
  rw [mug_len]
  clear ho hb2 hc hbg
  generalize hL : getL nl 0 mugO = M at *
  have hon : M.wh 6 = 1 := by rw [← hL]; exact mug_on
  have cm := (cod_new w2 M).thing 6 2 (by omega) (by omega)
  simp only [Ld.thingCell, hon] at cm
  have HL := hide hL
  have HB := hide (B2.out.alloc B2.out.size (.cells M.cells 34))
  clear hL hon
  go_wp2_with (refine wl_new 34 (.tmp 1) (.tmp 8) rfl rfl _ _ rfl rfl rfl (by rw [M.size]; exact Tryd.sizeLand) (by rw [M.size, zl.size]) (land_one M) ?_)
  go_ret
  exact ⟨rfl, HB.out⟩
end Go.Proofs.YtaifjndkgfffpaaDoor
/-
  Do, where it says no; acts: contracts.
-/
namespace Go.Proofs.YtaifjndkgfffpaaDoor
open Go.RowKit
set_option linter.unusedVariables false

/-- What Do refuses. -/
def refuses (L : Ld) (b : Int) (verb : Int) : Int := if goodL L = false then 2 else if amg b 6 = false then 3 else if L.here b.toNat = false then 3 else if verb < 0 ∨ 20 < verb then 5 else 0

/-- What lies where Do has entered. -/
structure DoRel (L : Ld) (O : Od) (w w1 : World) : Prop where
  cod : Cod w1 w.heap.size L
  ord : w1.heap[w.heap.size + 1]? = some (.cells O.cells 47 (0, 0))
  res : w1.heap[w.heap.size + 1 + 1]? = some (.cells zl.cells 34 (0, 0))
  low : Below w.heap.size w w1
theorem do_start (L : Ld) (O : Od) (w : World) : DoRel L O w (((w.alloc (.cells L.cells 34)).alloc (.cells O.cells 47)).alloc (.cells zl.cells 34)) := by
  refine ⟨((cod_new w L).alloc (.cells O.cells 47)).alloc (.cells zl.cells 34), ?_, ?_, ((below_box w (.cells L.cells 34)).alloc (by simp) (.cells O.cells 47)).alloc (by simp; omega) (.cells zl.cells 34)⟩
  · rw [Below.heap_alloc _ _ _ (by simp)]
    have := heap_alloc_new (w.alloc (.cells L.cells 34)) (.cells O.cells 47)
    rw [World.size_alloc] at this; exact this
  · have := heap_alloc_new ((w.alloc (.cells L.cells 34)).alloc (.cells O.cells 47)) (.cells zl.cells 34)
    rw [World.size_alloc, World.size_alloc] at this; exact this
theorem DoRel.call {L : Ld} {O : Od} {w w1 w2 : World} (h : DoRel L O w w1) (hb : Below w1.heap.size w1 w2) : DoRel L O w w2 := by
  have hl := (Array.getElem?_eq_some_iff.1 h.res).1
  exact ⟨h.cod.behind hb (Nat.le_refl _), by rw [hb.block _ (by omega)]; exact h.ord, by rw [hb.block _ (by omega)]; exact h.res, h.low.trans (hb.mono h.low.size)⟩

set_option maxRecDepth 100000 in
set_option maxHeartbeats 4000000 in
theorem do_bad (L : Ld) (b : Int) (O : Od) (w : World) (hwf : Wf L) (hr : refuses L b O.verb ≠ 0) :
    Calls Tryd.prog 17 #[.agg L.cells, .int .i64 b, .agg O.cells] w fun e w' => e = .returned (.tuple #[.agg L.cells, .slice none 0 0, .int .i64 (refuses L b O.verb)]) ∧ Below w.heap.size w w' := by
  have hz := (zero_of_info Tryd.zLand).1
  have D0 := hide (do_start L O w)
  go_enter Tryd.func17, Tryd.ntmps17
  go_wp2_with (refine wl_land (.tmp 3) rfl rfl _ L rfl D0.out.cod ?_)
  refine (good_any L _ hwf).mono ?_
  rintro e w1 ⟨rfl, hb1⟩
  have D1 := hide (D0.out.call hb1)
  clear hb1 D0
  cases hg : goodL L with
  | false =>
    have HV := hide (show refuses L b O.verb = 2 by unfold refuses; rw [if_pos hg])
    clear hg hr
    go_wp2_with (first | (refine wl_land (.tmp 3) rfl rfl _ L rfl D1.out.cod ?_) | (refine wl_row 34 (.tmp 6) (.tmp 14) rfl rfl (w.heap.size + 1 + 1) L.cells rfl rfl 34 zl.cells D1.out.res (by rw [L.size]; exact Tryd.sizeLand) (by rw [L.size, zl.size]) (land_one L) ?_))
    exact bodyPost_ret (v := .tuple #[.agg L.cells, .slice none 0 0, .int .i64 2]) (res_land rfl _ _ (w.heap.size + 1 + 1) L _ _ rfl rfl rfl (setRow_heap _ _ _ _ _ _ D1.out.res)) rfl ⟨by rw [HV.out], below_setRow D1.out.low (by omega) _⟩
  | true =>
    cases ha : amg b 6 with
    | false =>
      have HV := hide (show refuses L b O.verb = 3 by unfold refuses; rw [if_neg (by simp [hg]), if_pos ha])
      have hn := amg_neg ha
      clear hg hr
      by_cases h0 : b < 0
      · have hd0 : decide (b < 0) = true := by simpa using h0
        clear ha hn
        go_wp2_with (first | (refine wl_land (.tmp 3) rfl rfl _ L rfl D1.out.cod ?_) | (refine wl_row 34 (.tmp 6) (.tmp 30) rfl rfl (w.heap.size + 1 + 1) L.cells rfl rfl 34 zl.cells D1.out.res (by rw [L.size]; exact Tryd.sizeLand) (by rw [L.size, zl.size]) (land_one L) ?_))
        exact bodyPost_ret (v := .tuple #[.agg L.cells, .slice none 0 0, .int .i64 3]) (res_land rfl _ _ (w.heap.size + 1 + 1) L _ _ rfl rfl rfl (setRow_heap _ _ _ _ _ _ D1.out.res)) rfl ⟨by rw [HV.out], below_setRow D1.out.low (by omega) _⟩
      · have hd0 : decide (b < 0) = false := by simpa using h0
        have h6 : (6 : Int) ≤ b := by omega
        have hd6 : decide ((6 : Int) ≤ b) = true := by simpa using h6
        clear ha hn
        go_wp2_with (first | (refine wl_land (.tmp 3) rfl rfl _ L rfl D1.out.cod ?_) | (refine wl_row 34 (.tmp 6) (.tmp 30) rfl rfl (w.heap.size + 1 + 1) L.cells rfl rfl 34 zl.cells D1.out.res (by rw [L.size]; exact Tryd.sizeLand) (by rw [L.size, zl.size]) (land_one L) ?_))
        exact bodyPost_ret (v := .tuple #[.agg L.cells, .slice none 0 0, .int .i64 3]) (res_land rfl _ _ (w.heap.size + 1 + 1) L _ _ rfl rfl rfl (setRow_heap _ _ _ _ _ _ D1.out.res)) rfl ⟨by rw [HV.out], below_setRow D1.out.low (by omega) _⟩
    | true =>
      obtain ⟨h0, h6⟩ := amg_pos ha
      obtain ⟨k, rfl⟩ := Int.eq_ofNat_of_zero_le h0
      have hk : k < 6 := by omega
      have ch := D1.out.cod.being k 1 hk (by omega)
      simp only [Ld.beingCell] at ch
      cases hh : L.here k with
      | false =>
        have HV := hide (show refuses L (k : Int) O.verb = 3 by unfold refuses; rw [if_neg (by simp [hg]), if_neg (by simp [ha]), if_pos (by simpa using hh)])
        rw [hh] at ch
        clear hg hr ha hh
        go_wp2_with (first | (refine wl_land (.tmp 3) rfl rfl _ L rfl D1.out.cod ?_) | (refine wl_row 34 (.tmp 6) (.tmp 30) rfl rfl (w.heap.size + 1 + 1) L.cells rfl rfl 34 zl.cells D1.out.res (by rw [L.size]; exact Tryd.sizeLand) (by rw [L.size, zl.size]) (land_one L) ?_))
        exact bodyPost_ret (v := .tuple #[.agg L.cells, .slice none 0 0, .int .i64 3]) (res_land rfl _ _ (w.heap.size + 1 + 1) L _ _ rfl rfl rfl (setRow_heap _ _ _ _ _ _ D1.out.res)) rfl ⟨by rw [HV.out], below_setRow D1.out.low (by omega) _⟩
      | true =>
        have hv : O.verb < 0 ∨ 20 < O.verb := by
          by_cases hx : O.verb < 0 ∨ 20 < O.verb
          · exact hx
          · exfalso; apply hr; unfold refuses; rw [if_neg (by simp [hg]), if_neg (by simp [ha]), if_neg (by simp [hh]), if_neg hx]
        have HV := hide (show refuses L (k : Int) O.verb = 5 by unfold refuses; rw [if_neg (by simp [hg]), if_neg (by simp [ha]), if_neg (by simp [hh]), if_pos hv])
        rw [hh] at ch
        have cv : w1.cell? ⟨w.heap.size + 1, 0, none⟩ = some (.int .i64 O.verb) := by rw [cell_of_row _ _ _ _ _ _ D1.out.ord]; rfl
        clear hg hr ha hh
        by_cases hv0 : O.verb < 0
        · have hdv : decide (O.verb < 0) = true := by simpa using hv0
          clear hv
          go_wp2_with (first | (refine wl_land (.tmp 3) rfl rfl _ L rfl D1.out.cod ?_) | (refine wl_row 34 (.tmp 6) (.tmp 40) rfl rfl (w.heap.size + 1 + 1) L.cells rfl rfl 34 zl.cells D1.out.res (by rw [L.size]; exact Tryd.sizeLand) (by rw [L.size, zl.size]) (land_one L) ?_))
          exact bodyPost_ret (v := .tuple #[.agg L.cells, .slice none 0 0, .int .i64 5]) (res_land rfl _ _ (w.heap.size + 1 + 1) L _ _ rfl rfl rfl (setRow_heap _ _ _ _ _ _ D1.out.res)) rfl ⟨by rw [HV.out], below_setRow D1.out.low (by omega) _⟩
        · have hdv : decide (O.verb < 0) = false := by simpa using hv0
          have hv1 : 20 < O.verb := by omega
          have hdw : decide (20 < O.verb) = true := by simpa using hv1
          clear hv
          go_wp2_with (first | (refine wl_land (.tmp 3) rfl rfl _ L rfl D1.out.cod ?_) | (refine wl_row 34 (.tmp 6) (.tmp 40) rfl rfl (w.heap.size + 1 + 1) L.cells rfl rfl 34 zl.cells D1.out.res (by rw [L.size]; exact Tryd.sizeLand) (by rw [L.size, zl.size]) (land_one L) ?_))
          exact bodyPost_ret (v := .tuple #[.agg L.cells, .slice none 0 0, .int .i64 5]) (res_land rfl _ _ (w.heap.size + 1 + 1) L _ _ rfl rfl rfl (setRow_heap _ _ _ _ _ _ D1.out.res)) rfl ⟨by rw [HV.out], below_setRow D1.out.low (by omega) _⟩
end Go.Proofs.YtaifjndkgfffpaaDoor
