/-
  acts: its contract.
-/
import Derived.Test.YtaifjndkgfffpaaDoorMgG
import Derived.Test.YtaifjndkgfffpaaDoorMgF
namespace Go.Proofs.YtaifjndkgfffpaaDoor
open Go.RowKit
set_option linter.unusedVariables false

def mugO : Od := { verb := 7, nth := 1, all := false, name := ⟨#[109, 117, 103]⟩, second := ⟨#[]⟩, text := ⟨#[]⟩ }
theorem mug_len : (getE nl 0 mugO).length = 1 := by kernel_rfl
theorem mug_kind : ((getE nl 0 mugO).map (·.kind)) = [3] := by kernel_rfl
theorem mug_on : (getL nl 0 mugO).wh 6 = 1 := by kernel_rfl
theorem mug_first (h : 0 < (getE nl 0 mugO).length) : (getE nl 0 mugO)[0].kind = 3 := by
  have h2 : ((getE nl 0 mugO).map (·.kind))[0]? = some 3 := by rw [mug_kind]; rfl
  rw [List.getElem?_map, List.getElem?_eq_getElem h] at h2
  simpa using h2
theorem nl_here : nl.here 0 = true := by kernel_rfl

theorem event_of {w : World} {base : Nat} {v : Value} {Fs : List Ev} (h : w.ownsRow base 52 16 v Fs.length (evc Fs)) (k : Nat) (hk : k < Fs.length) : ∃ g cap, v = .slice (some ⟨g, 0, none⟩) Fs.length cap ∧ base ≤ g ∧ ∀ j, j < 16 → w.cell? ⟨g, k * 16 + j, none⟩ = Fs[k].cells[j]? := by
  rcases h.2 with ⟨rfl, h0⟩ | ⟨g, cap, cur, rfl, h1, h2, h3, h4, h5, h6⟩
  · omega
  · refine ⟨g, cap, rfl, h1, fun j hj => ?_⟩
    rw [cell_of_row w g _ _ _ _ h2]
    have hl : k * 16 + j < Fs.length * 16 := by omega
    have e1 : cur[k * 16 + j]? = (evc Fs)[k * 16 + j]? := by
      rw [← h6, List.getElem?_take, if_pos hl, Array.getElem?_toList]
    rw [e1]
    have key : ∀ (Gs : List Ev) (k : Nat) (hk : k < Gs.length), (evc Gs)[k * 16 + j]? = Gs[k].cells[j]? := by
      intro Gs
      induction Gs with
      | nil => intro k hk; simp at hk
      | cons E Gs ih =>
        intro k hk
        have hsz : E.cells.toList.length = 16 := by rw [Array.length_toList, Ev.size]
        show (E.cells.toList ++ evc Gs)[k * 16 + j]? = _
        cases k with
        | zero => rw [List.getElem?_append_left (by omega)]; simp
        | succ k =>
          rw [List.getElem?_append_right (by omega), hsz, show (k + 1) * 16 + j - 16 = k * 16 + j by omega]
          exact ih k (by simpa using hk)
    exact key Fs k hk

set_option maxRecDepth 100000 in
set_option maxHeartbeats 4000000 in
theorem kacts_any (w : World) (hv : Vb w) : Calls Tryd.prog 18 #[] w fun e w' => e = .returned (.bool true) ∧ Below w.heap.size w w' := by
  have hz := (zero_of_info Tryd.zLand).1
  go_enter Tryd.func18, Tryd.ntmps18
  go_wp2_with fail
  refine (new_any _).mono ?_
  rintro e w1 ⟨rfl, hb1⟩
  have B1 := hide hb1
  have HV := hide (hv.below hb1 (Nat.le_refl _))
  clear hb1 hv
  go_wp2_with fail
  refine (do_any nl (getL nl 0 mugO) (getE nl 0 mugO) 0 mugO _ HV.out wf_nl good_nl (by omega) nl_here (by decide) (by decide) (fun w0 w _ hS => act_get hS 0 (by omega) mugO rfl rfl (by decide) (by decide) (by simp))).mono ?_
  rintro e w2 ⟨v, rfl, ho, hb2⟩
  have B2 := hide (B1.out.trans (hb2.mono B1.out.size))
  obtain ⟨g, cap, rfl, hbg, hc⟩ := event_of ho 0 (by rw [mug_len]; omega)
  have hglt := (ho.lt g rfl).2
  have hk0 : w2.cell? ⟨g, 0, none⟩ = some (.int .i64 3) := by
    have := hc 0 (by omega)
    simp only [Nat.zero_mul, Nat.zero_add] at this
    rw [this]
    exact (show (getE nl 0 mugO)[0].cells[0]? = some (.int .i64 (getE nl 0 mugO)[0].kind) from rfl).trans (by rw [mug_first])
  rw [mug_len]
  clear ho hb2 hc hbg
  generalize hL : getL nl 0 mugO = M at *
  have hon : M.wh 6 = 1 := by rw [← hL]; exact mug_on
  have cm := (cod_new w2 M).thing 6 2 (by omega) (by omega)
  simp only [Ld.thingCell, hon] at cm
  have HL := hide hL
  have HB := hide (B2.out.alloc B2.out.size (.cells M.cells 34))
  clear hL hon
  go_wp2_with (refine wl_new 34 (.tmp 1) (.tmp 8) rfl rfl _ _ rfl rfl rfl (by rw [M.size]; exact Tryd.sizeLand) (by rw [M.size, zl.size]) (land_one M) ?_)
  go_ret
  exact ⟨rfl, HB.out⟩
end Go.Proofs.YtaifjndkgfffpaaDoor
