/-
  All: its contract.
-/
import Derived.Test.YtaifjndkgfffpaaDoorSnPerc
namespace Go.Proofs.YtaifjndkgfffpaaDoor
open Go.RowKit
set_option linter.unusedVariables false

/-- An event, as it is perceived by all; by the first k of them. -/
def allE (L : Ld) (E : Ev) : Ev := { E with by' := fun j => percL L (j : Int) E.kind E.room E.actor E.other }
def allK (L : Ld) (E : Ev) (k : Nat) : Ev := { E with by' := fun j => if j < k then percL L (j : Int) E.kind E.room E.actor E.other else E.by' j }
theorem allK_zero (L : Ld) (E : Ev) : (allK L E 0).cells = E.cells := Ev.ext_by _ (fun j _ => by simp [allK]) rfl rfl rfl rfl rfl rfl rfl rfl rfl rfl
theorem allK_all (L : Ld) (E : Ev) : (allK L E 6).cells = (allE L E).cells := Ev.ext_by _ (fun j hj => by simp [allK, allE, hj]) rfl rfl rfl rfl rfl rfl rfl rfl rfl rfl
theorem allK_next (L : Ld) (E : Ev) (k : Nat) : ((allK L E k).setBy k (percL L (k : Int) E.kind E.room E.actor E.other)).cells = (allK L E (k + 1)).cells :=
  Ev.ext_by _ (fun j hj => by
    simp only [allK, Ev.setBy]
    by_cases e : j = k
    · subst e; simp
    · rw [if_neg e]
      by_cases h : j < k
      · rw [if_pos h, if_pos (by omega)]
      · rw [if_neg h, if_neg (by omega)]) rfl rfl rfl rfl rfl rfl rfl rfl rfl rfl

theorem Cev.frozen {w : World} {b : Nat} {E : Ev} (h : Cev w b E) (o : Nat) : w.frozen? ⟨b, o, none⟩ = false := by
  unfold Cev at h
  simp only [World.frozen?, h]
  simp
theorem Cev.same {w : World} {b : Nat} {E F : Ev} (h : Cev w b E) (e : E.cells = F.cells) : Cev w b F := by
  unfold Cev at h ⊢; rw [← e]; exact h

/-- A round's head. -/
structure AvRel (L : Ld) (E : Ev) (k : Nat) (w wr : World) : Prop where
  pv : PvRel L (allK L E k) w wr
  res : ∃ z : Array Value, z.size = 16 ∧ wr.heap[w.heap.size + 2]? = some (.cells z 52 (0, 0))
theorem AvRel.call {L : Ld} {E : Ev} {k : Nat} {w wr w1 : World} (h : AvRel L E k w wr) (hb : Below wr.heap.size wr w1) : AvRel L E k w w1 := by
  refine ⟨h.pv.call hb, ?_⟩
  obtain ⟨z, hz, hr⟩ := h.res
  exact ⟨z, hz, by rw [hb.block _ (Array.getElem?_eq_some_iff.1 hr).1]; exact hr⟩
theorem AvRel.put {L : Ld} {E : Ev} {k : Nat} {w wr : World} (h : AvRel L E k w wr) (hk : k < 6) :
    AvRel L E (k + 1) w (wr.setCell ⟨w.heap.size + 1, 10 + k, none⟩ (.int .i64 (percL L (k : Int) E.kind E.room E.actor E.other))) := by
  refine ⟨⟨h.pv.cod.set (by omega) _ _, (h.pv.cev.put k hk _).same (allK_next L E k), h.pv.low.setCell (by simp) _⟩, ?_⟩
  obtain ⟨z, hz, hr⟩ := h.res
  exact ⟨z, hz, by rw [Below.heap_setCell _ _ _ _ (by simp)]; exact hr⟩
theorem av_start (L : Ld) (E : Ev) (w : World) (z : Array Value) (hz : z.size = 16) : AvRel L E 0 w (((w.alloc (.cells L.cells 34)).alloc (.cells E.cells 52)).alloc (.cells z 52)) := by
  have h := (pv_start L E w).box (.cells z 52)
  refine ⟨⟨h.cod, h.cev.same (allK_zero L E).symm, h.low⟩, z, hz, ?_⟩
  have := heap_alloc_new ((w.alloc (.cells L.cells 34)).alloc (.cells E.cells 52)) (.cells z 52)
  rw [World.size_alloc, World.size_alloc] at this; exact this

set_option maxRecDepth 100000 in
set_option maxHeartbeats 1000000 in
theorem all_any (L : Ld) (E : Ev) (w : World) :
    Calls Tryd.prog 75 #[.agg L.cells, .agg E.cells] w fun e w' => e = .returned (.agg (allE L E).cells) ∧ Below w.heap.size w w' := by
  go_enter Tryd.func75, Tryd.ntmps75
  go_wp2
  go_loopw [6] (fun c wr => ∃ k : Nat, k ≤ 6 ∧ c = .int .i64 k ∧ AvRel L E k w wr) (fun c _ => 6 - (intOf c).toNat)
  case atStart => exact ⟨0, by omega, rfl, av_start L E w _ rfl⟩
  case round =>
    obtain ⟨k, hle, rfl, R⟩ := hrel
    have HR := hide R
    clear R
    by_cases hk : k < 6
    · have C := hide (fun W => perc_any L (k : Int) (allK L E k) W)
      go_wp2_with (first | (refine wl_land (.tmp 2) rfl rfl _ L rfl HR.out.pv.cod ?_) | (refine wl_event (.tmp 3) rfl rfl _ (allK L E k) rfl HR.out.pv.cev ?_))
      refine (C.out _).mono ?_
      rintro e w1 ⟨rfl, hb⟩
      have R1 := hide (HR.out.call hb)
      have hc := R1.out.pv.cev.by' k hk
      have hf := R1.out.pv.cev.frozen (10 + k)
      clear hb C
      have N := hide (R1.out.put hk)
      have hp : Hid (percL L (k : Int) (allK L E k).kind (allK L E k).room (allK L E k).actor (allK L E k).other = percL L (k : Int) E.kind E.room E.actor E.other) := rfl
      rw [hp.out]
      go_wp2
      go_roundw
      case rel => exact ⟨k + 1, by omega, by go_num, N.out⟩
      case measure => simp [intOf]; omega
    · have hk6 : k = 6 := by omega
      subst hk6
      have HC := hide (HR.out.pv.cev.same (allK_all L E))
      obtain ⟨z, hz, hr⟩ := HR.out.res
      have HZ := hide hr
      have HS := hide hz
      clear hz hr
      go_wp2_with (first | (refine wl_event (.tmp 3) rfl rfl _ (allE L E) rfl HC.out ?_) | (refine wl_row 52 (.tmp 4) (.tmp 17) rfl rfl (w.heap.size + 2) (allE L E).cells rfl rfl 52 z HZ.out ?s1 ?s2 (Ev.one _) ?_))
      case s1 => rw [Ev.size]; exact Tryd.sizeEvent
      case s2 => rw [Ev.size]; exact HS.out
      refine bodyPost_ret (v := .agg (allE L E).cells) (results_cell_row rfl _ _ (w.heap.size + 2) 52 (allE L E).cells (0, 0) _ rfl (setRow_heap wr (w.heap.size + 2) _ _ _ _ HZ.out) Tryd.underlying52 rfl (by rw [Ev.size]; exact Tryd.sizeEvent)) rfl ⟨rfl, below_setRow HR.out.pv.low (by omega) _⟩
end Go.Proofs.YtaifjndkgfffpaaDoor
