/-
  A land, and no row yet, laid together: what the program's composite literal comes to; results of three, the first a land.
-/
import Derived.Test.YtaifjndkgfffpaaDoorMgAQ
import Derived.Test.YtaifjndkgfffpaaDoorMgBA
import Derived.Test.YtaifjndkgfffpaaDoorMgBJ
import Derived.Test.YtaifjndkgfffpaaDoorRuWalk
namespace Go.Proofs.YtaifjndkgfffpaaDoor
open Go.RowKit
set_option linter.unusedVariables false

theorem fold_set (off m : Nat) : ∀ (l : List Value) (k : Nat) (Z : Array Value), ((l.zipIdx k).foldl (fun a (x : Value × Nat) => a.setIfInBounds (off + x.2) x.1) Z)[m]? = if off + k ≤ m ∧ m < off + k + l.length ∧ m < Z.size then l[m - (off + k)]? else Z[m]? := by
  intro l
  induction l with
  | nil => intro k Z; simp; intros; omega
  | cons c l ih =>
    intro k Z
    rw [List.zipIdx_cons, List.foldl_cons, ih]
    simp only [Array.size_setIfInBounds, List.length_cons]
    by_cases h1 : m < Z.size
    · by_cases h2 : off + (k + 1) ≤ m ∧ m < off + (k + 1) + l.length ∧ m < Z.size
      · rw [if_pos h2, if_pos (by omega)]
        obtain ⟨j, hj⟩ : ∃ j, m - (off + k) = j + 1 := ⟨m - (off + k) - 1, by omega⟩
        rw [hj, List.getElem?_cons_succ]
        congr 1; omega
      · rw [if_neg h2, Array.getElem?_setIfInBounds]
        by_cases e : off + k = m
        · rw [if_pos e, if_pos (by omega), if_pos (by omega)]
          rw [show m - (off + k) = 0 by omega]; simp
        · rw [if_neg e, if_neg (by omega)]
    · rw [if_neg (by omega), if_neg (by omega), Array.getElem?_setIfInBounds]
      by_cases e : off + k = m
      · rw [if_pos e, if_neg (by omega), Array.getElem?_eq_none (by omega)]
      · rw [if_neg e]
theorem fill_land (L : Ld) (pre : List Value) (v : Value) (place : Nat → Option (Nat × Nat)) (hp : place 0 = some (0, 165)) (rest : List (Nat × Value)) :
    Instr.fill place (zl.more pre v) ((0, .agg L.cells) :: rest) = Instr.fill place (L.more pre v) rest := by
  have hc : ∀ xs : Array Value, (Value.agg xs).cells = xs := fun _ => rfl
  simp only [Instr.fill, hp, hc]
  rw [if_neg (by simp [L.size, more_size]; omega)]
  refine congrArg (fun z => Instr.fill place z rest) ?_
  apply Array.ext_getElem?
  intro m
  rw [← Array.foldl_toList, Array.toList_zipIdx, fold_set 0 m L.cells.toList 0 (zl.more pre v), more_size]
  simp only [Nat.add_zero, Nat.zero_le, true_and, Nat.zero_add, Array.length_toList, L.size, Nat.sub_zero]
  by_cases hm : m < 165
  · rw [if_pos (by omega), more_get L pre v m hm, Array.getElem?_toList, L.get m hm]
  · rw [if_neg (by omega)]
    unfold Ld.more
    rw [Array.getElem?_append_right (by rw [zl.size]; omega), Array.getElem?_append_right (by rw [L.size]; omega), L.size, zl.size]
theorem Tryd.zScene : (Tryd.prog.info? 62).map (fun i => (i.zero, i.size)) = some (some (.agg (zl.more [] (.slice none 0 0))), 166) := by kernel_rfl
theorem Tryd.pScene : (Tryd.prog.fieldsOf 62).toList.mapM (fun f => (Tryd.prog.info? f.type).map fun i => (f.offset, i.size)) = some [(0, 165), (165, 1)] := by kernel_rfl
theorem built_scene (L : Ld) : Tryd.prog.built 62 [(0, .agg L.cells)] = some (L.more [] (.slice none 0 0)) := by
  obtain ⟨hz, hs⟩ := zero_of_info Tryd.zScene
  cases hi : Tryd.prog.info? 62 with
  | none => rw [hi] at hs; simp at hs
  | some it =>
    have hz' : it.zero = some (.agg (zl.more [] (.slice none 0 0))) := by
      have := Tryd.zScene
      rw [hi] at this
      simp at this
      exact this.1
    have hu : Tryd.prog.underlying 62 = some (.struct (Tryd.prog.fieldsOf 62)) := by simp [Program.fieldsOf, Tryd.underlying62]
    unfold Program.built
    simp only [hi, hu, hz', Tryd.pScene]
    exact fill_land L [] (.slice none 0 0) _ rfl []
/-- Three results, the first one a land in a block. -/
theorem res_land {fn : Func} {p u t : Tmp} (h : fn.results = #[.cell p 34, .tmp u, .tmp t]) (tmps : Array Value) (w : World) (g : Nat) (L : Ld) (x y : Value)
    (hp : tmps.getD p undef = .pointer (some ⟨g, 0, none⟩)) (hx : tmps.getD u undef = x) (hy : tmps.getD t undef = y) (hg : w.heap[g]? = some (.cells L.cells 34 (0, 0))) :
    (results fn tmps).run Tryd.prog w = .ok (.tuple #[.agg L.cells, x, y]) w := by
  have hp' : tmps[p]?.getD undef = .pointer (some ⟨g, 0, none⟩) := by simpa using hp
  have hx' : tmps[u]?.getD undef = x := by simpa using hx
  have hy' : tmps[t]?.getD undef = y := by simpa using hy
  have hl := run_loadVar_row (P := Tryd.prog) w g 34 34 L.cells (0, 0) _ hg Tryd.underlying34 rfl (by rw [L.size]; exact Tryd.sizeLand)
  simp [results, h, hp', hx', hy', asAddr, hl]
theorem land_one (L : Ld) : L.cells.all (·.oneCell') = true := by
  refine Array.all_eq_true_iff_forall_mem.2 fun v hv => ?_
  obtain ⟨i, hi⟩ := Array.getElem?_of_mem hv
  have hlt : i < 165 := by
    have := (Array.getElem?_eq_some_iff.1 hi).1
    rw [L.size] at this; exact this
  rw [L.get i hlt] at hi
  injection hi with hi
  rw [← hi]
  unfold Ld.cellAt
  split
  · unfold Ld.roomCell; split <;> (try rfl); split <;> rfl
  · split
    · unfold Ld.thingCell; split <;> rfl
    · unfold Ld.beingCell; split <;> rfl
end Go.Proofs.YtaifjndkgfffpaaDoor
/-
  What a being is to do, where it goes, or takes what lies about; Do: contracts.
-/
namespace Go.Proofs.YtaifjndkgfffpaaDoor
open Go.RowKit
set_option linter.unusedVariables false

set_option maxRecDepth 100000 in
set_option maxHeartbeats 2000000 in
theorem act_go {w0 : World} {L : Ld} {Es : List Ev} {w : World} (hS : Sn 62 [] w0 L Es w) (hf : Fine L) (hg : goodL L = true) (hvb : Vb w0) (b d : Nat) (hb : b < 6) (hd : d < 6) (O : Od) (hv : O.verb = (d : Int)) (hlen : Es.length ≤ 800000) :
    Calls Tryd.prog 32 #[.pointer (some ⟨w0.heap.size, 0, none⟩), .int .i64 (b : Int), .agg O.cells] w fun e w' => e = .returned (.tuple #[]) ∧ Sn 62 [] w0 (walkL L b d) (Es ++ walkE L b d) w' ∧ Stp w0.heap.size 165 w w' := by
  have hv6 : (O.verb == 6) = false := by rw [hv]; simp; omega
  have hv7 : (O.verb == 7) = false := by rw [hv]; simp; omega
  have hv8 : (O.verb == 8) = false := by rw [hv]; simp; omega
  have hv9 : (O.verb == 9) = false := by rw [hv]; simp; omega
  have hv10 : (O.verb == 10) = false := by rw [hv]; simp; omega
  have hv11 : (O.verb == 11) = false := by rw [hv]; simp; omega
  have hv12 : (O.verb == 12) = false := by rw [hv]; simp; omega
  have hv13 : (O.verb == 13) = false := by rw [hv]; simp; omega
  have hv14 : (O.verb == 14) = false := by rw [hv]; simp; omega
  have hv15 : (O.verb == 15) = false := by rw [hv]; simp; omega
  have hv16 : (O.verb == 16) = false := by rw [hv]; simp; omega
  have hv17 : (O.verb == 17) = false := by rw [hv]; simp; omega
  have hv18 : (O.verb == 18) = false := by rw [hv]; simp; omega
  have hv19 : (O.verb == 19) = false := by rw [hv]; simp; omega
  have hv20 : (O.verb == 20) = false := by rw [hv]; simp; omega
  have X0 := hide (hS.alloc (.cells O.cells 47))
  have T0 := hide (Stp.below (o := 165) (below_box w (.cells O.cells 47)) hS.lt)
  have HV := hide hv
  have HS := hide hS
  clear hS hv
  unfold Od.cells
  go_enter Tryd.func32, Tryd.ntmps32
  go_wp2_with fail
  have C := rwalk_any X0.out hf hg hvb b d hb hd hlen
  rw [← HV.out] at C
  refine C.mono ?_
  clear C
  rintro e w1 ⟨rfl, S1h, T1h⟩
  have A := hide S1h
  have B := hide (T0.out.trans T1h)
  clear S1h T1h
  go_wp2
  go_end0
  exact ⟨rfl, A.out, B.out⟩

set_option maxRecDepth 100000 in
set_option maxHeartbeats 2000000 in
theorem act_get {w0 : World} {L : Ld} {Es : List Ev} {w : World} (hS : Sn 62 [] w0 L Es w) (b : Nat) (hb : b < 6) (O : Od) (hv : O.verb = 7) (h2 : O.second = ⟨#[]⟩) (hn0 : -9223372036854775808 ≤ O.nth) (hn1 : O.nth ≤ 9223372036854775807) (hlen : Es.length ≤ 900000) :
    Calls Tryd.prog 32 #[.pointer (some ⟨w0.heap.size, 0, none⟩), .int .i64 (b : Int), .agg O.cells] w fun e w' => e = .returned (.tuple #[]) ∧ Sn 62 [] w0 (getL L b O) (Es ++ getE L b O) w' ∧ Stp w0.heap.size 165 w w' := by
  have hv6 : (O.verb == 6) = false := by rw [hv]; rfl
  have hv7 : (O.verb == 7) = true := by rw [hv]; rfl
  have X0 := hide (hS.alloc (.cells O.cells 47))
  have T0 := hide (Stp.below (o := 165) (below_box w (.cells O.cells 47)) hS.lt)
  have G0 := hide (heap_alloc_new w (.cells O.cells 47))
  have c0 : (w.alloc (.cells O.cells 47)).cell? ⟨w.heap.size, 0, none⟩ = some (.int .i64 O.verb) := by rw [cell_of_row _ _ _ _ _ _ G0.out]; rfl
  clear hS hv
  go_enter Tryd.func32, Tryd.ntmps32
  go_wp2_with (refine wl_wanted rfl (wp_load_row 47 (.tmp 5) rfl w.heap.size rfl 47 O.cells (0, 0) _ G0.out Tryd.underlying47 rfl Tryd.sizeOrder ?_))
  refine (rget_any X0.out b hb O h2 hn0 hn1 hlen).mono ?_
  rintro e w1 ⟨rfl, S1h, T1h⟩
  have A := hide S1h
  have B := hide (T0.out.trans T1h)
  clear S1h T1h
  go_wp2
  go_end0
  exact ⟨rfl, A.out, B.out⟩
end Go.Proofs.YtaifjndkgfffpaaDoor
