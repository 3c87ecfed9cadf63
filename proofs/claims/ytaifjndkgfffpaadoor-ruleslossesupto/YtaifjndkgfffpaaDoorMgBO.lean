/-
  acts: its contract.
-/
import Derived.Test.YtaifjndkgfffpaaDoorRuDo
import Derived.Test.YtaifjndkgfffpaaDoorLdNestP
import Derived.Test.YtaifjndkgfffpaaDoorBs
import Derived.Test.YtaifjndkgfffpaaDoorLdGood
namespace Go.Proofs.YtaifjndkgfffpaaDoor
open Go.RowKit
set_option linter.unusedVariables false

def mugO : Od := { verb := 7, nth := 1, all := false, name := ⟨#[109, 117, 103]⟩, second := ⟨#[]⟩, text := ⟨#[]⟩ }
theorem mug_len : (getE nl 0 mugO).length = 1 := by kernel_rfl
theorem mug_kind : ((getE nl 0 mugO).map (·.kind)) = [3] := by kernel_rfl
theorem mug_on : (getL nl 0 mugO).wh 6 = 1 := by kernel_rfl
theorem mug_first (h : 0 < (getE nl 0 mugO).length) : (getE nl 0 mugO)[0].kind = 3 := by
  have h2 : ((getE nl 0 mugO).map (·.kind))[0]? = some 3 := by rw [mug_kind]; rfl
  rw [List.getElem?_map, List.getElem?_eq_getElem h] at h2
  simpa using h2
theorem nl_here : nl.here 0 = true := by kernel_rfl

theorem event_of {w : World} {base : Nat} {v : Value} {Fs : List Ev} (h : w.ownsRow base 52 16 v Fs.length (evc Fs)) (k : Nat) (hk : k < Fs.length) : ∃ g cap, v = .slice (some ⟨g, 0, none⟩) Fs.length cap ∧ base ≤ g ∧ ∀ j, j < 16 → w.cell? ⟨g, k * 16 + j, none⟩ = Fs[k].cells[j]? := by
  rcases h.2 with ⟨rfl, h0⟩ | ⟨g, cap, cur, rfl, h1, h2, h3, h4, h5, h6⟩
  · omega
  · refine ⟨g, cap, rfl, h1, fun j hj => ?_⟩
    rw [cell_of_row w g _ _ _ _ h2]
    have hl : k * 16 + j < Fs.length * 16 := by omega
    have e1 : cur[k * 16 + j]? = (evc Fs)[k * 16 + j]? := by
      rw [← h6, List.getElem?_take, if_pos hl, Array.getElem?_toList]
    rw [e1]
    have key : ∀ (Gs : List Ev) (k : Nat) (hk : k < Gs.length), (evc Gs)[k * 16 + j]? = Gs[k].cells[j]? := by
      intro Gs
      induction Gs with
      | nil => intro k hk; simp at hk
      | cons E Gs ih =>
        intro k hk
        have hsz : E.cells.toList.length = 16 := by rw [Array.length_toList, Ev.size]
        show (E.cells.toList ++ evc Gs)[k * 16 + j]? = _
        cases k with
        | zero => rw [List.getElem?_append_left (by omega)]; simp
        | succ k =>
          rw [List.getElem?_append_right (by omega), hsz, show (k + 1) * 16 + j - 16 = k * 16 + j by omega]
          exact ih k (by simpa using hk)
    exact key Fs k hk

set_option maxRecDepth 100000 in
set_option maxHeartbeats 4000000 in
theorem kacts_any (w : World) (hv : Vb w) : Calls Tryd.prog 18 #[] w fun e w' => e = .returned (.bool true) ∧ Below w.heap.size w w' := by
  have hz := (zero_of_info Tryd.zLand).1
  go_enter Tryd.func18, Tryd.ntmps18
  go_wp2_with fail
  refine (new_any _).mono ?_
  rintro e w1 ⟨rfl, hb1⟩
  have B1 := hide hb1
  have HV := hide (hv.below hb1 (Nat.le_refl _))
  clear hb1 hv
  go_wp2_with fail
  refine (do_any nl (getL nl 0 mugO) (getE nl 0 mugO) 0 mugO _ HV.out wf_nl good_nl (by omega) nl_here (by decide) (by decide) (fun w0 w _ hS => act_get hS 0 (by omega) mugO rfl rfl (by decide) (by decide) (by simp))).mono ?_
  rintro e w2 ⟨v, rfl, ho, hb2⟩
  have B2 := hide (B1.out.trans (hb2.mono B1.out.size))
  obtain ⟨g, cap, rfl, hbg, hc⟩ := event_of ho 0 (by rw [mug_len]; omega)
  have hglt := (ho.lt g rfl).2
  have hk0 : w2.cell? ⟨g, 0, none⟩ = some (.int .i64 3) := by
    have := hc 0 (by omega)
    simp only [Nat.zero_mul, Nat.zero_add] at this
    rw [this]
    exact (show (getE nl 0 mugO)[0].cells[0]? = some (.int .i64 (getE nl 0 mugO)[0].kind) from rfl).trans (by rw [mug_first])
  rw [mug_len]
  clear ho hb2 hc hbg
  generalize hL : getL nl 0 mugO = M at *
  have hon : M.wh 6 = 1 := by rw [← hL]; exact mug_on
  have cm := (cod_new w2 M).thing 6 2 (by omega) (by omega)
  simp only [Ld.thingCell, hon] at cm
  have HL := hide hL
  have HB := hide (B2.out.alloc B2.out.size (.cells M.cells 34))
  clear hL hon
  go_wp2_with (refine wl_new 34 (.tmp 1) (.tmp 8) rfl rfl _ _ rfl rfl rfl (by rw [M.size]; exact Tryd.sizeLand) (by rw [M.size, zl.size]) (land_one M) ?_)
  go_ret
  exact ⟨rfl, HB.out⟩
end Go.Proofs.YtaifjndkgfffpaaDoor
/-
  What == finds of arrays and of parts of structs: laws of no program.
-/
namespace Go.Proofs.YtaifjndkgfffpaaDoor
open Go.RowKit
set_option linter.unusedVariables false

section
variable {P : Program} {w : World}
theorem eq_items {d : Nat} {e : TypeId} {c : Nat} {xs : Array Value} : ∀ (is : List Nat), (∀ i ∈ is, ∃ v, (part e xs (i * c)).run P w = .ok v w ∧ (Op.equalIn d e v v).run P w = .ok true w) → (Op.eqItems d e c xs xs is).run P w = .ok true w
  | [], _ => by simp [Op.eqItems]
  | i :: is, h => by
    obtain ⟨v, h1, h2⟩ := h i (List.mem_cons_self ..)
    have ih := eq_items is (fun j hj => h j (List.mem_cons_of_mem _ hj))
    simp only [Op.eqItems, Sem.run_bind, h1, h2, Result.andThen_ok]
    simpa using ih
theorem part_agg {e : TypeId} {d : TypeDesc} {s : Nat} (he : P.underlying e = some d) (hd : d.isRow = true) (hi : (P.info? e).map (·.size) = some s) (xs : Array Value) (o : Nat) : (part e xs o).run P w = .ok (.agg (xs.extract o (o + s))) w := by
  have hagg : (isAgg e).run P w = .ok true w := by
    unfold isAgg
    rw [Sem.run_bind, run_underlying he w]
    cases d <;> simp_all
  have hsz : (sizeOf e).run P w = .ok s w := by
    cases hq : P.info? e with
    | none => simp [hq] at hi
    | some i =>
      have : i.size = s := by simpa [hq] using hi
      simp [sizeOf, typeInfo, hq, this]
  simp only [part, Sem.run_bind, hagg, Result.andThen_ok, if_true, hsz, Sem.run_pure]
end

end Go.Proofs.YtaifjndkgfffpaaDoor
/-
  A land is equal to itself, as the program's == finds; so is each room, thing and being of it.
-/
namespace Go.Proofs.YtaifjndkgfffpaaDoor
open Go.RowKit
set_option linter.unusedVariables false

theorem Tryd.cellsOfInt : Tryd.prog.cellsOf 3 = 1 := by kernel_rfl
theorem Tryd.cellsOfRoom : Tryd.prog.cellsOf 25 = 14 := by kernel_rfl
theorem Tryd.cellsOfThing : Tryd.prog.cellsOf 28 = 5 := by kernel_rfl
theorem Tryd.cellsOfBeing : Tryd.prog.cellsOf 31 = 6 := by kernel_rfl

section
variable {w : World}
theorem part9 (i : Nat) (x : ByteArray) (xs : Array Value) (h : xs[i]? = some (.string x)) (w : World) : (part 9 xs i).run Tryd.prog w = .ok (.string x) w := by
  have ha : (isAgg 9).run Tryd.prog w = .ok false w := by unfold isAgg; rw [Sem.run_bind, run_underlying Tryd.underlying9 w]; rfl
  simp [part, ha, h]
theorem eqThing (L : Ld) (k d : Nat) : (Op.equalIn (d + 2) 28 (.agg (L.tcells k)) (.agg (L.tcells k))).run Tryd.prog w = .ok true w := by
  have hf : Tryd.prog.underlying 28 = some (.struct (Tryd.prog.fieldsOf 28)) := by simp [Program.fieldsOf, Tryd.underlying28]
  rw [run_equalIn_struct w (d + 1) 28 _ _ hf (by kernel_rfl)]
  refine eq_fields _ ?_
  simp only [Program.fieldsOf, Tryd.underlying28]
  intro f hfm
  simp at hfm
  rcases hfm with rfl | rfl | rfl | rfl | rfl
  · exact ⟨_, part9 0 _ _ (L.tcells_get k 0 (by omega)) w, eqs d _⟩
  · exact ⟨_, part3 1 _ _ (L.tcells_get k 1 (by omega)) w, eqi d _⟩
  · exact ⟨_, part3 2 _ _ (L.tcells_get k 2 (by omega)) w, eqi d _⟩
  · exact ⟨_, part3 3 _ _ (L.tcells_get k 3 (by omega)) w, eqi d _⟩
  · exact ⟨_, part4 4 _ _ (L.tcells_get k 4 (by omega)) w, eqb d _⟩
theorem eqBeing (L : Ld) (k d : Nat) : (Op.equalIn (d + 2) 31 (.agg (L.bcells k)) (.agg (L.bcells k))).run Tryd.prog w = .ok true w := by
  have hf : Tryd.prog.underlying 31 = some (.struct (Tryd.prog.fieldsOf 31)) := by simp [Program.fieldsOf, Tryd.underlying31]
  rw [run_equalIn_struct w (d + 1) 31 _ _ hf (by kernel_rfl)]
  refine eq_fields _ ?_
  simp only [Program.fieldsOf, Tryd.underlying31]
  intro f hfm
  simp at hfm
  rcases hfm with rfl | rfl | rfl | rfl | rfl | rfl
  · exact ⟨_, part9 0 _ _ (L.bcells_get k 0 (by omega)) w, eqs d _⟩
  · exact ⟨_, part4 1 _ _ (L.bcells_get k 1 (by omega)) w, eqb d _⟩
  · exact ⟨_, part4 2 _ _ (L.bcells_get k 2 (by omega)) w, eqb d _⟩
  · exact ⟨_, part3 3 _ _ (L.bcells_get k 3 (by omega)) w, eqi d _⟩
  · exact ⟨_, part3 4 _ _ (L.bcells_get k 4 (by omega)) w, eqi d _⟩
  · exact ⟨_, part3 5 _ _ (L.bcells_get k 5 (by omega)) w, eqi d _⟩
theorem eqInts (f : Nat → Int) (d : Nat) : (Op.equalIn (d + 2) 22 (.agg (ints f)) (.agg (ints f))).run Tryd.prog w = .ok true w := by
  obtain ⟨i0, hi, _, _, _⟩ := info_parts Tryd.info3
  rw [run_equalIn_array (P := Tryd.prog) w (d + 1) _ _ Tryd.underlying22 hi, Tryd.cellsOfInt]
  refine eq_items _ fun i hi => ⟨_, ?_, eqi d (f i)⟩
  rw [Nat.mul_one]
  exact part3 i _ _ (ints_get f i (by simpa using hi)) w
theorem eqBools (f : Nat → Bool) (d : Nat) : (Op.equalIn (d + 2) 23 (.agg (bools f)) (.agg (bools f))).run Tryd.prog w = .ok true w := by
  obtain ⟨i0, hi, _, _, _⟩ := info_parts Tryd.info4
  rw [run_equalIn_array (P := Tryd.prog) w (d + 1) _ _ Tryd.underlying23 hi, Tryd.cells4]
  refine eq_items _ fun i hi => ⟨_, ?_, eqb d (f i)⟩
  rw [Nat.mul_one]
  exact part4 i _ _ (bools_get f i (by simpa using hi)) w
theorem eqRoom (L : Ld) (k d : Nat) : (Op.equalIn (d + 3) 25 (.agg (L.rcells k)) (.agg (L.rcells k))).run Tryd.prog w = .ok true w := by
  have hf : Tryd.prog.underlying 25 = some (.struct (Tryd.prog.fieldsOf 25)) := by simp [Program.fieldsOf, Tryd.underlying25]
  rw [run_equalIn_struct w (d + 2) 25 _ _ hf (by kernel_rfl)]
  refine eq_fields _ ?_
  simp only [Program.fieldsOf, Tryd.underlying25]
  intro f hfm
  simp at hfm
  rcases hfm with rfl | rfl | rfl | rfl
  · exact ⟨_, part9 0 _ _ (L.rcells_get k 0 (by omega)) w, eqs (d + 1) _⟩
  · exact ⟨_, part4 1 _ _ (L.rcells_get k 1 (by omega)) w, eqb (d + 1) _⟩
  · exact ⟨_, part_agg Tryd.underlying22 rfl Tryd.sizeInts _ 2, eqInts (L.exit k) d⟩
  · exact ⟨_, part_agg Tryd.underlying23 rfl Tryd.sizeBools _ 8, eqBools (L.shut k) d⟩

theorem eqLand (L : Ld) : (Op.equalIn 10000 34 (.agg L.cells) (.agg L.cells)).run Tryd.prog w = .ok true w := by
  have hf : Tryd.prog.underlying 34 = some (.struct (Tryd.prog.fieldsOf 34)) := by simp [Program.fieldsOf, Tryd.underlying34]
  rw [run_equalIn_struct w 9999 34 _ _ hf (by kernel_rfl)]
  refine eq_fields _ ?_
  simp only [Program.fieldsOf, Tryd.underlying34]
  intro f hfm
  simp at hfm
  rcases hfm with rfl | rfl | rfl
  · refine ⟨_, part_agg Tryd.underlying26 rfl Tryd.sizeRooms _ 0, ?_⟩
    obtain ⟨i0, hi⟩ := info_of_underlying Tryd.underlying25
    show (Op.equalIn 9999 26 (.agg L.roomsA) (.agg L.roomsA)).run Tryd.prog w = _
    rw [run_equalIn_array (P := Tryd.prog) w 9998 _ _ Tryd.underlying26 hi, Tryd.cellsOfRoom]
    refine eq_items _ fun k hk => ⟨_, part_agg Tryd.underlying25 rfl Tryd.sizeRoom _ _, ?_⟩
    rw [L.rooms_at k (by simpa using hk)]
    exact eqRoom L k 9995
  · refine ⟨_, part_agg Tryd.underlying29 rfl Tryd.sizeThings _ 84, ?_⟩
    obtain ⟨i0, hi⟩ := info_of_underlying Tryd.underlying28
    show (Op.equalIn 9999 29 (.agg L.thingsA) (.agg L.thingsA)).run Tryd.prog w = _
    rw [run_equalIn_array (P := Tryd.prog) w 9998 _ _ Tryd.underlying29 hi, Tryd.cellsOfThing]
    refine eq_items _ fun k hk => ⟨_, part_agg Tryd.underlying28 rfl Tryd.sizeThing _ _, ?_⟩
    rw [L.things_at k (by simpa using hk)]
    exact eqThing L k 9996
  · refine ⟨_, part_agg Tryd.underlying32 rfl Tryd.sizeBeings _ 129, ?_⟩
    obtain ⟨i0, hi⟩ := info_of_underlying Tryd.underlying31
    show (Op.equalIn 9999 32 (.agg L.beingsA) (.agg L.beingsA)).run Tryd.prog w = _
    rw [run_equalIn_array (P := Tryd.prog) w 9998 _ _ Tryd.underlying32 hi, Tryd.cellsOfBeing]
    refine eq_items _ fun k hk => ⟨_, part_agg Tryd.underlying31 rfl Tryd.sizeBeing _ _, ?_⟩
    rw [L.beings_at k (by simpa using hk)]
    exact eqBeing L k 9996
end
end Go.Proofs.YtaifjndkgfffpaaDoor
