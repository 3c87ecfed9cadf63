/-
  A house that is none: what it says, and the law HouseNil.
-/
import Derived.Test.YtncgcejlkmoliaaGreatDoorHsUpd
import Derived.Test.YtncgcejlkmoliaaGreatDoorLdEq
import Derived.Test.YtncgcejlkmoliaaGreatDoorLdNewF
namespace Go.Proofs.YtncgcejlkmoliaaGreatDoor.Hn
open Go.RowKit Go.Proofs.YtncgcejlkmoliaaGreatDoor.Ho
set_option linter.unusedVariables false

def zpg : Array Value := #[.slice none 0 0, .int .i64 0, .bool false, .string ⟨#[]⟩, .bool false]
def zli : Array Value := #[.string ⟨#[]⟩, .bool false, .bool false, .slice none 0 0]
theorem one_zpg : zpg.all (·.oneCell') = true := by simp [zpg, Value.oneCell']
theorem one_zli : zli.all (·.oneCell') = true := by simp [zli, Value.oneCell']
theorem one_rep (c : Int) (s : ByteArray) : (#[.int .i64 c, .string s] : Array Value).all (·.oneCell') = true := by simp [Value.oneCell']
theorem Tryz.sizePage : (Tryz.prog.info? 51).map (·.size) = some 5 := by kernel_rfl
theorem Tryz.sizeLine : (Tryz.prog.info? 55).map (·.size) = some 4 := by kernel_rfl
theorem Tryz.sizeReply : (Tryz.prog.info? 29).map (·.size) = some 2 := by kernel_rfl
theorem Tryz.sizeAct : (Tryz.prog.info? 23).map (·.size) = some 4 := by kernel_rfl
theorem Tryz.zPage : (Tryz.prog.info? 51).map (fun i => (i.zero, i.size)) = some (some (.agg zpg), 5) := by kernel_rfl
theorem Tryz.zLine : (Tryz.prog.info? 55).map (fun i => (i.zero, i.size)) = some (some (.agg zli), 4) := by kernel_rfl
theorem Tryz.zLand : (Tryz.prog.info? 43).map (fun i => (i.zero, i.size)) = some (some (.agg zl.cells), 165) := by kernel_rfl

theorem land1 (L : Ld) : L.cells.all (·.oneCell') = true := by
  refine Array.all_eq_true_iff_forall_mem.2 fun v hv => ?_
  obtain ⟨i, hi⟩ := Array.getElem?_of_mem hv
  have hlt : i < 165 := by
    have := (Array.getElem?_eq_some_iff.1 hi).1
    rw [L.size] at this; exact this
  rw [L.get i hlt] at hi
  injection hi with hi
  rw [← hi]
  unfold Ld.cellAt
  split
  · unfold Ld.roomCell; split <;> (try rfl); split <;> rfl
  · split
    · unfold Ld.thingCell; split <;> rfl
    · unfold Ld.beingCell; split <;> rfl

set_option maxRecDepth 100000 in
set_option maxHeartbeats 1000000 in
theorem at_nil (i : Int) (w : World) : Calls Tryz.prog 52 #[.pointer none, .int .i64 i] w fun e w' => e = .returned (.pointer none) ∧ w' = w := by
  go_enter Tryz.func52, Tryz.ntmps52
  go_wp2
  go_ret
  exact ⟨rfl, rfl⟩
set_option maxRecDepth 100000 in
set_option maxHeartbeats 1000000 in
theorem state_nil (i : Int) (w : World) : Calls Tryz.prog 16 #[.pointer none, .int .i64 i] w fun e w' => e = .returned (.tuple #[.int .i64 0, .int .i64 (-1)]) ∧ w' = w := by
  have C := hide (at_nil i w)
  go_enter Tryz.func16, Tryz.ntmps16
  go_wp2_with fail
  refine C.out.mono ?_
  rintro e w2 ⟨rfl, rfl⟩
  go_wp2
  go_ret2
  exact ⟨rfl, rfl⟩
set_option maxRecDepth 100000 in
set_option maxHeartbeats 1000000 in
theorem last_nil (w : World) : Calls Tryz.prog 19 #[.pointer none] w fun e w' => e = .returned (.slice none 0 0) ∧ w' = w := by
  go_enter Tryz.func19, Tryz.ntmps19
  go_wp2
  go_ret
  exact ⟨rfl, rfl⟩
set_option maxRecDepth 100000 in
set_option maxHeartbeats 1000000 in
theorem told_nil (i : Int) (w : World) : Calls Tryz.prog 20 #[.pointer none, .int .i64 i] w fun e w' => e = .returned (.slice none 0 0) ∧ w' = w := by
  have C := hide (at_nil i w)
  go_enter Tryz.func20, Tryz.ntmps20
  go_wp2_with fail
  refine C.out.mono ?_
  rintro e w2 ⟨rfl, rfl⟩
  go_wp2
  go_ret
  exact ⟨rfl, rfl⟩
set_option maxRecDepth 100000 in
set_option maxHeartbeats 1000000 in
theorem page_nil (i : Int) (w : World) : Calls Tryz.prog 22 #[.pointer none, .int .i64 i] w fun e w' => e = .returned (.agg zpg) ∧ Below w.heap.size w w' := by
  have hz := (zero_of_info Tryz.zPage).1
  have B0 := (Below.refl w.heap.size w).alloc (Nat.le_refl _) (.cells zpg 51)
  have Z0 := hide (heap_alloc_new w (.cells zpg 51))
  have C := hide (at_nil i (w.alloc (.cells zpg 51)))
  go_enter Tryz.func22, Tryz.ntmps22
  go_wp2_with fail
  refine C.out.mono ?_
  rintro e w2 ⟨rfl, hw2⟩
  subst hw2
  go_wp2_with (refine wl_over 51 (.tmp 4) (.tmp 12) rfl rfl w.heap.size 0 zpg _ _ 51 rfl rfl Z0.out (by show 0 + 5 ≤ 5; omega) Tryz.sizePage one_zpg (over_whole rfl) ?_; intro W1 g1 u1)
  exact bodyPost_ret (v := .agg zpg) (results_cell_row rfl _ _ w.heap.size 51 _ (0, 0) _ rfl g1 Tryz.underlying51 rfl Tryz.sizePage) rfl ⟨rfl, Upd.below B0 u1 (Nat.le_refl _)⟩
set_option maxRecDepth 100000 in
set_option maxHeartbeats 1000000 in
theorem line_nil (i : Int) (w : World) : Calls Tryz.prog 24 #[.pointer none, .int .i64 i] w fun e w' => e = .returned (.agg zli) ∧ Below w.heap.size w w' := by
  have hz := (zero_of_info Tryz.zLine).1
  have B0 := (Below.refl w.heap.size w).alloc (Nat.le_refl _) (.cells zli 55)
  have Z0 := hide (heap_alloc_new w (.cells zli 55))
  have C := hide (at_nil i (w.alloc (.cells zli 55)))
  go_enter Tryz.func24, Tryz.ntmps24
  go_wp2_with fail
  refine C.out.mono ?_
  rintro e w2 ⟨rfl, hw2⟩
  subst hw2
  go_wp2_with (refine wl_over 55 (.tmp 4) (.tmp 12) rfl rfl w.heap.size 0 zli _ _ 55 rfl rfl Z0.out (by show 0 + 4 ≤ 4; omega) Tryz.sizeLine one_zli (over_whole rfl) ?_; intro W1 g1 u1)
  exact bodyPost_ret (v := .agg zli) (results_cell_row rfl _ _ w.heap.size 55 _ (0, 0) _ rfl g1 Tryz.underlying55 rfl Tryz.sizeLine) rfl ⟨rfl, Upd.below B0 u1 (Nat.le_refl _)⟩
set_option maxRecDepth 100000 in
set_option maxHeartbeats 1000000 in
theorem land_nil (w : World) : Calls Tryz.prog 18 #[.pointer none] w fun e w' => e = .returned (.agg zl.cells) ∧ Below w.heap.size w w' := by
  have hz := (zero_of_info Tryz.zLand).1
  have B0 := (Below.refl w.heap.size w).alloc (Nat.le_refl _) (.cells zl.cells 43)
  have Z0 := hide (heap_alloc_new w (.cells zl.cells 43))
  go_enter Tryz.func18, Tryz.ntmps18
  go_wp2_with (refine wl_over 43 (.tmp 2) (.tmp 5) rfl rfl w.heap.size 0 zl.cells zl.cells zl.cells 43 rfl rfl Z0.out (by rw [Nat.zero_add]; exact Nat.le_refl _) (by rw [Ld.size]; exact Tryz.sizeLand) (land1 zl) (over_whole rfl) ?_; intro W1 g1 u1)
  exact bodyPost_ret (v := .agg zl.cells) (results_cell_row rfl _ _ w.heap.size 43 zl.cells (0, 0) _ rfl g1 Tryz.underlying43 rfl (by rw [Ld.size]; exact Tryz.sizeLand)) rfl ⟨rfl, Upd.below B0 u1 (Nat.le_refl _)⟩
set_option maxRecDepth 100000 in
set_option maxHeartbeats 1000000 in
theorem do_nil (a b c : Int) (s : ByteArray) (w : World) : Calls Tryz.prog 17 #[.pointer none, .agg #[.int .i64 a, .int .i64 b, .int .i64 c, .string s]] w fun e w' => e = .returned (.agg #[.int .i64 3, .string ⟨#[]⟩]) ∧ Below w.heap.size w w' := by
  go_enter Tryz.func17, Tryz.ntmps17
  go_wp2
  exact bodyPost_ret (v := .agg #[.int .i64 3, .string ⟨#[]⟩]) (results_cell_row rfl _ _ (w.heap.size + 1) 29 _ (0, 0) _ rfl (by
    have := heap_alloc_new (w.alloc (.cells #[.int .i64 a, .int .i64 b, .int .i64 c, .string s] 23)) (.cells #[.int .i64 3, .string ⟨#[]⟩] 29)
    rw [World.size_alloc] at this; exact this) Tryz.underlying29 rfl Tryz.sizeReply) rfl ⟨rfl, ((Below.refl w.heap.size w).alloc (Nat.le_refl _) _).alloc (by simp) _⟩
set_option maxRecDepth 100000 in
set_option maxHeartbeats 1000000 in
theorem texts_nil (w : World) : Calls Tryz.prog 60 #[.slice none 0 0, .slice none 0 0] w fun e w' => e = .returned (.bool true) ∧ w' = w := by
  go_enter Tryz.func60, Tryz.ntmps60
  go_wp2
  go_loopw [13] (fun i wr => i = .int .i64 0 ∧ wr = w) (fun _ _ => 0)
  case atStart => exact ⟨rfl, rfl⟩
  case round =>
    obtain ⟨rfl, rfl⟩ := hrel
    go_wp2
    go_ret
    exact ⟨rfl, rfl⟩
set_option maxRecDepth 100000 in
set_option maxHeartbeats 1000000 in
theorem samepage_nil (w : World) : Calls Tryz.prog 21 #[.agg zpg, .agg zpg] w fun e w' => e = .returned (.bool true) ∧ Below w.heap.size w w' := by
  have B0 := ((Below.refl w.heap.size w).alloc (Nat.le_refl _) (.cells zpg 51)).alloc (by simp) (.cells zpg 51)
  have C := hide (fun w' => texts_nil w')
  unfold zpg at *
  go_enter Tryz.func21, Tryz.ntmps21
  go_wp2_with (go_at_call 60; refine (C.out _).mono ?_; rintro e w2 ⟨rfl, rfl⟩)
  go_ret
  exact ⟨rfl, B0⟩
set_option maxRecDepth 100000 in
set_option maxHeartbeats 1000000 in
theorem sameline_nil (w : World) : Calls Tryz.prog 23 #[.agg zli, .agg zli] w fun e w' => e = .returned (.bool true) ∧ Below w.heap.size w w' := by
  have B0 := ((Below.refl w.heap.size w).alloc (Nat.le_refl _) (.cells zli 55)).alloc (by simp) (.cells zli 55)
  have C := hide (fun w' => texts_nil w')
  unfold zli at *
  go_enter Tryz.func23, Tryz.ntmps23
  go_wp2_with (go_at_call 60; refine (C.out _).mono ?_; rintro e w2 ⟨rfl, rfl⟩)
  go_ret
  exact ⟨rfl, B0⟩

/-! ### Held against each other. -/
section
variable {w : World}
theorem eqe (d : Nat) (a : Int) : (Op.equalIn (d + 1) 27 (.int .i64 a) (.int .i64 a)).run Tryz.prog w = .ok true w := by
  rw [run_equalIn_int w d 27 .i64 .i64 a a Tryz.underlying27]; simp
theorem eqReply (a : Int) (s : ByteArray) (w : World) : (Op.equalIn 10000 29 (.agg #[.int .i64 a, .string s]) (.agg #[.int .i64 a, .string s])).run Tryz.prog w = .ok true w := by
  have hf : Tryz.prog.underlying 29 = some (.struct (Tryz.prog.fieldsOf 29)) := by simp [Program.fieldsOf, Tryz.underlying29]
  rw [run_equalIn_struct w 9999 29 _ _ hf (by kernel_rfl)]
  refine eq_fields _ ?_
  simp only [Program.fieldsOf, Tryz.underlying29]
  intro f hfm
  simp at hfm
  rcases hfm with rfl | rfl
  · exact ⟨_, part1 27 _ Tryz.underlying27 rfl _ _ _ rfl, eqe _ _⟩
  · exact ⟨_, part1 9 _ Tryz.underlying9 rfl _ _ _ rfl, eqs _ _⟩
theorem Tryz.guardReply : Tryz.prog.eqGuardType Tryz.prog.depth 29 = false := by kernel_rfl
theorem Tryz.guardLand : Tryz.prog.eqGuardType Tryz.prog.depth 43 = false := by kernel_rfl
variable {ops : Array Oper} {rest : List Oper} {op : Oper} {a : Act} {Q : Exit → Act → World → Prop}
theorem wl_eqreply (x y : Operand) (t : TypeId) (ho : op.op = .binOp .eql 29 x y t) (hw : Region.wanted op (yielded ops a.tmps) = true) {c : Int} {s : ByteArray} (hx : a.eval x = .agg #[.int .i64 c, .string s]) (hy : a.eval y = .agg #[.int .i64 c, .string s])
    (h : wpList Tryz.prog ops Q rest (a.put op.dst (.bool true)) w) : wpList Tryz.prog ops Q (op :: rest) a w := by
  refine wl_wanted hw ?_
  have hg : (eqGuard .eql 29 x y (.agg #[.int .i64 c, .string s]) (.agg #[.int .i64 c, .string s])).run Tryz.prog w = .ok () w := by
    have hg := Tryz.guardReply
    simp [eqGuard, hg]
  have he : (binOp .eql 29 (.agg #[.int .i64 c, .string s]) (.agg #[.int .i64 c, .string s])).run Tryz.prog w = .ok (.bool true) w := by
    rw [run_eql_struct]
    show ((Op.equalIn 10000 29 _ _).run Tryz.prog w).andThen _ = _
    rw [eqReply]; rfl
  unfold Oper.wp execOp
  simp only [ho, hx, hy, Sem.run_bind, hg, he, Result.andThen_ok, Sem.run_pure]
  exact h
theorem wl_eqland (x y : Operand) (t : TypeId) (ho : op.op = .binOp .eql 43 x y t) (hw : Region.wanted op (yielded ops a.tmps) = true) {L : Ld} (hx : a.eval x = .agg L.cells) (hy : a.eval y = .agg L.cells)
    (h : wpList Tryz.prog ops Q rest (a.put op.dst (.bool true)) w) : wpList Tryz.prog ops Q (op :: rest) a w := by
  refine wl_wanted hw ?_
  have hg : (eqGuard .eql 43 x y (.agg L.cells) (.agg L.cells)).run Tryz.prog w = .ok () w := by
    have hg := Tryz.guardLand
    simp [eqGuard, hg]
  have he : (binOp .eql 43 (.agg L.cells) (.agg L.cells)).run Tryz.prog w = .ok (.bool true) w := by
    rw [run_eql_struct]
    show ((Op.equalIn 10000 43 (.agg L.cells) (.agg L.cells)).run Tryz.prog w).andThen _ = _
    rw [eqLand]; rfl
  unfold Oper.wp execOp
  simp only [ho, hx, hy, Sem.run_bind, hg, he, Result.andThen_ok, Sem.run_pure]
  exact h
end

set_option maxRecDepth 100000 in
set_option maxHeartbeats 2000000 in
theorem nilW (a b c : Int) (s : ByteArray) (i : Int) (w : World) : Calls Tryz.prog 3 #[.agg #[.int .i64 a, .int .i64 b, .int .i64 c, .string s], .int .i64 i] w fun e w' => e = .returned (.bool true) ∧ Below w.heap.size w w' := by
  have hz1 := (zero_of_info Tryz.zPage).1
  have hz2 := (zero_of_info Tryz.zLine).1
  have hz3 := (zero_of_info Tryz.zLand).1
  have B0 := (Below.refl w.heap.size w).alloc (Nat.le_refl _) (.cells #[.int .i64 a, .int .i64 b, .int .i64 c, .string s] 23)
  have Z0 := hide (heap_alloc_new w (.cells #[.int .i64 a, .int .i64 b, .int .i64 c, .string s] 23))
  go_enter Tryz.func3, Tryz.ntmps3
  go_upto_region 2 with fail
  have hsz : (w.alloc (.cells #[.int .i64 a, .int .i64 b, .int .i64 c, .string s] 23)).heap.size = w.heap.size + 1 := by simp
  generalize w.alloc (.cells #[.int .i64 a, .int .i64 b, .int .i64 c, .string s] 23) = w1 at B0 Z0 hsz ⊢
  go_wp2_with (first
    | (go_at_call 16; refine (state_nil i _).mono ?_; rintro e w2 ⟨rfl, rfl⟩)
    | (refine wl_wanted rfl (wp_load_row 23 (.tmp 2) rfl w.heap.size rfl 23 #[.int .i64 a, .int .i64 b, .int .i64 c, .string s] (0, 0) _ Z0.out Tryz.underlying23 rfl Tryz.sizeAct ?_))
    | (go_at_call 17; refine (do_nil a b c s _).mono ?_; rintro e w2 ⟨rfl, b2⟩)
    | (refine wl_eqreply (.tmp 16) (.tmp 17) _ rfl rfl rfl rfl ?_)
    | (go_at_call 18; refine (land_nil _).mono ?_; rintro e w3 ⟨rfl, b3⟩)
    | (refine wl_eqland (.tmp 29) (.tmp 30) _ rfl rfl (L := zl) rfl rfl ?_)
    | (go_at_call 19; refine (last_nil _).mono ?_; rintro e w4 ⟨rfl, rfl⟩)
    | (go_at_call 20; refine (told_nil i _).mono ?_; rintro e w5 ⟨rfl, rfl⟩)
    | (go_at_call 22; refine (page_nil i _).mono ?_; rintro e w6 ⟨rfl, b6⟩)
    | (go_at_call 21; refine (samepage_nil _).mono ?_; rintro e w7 ⟨rfl, b7⟩)
    | (go_at_call 24; refine (line_nil i _).mono ?_; rintro e w8 ⟨rfl, b8⟩)
    | (go_at_call 23; refine (sameline_nil _).mono ?_; rintro e w9 ⟨rfl, b9⟩))
  go_ret
  have s1 := b2.size
  have s2 := b3.size
  have s3 := b6.size
  have s4 := b7.size
  have s5 := b8.size
  exact ⟨rfl, B0.trans ((((((b2.trans (b3.mono (by omega))).trans (b6.mono (by omega))).trans (b7.mono (by omega))).trans (b8.mono (by omega))).trans (b9.mono (by omega))).mono (by omega))⟩
end Go.Proofs.YtncgcejlkmoliaaGreatDoor.Hn
