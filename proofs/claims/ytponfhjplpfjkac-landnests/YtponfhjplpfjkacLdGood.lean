/-
  Good: its contract.
-/
import Derived.Test.YtponfhjplpfjkacLdGr
import Derived.Test.YtponfhjplpfjkacLdGp
import Derived.Test.YtponfhjplpfjkacLdIn
namespace Go.Proofs.Ytponfhjplpfjkac
open Go.RowKit
set_option linter.unusedVariables false

/-- Numbers as a machine has them (where they are reckoned with). -/
structure Wf (L : Ld) : Prop where
  exit : ∀ r d, r < 6 → d < 6 → -9223372036854775808 ≤ L.exit r d ∧ L.exit r d ≤ 9223372036854775807
  foe : ∀ b, b < 6 → -9223372036854775808 ≤ L.foe b ∧ L.foe b ≤ 9223372036854775807

def goodR (L : Ld) (r : Nat) : Bool := groom (L.exit r) (L.shut r)
def goodB (L : Ld) (b : Nat) : Bool := gbeing (L.here b) (L.room b) (L.health b) (L.foe b)
def goodT (L : Ld) (i : Nat) : Bool := gkind (L.kind i) (L.wh i) (L.on i) && gplace L (L.wh i) (L.loc i) && !(L.wh (lastW L i) == 2)
/-- Whether a land is good. -/
def goodL (L : Ld) : Bool := (List.range 6).all (goodR L) && (List.range 6).all (goodB L) && (List.range 9).all (goodT L)

theorem all_bad {n k : Nat} {f : Nat → Bool} (hk : k < n) (h : f k = false) : (List.range n).all f = false := by
  rw [Bool.eq_false_iff]
  intro hall
  have := List.all_eq_true.1 hall k (by simp [hk])
  rw [h] at this; simp at this
theorem all_ok {n : Nat} {f : Nat → Bool} (h : ∀ k, k < n → f k = true) : (List.range n).all f = true :=
  List.all_eq_true.2 fun k hk => h k (by simpa using hk)

section
variable {P : Program} {ops : Array Oper} {rest : List Oper} {op : Oper} {a : Act} {w : World} {Q : Exit → Act → World → Prop}
theorem wl_rooms (x : Operand) (ho : op.op = .load 41 x) (hw : Region.wanted op (yielded ops a.tmps) = true) (b : Nat) (L : Ld) (hx : a.eval x = .pointer (some ⟨b, 0, none⟩)) (hc : Cod w b L)
    (h : wpList Try.prog ops Q rest (a.put op.dst (.agg L.roomsA)) w) : wpList Try.prog ops Q (op :: rest) a w :=
  wl_mid 41 x ho hw b 0 L.roomsA.toList _ hx hc.roomsR Try.underlying41 rfl (by rw [Array.length_toList]; unfold Ld.roomsA; rw [Array.size_extract, L.size]; exact Try.sizeRooms) (by rw [Array.toArray_toList]; exact h)
theorem wl_beings (x : Operand) (ho : op.op = .load 47 x) (hw : Region.wanted op (yielded ops a.tmps) = true) (b : Nat) (L : Ld) (hx : a.eval x = .pointer (some ⟨b, 129, none⟩)) (hc : Cod w b L)
    (h : wpList Try.prog ops Q rest (a.put op.dst (.agg L.beingsA)) w) : wpList Try.prog ops Q (op :: rest) a w :=
  wl_mid 47 x ho hw b 129 L.beingsA.toList _ hx hc.beingsR Try.underlying47 rfl (by rw [Array.length_toList]; unfold Ld.beingsA; rw [Array.size_extract, L.size]; exact Try.sizeBeings) (by rw [Array.toArray_toList]; exact h)
theorem wl_things (x : Operand) (ho : op.op = .load 44 x) (hw : Region.wanted op (yielded ops a.tmps) = true) (b : Nat) (L : Ld) (hx : a.eval x = .pointer (some ⟨b, 84, none⟩)) (hc : Cod w b L)
    (h : wpList Try.prog ops Q rest (a.put op.dst (.agg L.thingsA)) w) : wpList Try.prog ops Q (op :: rest) a w :=
  wl_mid 44 x ho hw b 84 L.thingsA.toList _ hx hc.thingsR Try.underlying44 rfl (by rw [Array.length_toList]; unfold Ld.thingsA; rw [Array.size_extract, L.size]; exact Try.sizeThings) (by rw [Array.toArray_toList]; exact h)

theorem wl_iroom (x y : Operand) (ho : op.op = .index 41 x y) (hw : Region.wanted op (yielded ops a.tmps) = true) (k : Nat) (L : Ld) (hx : a.eval x = .agg L.roomsA) (hy : a.eval y = .int .i64 (k : Int)) (hk : k < 6)
    (h : wpList Try.prog ops Q rest (a.put op.dst (.agg (L.rcells k))) w) : wpList Try.prog ops Q (op :: rest) a w :=
  wl_index 41 40 x y ho hw 6 14 k L.roomsA _ hx hy Try.underlying41 Try.underlying40 rfl Try.sizeRoom hk (by rw [L.rooms_at k hk]; exact h)
theorem wl_ibeing (x y : Operand) (ho : op.op = .index 47 x y) (hw : Region.wanted op (yielded ops a.tmps) = true) (k : Nat) (L : Ld) (hx : a.eval x = .agg L.beingsA) (hy : a.eval y = .int .i64 (k : Int)) (hk : k < 6)
    (h : wpList Try.prog ops Q rest (a.put op.dst (.agg (L.bcells k))) w) : wpList Try.prog ops Q (op :: rest) a w :=
  wl_index 47 46 x y ho hw 6 6 k L.beingsA _ hx hy Try.underlying47 Try.underlying46 rfl Try.sizeBeing hk (by rw [L.beings_at k hk]; exact h)
theorem wl_ithing (x y : Operand) (ho : op.op = .index 44 x y) (hw : Region.wanted op (yielded ops a.tmps) = true) (k : Nat) (L : Ld) (hx : a.eval x = .agg L.thingsA) (hy : a.eval y = .int .i64 (k : Int)) (hk : k < 9)
    (h : wpList Try.prog ops Q rest (a.put op.dst (.agg (L.tcells k))) w) : wpList Try.prog ops Q (op :: rest) a w :=
  wl_index 44 43 x y ho hw 9 5 k L.thingsA _ hx hy Try.underlying44 Try.underlying43 rfl Try.sizeThing hk (by rw [L.things_at k hk]; exact h)

/-! A room, a being, a thing: laid in the block that was made last; read out of a block. -/
theorem wl_newR (x y : Operand) (ho : op.op = .store 40 x y) (hw : Region.wanted op (yielded ops a.tmps) = true) {W : World} (c : Array Value) (k : Nat) (L : Ld) (hW : W = w.alloc (.cells c 40))
    (hx : a.eval x = .pointer (some ⟨w.heap.size, 0, none⟩)) (hy : a.eval y = .agg (L.rcells k)) (hs : c.size = 14)
    (h : wpList Try.prog ops Q rest (a.put op.dst undef) (w.alloc (.cells (L.rcells k) 40))) : wpList Try.prog ops Q (op :: rest) a W :=
  wl_new 40 x y ho hw c (L.rcells k) hW hx hy Try.sizeRoom hs (by simp [Ld.rcells, Value.oneCell']) h
theorem wl_allR (x : Operand) (ho : op.op = .load 40 x) (hw : Region.wanted op (yielded ops a.tmps) = true) (g k : Nat) (L : Ld) (hx : a.eval x = .pointer (some ⟨g, 0, none⟩))
    (hg : w.heap[g]? = some (.cells (L.rcells k) 40 (0, 0))) (h : wpList Try.prog ops Q rest (a.put op.dst (.agg (L.rcells k))) w) : wpList Try.prog ops Q (op :: rest) a w :=
  wl_wanted hw (wp_load_row 40 x ho g hx 40 (L.rcells k) (0, 0) _ hg Try.underlying40 rfl Try.sizeRoom h)
theorem wl_newB (x y : Operand) (ho : op.op = .store 46 x y) (hw : Region.wanted op (yielded ops a.tmps) = true) {W : World} (c : Array Value) (k : Nat) (L : Ld) (hW : W = w.alloc (.cells c 46))
    (hx : a.eval x = .pointer (some ⟨w.heap.size, 0, none⟩)) (hy : a.eval y = .agg (L.bcells k)) (hs : c.size = 6)
    (h : wpList Try.prog ops Q rest (a.put op.dst undef) (w.alloc (.cells (L.bcells k) 46))) : wpList Try.prog ops Q (op :: rest) a W :=
  wl_new 46 x y ho hw c (L.bcells k) hW hx hy Try.sizeBeing hs (by simp [Ld.bcells, Value.oneCell']) h
theorem wl_allB (x : Operand) (ho : op.op = .load 46 x) (hw : Region.wanted op (yielded ops a.tmps) = true) (g k : Nat) (L : Ld) (hx : a.eval x = .pointer (some ⟨g, 0, none⟩))
    (hg : w.heap[g]? = some (.cells (L.bcells k) 46 (0, 0))) (h : wpList Try.prog ops Q rest (a.put op.dst (.agg (L.bcells k))) w) : wpList Try.prog ops Q (op :: rest) a w :=
  wl_wanted hw (wp_load_row 46 x ho g hx 46 (L.bcells k) (0, 0) _ hg Try.underlying46 rfl Try.sizeBeing h)
theorem wl_newT (x y : Operand) (ho : op.op = .store 43 x y) (hw : Region.wanted op (yielded ops a.tmps) = true) {W : World} (c : Array Value) (k : Nat) (L : Ld) (hW : W = w.alloc (.cells c 43))
    (hx : a.eval x = .pointer (some ⟨w.heap.size, 0, none⟩)) (hy : a.eval y = .agg (L.tcells k)) (hs : c.size = 5)
    (h : wpList Try.prog ops Q rest (a.put op.dst undef) (w.alloc (.cells (L.tcells k) 43))) : wpList Try.prog ops Q (op :: rest) a W :=
  wl_new 43 x y ho hw c (L.tcells k) hW hx hy Try.sizeThing hs (by simp [Ld.tcells, Value.oneCell']) h
theorem wl_allT (x : Operand) (ho : op.op = .load 43 x) (hw : Region.wanted op (yielded ops a.tmps) = true) (g k : Nat) (L : Ld) (hx : a.eval x = .pointer (some ⟨g, 0, none⟩))
    (hg : w.heap[g]? = some (.cells (L.tcells k) 43 (0, 0))) (h : wpList Try.prog ops Q rest (a.put op.dst (.agg (L.tcells k))) w) : wpList Try.prog ops Q (op :: rest) a w :=
  wl_wanted hw (wp_load_row 43 x ho g hx 43 (L.tcells k) (0, 0) _ hg Try.underlying43 rfl Try.sizeThing h)
end

/-- A round's head. -/
structure GdRel (L : Ld) (w wr : World) : Prop where
  cod : Cod wr w.heap.size L
  low : Below w.heap.size w wr

theorem GdRel.box {L : Ld} {w wr : World} (h : GdRel L w wr) (o : Obj) : GdRel L w (wr.alloc o) := ⟨h.cod.alloc o, h.low.alloc h.low.size o⟩
theorem GdRel.call {L : Ld} {w wr w1 : World} (h : GdRel L w wr) (hb : Below wr.heap.size wr w1) : GdRel L w w1 := ⟨h.cod.behind hb (Nat.le_refl _), h.low.trans (hb.mono h.low.size)⟩
theorem gd_start (L : Ld) (w : World) : GdRel L w (w.alloc (.cells L.cells 49)) := ⟨cod_new w L, (Below.refl _ _).alloc (Nat.le_refl _) _⟩

theorem goodR_calls {L : Ld} (hw : Wf L) (k : Nat) (hk : k < 6) (w : World) : Calls Try.prog 23 #[.agg (L.rcells k)] w fun r w' => r = .returned (.bool (goodR L k)) ∧ Below w.heap.size w w' :=
  room_good_any (L.rname k) (L.dark k) (L.exit k) (L.shut k) w (fun d hd => hw.exit k d hk hd)
theorem goodB_calls {L : Ld} (hw : Wf L) (k : Nat) (hk : k < 6) (w : World) : Calls Try.prog 24 #[.agg (L.bcells k)] w fun r w' => r = .returned (.bool (goodB L k)) ∧ Below w.heap.size w w' :=
  being_any (L.bname k) (L.here k) (L.keen k) (L.room k) (L.health k) (L.foe k) w (hw.foe k hk).1 (hw.foe k hk).2

set_option maxRecDepth 100000 in
set_option maxHeartbeats 1000000 in
theorem good_any (L : Ld) (w : World) (hwf : Wf L) : Calls Try.prog 13 #[.agg L.cells] w fun e w' => e = .returned (.bool (goodL L)) ∧ Below w.heap.size w w' := by
  have HF := hide hwf
  clear hwf
  go_enter Try.func13, Try.ntmps13
  go_wp2_with (refine wl_rooms (.tmp 9) rfl rfl _ L rfl (cod_new w L) ?_)
  go_loopw [4, 11] (fun p c wr => ∃ k : Nat, k ≤ 6 ∧ c = .int .i64 k ∧ GdRel L w wr ∧ ∀ r, r < k → goodR L r = true) (fun _ c _ => 6 - (intOf c).toNat)
  case atStart => exact ⟨0, by omega, rfl, gd_start L w, fun r h => by omega⟩
  case round =>
    obtain ⟨k, hle, rfl, R, hall⟩ := hrel
    by_cases hk : k < 6
    · have HR := hide R
      have HA := hide hall
      clear R hall
      go_wp2_with (first | (refine wl_iroom (.tmp 10) (.tmp 11) rfl rfl k L rfl rfl hk ?_) | (refine wl_newR (.tmp 4) (.tmp 13) rfl rfl _ k L rfl rfl rfl rfl ?_) | (refine wl_allR (.tmp 4) rfl rfl wr.heap.size k L rfl (heap_alloc_new wr _) ?_))
      refine (goodR_calls HF.out k hk _).mono ?_
      rintro r w1 ⟨rfl, hb⟩
      have R1 := hide ((HR.out.box (.cells (L.rcells k) 40)).call hb)
      clear hb
      cases hg : goodR L k with
      | false =>
        have HG := hide (show goodL L = false by unfold goodL; rw [all_bad hk hg]; rfl)
        clear hg
        go_wp2
        go_ret
        exact ⟨ret_bool HG.out.symm, R1.out.low⟩
      | true =>
        have HN := hide (show ∀ r, r < k + 1 → goodR L r = true from fun r hr => by
          rcases Nat.lt_or_ge r k with h | h
          · exact HA.out r h
          · rw [show r = k by omega]; exact hg)
        clear hg
        go_wp2
        go_roundw
        case rel => exact ⟨k + 1, by omega, by go_num, R1.out, HN.out⟩
        case measure => simp [intOf]; omega
    · have HA := hide (show (List.range 6).all (goodR L) = true from all_ok fun r hr => hall r (by omega))
      have HR := hide R
      clear R hall
      go_wp2_with (refine wl_beings (.tmp 18) rfl rfl _ L rfl HR.out.cod ?_)
      go_loopw [20] (fun c wr => ∃ k : Nat, k ≤ 6 ∧ c = .int .i64 k ∧ GdRel L w wr ∧ ∀ r, r < k → goodB L r = true) (fun c _ => 6 - (intOf c).toNat)
      case atStart => exact ⟨0, by omega, rfl, HR.out, fun r h => by omega⟩
      case round =>
        obtain ⟨j, hlj, rfl, R, hall⟩ := hrel
        clear HR
        by_cases hj : j < 6
        · have HR := hide R
          have HB := hide hall
          clear R hall
          go_wp2_with (first | (refine wl_ibeing (.tmp 19) (.tmp 20) rfl rfl j L rfl rfl hj ?_) | (refine wl_newB (.tmp 6) (.tmp 22) rfl rfl _ j L rfl rfl rfl rfl ?_) | (refine wl_allB (.tmp 6) rfl rfl wr.heap.size j L rfl (heap_alloc_new wr _) ?_))
          refine (goodB_calls HF.out j hj _).mono ?_
          rintro r w1 ⟨rfl, hb⟩
          have R1 := hide ((HR.out.box (.cells (L.bcells j) 46)).call hb)
          clear hb
          cases hg : goodB L j with
          | false =>
            have HG := hide (show goodL L = false by unfold goodL; rw [all_bad hj hg, Bool.and_false]; rfl)
            clear hg
            go_wp2
            go_ret
            exact ⟨ret_bool HG.out.symm, R1.out.low⟩
          | true =>
            have HN := hide (show ∀ r, r < j + 1 → goodB L r = true from fun r hr => by
              rcases Nat.lt_or_ge r j with h | h
              · exact HB.out r h
              · rw [show r = j by omega]; exact hg)
            clear hg
            go_wp2
            go_roundw
            case rel => exact ⟨j + 1, by omega, by go_num, R1.out, HN.out⟩
            case measure => simp [intOf]; omega
        · have HB := hide (show (List.range 6).all (goodB L) = true from all_ok fun r hr => hall r (by omega))
          have HR := hide R
          clear R hall
          go_wp2_with (refine wl_things (.tmp 27) rfl rfl _ L rfl HR.out.cod ?_)
          go_loopw [29] (fun c wr => ∃ k : Nat, k ≤ 9 ∧ c = .int .i64 k ∧ GdRel L w wr ∧ ∀ r, r < k → goodT L r = true) (fun c _ => 9 - (intOf c).toNat)
          case atStart => exact ⟨0, by omega, rfl, HR.out, fun r h => by omega⟩
          case round =>
            obtain ⟨i, hli, rfl, R, hall⟩ := hrel
            clear HR
            by_cases hi : i < 9
            · have HR := hide R
              have HT := hide hall
              clear R hall
              go_wp2_with (first | (refine wl_ithing (.tmp 28) (.tmp 29) rfl rfl i L rfl rfl hi ?_) | (refine wl_newT (.tmp 8) (.tmp 32) rfl rfl _ i L rfl rfl rfl rfl ?_) | (refine wl_allT (.tmp 8) rfl rfl wr.heap.size i L rfl (heap_alloc_new wr _) ?_))
              refine (kind_any (L.tname i) (L.kind i) (L.wh i) (L.loc i) (L.on i) _).mono ?_
              rintro r w1 ⟨rfl, hb⟩
              have R1 := hide ((HR.out.box (.cells (L.tcells i) 43)).call hb)
              have T1 := hide (show w1.heap[wr.heap.size]? = some (.cells (L.tcells i) 43 (0, 0)) by rw [hb.block _ (by simp)]; exact heap_alloc_new wr _)
              clear hb
              cases hg : gkind (L.kind i) (L.wh i) (L.on i) with
              | false =>
                have HG := hide (show goodL L = false by unfold goodL; rw [all_bad (f := goodT L) hi (by unfold goodT; rw [hg]; rfl), Bool.and_false])
                clear hg
                go_wp2
                go_ret
                exact ⟨ret_bool HG.out.symm, R1.out.low⟩
              | true =>
                have HK := hide hg
                clear hg
                go_wp2_with (first | (refine wl_land (.tmp 1) rfl rfl _ L rfl R1.out.cod ?_) | (refine wl_allT (.tmp 8) rfl rfl wr.heap.size i L rfl T1.out ?_))
                refine (place_any L (L.tname i) (L.kind i) (L.wh i) (L.loc i) (L.on i) _).mono ?_
                rintro r w2 ⟨rfl, hb⟩
                have R2 := hide (R1.out.call hb)
                clear hb
                cases hg : gplace L (L.wh i) (L.loc i) with
                | false =>
                  have HG := hide (show goodL L = false by unfold goodL; rw [all_bad (f := goodT L) hi (by unfold goodT; rw [HK.out, hg]; rfl), Bool.and_false])
                  clear hg
                  go_wp2
                  go_ret
                  exact ⟨ret_bool HG.out.symm, R2.out.low⟩
                | true =>
                  have HP := hide hg
                  clear hg
                  go_wp2_with (refine wl_land (.tmp 1) rfl rfl _ L rfl R2.out.cod ?_)
                  refine (endless_any L (i : Int) _ (amg_mk (by omega) (by omega))).mono ?_
                  rintro r w3 ⟨rfl, hb⟩
                  have R3 := hide (R2.out.call hb)
                  clear hb
                  cases hg : (L.wh (lastW L (i : Int)) == 2) with
                  | true =>
                    have HG := hide (show goodL L = false by unfold goodL; rw [all_bad (f := goodT L) hi (by unfold goodT; rw [HK.out, HP.out, hg]; rfl), Bool.and_false])
                    clear hg
                    go_wp2
                    go_ret
                    exact ⟨ret_bool HG.out.symm, R3.out.low⟩
                  | false =>
                    have HN := hide (show ∀ r, r < i + 1 → goodT L r = true from fun r hr => by
                      rcases Nat.lt_or_ge r i with h | h
                      · exact HT.out r h
                      · rw [show r = i by omega]; unfold goodT; rw [HK.out, HP.out, hg]; rfl)
                    clear hg
                    go_wp2
                    go_roundw
                    case rel => exact ⟨i + 1, by omega, by go_num, R3.out, HN.out⟩
                    case measure => simp [intOf]; omega
            · have HG := hide (show goodL L = true by unfold goodL; rw [HA.out, HB.out, all_ok fun r hr => hall r (by omega)]; rfl)
              have HR := hide R
              clear R hall
              go_wp2
              go_ret
              exact ⟨ret_bool HG.out.symm, HR.out.low⟩
end Go.Proofs.Ytponfhjplpfjkac
