/-
  What a being is to do, where it goes, or takes what lies about; Do: contracts.
-/
import Derived.Test.YtjkbmgjbmdcciafDoorRuGet3
import Derived.Test.YtjkbmgjbmdcciafDoorRuWalk
import Derived.Test.YtjkbmgjbmdcciafDoorRuBld
namespace Go.Proofs.YtjkbmgjbmdcciafDoor
open Go.RowKit
set_option linter.unusedVariables false

set_option maxRecDepth 100000 in
set_option maxHeartbeats 2000000 in
theorem act_go {w0 : World} {L : Ld} {Es : List Ev} {w : World} (hS : Sn 54 [] w0 L Es w) (hf : Fine L) (hg : goodL L = true) (hvb : Vb w0) (b d : Nat) (hb : b < 6) (hd : d < 6) (O : Od) (hv : O.verb = (d : Int)) (hlen : Es.length ≤ 800000) :
    Calls Tryd.prog 12 #[.pointer (some ⟨w0.heap.size, 0, none⟩), .int .i64 (b : Int), .agg O.cells] w fun e w' => e = .returned (.tuple #[]) ∧ Sn 54 [] w0 (walkL L b d) (Es ++ walkE L b d) w' ∧ Stp w0.heap.size 165 w w' := by
  have hv6 : (O.verb == 6) = false := by rw [hv]; simp; omega
  have hv7 : (O.verb == 7) = false := by rw [hv]; simp; omega
  have hv8 : (O.verb == 8) = false := by rw [hv]; simp; omega
  have hv9 : (O.verb == 9) = false := by rw [hv]; simp; omega
  have hv10 : (O.verb == 10) = false := by rw [hv]; simp; omega
  have hv11 : (O.verb == 11) = false := by rw [hv]; simp; omega
  have hv12 : (O.verb == 12) = false := by rw [hv]; simp; omega
  have hv13 : (O.verb == 13) = false := by rw [hv]; simp; omega
  have hv14 : (O.verb == 14) = false := by rw [hv]; simp; omega
  have hv15 : (O.verb == 15) = false := by rw [hv]; simp; omega
  have hv16 : (O.verb == 16) = false := by rw [hv]; simp; omega
  have hv17 : (O.verb == 17) = false := by rw [hv]; simp; omega
  have hv18 : (O.verb == 18) = false := by rw [hv]; simp; omega
  have hv19 : (O.verb == 19) = false := by rw [hv]; simp; omega
  have hv20 : (O.verb == 20) = false := by rw [hv]; simp; omega
  have X0 := hide (hS.alloc (.cells O.cells 36))
  have T0 := hide (Stp.below (o := 165) (below_box w (.cells O.cells 36)) hS.lt)
  have HV := hide hv
  have HS := hide hS
  clear hS hv
  unfold Od.cells
  go_enter Tryd.func12, Tryd.ntmps12
  go_wp2_with fail
  have C := rwalk_any X0.out hf hg hvb b d hb hd hlen
  rw [← HV.out] at C
  refine C.mono ?_
  clear C
  rintro e w1 ⟨rfl, S1h, T1h⟩
  have A := hide S1h
  have B := hide (T0.out.trans T1h)
  clear S1h T1h
  go_wp2
  go_end0
  exact ⟨rfl, A.out, B.out⟩

set_option maxRecDepth 100000 in
set_option maxHeartbeats 2000000 in
theorem act_get {w0 : World} {L : Ld} {Es : List Ev} {w : World} (hS : Sn 54 [] w0 L Es w) (b : Nat) (hb : b < 6) (O : Od) (hv : O.verb = 7) (h2 : O.second = ⟨#[]⟩) (hn0 : -9223372036854775808 ≤ O.nth) (hn1 : O.nth ≤ 9223372036854775807) (hlen : Es.length ≤ 900000) :
    Calls Tryd.prog 12 #[.pointer (some ⟨w0.heap.size, 0, none⟩), .int .i64 (b : Int), .agg O.cells] w fun e w' => e = .returned (.tuple #[]) ∧ Sn 54 [] w0 (getL L b O) (Es ++ getE L b O) w' ∧ Stp w0.heap.size 165 w w' := by
  have hv6 : (O.verb == 6) = false := by rw [hv]; rfl
  have hv7 : (O.verb == 7) = true := by rw [hv]; rfl
  have X0 := hide (hS.alloc (.cells O.cells 36))
  have T0 := hide (Stp.below (o := 165) (below_box w (.cells O.cells 36)) hS.lt)
  have G0 := hide (heap_alloc_new w (.cells O.cells 36))
  have c0 : (w.alloc (.cells O.cells 36)).cell? ⟨w.heap.size, 0, none⟩ = some (.int .i64 O.verb) := by rw [cell_of_row _ _ _ _ _ _ G0.out]; rfl
  clear hS hv
  go_enter Tryd.func12, Tryd.ntmps12
  go_wp2_with (refine wl_wanted rfl (wp_load_row 36 (.tmp 5) rfl w.heap.size rfl 36 O.cells (0, 0) _ G0.out Tryd.underlying36 rfl Tryd.sizeOrder ?_))
  refine (rget_any X0.out b hb O h2 hn0 hn1 hlen).mono ?_
  rintro e w1 ⟨rfl, S1h, T1h⟩
  have A := hide S1h
  have B := hide (T0.out.trans T1h)
  clear S1h T1h
  go_wp2
  go_end0
  exact ⟨rfl, A.out, B.out⟩
end Go.Proofs.YtjkbmgjbmdcciafDoor
