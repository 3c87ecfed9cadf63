/-
  Contracts of say, begin, end of package telnet.
-/
import Derived.Test.YtbjcmnemcgadjaaGoodb
import Derived.Lib.AppendStr
import Derived.Laws.BytesString
namespace Go.Proofs.Ytbjcmnemcgadjaa
open Go.RowKit

/-- Bytes as cells. -/
def bcells (l : List UInt8) : List Value := l.map fun b => Value.int .u8 b.toNat

theorem foldl_push (l : List UInt8) : ∀ (r : ByteArray), (l.map fun b => (b.toNat : Int)).foldl (fun r n => r.push (UInt8.ofNat n.toNat)) r = ⟨(r.data.toList ++ l).toArray⟩ := by
  induction l with
  | nil => intro r; cases r; simp
  | cons a l ih =>
    intro r
    simp only [List.map_cons, List.foldl_cons]
    rw [ih]
    cases r
    simp [ByteArray.push]

theorem conv_bytes (w : World) (a : Addr) (n c : Nat) (l : List UInt8) (hn : n = l.length) (h : ∀ j v, (bcells l)[j]? = some v → w.cell? (a.add j) = some v) :
    (convert 36 9 (.slice (some a) n c)).run Try.prog w = .ok (.string ⟨l.toArray⟩) w := by
  subst hn
  rw [run_convert_bytes_string w 36 9 5 (some a) _ c Try.underlying36 Try.underlying5 Try.underlying9]
  have hc := run_loadCells_list (P := Try.prog) (w := w) a (bcells l) h
  have e : bcells l = (l.map fun b => (b.toNat : Int)).map (Value.int .u8) := by simp [bcells]
  rw [run_bytesToString w a l.length c (l.map fun b => (b.toNat : Int)) (by rw [← e]; simpa [bcells] using hc), foldl_push]
  simp

/-- What is said of an option. -/
def sayL (v o : Int) : List UInt8 := [255, UInt8.ofNat v.toNat, UInt8.ofNat o.toNat]
def sayB (v o : Int) : ByteArray := ⟨(sayL v o).toArray⟩

theorem byteOf (v : Int) (hv : 0 ≤ v) (hv' : v ≤ 255) : (((UInt8.ofNat v.toNat).toNat : Nat) : Int) = v := by
  simp [UInt8.toNat_ofNat']; omega

theorem conv_say (v o : Int) (hv : 0 ≤ v) (hv' : v ≤ 255) (ho : 0 ≤ o) (ho' : o ≤ 255) (w : World) :
    (convert 36 9 (.slice (some ⟨w.heap.size, 0, none⟩) 3 3)).run Try.prog (w.alloc (.cells #[.int .u8 255, .int .u8 v, .int .u8 o] 5)) = .ok (.string (sayB v o)) (w.alloc (.cells #[.int .u8 255, .int .u8 v, .int .u8 o] 5)) := by
  refine conv_bytes _ _ 3 3 (sayL v o) rfl ?_
  intro j u hj
  have e : bcells (sayL v o) = [.int .u8 255, .int .u8 v, .int .u8 o] := by
    simp only [bcells, sayL, List.map_cons, List.map_nil]
    rw [byteOf v hv hv', byteOf o ho ho']
    rfl
  rw [e] at hj
  have hadd : (⟨w.heap.size, 0, none⟩ : Addr).add j = ⟨w.heap.size, j, none⟩ := by unfold Addr.add; split <;> simp_all
  rw [hadd, World.cell?_alloc_at _ _ _ _ rfl]
  simpa using hj

set_option maxHeartbeats 400000 in
theorem say_any (v o : Int) (hv : 0 ≤ v) (hv' : v ≤ 255) (ho : 0 ≤ o) (ho' : o ≤ 255) (w : World) :
    Calls Try.prog 37 #[.int .i64 v, .int .i64 o] w fun e w' => e = .returned (.string (sayB v o)) ∧ Below w.heap.size w w' := by
  have hcv := conv_say v o hv hv' ho ho' w
  go_enter Try.func37, Try.ntmps37
  go_wp2
  go_ret
  exact ⟨rfl, (Below.refl _ _).alloc (Nat.le_refl _) _⟩

/-- begin at nothing. -/
theorem begin_nil (ag re o : Int) (hv : 0 ≤ re) (hv' : re ≤ 255) (ho : 0 ≤ o) (ho' : o ≤ 255) (w : World) :
    Calls Try.prog 33 #[.pointer none, .int .i64 ag, .int .i64 re, .int .i64 o] w fun e w' => e = .returned (.string (sayB re o)) ∧ Below w.heap.size w w' := by
  go_enter Try.func33, Try.ntmps33
  go_wp2_with (go_at_call 37; refine (say_any _ _ hv hv' ho ho' _).mono ?_; rintro e w' ⟨rfl, hb⟩)
  go_ret
  exact ⟨rfl, hb⟩

theorem begin_no (b f : Nat) (ag re o : Int) (hv : 0 ≤ ag) (hv' : ag ≤ 255) (ho : 0 ≤ o) (ho' : o ≤ 255) (w : World) (hc : w.cell? ⟨b, f, none⟩ = some (.int .i64 0)) (hf : w.frozen? ⟨b, f, none⟩ = false) :
    Calls Try.prog 33 #[.pointer (some ⟨b, f, none⟩), .int .i64 ag, .int .i64 re, .int .i64 o] w fun e w' => e = .returned (.string (sayB ag o)) ∧ Below w.heap.size (w.setCell ⟨b, f, none⟩ (.int .i64 1)) w' := by
  go_enter Try.func33, Try.ntmps33
  go_wp2_with (go_at_call 37; refine (say_any _ _ hv hv' ho ho' _).mono ?_; rintro e w' ⟨rfl, hb⟩)
  go_ret
  exact ⟨rfl, hb.mono (by simp)⟩

theorem begin_yes (b f : Nat) (ag re o n : Int) (hn : (n == 0) = false) (w : World) (hc : w.cell? ⟨b, f, none⟩ = some (.int .i64 n)) (hf : w.frozen? ⟨b, f, none⟩ = false) :
    Calls Try.prog 33 #[.pointer (some ⟨b, f, none⟩), .int .i64 ag, .int .i64 re, .int .i64 o] w fun e w' => e = .returned (.string ⟨#[]⟩) ∧ w' = w.setCell ⟨b, f, none⟩ (.int .i64 1) := by
  go_enter Try.func33, Try.ntmps33
  go_wp2
  go_ret
  exact ⟨rfl, rfl⟩

theorem end_nil (ag o : Int) (w : World) :
    Calls Try.prog 34 #[.pointer none, .int .i64 ag, .int .i64 o] w fun e w' => e = .returned (.string ⟨#[]⟩) ∧ w' = w := by
  go_enter Try.func34, Try.ntmps34
  go_wp2
  go_ret
  exact ⟨rfl, rfl⟩

theorem end_yes (b f : Nat) (ag o : Int) (hv : 0 ≤ ag) (hv' : ag ≤ 255) (ho : 0 ≤ o) (ho' : o ≤ 255) (w : World) (hc : w.cell? ⟨b, f, none⟩ = some (.int .i64 1)) (hf : w.frozen? ⟨b, f, none⟩ = false) :
    Calls Try.prog 34 #[.pointer (some ⟨b, f, none⟩), .int .i64 ag, .int .i64 o] w fun e w' => e = .returned (.string (sayB ag o)) ∧ Below w.heap.size (w.setCell ⟨b, f, none⟩ (.int .i64 0)) w' := by
  go_enter Try.func34, Try.ntmps34
  go_wp2_with (go_at_call 37; refine (say_any _ _ hv hv' ho ho' _).mono ?_; rintro e w' ⟨rfl, hb⟩)
  go_ret
  exact ⟨rfl, hb.mono (by simp)⟩

theorem end_no (b f : Nat) (ag o n : Int) (hn : (n == 1) = false) (w : World) (hc : w.cell? ⟨b, f, none⟩ = some (.int .i64 n)) (hf : w.frozen? ⟨b, f, none⟩ = false) :
    Calls Try.prog 34 #[.pointer (some ⟨b, f, none⟩), .int .i64 ag, .int .i64 o] w fun e w' => e = .returned (.string ⟨#[]⟩) ∧ w' = w.setCell ⟨b, f, none⟩ (.int .i64 0) := by
  go_enter Try.func34, Try.ntmps34
  go_wp2
  go_ret
  exact ⟨rfl, rfl⟩
end Go.Proofs.Ytbjcmnemcgadjaa
