/-
  The contract of bytesOf of the document's own answer, at one and at three bytes.
-/
import Derived.Test.YtbjcmnemcgadjaaPure
namespace Go.Proofs.Ytbjcmnemcgadjaa
open Go.RowKit
set_option linter.unusedVariables false

theorem conv_one (n : Int) (h0 : 0 ≤ n) (h255 : n ≤ 255) (W : World) (k : Nat) (hk : k = W.heap.size) :
    (convert 36 9 (.slice (some ⟨k, 0, none⟩) 1 1)).run Try.prog (W.alloc (.cells #[.int .u8 n] 5)) = .ok (.string ⟨#[UInt8.ofNat n.toNat]⟩) (W.alloc (.cells #[.int .u8 n] 5)) := by
  subst hk
  refine conv_bytes _ _ 1 1 [UInt8.ofNat n.toNat] rfl ?_
  intro j u hj
  cases j with
  | zero =>
    simp only [bcells, List.map_cons, List.map_nil, byteOf n h0 h255] at hj
    have hadd : (⟨W.heap.size, 0, none⟩ : Addr).add 0 = ⟨W.heap.size, 0, none⟩ := rfl
    rw [hadd, World.cell?_alloc_at _ _ _ _ rfl]
    simpa using hj
  | succ j => simp [bcells] at hj

theorem ret_str {a b : ByteArray} (h : a = b) : Ending.returned (.string a) = .returned (.string b) := by rw [h]

theorem say_parts (b c : Int) : ((ByteArray.mk #[] ++ ByteArray.mk #[255]) ++ ByteArray.mk #[UInt8.ofNat b.toNat]) ++ ByteArray.mk #[UInt8.ofNat c.toNat] = sayB b c := by
  show ((ByteArray.mk [].toArray ++ ByteArray.mk [255].toArray) ++ ByteArray.mk [UInt8.ofNat b.toNat].toArray) ++ ByteArray.mk [UInt8.ofNat c.toNat].toArray = sayB b c
  rw [ByteArray.mk_append_mk, ByteArray.mk_append_mk, ByteArray.mk_append_mk]
  rfl

theorem one_part (x : UInt8) : ByteArray.mk #[] ++ ByteArray.mk #[x] = ByteArray.mk #[x] := by
  show ByteArray.mk [].toArray ++ ByteArray.mk [x].toArray = _
  rw [ByteArray.mk_append_mk]
  rfl

set_option maxRecDepth 100000 in
set_option maxHeartbeats 1000000 in
theorem bytesOf3 (g : Nat) (b c : Int) (hb : 0 ≤ b) (hb' : b ≤ 255) (hc : 0 ≤ c) (hc' : c ≤ 255) (w : World) (hg : g < w.heap.size)
    (h0 : w.cell? ⟨g, 0, none⟩ = some (.int .i64 255)) (h1 : w.cell? ⟨g, 1, none⟩ = some (.int .i64 b)) (h2 : w.cell? ⟨g, 2, none⟩ = some (.int .i64 c)) :
    Calls Try.prog 26 #[.slice (some ⟨g, 0, none⟩) 3 3] w fun e w' => e = .returned (.string (sayB b c)) ∧ Below w.heap.size w w' := by
  have v0 := conv_one 255 (by omega) (by omega)
  have v1 := conv_one b hb hb'
  have v2 := conv_one c hc hc'
  have k1 : g < w.heap.size + 1 := by omega
  have k2 : g < w.heap.size + 1 + 1 := by omega
  go_enter Try.func26, Try.ntmps26
  go_wp2
  refine wp_loop_rounds 4 ?_
  rw [rounds_succ]
  go_wp2
  rw [rounds_succ]
  go_wp2
  rw [rounds_succ]
  go_wp2
  rw [rounds_succ]
  go_wp2
  go_ret
  exact ⟨ret_str (say_parts b c), (((Below.refl _ _).alloc (Nat.le_refl _) _).alloc (by simp) _).alloc (by simp; omega) _⟩

set_option maxRecDepth 100000 in
set_option maxHeartbeats 1000000 in
theorem bytesOf1 (g : Nat) (b : Int) (hb : 0 ≤ b) (hb' : b ≤ 255) (w : World) (hg : g < w.heap.size)
    (h0 : w.cell? ⟨g, 0, none⟩ = some (.int .i64 b)) :
    Calls Try.prog 26 #[.slice (some ⟨g, 0, none⟩) 1 1] w fun e w' => e = .returned (.string ⟨#[UInt8.ofNat b.toNat]⟩) ∧ Below w.heap.size w w' := by
  have v0 := conv_one b hb hb'
  go_enter Try.func26, Try.ntmps26
  go_wp2
  refine wp_loop_rounds 2 ?_
  rw [rounds_succ]
  go_wp2
  rw [rounds_succ]
  go_wp2
  go_ret
  exact ⟨ret_str (one_part _), (Below.refl _ _).alloc (Nat.le_refl _) _⟩

end Go.Proofs.Ytbjcmnemcgadjaa
