/-
  The contracts of the two functions feeds of the statements' packages, and of Escape of package telnet.
-/
import Derived.Test.YtbjcmnemcgadjaaFeed
namespace Go.Proofs.Ytbjcmnemcgadjaa
open Go.RowKit
set_option linter.unusedVariables false

theorem fine_zt : Fine zt := ⟨by decide, by decide, by decide, fun _ => rfl, fun h => by simp [zt] at h, fun _ => rfl, by decide, by decide, rfl, rfl, by decide, by decide, by decide, by decide⟩

theorem feed_zt : feedL zt [97, 255, 253, 3, 98] = ({ zt with u1 := 1 }, [97, 98], [255, 251, 3]) := by rfl

theorem feeds_feed (w : World) : Calls Try.prog 9 #[zt.val, .string ⟨#[97, 255, 253, 3, 98]⟩] w fun e w' =>
    e = .returned (.tuple #[({ zt with u1 := 1 } : Tel).val, .string ⟨#[97, 98]⟩, .string ⟨#[255, 251, 3]⟩, .int .i64 0]) ∧ Below w.heap.size w w' := by
  have h := feed_good zt ⟨#[97, 255, 253, 3, 98]⟩ w fine_zt (by decide)
  rw [show (ByteArray.mk #[97, 255, 253, 3, 98]).data.toList = [97, 255, 253, 3, 98] from rfl, feed_zt] at h
  exact h

set_option maxRecDepth 100000 in
set_option maxHeartbeats 400000 in
theorem feeds20 (w : World) : Calls Try.prog 20 #[] w fun e w' => e = .returned (.bool true) ∧ Below w.heap.size w w' := by
  go_enter Try.func20, Try.ntmps20
  go_wp2_with (go_at_call 9; refine (feeds_feed _).mono ?_; rintro e w1 ⟨rfl, hb1⟩; unfold Tel.val Tel.cells zt)
  go_ret
  exact ⟨rfl, hb1.alloc hb1.size _⟩

set_option maxRecDepth 100000 in
set_option maxHeartbeats 400000 in
theorem feeds15 (w : World) : Calls Try.prog 15 #[] w fun e w' => e = .returned (.bool true) ∧ Below w.heap.size w w' := by
  go_enter Try.func15, Try.ntmps15
  go_wp2_with (go_at_call 9; refine (feeds_feed _).mono ?_; rintro e w1 ⟨rfl, hb1⟩; unfold Tel.val Tel.cells zt)
  go_ret
  exact ⟨rfl, hb1.alloc hb1.size _⟩

/-- Text as bytes: each 255 twice. -/
def escL (l : List UInt8) : List UInt8 := l.flatMap fun c => if c = 255 then [255, c] else [c]

theorem escL_append (a b : List UInt8) : escL (a ++ b) = escL a ++ escL b := by simp [escL]
theorem escL_len (l : List UInt8) : (escL l).length ≤ 2 * l.length := by
  induction l with
  | nil => simp [escL]
  | cons c l ih =>
    have : escL (c :: l) = escL [c] ++ escL l := escL_append [c] l
    rw [this, List.length_append]
    have h1 : (escL [c]).length ≤ 2 := by simp only [escL, List.flatMap_cons, List.flatMap_nil]; split <;> simp
    simp only [List.length_cons]
    omega

set_option maxRecDepth 100000 in
set_option maxHeartbeats 1000000 in
theorem escape_any (s : ByteArray) (w : World) (hs : s.size ≤ 1048576) :
    Calls Try.prog 13 #[.string s] w fun e w' => e = .returned (.string ⟨(escL s.data.toList).toArray⟩) ∧ Below w.heap.size w w' := by
  go_enter Try.func13, Try.ntmps13
  go_wp2
  go_loopw [3, 4] (fun v i wr => ∃ (k : Nat) (L : List UInt8), k ≤ s.size ∧ i = .int .i64 k ∧ Hid (escL (s.data.toList.take k) = L) ∧ wr.ownsRow w.heap.size 5 1 v L.length (bcells L) ∧ Below w.heap.size w wr) (fun _ i _ => s.size - (intOf i).toNat)
  case atStart => exact ⟨0, [], Nat.zero_le _, rfl, rfl, World.ownsRow_nil _ _ _ _, Below.refl _ _⟩
  case round =>
    obtain ⟨k, L, hk, rfl, HL, hown, hb⟩ := hrel
    have hlen : L.length ≤ 2 * k := by
      have h1 := escL_len (s.data.toList.take k)
      have h2 : (s.data.toList.take k).length ≤ k := List.length_take_le _ _
      rw [HL.out] at h1
      omega
    have hsz := hb.size
    by_cases hlt : k < s.size
    · have k255 := byte_beq s[k] 255 (by omega)
      by_cases hc : s[k] = 255
      · have HN := hide (show escL (s.data.toList.take (k + 1)) = L ++ [255] ++ [s[k]] by rw [take_snoc s k hlt, escL_append, HL.out]; simp [escL, hc])
        have ec : (((s[k].toNat : Nat) : Int) == 255) = true := by simp [hc]
        clear hc k255
        go_wp2_with (at_builtin; refine wp_append1 _ rfl (.tmp 15) (.tmp 16) rfl w.heap.size _ L rfl (hown.alloc _) 255 ⟨wr.heap.size, 0, none⟩ rfl ?c1 ?c2 ?c3 ?_)
        case c1 => simp
        case c2 => omega
        case c3 => simp; omega
        intro v2 w2 ho2 hg2 _
        have hb2 : Below w.heap.size w w2 := (hb.alloc hsz _).grown hg2 (by simp; omega) (fun j e => (hown.lt j e).1)
        have hsz2 := hb2.size
        clear hg2 hown
        go_wp2_with (at_builtin; refine wp_append1 _ rfl (.tmp 18) (.tmp 22) rfl w.heap.size _ (L ++ [255]) rfl ((by rw [List.length_append]; exact ho2 : w2.ownsRow w.heap.size 5 1 v2 (L ++ [255]).length (bcells (L ++ [255]))).alloc _) s[k] ⟨w2.heap.size, 0, none⟩ rfl ?d1 ?d2 ?d3 ?_)
        case d1 => simp
        case d2 => simp; omega
        case d3 => simp; omega
        intro v3 w3 ho3 hg3 _
        have hb3 : Below w.heap.size w w3 := (hb2.alloc hsz2 _).grown hg3 (by simp; omega) (fun j e => (ho2.lt j e).1)
        clear hg3
        go_wp2
        exact ⟨⟨k + 1, _, by omega, by go_num, HN, by simpa using ho3, hb3⟩, by simp [intOf]; omega⟩
      · have HN := hide (show escL (s.data.toList.take (k + 1)) = L ++ [s[k]] by rw [take_snoc s k hlt, escL_append, HL.out]; simp [escL, hc])
        have ec : (((s[k].toNat : Nat) : Int) == 255) = false := by simpa [hc] using k255
        clear hc k255
        go_wp2_with (at_builtin; refine wp_append1 _ rfl (.tmp 18) (.tmp 22) rfl w.heap.size _ L rfl (hown.alloc _) s[k] ⟨wr.heap.size, 0, none⟩ rfl ?c1 ?c2 ?c3 ?_)
        case c1 => simp
        case c2 => omega
        case c3 => simp; omega
        intro v2 w2 ho2 hg2 _
        have hb2 : Below w.heap.size w w2 := (hb.alloc hsz _).grown hg2 (by simp; omega) (fun j e => (hown.lt j e).1)
        clear hg2 hown
        go_wp2
        exact ⟨⟨k + 1, _, by omega, by go_num, HN, by simpa using ho2, hb2⟩, by simp [intOf]; omega⟩
    · have hkk : k = s.size := by omega
      have HT := hide (show escL s.data.toList = L by have := HL.out; rwa [hkk, List.take_of_length_le (by simp)] at this)
      have hX := conv_own wr _ _ L hown wr rfl
      clear hkk
      go_wp2
      go_ret
      exact ⟨by rw [HT.out]; rfl, hb⟩

end Go.Proofs.Ytbjcmnemcgadjaa
