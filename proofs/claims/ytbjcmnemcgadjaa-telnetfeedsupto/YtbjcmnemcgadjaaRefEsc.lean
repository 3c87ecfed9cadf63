/-
  The contract of EscapeText of the document's own answer.
-/
import Derived.Test.YtbjcmnemcgadjaaEsc
import Derived.Lib.ConvBytes
namespace Go.Proofs.Ytbjcmnemcgadjaa
open Go.RowKit
set_option linter.unusedVariables false

theorem bytes_below (w : World) (s : ByteArray) : Below w.heap.size w (Lib.bytesWorld w 5 s) :=
  ⟨rfl, rfl, rfl, by rw [Lib.bytesWorld_size]; omega, fun k hk => Lib.bytesWorld_at_old w 5 s k hk⟩

theorem getD_at (s : ByteArray) (k : Nat) (h : k < s.size) : s.data.toList.getD k 0 = s[k] := by
  have h' : k < s.data.toList.length := by simpa using h
  rw [List.getD_eq_getElem?_getD, List.getElem?_eq_getElem h']
  rfl

set_option maxRecDepth 100000 in
set_option maxHeartbeats 1000000 in
theorem refesc_any (s : ByteArray) (w : World) (hs : s.size ≤ 1048576) :
    Calls Try.prog 14 #[.string s] w fun e w' => e = .returned (.string ⟨(escL s.data.toList).toArray⟩) ∧ Below w.heap.size w w' := by
  have hcv := Lib.run_convert_string_bytes (P := Try.prog) w 9 36 5 s Try.underlying9 Try.underlying36 Try.underlying5
  have hbz := Lib.bytesWorld_size w 5 s
  go_enter Try.func14, Try.ntmps14
  go_wp2
  go_loopw [3, 5, 9] (fun v _ i wr => ∃ (k : Nat) (L : List UInt8), k ≤ s.size ∧ i = .int .i64 k ∧ Hid (escL (s.data.toList.take k) = L) ∧ wr.ownsRow (w.heap.size + 1) 5 1 v L.length (bcells L) ∧ Below (w.heap.size + 1) (Lib.bytesWorld w 5 s) wr) (fun _ _ i _ => s.size - (intOf i).toNat)
  case atStart => exact ⟨0, [], Nat.zero_le _, rfl, rfl, World.ownsRow_nil _ _ _ _, Below.refl _ _⟩
  case round =>
    obtain ⟨k, L, hk, rfl, HL, hown, hb⟩ := hrel
    have hlen : L.length ≤ 2 * k := by
      have h1 := escL_len (s.data.toList.take k)
      have h2 : (s.data.toList.take k).length ≤ k := List.length_take_le _ _
      rw [HL.out] at h1
      omega
    have hsz := hb.size
    rw [hbz] at hsz
    have hbb : Below w.heap.size w wr := (bytes_below w s).trans (hb.mono (by omega))
    by_cases hlt : k < s.size
    · have hcell : wr.cell? ⟨w.heap.size, k, none⟩ = some (.int .u8 s[k].toNat) := by
        rw [hb.cell (p := ⟨w.heap.size, k, none⟩) (by simp), Lib.bytesWorld_cell w 5 s k hlt, getD_at s k hlt]
      have k255 := byte_beq s[k] 255 (by omega)
      by_cases hc : s[k] = 255
      · have HN := hide (show escL (s.data.toList.take (k + 1)) = L ++ [s[k]] ++ [s[k]] by rw [take_snoc s k hlt, escL_append, HL.out]; simp [escL, hc])
        have ec : (((s[k].toNat : Nat) : Int) == 255) = true := by simp [hc]
        clear hc k255
        go_wp2_with (at_builtin; refine wp_append1 _ rfl (.tmp 13) (.tmp 15) rfl (w.heap.size + 1) _ L rfl (hown.alloc _) s[k] ⟨wr.heap.size, 0, none⟩ rfl ?c1 ?c2 ?c3 ?_)
        case c1 => simp
        case c2 => omega
        case c3 => simp; omega
        intro v2 w2 ho2 hg2 _
        have hb2 : Below (w.heap.size + 1) (Lib.bytesWorld w 5 s) w2 := (hb.alloc hsz _).grown hg2 (by simp; omega) (fun j e => (hown.lt j e).1)
        have hsz2 := hb2.size
        rw [hbz] at hsz2
        have ho2' : w2.ownsRow (w.heap.size + 1) 5 1 v2 (L ++ [s[k]]).length (bcells (L ++ [s[k]])) := by rw [List.length_append]; exact ho2
        clear hg2 hown
        go_wp2_with (at_builtin; refine wp_append1 _ rfl (.tmp 19) (.tmp 21) rfl (w.heap.size + 1) _ (L ++ [s[k]]) rfl (ho2'.alloc _) s[k] ⟨w2.heap.size, 0, none⟩ rfl ?d1 ?d2 ?d3 ?_)
        case d1 => simp
        case d2 => simp; omega
        case d3 => simp; omega
        intro v3 w3 ho3 hg3 _
        have hb3 : Below (w.heap.size + 1) (Lib.bytesWorld w 5 s) w3 := (hb2.alloc hsz2 _).grown hg3 (by simp; omega) (fun j e => (ho2'.lt j e).1)
        clear hg3
        go_wp2
        exact ⟨⟨k + 1, _, by omega, by go_num, HN, by simpa using ho3, hb3⟩, by simp [intOf]; omega⟩
      · have HN := hide (show escL (s.data.toList.take (k + 1)) = L ++ [s[k]] by rw [take_snoc s k hlt, escL_append, HL.out]; simp [escL, hc])
        have ec : (((s[k].toNat : Nat) : Int) == 255) = false := by simpa [hc] using k255
        clear hc k255
        go_wp2_with (at_builtin; refine wp_append1 _ rfl (.tmp 13) (.tmp 15) rfl (w.heap.size + 1) _ L rfl (hown.alloc _) s[k] ⟨wr.heap.size, 0, none⟩ rfl ?c1 ?c2 ?c3 ?_)
        case c1 => simp
        case c2 => omega
        case c3 => simp; omega
        intro v2 w2 ho2 hg2 _
        have hb2 : Below (w.heap.size + 1) (Lib.bytesWorld w 5 s) w2 := (hb.alloc hsz _).grown hg2 (by simp; omega) (fun j e => (hown.lt j e).1)
        clear hg2 hown
        go_wp2
        exact ⟨⟨k + 1, _, by omega, by go_num, HN, by simpa using ho2, hb2⟩, by simp [intOf]; omega⟩
    · have hkk : k = s.size := by omega
      have HT := hide (show escL s.data.toList = L by have := HL.out; rwa [hkk, List.take_of_length_le (by simp)] at this)
      have hX := conv_own wr _ _ L hown wr rfl
      clear hkk
      go_wp2
      go_ret
      exact ⟨by rw [HT.out]; rfl, hbb⟩

end Go.Proofs.Ytbjcmnemcgadjaa
