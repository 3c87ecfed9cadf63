/-
  The contract of Escape of package telnet.
-/
import Derived.Test.YtponfhjplpfjkacPgMem
namespace Go.Proofs.Ytponfhjplpfjkac
open Go.RowKit
set_option linter.unusedVariables false

/-- Bytes as cells. -/
def bcells (l : List UInt8) : List Value := l.map fun b => Value.int .u8 b.toNat

theorem foldl_push (l : List UInt8) : ∀ (r : ByteArray), (l.map fun b => (b.toNat : Int)).foldl (fun r n => r.push (UInt8.ofNat n.toNat)) r = ⟨(r.data.toList ++ l).toArray⟩ := by
  induction l with
  | nil => intro r; cases r; simp
  | cons a l ih =>
    intro r
    simp only [List.map_cons, List.foldl_cons]
    rw [ih]
    cases r
    simp [ByteArray.push]

theorem conv_bytes (w : World) (a : Addr) (n c : Nat) (l : List UInt8) (hn : n = l.length) (h : ∀ j v, (bcells l)[j]? = some v → w.cell? (a.add j) = some v) :
    (convert 55 9 (.slice (some a) n c)).run Try.prog w = .ok (.string ⟨l.toArray⟩) w := by
  subst hn
  rw [run_convert_bytes_string w 55 9 5 (some a) _ c Try.underlying55 Try.underlying5 Try.underlying9]
  have hc := run_loadCells_list (P := Try.prog) (w := w) a (bcells l) h
  have e : bcells l = (l.map fun b => (b.toNat : Int)).map (Value.int .u8) := by simp [bcells]
  rw [run_bytesToString w a l.length c (l.map fun b => (b.toNat : Int)) (by rw [← e]; simpa [bcells] using hc), foldl_push]
  simp

theorem conv_nil (w : World) : (convert 55 9 (.slice none 0 0)).run Try.prog w = .ok (.string ⟨#[]⟩) w := by
  rw [run_convert_bytes_string w 55 9 5 none 0 0 Try.underlying55 Try.underlying5 Try.underlying9]
  rfl

theorem conv_own (w : World) (base : Nat) (v : Value) (l : List UInt8) (hown : w.ownsRow base 5 1 v l.length (bcells l)) (W : World) (hW : W.heap = w.heap) :
    (convert 55 9 v).run Try.prog W = .ok (.string ⟨l.toArray⟩) W := by
  rcases hown.2 with ⟨rfl, h0⟩ | ⟨g, cap, cur, rfl, hbg, hgg, hnc, hcm, hcs, htake⟩
  · have : l = [] := List.eq_nil_of_length_eq_zero h0
    subst this
    exact conv_nil W
  · refine conv_bytes W _ _ _ l rfl ?_
    intro j u hj
    have := hown.cells (g := g) rfl j u hj
    simpa [World.cell?, hW] using this

theorem Try.info5 : (Try.prog.info? 5).map (fun i => (i.zero, i.size, i.bytes)) = some (some (.int .u8 0), 1, 1) := by kernel_rfl

theorem wp_append1 {ops : Array Oper} {rest : List Oper} {o : Oper} {a : Act} {Q : Exit → Act → World → Prop} (w : World) (hgd : o.guard = none) (s x : Operand)
    (ho : o.op = .call { callee := .builtin .append, args := #[s, x], argTypes := #[55, 55] }) (base : Nat) (v : Value) (l : List UInt8) (hs : a.eval s = v)
    (hown : w.ownsRow base 5 1 v l.length (bcells l)) (c : UInt8) (ad : Addr) (hx : a.eval x = .slice (some ad) 1 1) (hnew : w.cell? ad = some (.int .u8 c.toNat)) (hsz : l.length + 1 ≤ 8388608) (hbase : base ≤ w.heap.size)
    (h : ∀ v' w', w'.ownsRow base 5 1 v' (l ++ [c]).length (bcells (l ++ [c])) → w.grownBy w' v.ownBlock → (v'.ownBlock = v.ownBlock ∨ v'.ownBlock = some w.heap.size) → wpList Try.prog ops Q rest (a.put o.dst v') w') :
    wpList Try.prog ops Q (o :: rest) a w := by
  obtain ⟨i0, hi, hz0, hz1, hz2⟩ := info_parts Try.info5
  refine wpList_append_own_at w hgd s x 55 ho base 5 i0 (.int .u8 0) 1 1 Try.underlying55 hi hz0 hz1 hz2 rfl (by decide) v l.length (bcells l) hs hown ad 1 1 [.int .u8 c.toNat] hx rfl ?_ ?_ (by unfold maxLen; omega) (by omega) hbase ?_
  · intro j u hj
    cases j with
    | zero => simp at hj; subst hj; simpa [Addr.add] using hnew
    | succ j => simp at hj
  · intro u hu; simp at hu; subst hu; rfl
  · intro v' w' h1 h2 _ h4
    exact h v' w' (by simpa [bcells] using h1) h2 h4

theorem take_snoc (s : ByteArray) (k : Nat) (h : k < s.size) : s.data.toList.take (k + 1) = s.data.toList.take k ++ [s[k]] := by
  rw [List.take_succ_eq_append_getElem (by simpa using h)]; rfl

/-- Text as bytes: each 255 twice. -/
def escL (l : List UInt8) : List UInt8 := l.flatMap fun c => if c = 255 then [255, c] else [c]

def esc (s : ByteArray) : ByteArray := ⟨(escL s.data.toList).toArray⟩

theorem escL_append (a b : List UInt8) : escL (a ++ b) = escL a ++ escL b := by simp [escL]
theorem escL_len (l : List UInt8) : (escL l).length ≤ 2 * l.length := by
  induction l with
  | nil => simp [escL]
  | cons c l ih =>
    have : escL (c :: l) = escL [c] ++ escL l := escL_append [c] l
    rw [this, List.length_append]
    have h1 : (escL [c]).length ≤ 2 := by simp only [escL, List.flatMap_cons, List.flatMap_nil]; split <;> simp
    simp only [List.length_cons]
    omega

theorem esc_size (s : ByteArray) : (esc s).size ≤ 2 * s.size := by
  have h := escL_len s.data.toList
  have e : (esc s).size = (escL s.data.toList).length := by simp [esc, ByteArray.size]
  have e' : s.data.toList.length = s.size := by rw [Array.length_toList]; rfl
  omega

set_option maxRecDepth 100000 in
set_option maxHeartbeats 1000000 in
theorem escape_any (s : ByteArray) (w : World) (hs : s.size ≤ 1048576) :
    Calls Try.prog 9 #[.string s] w fun e w' => e = .returned (.string (esc s)) ∧ Below w.heap.size w w' := by
  go_enter Try.func9, Try.ntmps9
  go_wp2
  go_loopw [3, 4] (fun v i wr => ∃ (k : Nat) (L : List UInt8), k ≤ s.size ∧ i = .int .i64 k ∧ Hid (escL (s.data.toList.take k) = L) ∧ wr.ownsRow w.heap.size 5 1 v L.length (bcells L) ∧ Below w.heap.size w wr) (fun _ i _ => s.size - (intOf i).toNat)
  case atStart => exact ⟨0, [], Nat.zero_le _, rfl, rfl, World.ownsRow_nil _ _ _ _, Below.refl _ _⟩
  case round =>
    obtain ⟨k, L, hk, rfl, HL, hown, hb⟩ := hrel
    have hlen : L.length ≤ 2 * k := by
      have h1 := escL_len (s.data.toList.take k)
      have h2 : (s.data.toList.take k).length ≤ k := List.length_take_le _ _
      rw [HL.out] at h1
      omega
    have hsz := hb.size
    by_cases hlt : k < s.size
    · have k255 := byte_beq s[k] 255 (by omega)
      by_cases hc : s[k] = 255
      · have HN := hide (show escL (s.data.toList.take (k + 1)) = L ++ [255] ++ [s[k]] by rw [take_snoc s k hlt, escL_append, HL.out]; simp [escL, hc])
        have ec : (((s[k].toNat : Nat) : Int) == 255) = true := by simp [hc]
        clear hc k255
        go_wp2_with (at_builtin; refine wp_append1 _ rfl (.tmp 15) (.tmp 16) rfl w.heap.size _ L rfl (hown.alloc _) 255 ⟨wr.heap.size, 0, none⟩ rfl ?c1 ?c2 ?c3 ?_)
        case c1 => simp
        case c2 => omega
        case c3 => simp; omega
        intro v2 w2 ho2 hg2 _
        have hb2 : Below w.heap.size w w2 := (hb.alloc hsz _).grown hg2 (by simp; omega) (fun j e => (hown.lt j e).1)
        have hsz2 := hb2.size
        clear hg2 hown
        go_wp2_with (at_builtin; refine wp_append1 _ rfl (.tmp 18) (.tmp 22) rfl w.heap.size _ (L ++ [255]) rfl ((by rw [List.length_append]; exact ho2 : w2.ownsRow w.heap.size 5 1 v2 (L ++ [255]).length (bcells (L ++ [255]))).alloc _) s[k] ⟨w2.heap.size, 0, none⟩ rfl ?d1 ?d2 ?d3 ?_)
        case d1 => simp
        case d2 => simp; omega
        case d3 => simp; omega
        intro v3 w3 ho3 hg3 _
        have hb3 : Below w.heap.size w w3 := (hb2.alloc hsz2 _).grown hg3 (by simp; omega) (fun j e => (ho2.lt j e).1)
        clear hg3
        go_wp2
        exact ⟨⟨k + 1, _, by omega, by go_num, HN, by simpa using ho3, hb3⟩, by simp [intOf]; omega⟩
      · have HN := hide (show escL (s.data.toList.take (k + 1)) = L ++ [s[k]] by rw [take_snoc s k hlt, escL_append, HL.out]; simp [escL, hc])
        have ec : (((s[k].toNat : Nat) : Int) == 255) = false := by simpa [hc] using k255
        clear hc k255
        go_wp2_with (at_builtin; refine wp_append1 _ rfl (.tmp 18) (.tmp 22) rfl w.heap.size _ L rfl (hown.alloc _) s[k] ⟨wr.heap.size, 0, none⟩ rfl ?c1 ?c2 ?c3 ?_)
        case c1 => simp
        case c2 => omega
        case c3 => simp; omega
        intro v2 w2 ho2 hg2 _
        have hb2 : Below w.heap.size w w2 := (hb.alloc hsz _).grown hg2 (by simp; omega) (fun j e => (hown.lt j e).1)
        clear hg2 hown
        go_wp2
        exact ⟨⟨k + 1, _, by omega, by go_num, HN, by simpa using ho2, hb2⟩, by simp [intOf]; omega⟩
    · have hkk : k = s.size := by omega
      have HT := hide (show escL s.data.toList = L by have := HL.out; rwa [hkk, List.take_of_length_le (by simp)] at this)
      have hX := conv_own wr _ _ L hown wr rfl
      clear hkk
      go_wp2
      go_ret
      exact ⟨by unfold esc; rw [HT.out]; rfl, hb⟩

end Go.Proofs.Ytponfhjplpfjkac
