/-
  The contract of finish of package telnet.
-/
import Derived.Test.YtbjcmnemcgadjaaStep
namespace Go.Proofs.Ytbjcmnemcgadjaa
open Go.RowKit

theorem hide {p : Prop} (h : p) : Hid p := h

set_option maxHeartbeats 400000 in
theorem finish_yes (t : Tel) (b : Nat) (w : World) (hcd : Cod w b t) (x1 x2 x3 x4 : UInt8) (hx : t.sub = ⟨#[31, x1, x2, x3, x4]⟩) (h2 : t.t2 = 1) :
    Calls Try.prog 24 #[.pointer (some ⟨b, 0, none⟩), .int .u8 240] w fun e w' => e = .returned (.tuple #[]) ∧ Cod w' b { t with pos := 0, sub := ⟨#[]⟩, height := min (256 * (x3.toNat : Int) + (x4.toNat : Int)) 200 } ∧ w.grownBy w' (some b) := by
  obtain ⟨c0, c1, c2, c3, c4, c5, c6, c7, c8, c9, hfz⟩ := hcd.all
  rw [hx] at c2
  rw [h2] at c8
  have hbl := hcd.lt
  have i0 : ∀ h, (ByteArray.mk #[31, x1, x2, x3, x4])[0]'h = 31 := fun _ => rfl
  have i3 : ∀ h, (ByteArray.mk #[31, x1, x2, x3, x4])[3]'h = x3 := fun _ => rfl
  have i4 : ∀ h, (ByteArray.mk #[31, x1, x2, x3, x4])[4]'h = x4 := fun _ => rfl
  have hor := or_bytes x3 x4
  clear hx h2
  go_enter Try.func24, Try.ntmps24
  go_wp2_with (go_at_call 32; refine (theirs_31 _ _).mono ?_; rintro e w' ⟨rfl, n, rfl⟩)
  go_region
  all_goals go_wp2
  all_goals go_end0
  · have hm : min (256 * (x3.toNat : Int) + (x4.toNat : Int)) 200 = 200 := by omega
    rw [hm]
    exact ⟨rfl, cod_mk (cod_set (cod_set (cod_set (cod_drewN hcd _) _ _) _ _) _ _) rfl, grown_set (grown_set (grown_set (grown_drewN (grown_refl _ _) _) _ _) _ _) _ _⟩
  · have hm : min (256 * (x3.toNat : Int) + (x4.toNat : Int)) 200 = 256 * (x3.toNat : Int) + (x4.toNat : Int) := by omega
    rw [hm]
    exact ⟨rfl, cod_mk (cod_set (cod_set (cod_set (cod_drewN hcd _) _ _) _ _) _ _) rfl, grown_set (grown_set (grown_set (grown_drewN (grown_refl _ _) _) _ _) _ _) _ _⟩

set_option maxHeartbeats 400000 in
theorem finish_no (t : Tel) (b : Nat) (c : UInt8) (w : World) (h : Cod w b t) (hno : ¬ (c = 240 ∧ t.sub.size = 5 ∧ t.sub.data.toList.getD 0 0 = 31 ∧ t.t2 = 1)) (_hs : t.sub.size ≤ 16) :
    Calls Try.prog 24 #[.pointer (some ⟨b, 0, none⟩), .int .u8 c.toNat] w fun e w' => e = .returned (.tuple #[]) ∧ Cod w' b { t with pos := 0, sub := ⟨#[]⟩ } ∧ w.grownBy w' (some b) := by
  obtain ⟨c0, c1, c2, c3, c4, c5, c6, c7, c8, c9, hfz⟩ := h.all
  have hbl := h.lt
  by_cases h5 : t.sub.size = 5
  · obtain ⟨x0, x1, x2, x3, x4, hx⟩ := five _ h5
    rw [hx] at c2
    have i0 : ∀ h, (ByteArray.mk #[x0, x1, x2, x3, x4])[0]'h = x0 := fun _ => rfl
    have k0 := byte_beq x0 31 (by omega)
    have kc := byte_beq c 240 (by omega)
    by_cases h0 : x0 = 31
    · subst h0
      by_cases hc : c = 240
      · subst hc
        have h2 : ¬ t.t2 = 1 := fun e => hno ⟨rfl, h5, by rw [hx]; rfl, e⟩
        have e2 : (t.t2 == 1) = false := by simpa using h2
        clear hno _hs h5 hx k0 kc h2
        go_enter Try.func24, Try.ntmps24
        go_wp2_with (go_at_call 32; refine (theirs_31 _ _).mono ?_; rintro e w' ⟨rfl, n, rfl⟩)
        go_end0
        exact ⟨rfl, cod_mk (cod_set (cod_set (cod_drewN h _) _ _) _ _) rfl, grown_set (grown_set (grown_drewN (grown_refl _ _) _) _ _) _ _⟩
      · have ec : (((c.toNat : Nat) : Int) == 240) = false := by simpa [hc] using kc
        clear hno _hs h5 hx k0 kc
        go_enter Try.func24, Try.ntmps24
        go_wp2
        go_end0
        exact ⟨rfl, cod_mk (cod_set (cod_set h _ _) _ _) rfl, grown_set (grown_set (grown_refl _ _) _ _) _ _⟩
    · have ec : (((x0.toNat : Nat) : Int) == 31) = false := by simpa [h0] using k0
      clear hno _hs h5 hx k0 kc
      go_enter Try.func24, Try.ntmps24
      go_wp2
      all_goals go_end0
      all_goals exact ⟨rfl, cod_mk (cod_set (cod_set h _ _) _ _) rfl, grown_set (grown_set (grown_refl _ _) _ _) _ _⟩
  · have e5 : ((t.sub.size : Int) == 5) = false := by simp; omega
    clear hno
    go_enter Try.func24, Try.ntmps24
    go_wp2
    all_goals go_end0
    all_goals exact ⟨rfl, cod_mk (cod_set (cod_set h _ _) _ _) rfl, grown_set (grown_set (grown_refl _ _) _ _) _ _⟩

theorem finish_any (t : Tel) (b : Nat) (c : UInt8) (w : World) (h : Cod w b t) (hs : t.sub.size ≤ 16) :
    Calls Try.prog 24 #[.pointer (some ⟨b, 0, none⟩), .int .u8 c.toNat] w fun e w' => e = .returned (.tuple #[]) ∧ Cod w' b (fin t c) ∧ w.grownBy w' (some b) := by
  by_cases hall : c = 240 ∧ t.sub.size = 5 ∧ t.sub.data.toList.getD 0 0 = 31 ∧ t.t2 = 1
  · have e : fin t c = { t with pos := 0, sub := ⟨#[]⟩, height := min (256 * ((t.sub.data.toList.getD 3 0).toNat : Int) + ((t.sub.data.toList.getD 4 0).toNat : Int)) 200 } := by
      unfold fin; rw [if_pos hall]
    rw [e]
    obtain ⟨hc, h5, h0, h2⟩ := hall
    obtain ⟨x0, x1, x2, x3, x4, hx⟩ := five _ h5
    rw [hx] at h0
    have h0' : x0 = 31 := h0
    subst hc h0'
    have := finish_yes t b w h x1 x2 x3 x4 hx h2
    rw [hx]
    exact this
  · have e : fin t c = { t with pos := 0, sub := ⟨#[]⟩ } := by
      unfold fin; rw [if_neg hall]
    rw [e]
    exact finish_no t b c w h hall hs

end Go.Proofs.Ytbjcmnemcgadjaa
