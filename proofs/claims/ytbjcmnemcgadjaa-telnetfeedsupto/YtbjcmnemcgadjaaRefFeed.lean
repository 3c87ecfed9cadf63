/-
  The contract of FeedBytes of the document's own answer at a codec that is not good, and what its loop will want.
-/
import Derived.Test.YtbjcmnemcgadjaaAsked
import Derived.Test.YtbjcmnemcgadjaaRefGood
import Derived.Test.YtbjcmnemcgadjaaEndsP
namespace Go.Proofs.Ytbjcmnemcgadjaa
open Go.RowKit
set_option linter.unusedVariables false

theorem FInv.later {w0 wr w3 : World} {t : Tel} {vt va : Value} {x y : List UInt8} (h : FInv w0 t vt va x y wr) (hb : Below wr.heap.size wr w3) : FInv w0 t vt va x y w3 := by
  have hr := h.room
  have hg : wr.grownBy w3 none := ⟨hb.os, hb.tape, hb.output, hb.size, fun k hk _ => hb.block k hk⟩
  exact ⟨h.below.trans (hb.mono (by omega)), cod_mk (cod_below h.cod hb h.cod.lt) rfl, cod_mk (cod_below h.res hb h.res.lt) rfl, h.own1.kept hg (by cases vt.ownBlock <;> simp), h.own2.kept hg (by cases va.ownBlock <;> simp), h.sep⟩

theorem kp_pos (t : Tel) (c : UInt8) (p : Int) : ({ kp t c with pos := p } : Tel) = kp { t with pos := p } c := by
  unfold kp; split <;> rfl

theorem kp_sub (t : Tel) (c : UInt8) (h : t.sub.size ≤ 16) : (kp t c).sub.size ≤ 16 := by
  unfold kp
  split
  · show (t.sub ++ _).size ≤ 16; rw [ByteArray.size_append]; have h1 : (ByteArray.mk #[c]).size = 1 := rfl; omega
  · exact h

set_option maxRecDepth 100000 in
set_option maxHeartbeats 1000000 in
theorem reffeed_bad (t : Tel) (s : ByteArray) (w : World) (hsub : t.sub.size ≤ maxLen) (hg : good t = false) :
    Calls Try.prog 10 #[t.val, .string s] w fun e w' => e = .returned (.tuple #[t.val, .string ⟨#[]⟩, .string ⟨#[]⟩, .int .i64 2]) ∧ Below w.heap.size w w' := by
  unfold Tel.val Tel.cells
  go_enter Try.func10, Try.ntmps10
  go_wp2_with fail
  refine (refgood_any t _ hsub).mono ?_
  rintro e w1 ⟨rfl, hb1⟩
  obtain ⟨k1, r1, l1⟩ := start_world hb1 (by simp)
  clear hb1
  have z1 := r1.lt
  obtain ⟨c0, c1, c2, c3, c4, c5, c6, c7, c8, c9, cfz⟩ := k1.all
  obtain ⟨d0, d1, d2, d3, d4, d5, d6, d7, d8, d9, dfz⟩ := r1.all
  go_wp2
  exact bodyPost_ret (res4 Try.results10 rfl rfl rfl rfl (cod_ten r1)) rfl ⟨rfl, below_ten l1 (by omega)⟩

end Go.Proofs.Ytbjcmnemcgadjaa
