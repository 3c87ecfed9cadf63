/-
  How lines that come in are read, with the bound on what a list may weigh.
-/
import Derived.Test.YtpbadpebnhlmlabOpen
import Derived.SizedLaws
namespace Go.Proofs.Ytpbadpebnhlmlab
open Go.ChangeShapes Go.WideShapes Go.ChangeAt Go.RowKit Go.Deep
open Go.ChangeMaps (open_string shut_string)
set_option linter.unusedVariables false

theorem Try.bytes9 : Try.prog.bytesOf 9 = 16 := by kernel_rfl

section
variable {H : Type} {enc : TypeId × Value → H} {w : World} {base : Nat} {held : Bool}

theorem open_list2 {fuel : Nat} {cs : List Value} {x : DataW H × List MemPlace} (h : DataW.trod enc Try.prog w base (fun _ => true) held fuel 22 cs = some x) :
    ∃ (u : Value) (q : List ByteArray), cs = [u] ∧ Reads w u q ∧ (∀ s ∈ q, s.size ≤ maxLen) ∧ ((x.1.weights Try.prog 22).all (· ≤ reachBytes) = true → q.length * 16 ≤ reachBytes) := by
  rcases open_strs Try.underlying22 Try.underlying9 Try.cells9 h with ⟨rfl, rfl⟩ | ⟨a, len, cap, m, Sx, rfl, hb, hl, hm, hmm, rfl, hx⟩
  · exact ⟨_, [], rfl, reads_nil w, fun s hs => by simp at hs, fun _ => by simp⟩
  · simp only [if_true] at hmm
    subst hmm
    have hlen : ((List.range len).map Sx).length = len := by simp
    refine ⟨_, (List.range len).map Sx, rfl, ⟨some a, m, by rw [hlen], by rw [hlen]; exact hl, hm, fun e => by simp at e, fun h0 => ?_⟩, ?_, ?_⟩
    · rw [hlen] at h0
      have hc0 := (hx 0 (by omega)).1
      obtain ⟨b, off, spot⟩ := a
      have hspot : spot = none := by simpa [Addr.add] using World.cell?_spot hc0
      subst hspot
      refine ⟨b, off, rfl, fun i hi => ?_⟩
      rw [hlen] at hi
      have := (hx i (by omega)).1
      rw [add_plain] at this
      simpa using this
    · intro s hs
      simp only [List.mem_map, List.mem_range] at hs
      obtain ⟨i, hi, rfl⟩ := hs
      exact (hx i (by omega)).2
    · intro hw
      rw [hlen]
      have := List.all_eq_true.1 hw _ (List.mem_of_getElem? (i := 0) (by simp only [DataW.weights, Try.underlying22]; rfl))
      rw [Try.bytes9] at this
      simp only [List.length_map, List.length_range, decide_eq_true_eq] at this
      omega

theorem open_line2 {r : Reach} {b0 : Nat} {v : Value} {d : DataW H} {p : List MemPlace} (hv : Value.okWide Try.prog w r b0 24 v) (h : DataW.Trod enc Try.prog w base (fun _ => true) held 24 v d p) :
    ∃ (L : Lin) (u : Value), v = .agg (L.cells u) ∧ Reads w u L.q ∧ Small L ∧ ((d.weights Try.prog 24).all (· ≤ reachBytes) = true → L.q.length * 16 ≤ reachBytes) := by
  obtain ⟨cs, rfl, hsz⟩ := okWide_struct Try.underlying24 hv
  obtain ⟨a0, a1, a2, a3, rfl⟩ := array4 (hsz.trans Try.cells24)
  obtain ⟨fuel, hf⟩ := h
  obtain ⟨ys, m, _, hx, _, hl, hf⟩ := DataW.trod_struct Try.underlying24 hf
  match ys, hl with
  | [y0, y1, y2, y3], _ =>
    have g0 := hf 0 _ rfl
    have g1 := hf 1 _ rfl
    have g2 := hf 2 _ rfl
    have g3 := hf 3 _ rfl
    simp [Try.cells22, Try.cells4, Try.cells9, Value.cells] at g0 g1 g2 g3
    obtain ⟨s, e0, rfl, hs⟩ := DataW.trod_string Try.underlying9 g0
    obtain ⟨b1, e1, rfl⟩ := DataW.trod_bool Try.underlying4 g1
    obtain ⟨b2, e2, rfl⟩ := DataW.trod_bool Try.underlying4 g2
    obtain ⟨u, q, e3, hr, hq, hbk⟩ := open_list2 g3
    simp at e0 e1 e2 e3
    subst e0 e1 e2 e3
    simp only [Prod.mk.injEq] at hx
    refine ⟨⟨s, b1, b2, q⟩, a3, rfl, hr, ⟨hs, hq⟩, fun hw => hbk ?_⟩
    rw [hx.1] at hw
    simp only [List.map_cons, List.map_nil, DataW.weights, Try.underlying24] at hw
    exact List.all_eq_true.2 fun n hn => List.all_eq_true.1 hw n (DataW.weights_mem_each (j := 3) rfl rfl n hn)
end
end Go.Proofs.Ytpbadpebnhlmlab
