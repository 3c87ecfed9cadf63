/-
  How pages and lists of texts that come in are read, and how a law's row is closed where nothing old has turned.
-/
import Derived.Test.YtponfhjplpfjkacPgShows
import Derived.JoinedCond
import Derived.Deep.Strs
import Derived.SizedLaws
namespace Go.Proofs.Ytponfhjplpfjkac
open Go.ChangeShapes Go.WideShapes Go.ChangeAt Go.RowKit Go.Deep
open Go.ChangeMaps (open_string shut_string)
set_option linter.unusedVariables false

theorem Try.own : ownKnob Try.prog.godebug = none := by kernel_rfl
theorem Try.laidOut : laidOutB Try.prog = true := by kernel_rfl
theorem Try.cells25 : Try.prog.cellsOf 25 = 5 := by kernel_rfl
theorem Try.cells22 : Try.prog.cellsOf 22 = 1 := by kernel_rfl
theorem Try.cells9 : Try.prog.cellsOf 9 = 1 := by kernel_rfl
theorem Try.cells4 : Try.prog.cellsOf 4 = 1 := by kernel_rfl
theorem Try.cells3 : Try.prog.cellsOf 3 = 1 := by kernel_rfl
theorem Try.rec25 : Try.prog.readableRec 25 = true := by kernel_rfl
theorem Try.rec22 : Try.prog.readableRec 22 = true := by kernel_rfl
theorem Try.rec9 : Try.prog.readableRec 9 = true := by kernel_rfl
theorem Try.rec3 : Try.prog.readableRec 3 = true := by kernel_rfl
theorem Try.bytes9 : Try.prog.bytesOf 9 = 16 := by kernel_rfl

theorem int_bounds {n : Int} (wn : (Lit.int .i64 n).wf = true) : -9223372036854775808 ≤ n ∧ n ≤ 9223372036854775807 := by
  simp [Lit.wf] at wn; have e1 : IntKind.i64.min = -9223372036854775808 := by decide
  rw [e1] at wn; exact wn

section
variable {H : Type} {enc : TypeId × Value → H} {w : World} {base : Nat} {held : Bool}

theorem bulk_pos (d : DataW H) : 1 ≤ Rows.uptoBulk d := by
  cases d with
  | lit l => cases l <;> simp [Rows.uptoBulk]
  | _ => simp [Rows.uptoBulk]

theorem bulk_all (ds : List (DataW H)) : ds.length ≤ Rows.uptoBulkAll ds := by
  induction ds with
  | nil => simp
  | cons d ds ih => have := bulk_pos d; simp only [List.length_cons, Rows.uptoBulkAll]; omega

theorem bulk_mem {ds : List (DataW H)} {d : DataW H} (h : d ∈ ds) : Rows.uptoBulk d ≤ Rows.uptoBulkAll ds := by
  induction ds with
  | nil => simp at h
  | cons e ds ih =>
    simp only [Rows.uptoBulkAll]
    rcases List.mem_cons.1 h with rfl | h
    · omega
    · have := ih h; omega

/-- A list of texts, opened. -/
theorem open_list {fuel : Nat} {cs : List Value} {x : DataW H × List MemPlace} (h : DataW.trod enc Try.prog w base (fun _ => true) held fuel 22 cs = some x) :
    ∃ (u : Value) (q : List ByteArray), cs = [u] ∧ Reads w u q ∧ (∀ s ∈ q, s.size ≤ Rows.uptoBulk x.1 ∧ s.size ≤ maxLen) ∧ ((x.1.weights Try.prog 22).all (· ≤ reachBytes) = true → q.length * 16 ≤ reachBytes) ∧ q.length ≤ Rows.uptoBulk x.1 := by
  rcases open_strs Try.underlying22 Try.underlying9 Try.cells9 h with ⟨rfl, rfl⟩ | ⟨a, len, cap, m, Sx, rfl, hb, hl, hm, hmm, rfl, hx⟩
  · exact ⟨_, [], rfl, reads_nil w, fun s hs => by simp at hs, fun _ => by simp, by simp⟩
  · simp only [if_true] at hmm
    subst hmm
    have hlen : ((List.range len).map Sx).length = len := by simp
    refine ⟨_, (List.range len).map Sx, rfl, ⟨some a, m, by rw [hlen], by rw [hlen]; exact hl, hm, fun e => by simp at e, fun h0 => ?_⟩, ?_, ?_, ?_⟩
    · rw [hlen] at h0
      have hc0 := (hx 0 (by omega)).1
      obtain ⟨b, off, spot⟩ := a
      have hspot : spot = none := by simpa [Addr.add] using World.cell?_spot hc0
      subst hspot
      refine ⟨b, off, rfl, fun i hi => ?_⟩
      rw [hlen] at hi
      have := (hx i (by omega)).1
      rw [add_plain] at this
      simpa using this
    · intro s hs
      simp only [List.mem_map, List.mem_range] at hs
      obtain ⟨i, hi, rfl⟩ := hs
      have := bulk_mem (ds := (List.range len).map fun i => (DataW.lit (.string (Sx i).data.toList) : DataW H)) (List.mem_map.2 ⟨i, List.mem_range.2 hi, rfl⟩)
      have e : (Sx i).data.toList.length = (Sx i).size := by rw [Array.length_toList]; rfl
      have hmx := (hx i (by omega)).2
      simp only [Rows.uptoBulk] at this ⊢
      exact ⟨by omega, hmx⟩
    · intro hw
      rw [hlen]
      have := List.all_eq_true.1 hw _ (List.mem_of_getElem? (i := 0) (by simp only [DataW.weights, Try.underlying22]; rfl))
      rw [Try.bytes9] at this
      simp only [List.length_map, List.length_range, decide_eq_true_eq] at this
      omega
    · rw [hlen]
      simp only [Rows.uptoBulk]
      have := bulk_all ((List.range len).map fun i => (DataW.lit (.string (Sx i).data.toList) : DataW H))
      simp only [List.length_map, List.length_range] at this
      omega

theorem array5 {cs : Array Value} (h : cs.size = 5) : ∃ a0 a1 a2 a3 a4, cs = #[a0, a1, a2, a3, a4] := by
  obtain ⟨l⟩ := cs
  have h' : l.length = 5 := h
  match l, h' with
  | [a0, a1, a2, a3, a4], _ => exact ⟨a0, a1, a2, a3, a4, rfl⟩

/-- A page by value, opened. -/
theorem open_page {r : Reach} {b0 : Nat} {v : Value} {d : DataW H} {p : List MemPlace} (hv : Value.okWide Try.prog w r b0 25 v) (h : DataW.Trod enc Try.prog w base (fun _ => true) held 25 v d p) :
    ∃ (P : Pg) (u : Value), v = .agg (P.cells u) ∧ Reads w u P.wait ∧ (∀ s ∈ P.wait, s.size ≤ Rows.uptoBulk d) ∧ ((d.weights Try.prog 25).all (· ≤ reachBytes) = true → Small P) ∧ (Rows.uptoBulk d ≤ 1048576 → Small P) := by
  obtain ⟨cs, rfl, hsz⟩ := okWide_struct Try.underlying25 hv
  obtain ⟨a0, a1, a2, a3, a4, rfl⟩ := array5 (hsz.trans Try.cells25)
  obtain ⟨fuel, hf⟩ := h
  obtain ⟨ys, m, _, hx, _, hl, hf⟩ := DataW.trod_struct Try.underlying25 hf
  match ys, hl with
  | [y0, y1, y2, y3, y4], _ =>
    have g0 := hf 0 _ rfl
    have g1 := hf 1 _ rfl
    have g2 := hf 2 _ rfl
    have g3 := hf 3 _ rfl
    have g4 := hf 4 _ rfl
    simp [Try.cells22, Try.cells4, Try.cells9, Try.cells3, Value.cells] at g0 g1 g2 g3 g4
    obtain ⟨u, q, e0, hr, hq, hbk, hbl⟩ := open_list g0
    obtain ⟨n, e1, rfl, wn⟩ := DataW.trod_int Try.underlying3 g1
    obtain ⟨b2, e2, rfl⟩ := DataW.trod_bool Try.underlying4 g2
    obtain ⟨s, e3, rfl, hs⟩ := DataW.trod_string Try.underlying9 g3
    obtain ⟨b4, e4, rfl⟩ := DataW.trod_bool Try.underlying4 g4
    simp at e0 e1 e2 e3 e4
    subst e0 e1 e2 e3 e4
    simp only [Prod.mk.injEq] at hx
    obtain ⟨hn1, hn2⟩ := int_bounds wn
    have hlt := reachBytes_lt
    have es : s.data.toList.length = s.size := by rw [Array.length_toList]; rfl
    refine ⟨⟨q, n, b2, s, b4⟩, a0, rfl, hr, fun x hxq => ?_, fun hw => ?_, fun hw => ?_⟩
    · have := (hq x hxq).1
      rw [hx.1]
      simp only [List.map_cons, List.map_nil, Rows.uptoBulk, Rows.uptoBulkAll]
      omega
    · rw [hx.1] at hw
      simp only [List.map_cons, List.map_nil, DataW.weights, Try.underlying25] at hw
      have h1 := hbk (List.all_eq_true.2 fun n hn => List.all_eq_true.1 hw n (DataW.weights_mem_each (j := 0) rfl rfl n hn))
      have h2 := List.all_eq_true.1 hw _ (DataW.weights_mem_each (j := 3) rfl rfl s.data.toList.length (by simp [DataW.weights]))
      simp only [decide_eq_true_eq] at h2
      exact ⟨by show s.size ≤ _; omega, hn1, hn2, by show q.length * 16 ≤ _; omega⟩
    · rw [hx.1] at hw
      simp only [List.map_cons, List.map_nil, Rows.uptoBulk, Rows.uptoBulkAll] at hw
      exact ⟨by show s.size ≤ _; omega, hn1, hn2, by show q.length * 16 ≤ _; omega⟩
end

/-- The row's end: the law has answered true, what came in reads as it did, nothing old has turned. -/
theorem post_true {H : Type} {enc : TypeId × Value → H} {f : Func} {s : ChangeSpec} {W W' : World} {args : Array Value} {ds gs : List (DataW H)} {before pa : List MemPlace}
    (hW : DataW.Whole enc Try.prog f.params.toList s.vars false W args.toList ds gs before) (hr : f.resultTypes = #[4])
    (hres : (s.fn H (ds ++ gs)).results = [.lit (.bool true)])
    (hargs : DataW.TrodAll enc Try.prog W' 0 (fun b => decide (b < W.heap.size)) true f.params.toList args.toList (s.fn H (ds ++ gs)).args pa)
    (hvars : DataW.TrodVars enc Try.prog W' (fun b => decide (b < W.heap.size)) s.vars (s.fn H (ds ++ gs)).vars [])
    (hb : Below W.heap.size W W') : s.post enc Try.prog f false true false false W args (.bool true) W' := by
  refine ⟨ds, gs, before, [], pa, [], hW, ?_, hargs, hvars, hb.frame _, fun h => by cases h⟩
  rw [hres, hr]
  exact trodAll_cons_mk (shut_bool Try.underlying4 _) trodAll_mk0

theorem trod_lt' {H : Type} {enc : TypeId × Value → H} {w : World} {base : Nat} {spare : Nat → Bool} {held : Bool} {t : TypeId} {v : Value} {d : DataW H} {p : List MemPlace}
    (h : DataW.Trod enc Try.prog w base spare held t v d p) : ∀ x ∈ p, x.block < w.heap.size := by
  obtain ⟨n, h⟩ := h; exact DataW.trod_lt n _ _ _ h

end Go.Proofs.Ytponfhjplpfjkac
