/-
  An event of a being, and with another one; what is told: contracts.
-/
import Derived.Test.YtaifjndkgfffpaaDoorRuHap
namespace Go.Proofs.YtaifjndkgfffpaaDoor
open Go.RowKit
set_option linter.unusedVariables false

set_option maxRecDepth 100000 in
set_option maxHeartbeats 1000000 in
theorem revent_any {w0 : World} {L : Ld} {Es : List Ev} {w : World} (hS : Sn 62 [] w0 L Es w) (kind : Int) (b : Nat) (hb : b < 6) :
    Calls Tryd.prog 42 #[.pointer (some ⟨w0.heap.size, 0, none⟩), .int .i64 kind, .int .i64 (b : Int)] w fun e w' => e = .returned (.agg (evN L kind b).cells) ∧ Below w.heap.size w w' := by
  have c0 := hS.being b 0 hb (by omega)
  have c3 := hS.being b 3 hb (by omega)
  have hl := hS.lt
  simp only [Nat.add_zero, Ld.beingCell] at c0 c3
  clear hS
  go_enter Tryd.func42, Tryd.ntmps42
  go_wp2_with fail
  go_region
  go_wp2
  refine bodyPost_ret (v := .agg (evN L kind b).cells) (results_cell_row rfl _ _ w.heap.size 52 (evN L kind b).cells (0, 0) _ rfl (heap_alloc_new w _) Tryd.underlying52 rfl (by rw [Ev.size]; exact Tryd.sizeEvent)) rfl ⟨rfl, ((Below.refl _ _).alloc (Nat.le_refl _) _).drew⟩
theorem revent_lit {w0 : World} {L : Ld} {Es : List Ev} {w : World} (hS : Sn 62 [] w0 L Es w) (kind : Int) (b : Nat) (hb : b < 6) :
    Calls Tryd.prog 42 #[.pointer (some ⟨w0.heap.size, 0, none⟩), .int .i64 kind, .int .i64 (b : Int)] w fun e w' => e = .returned (.agg #[.int .i64 kind, .int .i64 (L.room b), .int .i64 (b : Int), .int .i64 (-1), .int .i64 0, .int .i64 0, .string (L.bname b), .string ⟨#[]⟩, .string ⟨#[]⟩, .string ⟨#[]⟩, .int .i64 0, .int .i64 0, .int .i64 0, .int .i64 0, .int .i64 0, .int .i64 0]) ∧ Below w.heap.size w w' := revent_any hS kind b hb

set_option maxRecDepth 100000 in
set_option maxHeartbeats 1000000 in
theorem rtell_any {w0 : World} {L : Ld} {Es : List Ev} {w : World} (hS : Sn 62 [] w0 L Es w) (b : Nat) (hb : b < 6) (text : ByteArray) (hlen : Es.length ≤ 1000000) :
    Calls Tryd.prog 66 #[.pointer (some ⟨w0.heap.size, 0, none⟩), .int .i64 (b : Int), .string text] w fun e w' => e = .returned (.tuple #[]) ∧ Sn 62 [] w0 L (Es ++ [tellE L b text]) w' ∧ Stp w0.heap.size 165 w w' := by
  go_enter Tryd.func66, Tryd.ntmps66
  go_wp2_with fail
  refine (revent_lit hS 16 b hb).mono ?_
  rintro e w1 ⟨rfl, hb1⟩
  have S1 := hide (hS.below hb1)
  have T1 := hide (hS.stp hb1 165)
  clear hS hb1
  go_wp2_with (first | (refine wl_new 52 (.tmp 6) (.tmp 9) rfl rfl _ _ rfl rfl rfl Tryd.sizeEvent rfl (by simp [Value.oneCell']) ?_) | (refine wl_event (.tmp 6) rfl rfl _ { evN L 16 b with text := text } rfl (heap_alloc_new w1 _) ?_))
  refine (happens_any (S1.out.alloc _) { evN L 16 b with text := text } hlen).mono ?_
  rintro e w2 ⟨rfl, S2, T2⟩
  have A := hide S2
  have B := hide (T1.out.trans ((S1.out.stp (below_box w1 _) 165).trans T2))
  clear S2 T2 S1 T1
  go_wp2
  go_end0
  exact ⟨rfl, A.out, B.out⟩

set_option maxRecDepth 100000 in
set_option maxHeartbeats 2000000 in
theorem rwith_any {w0 : World} {L : Ld} {Es : List Ev} {w : World} (hS : Sn 62 [] w0 L Es w) (kind : Int) (b c : Nat) (hb : b < 6) (hc : c < 6) :
    Calls Tryd.prog 55 #[.pointer (some ⟨w0.heap.size, 0, none⟩), .int .i64 kind, .int .i64 (b : Int), .int .i64 (c : Int)] w fun e w' => e = .returned (.agg (evW L kind b c).cells) ∧ Below w.heap.size w w' := by
  go_enter Tryd.func55, Tryd.ntmps55
  go_wp2_with fail
  refine (revent_lit (hS.alloc _) kind b hb).mono ?_
  rintro e w1 ⟨rfl, hb1⟩
  have S1 := (hS.alloc (.cells zeroEv.cells 52)).below hb1
  have hg1 : w1.heap[w.heap.size]? = some (.cells zeroEv.cells 52 (0, 0)) := by
    rw [hb1.block _ (by simp)]; exact heap_alloc_new w _
  have L1 := hide ((below_box w (.cells zeroEv.cells 52)).trans (hb1.mono (by simp)))
  have c0 := S1.being c 0 hc (by omega)
  have hl := S1.lt
  have hl2 : w.heap.size < w1.heap.size := (Array.getElem?_eq_some_iff.1 hg1).1
  have HG := hide hg1
  have hci : (c : Int) < 6 := by omega
  simp only [Nat.add_zero, Ld.beingCell] at c0
  clear hS hb1 S1 hg1
  go_wp2_with (refine wl_new 52 (.tmp 9) (.tmp 13) rfl rfl _ _ rfl rfl rfl Tryd.sizeEvent rfl (by simp [Value.oneCell']) ?_)
  simp only [Act.put]
  go_region
  have HG2 : Hid ((w1.alloc (.cells (evW L kind b c).cells 52)).drew.heap[w.heap.size]? = some (.cells zeroEv.cells 52 (0, 0))) := by
    show (w1.alloc _).heap[w.heap.size]? = _
    rw [Below.heap_alloc _ _ _ hl2]; exact HG.out
  have HE : Hid (Cev (w1.alloc (.cells (evW L kind b c).cells 52)).drew w1.heap.size (evW L kind b c)) := heap_alloc_new w1 _
  have LL : Hid (Below w.heap.size w (w1.alloc (.cells (evW L kind b c).cells 52)).drew) := (L1.out.alloc L1.out.size _).drew
  go_wp2_with (first | (refine wl_event (.tmp 9) rfl rfl _ (evW L kind b c) rfl HE.out ?_) | (refine wl_row 52 (.tmp 8) (.tmp 25) rfl rfl w.heap.size (evW L kind b c).cells rfl rfl 52 zeroEv.cells HG2.out ?s1 ?s2 (Ev.one _) ?_))
  case s1 => rw [Ev.size]; exact Tryd.sizeEvent
  case s2 => rfl
  refine bodyPost_ret (v := .agg (evW L kind b c).cells) (results_cell_row rfl _ _ w.heap.size 52 (evW L kind b c).cells (0, 0) _ rfl (setRow_heap _ w.heap.size _ _ _ _ HG2.out) Tryd.underlying52 rfl (by rw [Ev.size]; exact Tryd.sizeEvent)) rfl ⟨rfl, below_setRow LL.out (Nat.le_refl _) _⟩
end Go.Proofs.YtaifjndkgfffpaaDoor
/-
  What is at hand, and in sight; lists and ways as they are told: contracts.
-/
namespace Go.Proofs.YtaifjndkgfffpaaDoor
open Go.RowKit
set_option linter.unusedVariables false

/-- v is a list of numbers that was made behind base. -/
def OwnI (base : Nat) (w : World) (v : Value) (q : List Int) : Prop := w.ownsRow base 3 1 v q.length (icells q)
theorem OwnI.base {B B' : Nat} {w : World} {v : Value} {q : List Int} (h : OwnI B w v q) (hB : B' ≤ B) : OwnI B' w v q := by
  refine ⟨h.1, ?_⟩
  rcases h.2 with hn | ⟨g, cap, cur, rfl, h1, h2⟩
  · exact .inl hn
  · exact .inr ⟨g, cap, cur, rfl, Nat.le_trans hB h1, h2⟩
theorem OwnI.nums {B : Nat} {w : World} {v : Value} {q : List Int} (h : OwnI B w v q) : Nums w v q := nums_own h
theorem OwnI.shape {B : Nat} {w : World} {v : Value} {q : List Int} (h : OwnI B w v q) : ∃ (av : Option Addr) (cap : Nat), v = .slice av q.length cap := own_shapeN h
theorem ownI_nil (B : Nat) (w : World) : OwnI B w (.slice none 0 0) [] := World.ownsRow_nil _ _ _ _
theorem OwnI.below {B : Nat} {w w' : World} {v : Value} {q : List Int} (h : OwnI B w v q) (hb : Below w.heap.size w w') : OwnI B w' v q := by
  refine ⟨h.1, ?_⟩
  rcases h.2 with hn | ⟨g, cap, cur, rfl, h1, h2, h3⟩
  · exact .inl hn
  · exact .inr ⟨g, cap, cur, rfl, h1, by rw [hb.block _ (Array.getElem?_eq_some_iff.1 h2).1]; exact h2, h3⟩
/-- A list of numbers that no step turns. -/
structure NumK (g o : Nat) (w : World) (v : Value) (q : List Int) : Prop where
  nums : Nums w v q
  kept : ∀ b off n c, 0 < q.length → v = .slice (some ⟨b, off, none⟩) n c → Kept g o w b
theorem NumK.step {g o : Nat} {w w' : World} {v : Value} {q : List Int} (h : NumK g o w v q) (hs : Stp g o w w') : NumK g o w' v q := by
  refine ⟨?_, fun b off n c h0 e => (hs.kept (h.kept b off n c h0 e)).1⟩
  obtain ⟨av, cap, rfl, hl, hm, hc⟩ := h.nums
  refine ⟨av, cap, rfl, hl, hm, fun h0 => ?_⟩
  obtain ⟨b, off, rfl, hcell⟩ := hc h0
  refine ⟨b, off, rfl, fun i hi => ?_⟩
  have := (hs.kept (h.kept b off _ _ h0 rfl)).2
  rw [← hcell i hi]
  simp only [World.cell?, this]
theorem numk_own {T : TypeId} {pre : List Value} {w0 w w' : World} {L : Ld} {Es : List Ev} {v : Value} {q : List Int} (hS : Sn T pre w0 L Es w) (hb : Below w.heap.size w w') (ho : OwnI w.heap.size w' v q) : NumK w0.heap.size (165 + pre.length) w' v q := by
  refine ⟨ho.nums, fun b off n c h0 e => ?_⟩
  subst e
  have := ho.lt b rfl
  exact hS.kept hb this.1 this.2
theorem NumK.cell {g o : Nat} {w : World} {v : Value} {q : List Int} (h : NumK g o w v q) {k : Nat} (hk : k < q.length) : ∃ b off cap, v = .slice (some ⟨b, off, none⟩) q.length cap ∧ w.cell? ⟨b, off + k, none⟩ = some (.int .i64 (q.getD k 0)) := by
  obtain ⟨b, off, cap, e, _, _, hc⟩ := h.nums.some (by omega)
  exact ⟨b, off, cap, e, hc k hk⟩
theorem NumK.shape {g o : Nat} {w : World} {v : Value} {q : List Int} (h : NumK g o w v q) : ∃ (av : Option Addr) (cap : Nat), v = .slice av q.length cap := by
  obtain ⟨av, cap, e, _⟩ := h.nums; exact ⟨av, cap, e⟩

set_option maxHeartbeats 1000000 in
theorem rhand_any {w0 : World} {L : Ld} {Es : List Ev} {w : World} (hS : Sn 62 [] w0 L Es w) (b : Nat) :
    Calls Tryd.prog 68 #[.pointer (some ⟨w0.heap.size, 0, none⟩), .int .i64 (b : Int)] w fun e w' => ∃ v, e = .returned v ∧ OwnI w.heap.size w' v (handL L b) ∧ Below w.heap.size w w' := by
  have HS := hide hS
  clear hS
  go_enter Tryd.func68, Tryd.ntmps68
  go_wp2_with (refine wl_scene (.tmp 7) rfl rfl rfl HS.out ?_)
  refine (has_own L 1 (b : Int) _).mono ?_
  rintro e w1 ⟨v, rfl, ho, hb⟩
  have A := hide (OwnI.base (show OwnI _ _ _ _ from ho) (Nat.le_succ _))
  have B := hide hb
  obtain ⟨av, cap, rfl⟩ := own_shapeN ho
  clear ho hb
  go_wp2
  go_ret
  exact ⟨_, rfl, A.out, B.out⟩

set_option maxHeartbeats 1000000 in
theorem sight_any {w0 : World} {L : Ld} {Es : List Ev} {w : World} (hS : Sn 62 [] w0 L Es w) (b : Nat) (hb : b < 6) :
    Calls Tryd.prog 78 #[.pointer (some ⟨w0.heap.size, 0, none⟩), .int .i64 (b : Int)] w fun e w' => ∃ v, e = .returned v ∧ OwnI w.heap.size w' v (sightL L b) ∧ Below w.heap.size w w' := by
  have HS := hide hS
  have c3 := hS.being b 3 hb (by omega)
  simp only [Ld.beingCell] at c3
  clear hS
  go_enter Tryd.func78, Tryd.ntmps78
  go_wp2_with (refine wl_scene (.tmp 16) rfl rfl rfl HS.out ?_)
  refine (bright_any L (L.room b) _).mono ?_
  rintro e w1 ⟨rfl, hb1⟩
  have S1 := hide (HS.out.below hb1)
  have B1 := hide hb1
  clear hb1 c3
  cases hx : brightL L (L.room b) with
  | false =>
    have HV := hide (show sightL L b = [] by unfold sightL; rw [if_neg (by simp [hx])])
    clear hx
    go_wp2
    go_ret
    exact ⟨_, rfl, by rw [HV.out]; exact ownI_nil _ _, B1.out⟩
  | true =>
    have HV := hide (show sightL L b = hasK L 0 (L.room b) 9 by unfold sightL; rw [if_pos hx])
    clear hx
    go_wp2_with (refine wl_scene (.tmp 23) rfl rfl rfl S1.out ?_)
    refine (has_own L 0 (L.room b) _).mono ?_
    rintro e w2 ⟨v, rfl, ho, hb2⟩
    have A := hide (OwnI.base (show OwnI _ _ _ _ from ho) (show w.heap.size ≤ w1.heap.size + 1 by have := B1.out.size; omega))
    have B2 := hide (B1.out.trans (hb2.mono B1.out.size))
    obtain ⟨av, cap, rfl⟩ := own_shapeN ho
    clear ho hb2
    go_wp2
    go_ret
    exact ⟨_, rfl, by rw [HV.out]; exact A.out, B2.out⟩

set_option maxHeartbeats 1000000 in
theorem seesOther_any {w0 : World} {L : Ld} {Es : List Ev} {w : World} (hS : Sn 62 [] w0 L Es w) (b c : Nat) :
    Calls Tryd.prog 79 #[.pointer (some ⟨w0.heap.size, 0, none⟩), .int .i64 (b : Int), .int .i64 (c : Int)] w fun e w' => e = .returned (.bool (seesO L b c)) ∧ Below w.heap.size w w' := by
  have HS := hide hS
  clear hS
  by_cases hc : c = b
  · subst hc
    have HV := hide (show seesO L c c = false by simp [seesO])
    go_enter Tryd.func79, Tryd.ntmps79
    go_wp2
    go_ret
    exact ⟨ret_bool HV.out.symm, Below.refl _ _⟩
  · have hne : ((c : Int) != (b : Int)) = true := by simp; omega
    have HV := hide (show seesO L b c = seesL L (b : Int) (c : Int) by simp [seesO, hc])
    clear hc
    go_enter Tryd.func79, Tryd.ntmps79
    go_wp2_with (refine wl_scene (.tmp 13) rfl rfl rfl HS.out ?_)
    refine (sees_any L (b : Int) (c : Int) _).mono ?_
    rintro e w1 ⟨rfl, hb1⟩
    go_wp2
    go_ret
    exact ⟨ret_bool HV.out.symm, hb1⟩

theorem star_any (s : Bool) (w : World) : Calls Tryd.prog 92 #[.bool s] w fun e w' => e = .returned (.string (starT s)) ∧ w' = w := by
  cases s with
  | true =>
    go_enter Tryd.func92, Tryd.ntmps92
    go_wp2
    go_ret
    exact ⟨rfl, rfl⟩
  | false =>
    go_enter Tryd.func92, Tryd.ntmps92
    go_wp2
    go_ret
    exact ⟨rfl, rfl⟩
end Go.Proofs.YtaifjndkgfffpaaDoor
/-
  A list of things, as it is told: its contract.
-/
namespace Go.Proofs.YtaifjndkgfffpaaDoor
open Go.RowKit
set_option linter.unusedVariables false

theorem names_size {L : Ld} (hf : Fine L) : ∀ (q : List Int), (∀ x ∈ q, ∃ i : Nat, x = (i : Int) ∧ i < 9) → (namesK L q).size ≤ q.length * 1048578 := by
  intro q
  induction q with
  | nil => intro _; exact Nat.le_refl 0
  | cons a q ih =>
    intro h
    have := ih (fun x hx => h x (List.mem_cons_of_mem _ hx))
    obtain ⟨i, e, hi⟩ := h a (List.mem_cons_self ..)
    have h1 := hf.tname a.toNat (by omega)
    have h2 := star_size (L.on a.toNat)
    have h3 : (⟨#[32]⟩ : ByteArray).size = 1 := rfl
    simp only [namesK, ByteArray.size_append, h3, List.length_cons]
    omega
theorem names_some (L : Ld) {q : List Int} (h : q ≠ []) : (namesK L q).toList.isEmpty = false := by
  cases q with
  | nil => exact absurd rfl h
  | cons a q =>
    rw [Lib.toList_data]
    simp only [namesK]
    simp
theorem take_snoc {q : List Int} {k : Nat} (hk : k < q.length) : q.take (k + 1) = q.take k ++ [q.getD k 0] := by
  rw [List.take_succ_eq_append_getElem hk]; simp [hk]

set_option maxRecDepth 100000 in
set_option maxHeartbeats 1000000 in
theorem listed_any {w0 : World} {L : Ld} {Es : List Ev} {w : World} (hS : Sn 62 [] w0 L Es w) (hf : Fine L) {v : Value} {q : List Int} (hN : NumK w0.heap.size 165 w v q) (hq : ∀ x ∈ q, ∃ i : Nat, x = (i : Int) ∧ i < 9) (hlen : q.length ≤ 18) :
    Calls Tryd.prog 67 #[.pointer (some ⟨w0.heap.size, 0, none⟩), v] w fun e w' => e = .returned (.string (listedT L q)) ∧ Below w.heap.size w w' := by
  have HS := hide hS
  have HN := hide hN
  have HQ := hide hq
  have HF := hide hf
  obtain ⟨av, cap, rfl⟩ := hN.shape
  clear hS hN hq hf
  generalize hn : q.length = n at *
  have HNn := hide hn
  clear hn
  go_enter Tryd.func67, Tryd.ntmps67
  go_wp2
  go_loopw [5, 10] (fun t c wr => ∃ k : Nat, k ≤ n ∧ c = .int .i64 k ∧ t = .string (namesK L (q.take k)) ∧ ∃ m, wr = w.drewN m) (fun _ c _ => n - (intOf c).toNat)
  case atStart => exact ⟨0, by omega, rfl, rfl, 0, rfl⟩
  case round =>
    obtain ⟨k, hle, rfl, rfl, m, rfl⟩ := hrel
    by_cases hk : k < n
    · have hkq : k < q.length := by rw [HNn.out]; exact hk
      obtain ⟨b, off, cap', e, hcell⟩ := HN.out.cell hkq
      rw [HNn.out] at e
      injection e with e1 e2 e3
      subst e1 e3
      obtain ⟨i, ei, hi⟩ := HQ.out _ (getD_mem hkq)
      have HT := hide (show namesK L (q.take (k + 1)) = namesK L (q.take k) ++ (⟨#[32]⟩ ++ L.tname i ++ starT (L.on i)) by rw [take_snoc hkq, names_snoc, ei]; rfl)
      rw [ei] at hcell
      have c0 := HS.out.thing i 0 hi (by omega)
      have c4 := HS.out.thing i 4 hi (by omega)
      simp only [Nat.add_zero, Ld.thingCell] at c0 c4
      have hci : (i : Int) < 9 := by omega
      have hs0 : (namesK L (q.take k)).size ≤ 20000000 := by
        have := names_size HF.out (q.take k) (fun x hx => HQ.out x (List.mem_of_mem_take hx))
        have h2 : (q.take k).length ≤ 18 := by simp; omega
        have : (q.take k).length * 1048578 ≤ 18 * 1048578 := Nat.mul_le_mul_right _ h2
        omega
      have hs1 := HF.out.tname i hi
      have hs2 := star_size (L.on i)
      have hs4 : (⟨#[32]⟩ : ByteArray).size = 1 := rfl
      clear ei
      generalize namesK L (q.take k) = A at *
      go_wp2_with fail
      go_region_with (go_at_call 92; refine (star_any _ _).mono ?_; rintro e x2 ⟨rfl, hx2⟩; rw [hx2]; clear hx2 x2)
      all_goals go_wp2
      all_goals go_roundw
      all_goals first | exact ⟨k + 1, by omega, by go_num, by rw [HT.out], m + 1, rfl⟩ | (simp [intOf]; omega)
    · have hkn : k = n := by omega
      subst hkn
      have hall : q.take k = q := by rw [← HNn.out]; exact List.take_length
      rw [hall]
      have hs0 : (namesK L q).size ≤ 20000000 := by
        have := names_size HF.out q HQ.out
        have : q.length * 1048578 ≤ 18 * 1048578 := Nat.mul_le_mul_right _ (by rw [HNn.out]; exact hlen)
        omega
      by_cases h0 : q = []
      · have HV := hide (show listedT L q = ⟨#[32, 110, 111, 116, 104, 105, 110, 103]⟩ ++ ⟨#[46]⟩ by unfold listedT; rw [if_pos h0]; rfl)
        have he : (namesK L q).toList.isEmpty = true := by subst h0; rw [Lib.toList_data]; rfl
        clear h0 hall
        generalize namesK L q = A at *
        go_wp2
        go_ret
        exact ⟨ret_str HV.out.symm, below_drewN (Below.refl _ _) _⟩
      · have HV := hide (show listedT L q = namesK L q ++ ⟨#[46]⟩ by unfold listedT; rw [if_neg h0]; rfl)
        have he := names_some L h0
        clear h0 hall
        generalize namesK L q = A at *
        go_wp2
        go_ret
        exact ⟨ret_str HV.out.symm, below_drewN (Below.refl _ _) _⟩
end Go.Proofs.YtaifjndkgfffpaaDoor
