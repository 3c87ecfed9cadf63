/-
  A being goes: contracts.
-/
import Derived.Test.YtaifjndkgfffpaaGreatDoorMgE
import Derived.Test.YtaifjndkgfffpaaGreatDoorMgF
import Derived.Test.YtaifjndkgfffpaaGreatDoorMgD
namespace Go.Proofs.YtaifjndkgfffpaaGreatDoor
open Go.RowKit
set_option linter.unusedVariables false
/-- It leaves, or comes, by a direction. -/
def wayE (L : Ld) (kind : Int) (b : Nat) (d : Int) : Ev := allE L { evN L kind b with dir := d }
def oppN (d : Nat) : Nat := (d + 3) % 6

set_option maxRecDepth 100000 in
set_option maxHeartbeats 1000000 in
theorem toward_any {w0 : World} {L : Ld} {Es : List Ev} {w : World} (hS : Sn 47 [] w0 L Es w) (kind : Int) (b : Nat) (hb : b < 6) (d : Int) (hlen : Es.length ≤ 1000000) :
    Calls Tryz.prog 78 #[.pointer (some ⟨w0.heap.size, 0, none⟩), .int .i64 kind, .int .i64 (b : Int), .int .i64 d] w fun e w' => e = .returned (.tuple #[]) ∧ Sn 47 [] w0 L (Es ++ [wayE L kind b d]) w' ∧ Stp w0.heap.size 165 w w' := by
  go_enter Tryz.func78, Tryz.ntmps78
  go_wp2_with fail
  refine (revent_lit hS kind b hb).mono ?_
  rintro e w1 ⟨rfl, hb1⟩
  have S1 := hide (hS.below hb1)
  have T1 := hide (hS.stp hb1 165)
  clear hS hb1
  go_wp2_with (first | (refine wl_new 62 (.tmp 8) (.tmp 12) rfl rfl _ _ rfl rfl rfl Tryz.sizeEvent rfl (by simp [Value.oneCell']) ?_) | (refine wl_event (.tmp 8) rfl rfl _ { evN L kind b with dir := d } rfl (heap_alloc_new w1 _) ?_))
  refine (happens_any (S1.out.alloc _) { evN L kind b with dir := d } hlen).mono ?_
  rintro e w2 ⟨rfl, S2, T2⟩
  have A := hide S2
  have B := hide (T1.out.trans ((S1.out.stp (below_box w1 _) 165).trans T2))
  clear S2 T2 S1 T1
  go_wp2
  go_end0
  exact ⟨rfl, A.out, B.out⟩

set_option maxRecDepth 100000 in
set_option maxHeartbeats 400000 in
theorem opposite_0 (w : World) : Calls Tryz.prog 75 #[.int .i64 0] w fun e w' => e = .returned (.int .i64 3) ∧ w' = w := by
  have hix : ∀ w, (Instr.index 22 (.agg #[.int .i64 3, .int .i64 4, .int .i64 5, .int .i64 0, .int .i64 1, .int .i64 2]) (.int .i64 0)).run Tryz.prog w = .ok (.int .i64 3) w := fun _ => by kernel_rfl
  have hm1 : max (0 : Int) 0 = 0 := by decide
  have hm2 : min (0 : Int) 5 = 0 := by decide
  go_enter Tryz.func75, Tryz.ntmps75
  go_wp2
  go_ret
  exact ⟨rfl, rfl⟩
set_option maxHeartbeats 400000 in
theorem opposite_1 (w : World) : Calls Tryz.prog 75 #[.int .i64 1] w fun e w' => e = .returned (.int .i64 4) ∧ w' = w := by
  have hix : ∀ w, (Instr.index 22 (.agg #[.int .i64 3, .int .i64 4, .int .i64 5, .int .i64 0, .int .i64 1, .int .i64 2]) (.int .i64 1)).run Tryz.prog w = .ok (.int .i64 4) w := fun _ => by kernel_rfl
  have hmm : min (max (1 : Int) 0) 5 = 1 := by decide
  go_enter Tryz.func75, Tryz.ntmps75
  go_wp2
  go_ret
  exact ⟨rfl, rfl⟩
set_option maxHeartbeats 400000 in
theorem opposite_2 (w : World) : Calls Tryz.prog 75 #[.int .i64 2] w fun e w' => e = .returned (.int .i64 5) ∧ w' = w := by
  have hix : ∀ w, (Instr.index 22 (.agg #[.int .i64 3, .int .i64 4, .int .i64 5, .int .i64 0, .int .i64 1, .int .i64 2]) (.int .i64 2)).run Tryz.prog w = .ok (.int .i64 5) w := fun _ => by kernel_rfl
  have hmm : min (max (2 : Int) 0) 5 = 2 := by decide
  go_enter Tryz.func75, Tryz.ntmps75
  go_wp2
  go_ret
  exact ⟨rfl, rfl⟩
set_option maxHeartbeats 400000 in
theorem opposite_3 (w : World) : Calls Tryz.prog 75 #[.int .i64 3] w fun e w' => e = .returned (.int .i64 0) ∧ w' = w := by
  have hix : ∀ w, (Instr.index 22 (.agg #[.int .i64 3, .int .i64 4, .int .i64 5, .int .i64 0, .int .i64 1, .int .i64 2]) (.int .i64 3)).run Tryz.prog w = .ok (.int .i64 0) w := fun _ => by kernel_rfl
  have hmm : min (max (3 : Int) 0) 5 = 3 := by decide
  go_enter Tryz.func75, Tryz.ntmps75
  go_wp2
  go_ret
  exact ⟨rfl, rfl⟩
set_option maxHeartbeats 400000 in
theorem opposite_4 (w : World) : Calls Tryz.prog 75 #[.int .i64 4] w fun e w' => e = .returned (.int .i64 1) ∧ w' = w := by
  have hix : ∀ w, (Instr.index 22 (.agg #[.int .i64 3, .int .i64 4, .int .i64 5, .int .i64 0, .int .i64 1, .int .i64 2]) (.int .i64 4)).run Tryz.prog w = .ok (.int .i64 1) w := fun _ => by kernel_rfl
  have hmm : min (max (4 : Int) 0) 5 = 4 := by decide
  go_enter Tryz.func75, Tryz.ntmps75
  go_wp2
  go_ret
  exact ⟨rfl, rfl⟩
set_option maxHeartbeats 400000 in
theorem opposite_5 (w : World) : Calls Tryz.prog 75 #[.int .i64 5] w fun e w' => e = .returned (.int .i64 2) ∧ w' = w := by
  have hix : ∀ w, (Instr.index 22 (.agg #[.int .i64 3, .int .i64 4, .int .i64 5, .int .i64 0, .int .i64 1, .int .i64 2]) (.int .i64 5)).run Tryz.prog w = .ok (.int .i64 2) w := fun _ => by kernel_rfl
  have hmm : min (max (5 : Int) 0) 5 = 5 := by decide
  go_enter Tryz.func75, Tryz.ntmps75
  go_wp2
  go_ret
  exact ⟨rfl, rfl⟩
theorem opposite_any (d : Nat) (hd : d < 6) (w : World) : Calls Tryz.prog 75 #[.int .i64 (d : Int)] w fun e w' => e = .returned (.int .i64 (oppN d : Int)) ∧ w' = w := by
  match d, hd with
  | 0, _ => exact opposite_0 w
  | 1, _ => exact opposite_1 w
  | 2, _ => exact opposite_2 w
  | 3, _ => exact opposite_3 w
  | 4, _ => exact opposite_4 w
  | 5, _ => exact opposite_5 w

def goneL (L : Ld) (b : Nat) (r : Int) : Ld := (L.setRoom b r).setFoe b 0
def exitL (L : Ld) (b d : Nat) : Int := L.exit (L.room b).toNat d
def shutL (L : Ld) (b d : Nat) : Bool := L.shut (L.room b).toNat d
/-- The land behind a being's going, and what happens. -/
def walkL (L : Ld) (b d : Nat) : Ld := if exitL L b d = 0 then L else if shutL L b d = true then L else goneL L b (exitL L b d - 1)
def walkE (L : Ld) (b d : Nat) : List Ev :=
  if exitL L b d = 0 then [tellE L b noWayS] else if shutL L b d = true then [tellE L b shutS]
  else [wayE L 1 b d, wayE (walkL L b d) 2 b (oppN d : Int)] ++ lookE (walkL L b d) b

theorem gone_good {L : Ld} (hg : goodL L = true) (b : Nat) {r : Int} (hr : amg r 6 = true) : goodL (goneL L b r) = true := good_foe (good_room' hg b hr) b (.inl rfl)

set_option maxRecDepth 100000 in
set_option maxHeartbeats 2000000 in
theorem rwalk_any {w0 : World} {L : Ld} {Es : List Ev} {w : World} (hS : Sn 47 [] w0 L Es w) (hf : Fine L) (hg : goodL L = true) (hv : Vb w0) (b d : Nat) (hb : b < 6) (hd : d < 6) (hlen : Es.length ≤ 800000) :
    Calls Tryz.prog 45 #[.pointer (some ⟨w0.heap.size, 0, none⟩), .int .i64 (b : Int), .int .i64 (d : Int)] w fun e w' => e = .returned (.tuple #[]) ∧ Sn 47 [] w0 (walkL L b d) (Es ++ walkE L b d) w' ∧ Stp w0.heap.size 165 w w' := by
  obtain ⟨r, hr, er⟩ := hf.room b hb
  have eE : exitL L b d = L.exit r d := by unfold exitL; rw [er]; rfl
  have eS : shutL L b d = L.shut r d := by unfold shutL; rw [er]; rfl
  have HS := hide hS
  have c3 := hS.being b 3 hb (by omega)
  have cE := hS.room r (2 + d) hr (by omega)
  have cS := hS.room r (8 + d) hr (by omega)
  rw [show r * 14 + (2 + d) = r * 14 + 2 + d by omega] at cE
  rw [show r * 14 + (8 + d) = r * 14 + 8 + d by omega] at cS
  have e1 : L.roomCell r (2 + d) = .int .i64 (L.exit r d) := by rw [Nat.add_comm]; simp [Ld.roomCell, hd]
  have e2 : L.roomCell r (8 + d) = .bool (L.shut r d) := by rw [show 8 + d = (d + 6) + 2 by omega]; simp [Ld.roomCell]
  rw [e1] at cE
  rw [e2] at cS
  simp only [Ld.beingCell] at c3
  rw [er] at c3
  have HF := hide hf
  have HV := hide hv
  have HG := hide hg
  have hl := hS.lt
  have hbi : (b : Int) < 6 := by omega
  have hri : (r : Int) < 6 := by omega
  have hdi : (d : Int) < 6 := by omega
  clear hS hf hv hg er e2
  by_cases h0 : L.exit r d = 0
  · have HE := hide (show walkE L b d = [tellE L b noWayS] by unfold walkE; rw [eE, if_pos h0])
    have HL := hide (show walkL L b d = L by unfold walkL; rw [eE, if_pos h0])
    have hb0 : (L.exit r d == 0) = true := by simp [h0]
    clear h0 eE eS e1
    go_enter Tryz.func45, Tryz.ntmps45
    go_wp2_with fail
    go_region
    go_wp2_with fail
    refine (rtell_any HS.out.drew b hb _ (by omega)).mono ?_
    rintro e w2 ⟨rfl, S2, T2⟩
    have A := hide S2
    have B := hide ((HS.out.stp (below_drewN (Below.refl _ _) 1) 165).trans T2)
    clear S2 T2
    go_wp2
    go_end0
    exact ⟨rfl, by rw [HE.out, HL.out]; exact A.out, B.out⟩
  · have hb0 : (L.exit r d == 0) = false := by simp [h0]
    by_cases h1 : L.shut r d = true
    · have HE := hide (show walkE L b d = [tellE L b shutS] by unfold walkE; rw [eE, if_neg h0, eS, if_pos h1])
      have HL := hide (show walkL L b d = L by unfold walkL; rw [eE, if_neg h0, eS, if_pos h1])
      rw [h1] at cS
      clear h0 h1 eE eS e1
      go_enter Tryz.func45, Tryz.ntmps45
      go_wp2_with fail
      go_region
      go_wp2_with fail
      refine (rtell_any HS.out.drew b hb _ (by omega)).mono ?_
      rintro e w2 ⟨rfl, S2, T2⟩
      have A := hide S2
      have B := hide ((HS.out.stp (below_drewN (Below.refl _ _) 1) 165).trans T2)
      clear S2 T2
      go_wp2
      go_end0
      exact ⟨rfl, by rw [HE.out, HL.out]; exact A.out, B.out⟩
    · have h1' : L.shut r d = false := by simpa using h1
      obtain ⟨t, ht, et⟩ : ∃ t : Nat, t < 6 ∧ L.exit r d = (t : Int) + 1 := by
        rcases HF.out.exit r d hr hd with h | h
        · exact absurd h h0
        · exact h
      have HL0 : walkL L b d = goneL L b (t : Int) := by unfold walkL; rw [eE, if_neg h0, eS, if_neg h1, et]; congr 1; omega
      have HL := hide HL0
      have HE := hide (show walkE L b d = [wayE L 1 b d, wayE (goneL L b (t : Int)) 2 b (oppN d : Int)] ++ lookE (goneL L b (t : Int)) b by
        unfold walkE; rw [eE, if_neg h0, eS, if_neg h1, HL0])
      have hG := hide (gone_good HG.out b (r := (t : Int)) (amg_mk (by omega) (by omega)))
      have hF := hide (((al_room L b (t : Int)).trans (al_foe _ b 0)).fine HF.out hG.out)
      rw [h1'] at cS
      rw [et] at cE
      rw [et] at hb0
      have hw : wrap64 ((t : Int) + 1 - 1) = (t : Int) := by rw [show (t : Int) + 1 - 1 = (t : Int) by omega]; simp only [wrap64]; omega
      clear h0 h1 h1' eE eS HL0
      go_enter Tryz.func45, Tryz.ntmps45
      go_wp2_with fail
      go_region
      go_wp2_with fail
      refine (toward_any HS.out.drew 1 b hb (d : Int) (by omega)).mono ?_
      rintro e w2 ⟨rfl, S2h, T2h⟩
      have S2 := hide S2h
      have T2 := hide ((HS.out.stp (below_drewN (Below.refl _ _) 1) 165).trans T2h)
      have d3 := S2h.being b 3 hb (by omega)
      have d5 := S2h.being b 5 hb (by omega)
      have f3 := S2h.soft (129 + b * 6 + 3)
      have f5 := S2h.soft (129 + b * 6 + 5)
      have dE := S2h.room r (2 + d) hr (by omega)
      rw [show r * 14 + (2 + d) = r * 14 + 2 + d by omega] at dE
      have S3 := hide ((S2h.set (by omega) (L.up_room b hb (t : Int))).set (by omega) ((L.setRoom b (t : Int)).up_foe b hb 0))
      have T3 := hide ((T2.out.trans (S2h.step (n := 129 + b * 6 + 3) (by omega) (.int .i64 (t : Int)))).trans (Stp.put (o := 165) (n := 129 + b * 6 + 5) (x := .int .i64 0) (by omega)))
      clear S2h T2h c3 cE cS HS S2 T2
      rw [e1] at dE
      rw [et] at dE
      simp only [Ld.beingCell] at d3 d5
      clear et e1
      go_wp2_with fail
      refine (opposite_any d hd _).mono ?_
      rintro e w3 ⟨rfl, hw3⟩
      rw [hw3]
      clear hw3 w3
      go_wp2_with fail
      refine (toward_any (L := goneL L b (t : Int)) S3.out 2 b hb (oppN d : Int) (by simp only [List.length_append, List.length_cons, List.length_nil]; omega)).mono ?_
      rintro e w4 ⟨rfl, S4h, T4h⟩
      have S4 := hide S4h
      have T4 := hide (T3.out.trans T4h)
      clear S4h T4h S3 T3 d3 d5 dE f3 f5
      go_wp2_with fail
      refine (rlook_any S4.out hF.out HV.out b hb (by simp only [List.length_append, List.length_cons, List.length_nil]; omega)).mono ?_
      rintro e w5 ⟨rfl, S5h, T5h⟩
      have S5 := hide S5h
      have T5 := hide (T4.out.trans T5h)
      clear S5h T5h S4 T4
      go_wp2
      go_end0
      exact ⟨rfl, by rw [HL.out, HE.out]; simpa only [List.append_assoc, List.cons_append, List.nil_append] using S5.out, T5.out⟩
/-
  Those that are meant of things; a thing is moved; what lies about is taken: contracts.
-/
/-- An order. -/
structure Od where
  verb : Int
  nth : Int
  all : Bool
  name : ByteArray
  second : ByteArray
  text : ByteArray
def Od.cells (O : Od) : Array Value := #[.int .i64 O.verb, .int .i64 O.nth, .bool O.all, .string O.name, .string O.second, .string O.text]
theorem Tryz.sizeOrder : (Tryz.prog.info? 36).map (·.size) = some 6 := by kernel_rfl

def nthL (q : List Int) (n : Int) : List Int := if n < 1 ∨ (q.length : Int) < n then [] else [q.getD (n - 1).toNat 0]
def fits (L : Ld) (name : ByteArray) (i : Int) : Bool := decide (name = ⟨#[]⟩) || decide (L.tname i.toNat = name)
def meantL (L : Ld) (q : List Int) (nth : Int) (all : Bool) (name : ByteArray) : List Int := if all = true then q.filter (fits L name) else nthL (q.filter (fits L name)) nth

theorem nth_mem {q : List Int} {n x : Int} (h : x ∈ nthL q n) : x ∈ q := by
  unfold nthL at h
  split at h
  · simp at h
  · rename_i hn
    rw [List.mem_singleton.1 h]
    exact getD_mem (by omega)
theorem meant_mem {L : Ld} {q : List Int} {n : Int} {all : Bool} {name : ByteArray} {x : Int} (h : x ∈ meantL L q n all name) : x ∈ q := by
  unfold meantL at h
  split at h
  · exact (List.mem_filter.1 h).1
  · exact (List.mem_filter.1 (nth_mem h)).1
theorem toList_eq {a b : ByteArray} : (a.toList == b.toList) = decide (a = b) := by
  rw [Bool.eq_iff_iff]
  simp only [beq_iff_eq, decide_eq_true_eq, Lib.toList_data]
  constructor
  · intro h; rw [← bs_of a, h, bs_of]
  · intro h; rw [h]
theorem empty_iff {a : ByteArray} : a.toList.isEmpty = decide (a = ⟨#[]⟩) := by
  rw [Bool.eq_iff_iff]
  simp only [List.isEmpty_iff, decide_eq_true_eq, Lib.toList_data]
  constructor
  · intro h; rw [← bs_of a, h]; rfl
  · intro h; rw [h]

theorem NumK.part {g o : Nat} {w : World} {b off cap : Nat} {q : List Int} {k : Nat} (h : NumK g o w (.slice (some ⟨b, off, none⟩) q.length cap) q) (hk : k < q.length) :
    NumK g o w (.slice (some ⟨b, off + k, none⟩) 1 (cap - k)) [q.getD k 0] := by
  obtain ⟨av, cap', e, hl, hm, hc⟩ := h.nums
  injection e with e1 e2 e3
  subst e1 e3
  obtain ⟨b', off', e, hcell⟩ := hc (by omega)
  injection e with e; injection e with e1 e2
  subst e1 e2
  refine ⟨⟨_, cap - k, rfl, by simp; omega, by omega, fun _ => ⟨b, off + k, rfl, fun i hi => ?_⟩⟩, fun b' off' n c _ e => ?_⟩
  · have : i = 0 := by simp at hi; omega
    subst this
    have := hcell k hk
    simpa using this
  · injection e with e; injection e with e; injection e with e1
    subst e1
    exact h.kept b off _ _ (by omega) rfl
theorem numk_nil (g o : Nat) (w : World) : NumK g o w (.slice none 0 0) [] := ⟨⟨none, 0, rfl, Nat.le_refl _, Nat.zero_le _, fun h => by simp at h⟩, fun _ _ _ _ h => by simp at h⟩

set_option maxRecDepth 100000 in
set_option maxHeartbeats 1000000 in
theorem rnth_any {g o : Nat} {w : World} {v : Value} {q : List Int} (hN : NumK g o w v q) (hlen : q.length ≤ 18) (n : Int) (hn0 : -9223372036854775808 ≤ n) (hn1 : n ≤ 9223372036854775807) :
    Calls Tryz.prog 88 #[v, .int .i64 n] w fun e w' => ∃ v', e = .returned v' ∧ NumK g o w v' (nthL q n) ∧ w' = w := by
  by_cases h1 : n < 1
  · obtain ⟨av, cap, rfl⟩ := hN.shape
    have HV := hide (show nthL q n = [] by unfold nthL; rw [if_pos (.inl h1)])
    clear hN
    go_enter Tryz.func88, Tryz.ntmps88
    go_wp2
    go_ret
    exact ⟨_, rfl, by rw [HV.out]; exact numk_nil _ _ _, rfl⟩
  · by_cases h2 : (q.length : Int) < n
    · obtain ⟨av, cap, rfl⟩ := hN.shape
      have HV := hide (show nthL q n = [] by unfold nthL; rw [if_pos (.inr h2)])
      clear hN
      go_enter Tryz.func88, Tryz.ntmps88
      go_wp2
      go_ret
      exact ⟨_, rfl, by rw [HV.out]; exact numk_nil _ _ _, rfl⟩
    · obtain ⟨k, rfl⟩ : ∃ k : Nat, n = (k : Int) + 1 := ⟨(n - 1).toNat, by omega⟩
      have hk : k < q.length := by omega
      obtain ⟨b, off, cap, e, hl, hm, _⟩ := hN.nums.some (by omega)
      subst e
      have HV := hide (show nthL q ((k : Int) + 1) = [q.getD k 0] by unfold nthL; rw [if_neg (by omega)]; congr 2; omega)
      have HP := hide (hN.part hk)
      generalize hq : q.length = m at *
      have hw : wrap64 ((k : Int) + 1 - 1) = (k : Int) := by rw [show (k : Int) + 1 - 1 = (k : Int) by omega]; simp only [wrap64]; omega
      clear hN hn0 hn1 h1 h2
      go_enter Tryz.func88, Tryz.ntmps88
      go_wp2
      go_ret
      exact ⟨_, rfl, by rw [HV.out]; exact HP.out, rfl⟩

/-- A round's head. -/
structure MtRel (L : Ld) (O : Od) (q : List Int) (w : World) (u : Value) (k : Nat) (wr : World) : Prop where
  ord : wr.heap[w.heap.size]? = some (.cells O.cells 36 (0, 0))
  own : OwnI (w.heap.size + 1) wr u ((q.take k).filter (fits L O.name))
  low : Below w.heap.size w wr
section
variable {L : Ld} {O : Od} {q : List Int} {w : World} {u u' : Value} {k : Nat} {wr wr' : World}
theorem MtRel.lt (h : MtRel L O q w u k wr) : w.heap.size < wr.heap.size := (Array.getElem?_eq_some_iff.1 h.ord).1
theorem MtRel.call (h : MtRel L O q w u k wr) (hb : Below wr.heap.size wr wr') : MtRel L O q w u k wr' :=
  ⟨by rw [hb.block _ h.lt]; exact h.ord, h.own.below hb, h.low.trans (hb.mono h.low.size)⟩
theorem MtRel.drewN (h : MtRel L O q w u k wr) (n : Nat) : MtRel L O q w u k (wr.drewN n) := h.call (below_drewN (Below.refl _ _) n)
theorem MtRel.cell (h : MtRel L O q w u k wr) :
    wr.cell? ⟨w.heap.size, 1, none⟩ = some (.int .i64 O.nth) ∧ wr.cell? ⟨w.heap.size, 2, none⟩ = some (.bool O.all) ∧ wr.cell? ⟨w.heap.size, 3, none⟩ = some (.string O.name) :=
  ⟨by rw [cell_of_row wr _ _ _ _ _ h.ord]; rfl, by rw [cell_of_row wr _ _ _ _ _ h.ord]; rfl, by rw [cell_of_row wr _ _ _ _ _ h.ord]; rfl⟩
theorem MtRel.skip (h : MtRel L O q w u k wr) (hk : k < q.length) (hf : fits L O.name (q.getD k 0) = false) : MtRel L O q w u (k + 1) wr := by
  refine ⟨h.ord, ?_, h.low⟩
  rw [take_snoc hk, List.filter_append]
  simp only [List.filter_cons, hf, List.filter_nil, if_false, Bool.false_eq_true, List.append_nil]
  exact h.own
theorem MtRel.grow (h : MtRel L O q w u k wr) (hk : k < q.length) (hf : fits L O.name (q.getD k 0) = true)
    (ho : wr'.ownsRow (w.heap.size + 1) 3 1 u' (((q.take k).filter (fits L O.name)).length + 1) (icells ((q.take k).filter (fits L O.name)) ++ [.int .i64 (q.getD k 0)])) (hg : wr.grownBy wr' u.ownBlock) : MtRel L O q w u' (k + 1) wr' := by
  have hlt := h.lt
  have hb : Below (w.heap.size + 1) wr wr' := (Below.refl _ _ : Below (w.heap.size + 1) wr wr).grown hg (by omega) (fun j hj => (h.own.lt j (by simpa using hj)).1)
  refine ⟨by rw [hb.block _ (by omega)]; exact h.ord, ?_, h.low.trans (hb.mono (by omega))⟩
  rw [take_snoc hk, List.filter_append]
  simp only [List.filter_cons, hf, List.filter_nil, if_true]
  unfold OwnI
  simpa [icells] using ho
theorem filter_len (q : List Int) (k : Nat) (f : Int → Bool) (h : q.length ≤ 18) : ((q.take k).filter f).length ≤ 18 := by
  have := List.length_filter_le f (q.take k)
  have h2 : (q.take k).length ≤ q.length := by simp; omega
  omega
end

set_option maxRecDepth 100000 in
set_option maxHeartbeats 2000000 in
theorem meant_any {w0 : World} {L : Ld} {Es : List Ev} {w : World} (hS : Sn 47 [] w0 L Es w) {v : Value} {q : List Int} (hN : NumK w0.heap.size 165 w v q) (hq : ∀ x ∈ q, ∃ i : Nat, x = (i : Int) ∧ i < 9) (hlen : q.length ≤ 18)
    (O : Od) (hn0 : -9223372036854775808 ≤ O.nth) (hn1 : O.nth ≤ 9223372036854775807) :
    Calls Tryz.prog 69 #[.pointer (some ⟨w0.heap.size, 0, none⟩), v, .agg O.cells] w fun e w' => ∃ v', e = .returned v' ∧ NumK w0.heap.size 165 w' v' (meantL L q O.nth O.all O.name) ∧ Below w.heap.size w w' := by
  obtain ⟨i0, hi0, hz0, hz1, hz2⟩ := info_parts Tryz.info3
  have HS := hide hS
  have HN := hide hN
  have HQ := hide hq
  obtain ⟨av, cap, rfl⟩ := hN.shape
  clear hS hN hq
  generalize hn : q.length = n at *
  have HNn := hide hn
  clear hn
  unfold Od.cells
  go_enter Tryz.func69, Tryz.ntmps69
  go_wp2
  go_loopw [7, 12] (fun u c wr => ∃ k : Nat, k ≤ n ∧ c = .int .i64 k ∧ MtRel L O q w u k wr) (fun _ c _ => n - (intOf c).toNat)
  case atStart => exact ⟨0, by omega, rfl, ⟨heap_alloc_new w _, ownI_nil _ _, below_box w _⟩⟩
  case round =>
    obtain ⟨k, hle, rfl, R⟩ := hrel
    obtain ⟨av2, cap2, rfl⟩ := R.own.shape
    have HR := hide R
    obtain ⟨o1, o2, o3⟩ := R.cell
    have hlt := R.lt
    clear R
    by_cases hk : k < n
    · have hkq : k < q.length := by rw [HNn.out]; exact hk
      obtain ⟨b, off, cap', e, hcell⟩ := (HN.out.step (Stp.below (o := 165) HR.out.low HS.out.lt)).cell hkq
      rw [HNn.out] at e
      injection e with e1 e2 e3
      subst e1 e3
      obtain ⟨i, ei, hi⟩ := HQ.out _ (getD_mem hkq)
      have hfl := filter_len q k (fits L O.name) (by rw [HNn.out]; exact hlen)
      have c0 := (HS.out.below HR.out.low).thing i 0 hi (by omega)
      simp only [Nat.add_zero, Ld.thingCell] at c0
      have hci : (i : Int) < 9 := by omega
      have HEI := hide ei
      rw [ei] at hcell
      clear ei
      cases hx : decide (O.name = ⟨#[]⟩) with
      | true =>
        have he : O.name.toList.isEmpty = true := by rw [empty_iff]; exact hx
        have HF := hide (show fits L O.name (q.getD k 0) = true by unfold fits; rw [hx]; rfl)
        clear hx
        go_wp2_with fail
        go_quiet (fail)
        have HR2 := hide (HR.out.drewN nq)
        have ho := (HR2.out.own.below (below_box _ (.cells #[.int .i64 (i : Int)] 3)))
        have HO := hide ho
        have hsz := HR2.out.low.size
        have hsz2 := HR2.out.lt
        have HG : Hid (∀ (u' : Value) (wr' : World), wr'.ownsRow (w.heap.size + 1) 3 1 u' (((q.take k).filter (fits L O.name)).length + 1) (icells ((q.take k).filter (fits L O.name)) ++ [.int .i64 (q.getD k 0)]) → World.grownBy ((wr.drewN nq).alloc (.cells #[.int .i64 (i : Int)] 3)) wr' (Value.slice av2 ((q.take k).filter (fits L O.name)).length cap2).ownBlock → MtRel L O q w u' (k + 1) wr') := fun u' wr' hh hg => (HR2.out.call (below_box _ (.cells #[.int .i64 (i : Int)] 3))).grow hkq HF.out hh hg
        rw [HEI.out] at HG
        clear ho HR c0 o1 o2 o3 hcell
        generalize (q.take k).filter (fits L O.name) = Z at *
        go_wp2_with (at_builtin; refine wpList_append_own_at _ rfl (.tmp 32) (.tmp 34) 59 rfl (w.heap.size + 1) 3 i0 (.int .i64 0) 1 8 Tryz.underlying59 hi0 hz0 hz1 hz2 rfl (by decide) _ Z.length (icells Z) rfl HO.out ⟨_, 0, none⟩ 1 1 [.int .i64 (i : Int)] rfl ?a1 ?a2 ?a3 ?a4 ?a5 ?a6 ?_)
        case a1 => rfl
        case a2 => exact cell_one_new _ _ _
        case a3 => intro u hu; simp at hu; subst hu; rfl
        case a4 => unfold maxLen; omega
        case a5 => omega
        case a6 => simp at hsz2 ⊢; omega
        intro v' w1 hoo hg _ _
        have N := hide (HG.out _ _ hoo hg)
        obtain ⟨av', cap', rfl⟩ := own_shapeN hoo
        clear hoo hg HG HO
        go_wp2
        go_roundw
        case rel => exact ⟨k + 1, by omega, by go_num, N.out⟩
        case measure => simp [intOf]; omega
      | false =>
        have he : O.name.toList.isEmpty = false := by rw [empty_iff]; exact hx
        cases hy : decide (L.tname i = O.name) with
        | true =>
          have hyl : ((L.tname i).toList == O.name.toList) = true := by rw [toList_eq]; exact hy
          have HF := hide (show fits L O.name (q.getD k 0) = true by unfold fits; rw [hx, HEI.out, Int.toNat_natCast, hy]; rfl)
          clear hx hy
          go_wp2_with fail
          go_quiet (fail)
          have HR2 := hide (HR.out.drewN nq)
          have ho := (HR2.out.own.below (below_box _ (.cells #[.int .i64 (i : Int)] 3)))
          have HO := hide ho
          have hsz := HR2.out.low.size
          have hsz2 := HR2.out.lt
          have HG : Hid (∀ (u' : Value) (wr' : World), wr'.ownsRow (w.heap.size + 1) 3 1 u' (((q.take k).filter (fits L O.name)).length + 1) (icells ((q.take k).filter (fits L O.name)) ++ [.int .i64 (q.getD k 0)]) → World.grownBy ((wr.drewN nq).alloc (.cells #[.int .i64 (i : Int)] 3)) wr' (Value.slice av2 ((q.take k).filter (fits L O.name)).length cap2).ownBlock → MtRel L O q w u' (k + 1) wr') := fun u' wr' hh hg => (HR2.out.call (below_box _ (.cells #[.int .i64 (i : Int)] 3))).grow hkq HF.out hh hg
          rw [HEI.out] at HG
          clear ho HR c0 o1 o2 o3 hcell
          generalize (q.take k).filter (fits L O.name) = Z at *
          go_wp2_with (at_builtin; refine wpList_append_own_at _ rfl (.tmp 32) (.tmp 34) 59 rfl (w.heap.size + 1) 3 i0 (.int .i64 0) 1 8 Tryz.underlying59 hi0 hz0 hz1 hz2 rfl (by decide) _ Z.length (icells Z) rfl HO.out ⟨_, 0, none⟩ 1 1 [.int .i64 (i : Int)] rfl ?a1 ?a2 ?a3 ?a4 ?a5 ?a6 ?_)
          case a1 => rfl
          case a2 => exact cell_one_new _ _ _
          case a3 => intro u hu; simp at hu; subst hu; rfl
          case a4 => unfold maxLen; omega
          case a5 => omega
          case a6 => simp at hsz2 ⊢; omega
          intro v' w1 hoo hg _ _
          have N := hide (HG.out _ _ hoo hg)
          obtain ⟨av', cap', rfl⟩ := own_shapeN hoo
          clear hoo hg HG HO
          go_wp2
          go_roundw
          case rel => exact ⟨k + 1, by omega, by go_num, N.out⟩
          case measure => simp [intOf]; omega
        | false =>
          have hyl : ((L.tname i).toList == O.name.toList) = false := by rw [toList_eq]; exact hy
          have HF := hide (show fits L O.name (q.getD k 0) = false by unfold fits; rw [hx, HEI.out, Int.toNat_natCast, hy]; rfl)
          clear hx hy
          go_wp2_with fail
          go_quiet (fail)
          have N := hide ((HR.out.drewN nq).skip hkq HF.out)
          clear HR
          go_wp2
          go_roundw
          case rel => exact ⟨k + 1, by omega, by go_num, N.out⟩
          case measure => simp [intOf]; omega
    · have hkn : k = n := by omega
      subst hkn
      have hall : q.take k = q := by rw [← HNn.out]; exact List.take_length
      have hfl := filter_len q k (fits L O.name) (by rw [HNn.out]; exact hlen)
      have HK := hide (numk_own HS.out HR.out.low (HR.out.own.base (Nat.le_succ _)))
      rw [hall] at HK
      rw [hall] at hfl
      rw [hall]
      rw [hall] at HR
      cases ha : O.all with
      | true =>
        have HV := hide (show meantL L q O.nth O.all O.name = q.filter (fits L O.name) by unfold meantL; rw [if_pos ha])
        rw [ha] at o2
        clear hall
        have HA := hide ha
        clear ha
        go_wp2
        go_ret
        exact ⟨_, rfl, by rw [HV.out]; exact HK.out, HR.out.low⟩
      | false =>
        have HV := hide (show meantL L q O.nth O.all O.name = nthL (q.filter (fits L O.name)) O.nth by unfold meantL; rw [if_neg (by simp [ha])])
        rw [ha] at o2
        clear hall
        have HA := hide ha
        clear ha
        go_wp2_with fail
        refine (rnth_any HK.out hfl O.nth hn0 hn1).mono ?_
        rintro e w1 ⟨v', rfl, hK, hw⟩
        have HK2 := hide hK
        rw [hw]
        obtain ⟨av3, cap3, rfl⟩ := hK.shape
        clear hK hw w1
        go_wp2
        go_ret
        exact ⟨_, rfl, by rw [HV.out]; exact HK2.out, HR.out.low⟩
/-
  A thing is moved; what lies about is taken: contracts.
-/
theorem Stp.fresh {g o k n : Nat} {w W : World} {x : Value} (h : Stp g o w W) (hk : w.heap.size ≤ k) (hg : g < w.heap.size) : Stp g o w (W.setCell ⟨k, n, none⟩ x) := by
  refine ⟨h.os, h.tape, h.output, by simp [World.setCell]; exact h.size, fun j hj h1 h2 => ?_, ?_⟩
  · rw [Below.heap_setCell _ _ _ _ (by simp; omega)]; exact h.block j hj h1 h2
  · rw [show rowB (W.setCell ⟨k, n, none⟩ x) g o = rowB W g o from rowB_same (Below.heap_setCell _ _ _ _ (by simp; omega))]
    exact h.row
theorem Sn.other {T : TypeId} {pre : List Value} {w0 w : World} {L : Ld} {Es : List Ev} (h : Sn T pre w0 L Es w) {k n : Nat} {x : Value} (hk : Kept w0.heap.size (165 + pre.length) w k) (hlt : w0.heap.size ≤ k) : Sn T pre w0 L Es (w.setCell ⟨k, n, none⟩ x) := by
  obtain ⟨v, hv, ho⟩ := h.ex
  have hc : w.cell? ⟨w0.heap.size, 165 + pre.length, none⟩ = some v := by rw [cell_of_row w _ _ _ _ _ hv, more_row]
  have hof : v.ownBlock ≠ some k := by
    have := hk.off
    simp only [rowB, hc] at this
    exact this
  exact ⟨⟨v, by rw [Below.heap_setCell _ _ _ _ (by simpa using hk.ne.symm)]; exact hv, ownsRow_setCell_other ho (by simpa using hof) x⟩, h.low.setCell (by simpa using hlt) _⟩
theorem Cev.putThing {w : World} {b : Nat} {E : Ev} (h : Cev w b E) (x : ByteArray) : Cev (w.setCell ⟨b, 8, none⟩ (.string x)) b { E with thing := x } := by
  unfold Cev at h ⊢
  rw [setCell_eq_setRow w b 8 _ _ _ _ h, setRow_heap w b _ _ _ _ h]; rfl

def moveL (L : Ld) (i : Nat) (wh loc : Int) : Ld := (L.setWh i wh).setLoc i loc

set_option maxRecDepth 100000 in
set_option maxHeartbeats 2000000 in
theorem rmove_any {w0 : World} {L : Ld} {Es : List Ev} {w : World} (hS : Sn 47 [] w0 L Es w) (i : Nat) (hi : i < 9) (wh loc : Int) (E : Ev) (hlen : Es.length ≤ 1000000) :
    Calls Tryz.prog 70 #[.pointer (some ⟨w0.heap.size, 0, none⟩), .int .i64 (i : Int), .int .i64 wh, .int .i64 loc, .agg E.cells] w fun e w' => e = .returned (.tuple #[]) ∧ Sn 47 [] w0 (moveL L i wh loc) (Es ++ [allE (moveL L i wh loc) { E with thing := L.tname i }]) w' ∧ Stp w0.heap.size 165 w w' := by
  have hii : (i : Int) < 9 := by omega
  have hl := hS.lt
  have hb := below_box w (.cells E.cells 62)
  have K0 := hS.kept hb (Nat.le_refl _) (by simp)
  have X0 := hS.alloc (.cells E.cells 62)
  have C0 := cev_new w E
  have T0 := Stp.below (o := 165) hb hl
  clear hS hb
  go_enter Tryz.func70, Tryz.ntmps70
  go_upto_region 1 with fail
  generalize w.alloc (.cells E.cells 62) = wa at *
  generalize hkk : w.heap.size = k at *
  have c0 := X0.thing i 0 hi (by omega)
  have c2 := X0.thing i 2 hi (by omega)
  have c3 := X0.thing i 3 hi (by omega)
  have f2 := X0.soft (84 + i * 5 + 2)
  have f3 := X0.soft (84 + i * 5 + 3)
  simp only [Nat.add_zero, Ld.thingCell] at c0 c2 c3
  have X1 := X0.set (by omega) (L.up_wh i hi wh)
  have X2 := X1.set (by omega) ((L.setWh i wh).up_loc i hi loc)
  have Y1 : Stp w0.heap.size 165 wa (wa.setCell ⟨w0.heap.size, 84 + i * 5 + 2, none⟩ (.int .i64 wh)) := Stp.put (by omega)
  have Y2 : Stp w0.heap.size 165 (wa.setCell ⟨w0.heap.size, 84 + i * 5 + 2, none⟩ (.int .i64 wh)) ((wa.setCell ⟨w0.heap.size, 84 + i * 5 + 2, none⟩ (.int .i64 wh)).setCell ⟨w0.heap.size, 84 + i * 5 + 3, none⟩ (.int .i64 loc)) := Stp.put (by omega)
  have K2 := (Y2.kept (Y1.kept K0).1).1
  have X3 := hide (X2.other (n := 8) (x := .string (L.tname i)) K2 (by omega))
  have T3 := hide ((T0.trans (Y1.trans Y2)).fresh (k := k) (n := 8) (x := .string (L.tname i)) (by omega) (by omega))
  have C2 := (C0.other (c := w0.heap.size) (by omega) (84 + i * 5 + 2) (.int .i64 wh)).other (c := w0.heap.size) (by omega) (84 + i * 5 + 3) (.int .i64 loc)
  have E3 := hide (C2.putThing (L.tname i))
  have k8 := C0.thing
  have kf := C0.frozen 8
  have hne : k ≠ w0.heap.size := by omega
  have hne2 : w0.heap.size ≠ k := by omega
  clear K0 X0 X1 X2 Y1 Y2 K2 C0 C2 T0
  go_wp2_with (refine wl_event (.tmp 9) rfl rfl _ { E with thing := L.tname i } rfl E3.out ?_)
  refine (happens_any (L := moveL L i wh loc) X3.out { E with thing := L.tname i } hlen).mono ?_
  rintro e w2 ⟨rfl, S2, T2⟩
  have A := hide S2
  have B := hide (T3.out.trans T2)
  clear S2 T2 X3 T3
  go_wp2
  go_end0
  exact ⟨rfl, A.out, B.out⟩
/-
  What lies about is taken: the contract, where no box is named.
-/
/-- One thing is taken. -/
def gstep (b : Nat) (s : Ld × List Ev) (i : Int) : Ld × List Ev := (moveL s.1 i.toNat 1 (b : Int), s.2 ++ [allE (moveL s.1 i.toNat 1 (b : Int)) { evN s.1 3 b with thing := s.1.tname i.toNat }])
def takeS (L : Ld) (b : Nat) (q : List Int) : Ld × List Ev := q.foldl (gstep b) (L, [])
theorem take_len (L : Ld) (b : Nat) (q : List Int) : (takeS L b q).2.length = q.length := by
  unfold takeS
  have : ∀ (q : List Int) (s : Ld × List Ev), (q.foldl (gstep b) s).2.length = s.2.length + q.length := by
    intro q
    induction q with
    | nil => intro s; simp
    | cons a q ih => intro s; rw [List.foldl_cons, ih]; simp [gstep]; omega
  rw [this]; simp
theorem take_next (L : Ld) (b : Nat) {q : List Int} {k : Nat} (hk : k < q.length) : takeS L b (q.take (k + 1)) = gstep b (takeS L b (q.take k)) (q.getD k 0) := by
  unfold takeS; rw [take_snoc hk, List.foldl_append]; rfl
def sigE (L : Ld) (b : Nat) (q : List Int) (s : ByteArray) : List Ev := if q = [] then [tellE L b s] else []
/-- What is taken, where no box is named: the land, and what happens. -/
def getL (L : Ld) (b : Nat) (O : Od) : Ld := (takeS L b (meantL L (sightL L b) O.nth O.all O.name)).1
def getE (L : Ld) (b : Nat) (O : Od) : List Ev := sigE L b (meantL L (sightL L b) O.nth O.all O.name) noThingS ++ (takeS L b (meantL L (sightL L b) O.nth O.all O.name)).2

set_option maxRecDepth 100000 in
set_option maxHeartbeats 2000000 in
theorem rget_any {w0 : World} {L : Ld} {Es : List Ev} {w : World} (hS : Sn 47 [] w0 L Es w) (b : Nat) (hb : b < 6) (O : Od) (h2 : O.second = ⟨#[]⟩) (hn0 : -9223372036854775808 ≤ O.nth) (hn1 : O.nth ≤ 9223372036854775807) (hlen : Es.length ≤ 900000) :
    Calls Tryz.prog 30 #[.pointer (some ⟨w0.heap.size, 0, none⟩), .int .i64 (b : Int), .agg O.cells] w fun e w' => e = .returned (.tuple #[]) ∧ Sn 47 [] w0 (getL L b O) (Es ++ getE L b O) w' ∧ Stp w0.heap.size 165 w w' := by
  have hsn : O.second.toList.isEmpty = true := by rw [empty_iff]; simpa using h2
  have X0 := hide (hS.alloc (.cells O.cells 36))
  have T0 := hide (Stp.below (o := 165) (below_box w (.cells O.cells 36)) hS.lt)
  have L0 := hide (below_box w (.cells O.cells 36))
  have G0 := hide (heap_alloc_new w (.cells O.cells 36))
  clear hS h2
  go_enter Tryz.func30, Tryz.ntmps30
  go_wp2_with fail
  refine (sight_any X0.out b hb).mono ?_
  rintro e w1 ⟨v, rfl, ho, hb1⟩
  have S1 := hide (X0.out.below hb1)
  have T1 := hide (T0.out.trans (X0.out.stp hb1 165))
  have N1 := hide (numk_own X0.out hb1 ho)
  have G1 := hide (show w1.heap[w.heap.size]? = some (.cells O.cells 36 (0, 0)) by rw [hb1.block _ (by simp)]; exact G0.out)
  have o4 : w1.cell? ⟨w.heap.size, 4, none⟩ = some (.string O.second) := by rw [cell_of_row _ _ _ _ _ _ G1.out]; rfl
  obtain ⟨av, cap, rfl⟩ := ho.shape
  clear ho hb1 X0 T0 L0 G0
  have hsl := sight_len L b
  go_wp2_with (refine wl_wanted rfl (wp_load_row 36 (.tmp 5) rfl w.heap.size rfl 36 O.cells (0, 0) _ G1.out Tryz.underlying36 rfl Tryz.sizeOrder ?_))
  refine (meant_any S1.out N1.out (fun x hx => sight_lt hx) (by omega) O hn0 hn1).mono ?_
  rintro e w2 ⟨v', rfl, hK, hb2⟩
  have S2 := hide (S1.out.below hb2)
  have T2 := hide (T1.out.trans (S1.out.stp hb2 165))
  have N2 := hide hK
  obtain ⟨av2, cap2, rfl⟩ := hK.shape
  have HM := hide (fun x (hx : x ∈ meantL L (sightL L b) O.nth O.all O.name) => sight_lt (meant_mem hx))
  have hml : (meantL L (sightL L b) O.nth O.all O.name).length ≤ 9 := by
    have h1 := List.length_filter_le (fits L O.name) (sightL L b)
    unfold meantL nthL
    split
    · omega
    · split <;> simp
  have HL := hide (show getL L b O = (takeS L b (meantL L (sightL L b) O.nth O.all O.name)).1 from rfl)
  have HE := hide (show getE L b O = sigE L b (meantL L (sightL L b) O.nth O.all O.name) noThingS ++ (takeS L b (meantL L (sightL L b) O.nth O.all O.name)).2 from rfl)
  clear hK hb2 S1 T1 N1 G1 o4 hsl hsn
  generalize meantL L (sightL L b) O.nth O.all O.name = q at *
  generalize hn : q.length = n at *
  have HNn := hide hn
  clear hn
  cases hz : decide (n = 0) with
  | true =>
    have hz0 : n = 0 := by simpa using hz
    subst hz0
    have hq0 : q = [] := List.eq_nil_of_length_eq_zero HNn.out
    have HE2 := hide (show getE L b O = [tellE L b noThingS] by rw [HE.out, hq0]; rfl)
    have HL2 := hide (show getL L b O = L by rw [HL.out, hq0]; rfl)
    clear hz hq0
    go_wp2_with fail
    refine (rtell_any S2.out b hb _ (by omega)).mono ?_
    rintro e w3 ⟨rfl, S3h, T3h⟩
    have S3 := hide S3h
    have T3 := hide (T2.out.trans T3h)
    clear S3h T3h S2 T2 N2
    go_wp2_with fail
    go_loopw [45] (fun c wr => c = .int .i64 0 ∧ wr = w3) (fun _ _ => 0)
    case atStart => exact ⟨rfl, rfl⟩
    case round =>
      obtain ⟨rfl, rfl⟩ := hrel
      go_wp2
      go_end0
      exact ⟨rfl, by rw [HL2.out, HE2.out]; exact S3.out, T3.out⟩
  | false =>
    have hz0 : n ≠ 0 := by simpa using hz
    have hzi : ((n : Int) == 0) = false := by simp; omega
    have hq0 : q ≠ [] := fun e => by have := HNn.out; rw [e] at this; simp at this; omega
    have HE2 := hide (show getE L b O = (takeS L b q).2 by rw [HE.out]; unfold sigE; rw [if_neg hq0]; rfl)
    clear hz hq0
    go_wp2_with fail
    go_loopw [45] (fun c wr => ∃ k : Nat, k ≤ n ∧ c = .int .i64 k ∧ Sn 47 [] w0 (takeS L b (q.take k)).1 (Es ++ (takeS L b (q.take k)).2) wr ∧ Stp w0.heap.size 165 w wr ∧ NumK w0.heap.size 165 wr (.slice av2 n cap2) q) (fun c _ => n - (intOf c).toNat)
    case atStart => exact ⟨0, by omega, rfl, by simpa [takeS] using S2.out, T2.out, N2.out⟩
    case round =>
      obtain ⟨k, hle, rfl, Rh, Th, Nh⟩ := hrel
      have R := hide Rh
      have TT := hide Th
      have N := hide Nh
      clear Rh Th Nh S2 T2 N2
      by_cases hk : k < n
      · have hkq : k < q.length := by rw [HNn.out]; exact hk
        obtain ⟨bq, off, cap', e, hcell⟩ := N.out.cell hkq
        rw [HNn.out] at e
        injection e with e1 e2 e3
        subst e1 e3
        obtain ⟨i, ei, hi⟩ := HM.out _ (getD_mem hkq)
        have HT := hide (show takeS L b (q.take (k + 1)) = gstep b (takeS L b (q.take k)) (i : Int) by rw [take_next L b hkq, ei])
        rw [ei] at hcell
        have htl : (takeS L b (q.take k)).2.length ≤ 9 := by rw [take_len]; simp; omega
        clear ei
        go_wp2_with fail
        refine (revent_any R.out 3 b hb).mono ?_
        rintro e w3 ⟨rfl, hb3⟩
        have R3 := hide (R.out.below hb3)
        have T3 := hide (TT.out.trans (R.out.stp hb3 165))
        have N3 := hide (N.out.step (R.out.stp hb3 165))
        clear hb3 R TT N
        go_wp2_with fail
        refine (rmove_any R3.out i hi 1 (b : Int) (evN (takeS L b (q.take k)).1 3 b) (by simp only [List.length_append]; omega)).mono ?_
        rintro e w4 ⟨rfl, S4h, T4h⟩
        have S4 := hide S4h
        have T4 := hide (T3.out.trans T4h)
        have N4 := hide (N3.out.step T4h)
        clear S4h T4h R3 T3 N3
        go_wp2
        go_roundw
        case rel => exact ⟨k + 1, by omega, by go_num, by rw [HT.out]; simpa only [gstep, Int.toNat_natCast, List.append_assoc] using S4.out, T4.out, N4.out⟩
        case measure => simp [intOf]; omega
      · have hkn : k = n := by omega
        subst hkn
        have hall : q.take k = q := by rw [← HNn.out]; exact List.take_length
        rw [hall] at R
        clear hall
        go_wp2
        go_end0
        exact ⟨rfl, by rw [HL.out, HE2.out]; exact R.out, TT.out⟩
/-
  A land, and no row yet, laid together: what the program's composite literal comes to; results of three, the first a land.
-/
theorem fold_set (off m : Nat) : ∀ (l : List Value) (k : Nat) (Z : Array Value), ((l.zipIdx k).foldl (fun a (x : Value × Nat) => a.setIfInBounds (off + x.2) x.1) Z)[m]? = if off + k ≤ m ∧ m < off + k + l.length ∧ m < Z.size then l[m - (off + k)]? else Z[m]? := by
  intro l
  induction l with
  | nil => intro k Z; simp; intros; omega
  | cons c l ih =>
    intro k Z
    rw [List.zipIdx_cons, List.foldl_cons, ih]
    simp only [Array.size_setIfInBounds, List.length_cons]
    by_cases h1 : m < Z.size
    · by_cases h2 : off + (k + 1) ≤ m ∧ m < off + (k + 1) + l.length ∧ m < Z.size
      · rw [if_pos h2, if_pos (by omega)]
        obtain ⟨j, hj⟩ : ∃ j, m - (off + k) = j + 1 := ⟨m - (off + k) - 1, by omega⟩
        rw [hj, List.getElem?_cons_succ]
        congr 1; omega
      · rw [if_neg h2, Array.getElem?_setIfInBounds]
        by_cases e : off + k = m
        · rw [if_pos e, if_pos (by omega), if_pos (by omega)]
          rw [show m - (off + k) = 0 by omega]; simp
        · rw [if_neg e, if_neg (by omega)]
    · rw [if_neg (by omega), if_neg (by omega), Array.getElem?_setIfInBounds]
      by_cases e : off + k = m
      · rw [if_pos e, if_neg (by omega), Array.getElem?_eq_none (by omega)]
      · rw [if_neg e]
theorem fill_land (L : Ld) (pre : List Value) (v : Value) (place : Nat → Option (Nat × Nat)) (hp : place 0 = some (0, 165)) (rest : List (Nat × Value)) :
    Instr.fill place (zl.more pre v) ((0, .agg L.cells) :: rest) = Instr.fill place (L.more pre v) rest := by
  have hc : ∀ xs : Array Value, (Value.agg xs).cells = xs := fun _ => rfl
  simp only [Instr.fill, hp, hc]
  rw [if_neg (by simp [L.size, more_size]; omega)]
  refine congrArg (fun z => Instr.fill place z rest) ?_
  apply Array.ext_getElem?
  intro m
  rw [← Array.foldl_toList, Array.toList_zipIdx, fold_set 0 m L.cells.toList 0 (zl.more pre v), more_size]
  simp only [Nat.add_zero, Nat.zero_le, true_and, Nat.zero_add, Array.length_toList, L.size, Nat.sub_zero]
  by_cases hm : m < 165
  · rw [if_pos (by omega), more_get L pre v m hm, Array.getElem?_toList, L.get m hm]
  · rw [if_neg (by omega)]
    unfold Ld.more
    rw [Array.getElem?_append_right (by rw [zl.size]; omega), Array.getElem?_append_right (by rw [L.size]; omega), L.size, zl.size]
theorem Tryz.zScene : (Tryz.prog.info? 47).map (fun i => (i.zero, i.size)) = some (some (.agg (zl.more [] (.slice none 0 0))), 166) := by kernel_rfl
theorem Tryz.pScene : (Tryz.prog.fieldsOf 47).toList.mapM (fun f => (Tryz.prog.info? f.type).map fun i => (f.offset, i.size)) = some [(0, 165), (165, 1)] := by kernel_rfl
theorem built_scene (L : Ld) : Tryz.prog.built 47 [(0, .agg L.cells)] = some (L.more [] (.slice none 0 0)) := by
  obtain ⟨hz, hs⟩ := zero_of_info Tryz.zScene
  cases hi : Tryz.prog.info? 47 with
  | none => rw [hi] at hs; simp at hs
  | some it =>
    have hz' : it.zero = some (.agg (zl.more [] (.slice none 0 0))) := by
      have := Tryz.zScene
      rw [hi] at this
      simp at this
      exact this.1
    have hu : Tryz.prog.underlying 47 = some (.struct (Tryz.prog.fieldsOf 47)) := by simp [Program.fieldsOf, Tryz.underlying47]
    unfold Program.built
    simp only [hi, hu, hz', Tryz.pScene]
    exact fill_land L [] (.slice none 0 0) _ rfl []
/-- Three results, the first one a land in a block. -/
theorem res_land {fn : Func} {p u t : Tmp} (h : fn.results = #[.cell p 34, .tmp u, .tmp t]) (tmps : Array Value) (w : World) (g : Nat) (L : Ld) (x y : Value)
    (hp : tmps.getD p undef = .pointer (some ⟨g, 0, none⟩)) (hx : tmps.getD u undef = x) (hy : tmps.getD t undef = y) (hg : w.heap[g]? = some (.cells L.cells 34 (0, 0))) :
    (results fn tmps).run Tryz.prog w = .ok (.tuple #[.agg L.cells, x, y]) w := by
  have hp' : tmps[p]?.getD undef = .pointer (some ⟨g, 0, none⟩) := by simpa using hp
  have hx' : tmps[u]?.getD undef = x := by simpa using hx
  have hy' : tmps[t]?.getD undef = y := by simpa using hy
  have hl := run_loadVar_row (P := Tryz.prog) w g 34 34 L.cells (0, 0) _ hg Tryz.underlying34 rfl (by rw [L.size]; exact Tryz.sizeLand)
  simp [results, h, hp', hx', hy', asAddr, hl]
theorem land_one (L : Ld) : L.cells.all (·.oneCell') = true := by
  refine Array.all_eq_true_iff_forall_mem.2 fun v hv => ?_
  obtain ⟨i, hi⟩ := Array.getElem?_of_mem hv
  have hlt : i < 165 := by
    have := (Array.getElem?_eq_some_iff.1 hi).1
    rw [L.size] at this; exact this
  rw [L.get i hlt] at hi
  injection hi with hi
  rw [← hi]
  unfold Ld.cellAt
  split
  · unfold Ld.roomCell; split <;> (try rfl); split <;> rfl
  · split
    · unfold Ld.thingCell; split <;> rfl
    · unfold Ld.beingCell; split <;> rfl
/-
  What a being is to do, where it goes, or takes what lies about; Do: contracts.
-/
set_option maxRecDepth 100000 in
set_option maxHeartbeats 2000000 in
theorem act_go {w0 : World} {L : Ld} {Es : List Ev} {w : World} (hS : Sn 47 [] w0 L Es w) (hf : Fine L) (hg : goodL L = true) (hvb : Vb w0) (b d : Nat) (hb : b < 6) (hd : d < 6) (O : Od) (hv : O.verb = (d : Int)) (hlen : Es.length ≤ 800000) :
    Calls Tryz.prog 9 #[.pointer (some ⟨w0.heap.size, 0, none⟩), .int .i64 (b : Int), .agg O.cells] w fun e w' => e = .returned (.tuple #[]) ∧ Sn 47 [] w0 (walkL L b d) (Es ++ walkE L b d) w' ∧ Stp w0.heap.size 165 w w' := by
  have hv6 : (O.verb == 6) = false := by rw [hv]; simp; omega
  have hv7 : (O.verb == 7) = false := by rw [hv]; simp; omega
  have hv8 : (O.verb == 8) = false := by rw [hv]; simp; omega
  have hv9 : (O.verb == 9) = false := by rw [hv]; simp; omega
  have hv10 : (O.verb == 10) = false := by rw [hv]; simp; omega
  have hv11 : (O.verb == 11) = false := by rw [hv]; simp; omega
  have hv12 : (O.verb == 12) = false := by rw [hv]; simp; omega
  have hv13 : (O.verb == 13) = false := by rw [hv]; simp; omega
  have hv14 : (O.verb == 14) = false := by rw [hv]; simp; omega
  have hv15 : (O.verb == 15) = false := by rw [hv]; simp; omega
  have hv16 : (O.verb == 16) = false := by rw [hv]; simp; omega
  have hv17 : (O.verb == 17) = false := by rw [hv]; simp; omega
  have hv18 : (O.verb == 18) = false := by rw [hv]; simp; omega
  have hv19 : (O.verb == 19) = false := by rw [hv]; simp; omega
  have hv20 : (O.verb == 20) = false := by rw [hv]; simp; omega
  have X0 := hide (hS.alloc (.cells O.cells 36))
  have T0 := hide (Stp.below (o := 165) (below_box w (.cells O.cells 36)) hS.lt)
  have HV := hide hv
  have HS := hide hS
  clear hS hv
  unfold Od.cells
  go_enter Tryz.func9, Tryz.ntmps9
  go_wp2_with fail
  have C := rwalk_any X0.out hf hg hvb b d hb hd hlen
  rw [← HV.out] at C
  refine C.mono ?_
  clear C
  rintro e w1 ⟨rfl, S1h, T1h⟩
  have A := hide S1h
  have B := hide (T0.out.trans T1h)
  clear S1h T1h
  go_wp2
  go_end0
  exact ⟨rfl, A.out, B.out⟩

set_option maxRecDepth 100000 in
set_option maxHeartbeats 2000000 in
theorem act_get {w0 : World} {L : Ld} {Es : List Ev} {w : World} (hS : Sn 47 [] w0 L Es w) (b : Nat) (hb : b < 6) (O : Od) (hv : O.verb = 7) (h2 : O.second = ⟨#[]⟩) (hn0 : -9223372036854775808 ≤ O.nth) (hn1 : O.nth ≤ 9223372036854775807) (hlen : Es.length ≤ 900000) :
    Calls Tryz.prog 9 #[.pointer (some ⟨w0.heap.size, 0, none⟩), .int .i64 (b : Int), .agg O.cells] w fun e w' => e = .returned (.tuple #[]) ∧ Sn 47 [] w0 (getL L b O) (Es ++ getE L b O) w' ∧ Stp w0.heap.size 165 w w' := by
  have hv6 : (O.verb == 6) = false := by rw [hv]; rfl
  have hv7 : (O.verb == 7) = true := by rw [hv]; rfl
  have X0 := hide (hS.alloc (.cells O.cells 36))
  have T0 := hide (Stp.below (o := 165) (below_box w (.cells O.cells 36)) hS.lt)
  have G0 := hide (heap_alloc_new w (.cells O.cells 36))
  have c0 : (w.alloc (.cells O.cells 36)).cell? ⟨w.heap.size, 0, none⟩ = some (.int .i64 O.verb) := by rw [cell_of_row _ _ _ _ _ _ G0.out]; rfl
  clear hS hv
  go_enter Tryz.func9, Tryz.ntmps9
  go_wp2_with (refine wl_wanted rfl (wp_load_row 36 (.tmp 5) rfl w.heap.size rfl 36 O.cells (0, 0) _ G0.out Tryz.underlying36 rfl Tryz.sizeOrder ?_))
  refine (rget_any X0.out b hb O h2 hn0 hn1 hlen).mono ?_
  rintro e w1 ⟨rfl, S1h, T1h⟩
  have A := hide S1h
  have B := hide (T0.out.trans T1h)
  clear S1h T1h
  go_wp2
  go_end0
  exact ⟨rfl, A.out, B.out⟩
/-
  Do: its contract, by what act does.
-/
/-- What the last region's loads read: the land, and the row. -/
structure Hr (g : Nat) (L : Ld) (v : Value) (W : World) : Prop where
  land : W.rangeAt g 0 L.cells.toList
  row : W.cell? ⟨g, 165, none⟩ = some v

theorem sn_start (L : Ld) (w0 : World) : Sn 47 [] w0 L [] (w0.alloc (.cells (L.more [] (.slice none 0 0)) 47)) :=
  ⟨⟨_, heap_alloc_new w0 _, World.ownsRow_nil _ _ _ _⟩, below_box w0 _⟩
theorem setRow_off (w : World) (k j : Nat) (cs : Array Value) (h : j ≠ k) : (w.setRow k cs).heap[j]? = w.heap[j]? := by
  unfold World.setRow
  simp only [Array.getElem?_modify]
  rw [if_neg (fun e => h e.symm)]
theorem Hr.setRow {g k : Nat} {L : Ld} {v : Value} {W : World} (h : Hr g L v W) (hk : g ≠ k) {cs : Array Value} : Hr g L v (W.setRow k cs) := by
  have e := setRow_off W k g cs hk
  exact ⟨fun j x hx => by rw [← h.land j x hx]; simp only [World.cell?, e], by rw [← h.row]; simp only [World.cell?, e]⟩
theorem own_setRow {w : World} {base base' n k : Nat} {v : Value} {xs : List Value} {cs : Array Value} (h : w.ownsRow base 62 16 v n xs) (hb : base' ≤ base ∧ k < base) : (w.setRow k cs).ownsRow base' 62 16 v n xs := by
  refine ⟨h.1, ?_⟩
  rcases h.2 with hn | ⟨g, cap, cur, rfl, h1, h2, h3⟩
  · exact .inl hn
  · exact .inr ⟨g, cap, cur, rfl, by omega, by rw [setRow_off _ _ _ _ (by omega)]; exact h2, h3⟩
theorem exec_storeland {a : Act} {op : Oper} {w : World} (x y : Operand) (ho : op.op = .store 34 x y) {k : Nat} {L : Ld} {old : Array Value} (hx : a.eval x = .pointer (some ⟨k, 0, none⟩)) (hy : a.eval y = .agg L.cells)
    (hg : w.heap[k]? = some (.cells old 34 (0, 0))) (hs : old.size = 165) : (execOp a.eval op).run Tryz.prog w = .ok .skip (w.setRow k L.cells) := by
  have := run_storeVar_row (P := Tryz.prog) w k 34 34 old L.cells hg (by rw [L.size]; exact Tryz.sizeLand) (by rw [hs, L.size]) (land_one L)
  unfold execOp
  simp only [ho, hx, hy, Instr.storeAt, Instr.sureAddr, Sem.run_bind, Sem.run_pure, Result.andThen_ok, this]

set_option maxRecDepth 100000 in
set_option maxHeartbeats 4000000 in
theorem do_any (L L' : Ld) (Fs : List Ev) (b : Nat) (O : Od) (w : World) (hvb : Vb w) (hwf : Wf L) (hg : goodL L = true) (hb : b < 6) (hh : L.here b = true) (hv0 : 0 ≤ O.verb) (hv1 : O.verb ≤ 20)
    (hact : ∀ w0 w, Vb w0 → Sn 47 [] w0 L [] w → Calls Tryz.prog 9 #[.pointer (some ⟨w0.heap.size, 0, none⟩), .int .i64 (b : Int), .agg O.cells] w fun e w' => e = .returned (.tuple #[]) ∧ Sn 47 [] w0 L' Fs w' ∧ Stp w0.heap.size 165 w w') :
    Calls Tryz.prog 4 #[.agg L.cells, .int .i64 (b : Int), .agg O.cells] w fun e w' => ∃ v, e = .returned (.tuple #[.agg L'.cells, v, .int .i64 0]) ∧ w'.ownsRow w.heap.size 62 16 v Fs.length (evc Fs) ∧ Below w.heap.size w w' := by
  have hz := (zero_of_info Tryz.zLand).1
  have HA := hide hact
  have HVB := hide hvb
  have hbi : (b : Int) < 6 := by omega
  clear hact hvb
  have C0 := hide (((cod_new w L).alloc (.cells O.cells 36)).alloc (.cells zl.cells 34))
  have O0 := hide (show (((w.alloc (.cells L.cells 34)).alloc (.cells O.cells 36)).alloc (.cells zl.cells 34)).heap[w.heap.size + 1]? = some (.cells O.cells 36 (0, 0)) by
    rw [Below.heap_alloc _ _ _ (by simp)]
    have := heap_alloc_new (w.alloc (.cells L.cells 34)) (.cells O.cells 36)
    rw [World.size_alloc] at this; exact this)
  have R0 := hide (show (((w.alloc (.cells L.cells 34)).alloc (.cells O.cells 36)).alloc (.cells zl.cells 34)).heap[w.heap.size + 2]? = some (.cells zl.cells 34 (0, 0)) by
    have := heap_alloc_new ((w.alloc (.cells L.cells 34)).alloc (.cells O.cells 36)) (.cells zl.cells 34)
    rw [World.size_alloc, World.size_alloc] at this; exact this)
  have B0 := hide (((below_box w (.cells L.cells 34)).alloc (by simp) (.cells O.cells 36)).alloc (by simp; omega) (.cells zl.cells 34))
  go_enter Tryz.func4, Tryz.ntmps4
  go_wp2_with (refine wl_land (.tmp 3) rfl rfl _ L rfl C0.out ?_)
  refine (good_any L _ hwf).mono ?_
  rintro e w1 ⟨rfl, hb1⟩
  have C1 := hide (C0.out.behind hb1 (Nat.le_refl _))
  have O1 := hide (show w1.heap[w.heap.size + 1]? = some (.cells O.cells 36 (0, 0)) by rw [hb1.block _ (by simp)]; exact O0.out)
  have R1 := hide (show w1.heap[w.heap.size + 2]? = some (.cells zl.cells 34 (0, 0)) by rw [hb1.block _ (by simp)]; exact R0.out)
  have B1 := hide (B0.out.trans (hb1.mono (by simp; omega)))
  have ch : w1.cell? ⟨w.heap.size, 129 + b * 6 + 1, none⟩ = some (.bool true) := by rw [C1.out.being b 1 hb (by omega)]; simp [Ld.beingCell, hh]
  have cv : w1.cell? ⟨w.heap.size + 1, 0, none⟩ = some (.int .i64 O.verb) := by rw [cell_of_row _ _ _ _ _ _ O1.out]; rfl
  rw [hg]
  clear hb1 C0 O0 R0 B0 hg hh
  go_wp2_with (first | (refine wl_land (.tmp 3) rfl rfl _ L rfl C1.out ?_) | (refine wl_build 47 #[(0, .tmp 41)] rfl ?hh _ _ (built_scene L) ?hv ?_) | (refine wl_wanted rfl (wp_load_row 36 (.tmp 5) rfl (w.heap.size + 1) rfl 36 O.cells (0, 0) _ (by rw [Below.heap_alloc _ _ _ ((Array.getElem?_eq_some_iff.1 O1.out).1)]; exact O1.out) Tryz.underlying36 rfl Tryz.sizeOrder ?_)))
  refine (HA.out w1 _ (HVB.out.below B1.out (Nat.le_refl _)) (sn_start L w1)).mono ?_
  rintro e w2 ⟨rfl, S2, T2⟩
  obtain ⟨v, hv, ho⟩ := S2.ex
  obtain ⟨av, cap, rfl⟩ := shapeE ho
  have hlt1 : w.heap.size + 2 < w1.heap.size := (Array.getElem?_eq_some_iff.1 R1.out).1
  have HR : Hr w1.heap.size L' (.slice av Fs.length cap) w2.drew := ⟨S2.land, by
    show w2.cell? _ = _
    rw [cell_of_row _ _ _ _ _ _ hv]; exact more_row L' [] _⟩
  have RR : w2.drew.heap[w.heap.size + 1 + 1]? = some (.cells zl.cells 34 (0, 0)) := by
    show w2.heap[w.heap.size + 1 + 1]? = _
    rw [S2.low.block _ (by omega)]; exact R1.out
  have OW : w2.drew.ownsRow (w1.heap.size + 1) 62 16 (.slice av Fs.length cap) Fs.length (evc Fs) := ho
  have BB : Below w.heap.size w w2.drew := (B1.out.trans (S2.low.mono B1.out.size)).drew
  have hne : w1.heap.size ≠ w.heap.size + 1 + 1 := by omega
  clear S2 T2 hv ho ch cv C1 O1 R1 B1 HA
  go_wp2_with fail
  refine wp_region_held (S := Hr w1.heap.size L' (.slice av Fs.length cap)) (by kernel_rfl) ?_
  change wpAnyH _ _ _ _ _ _ _ _ w2.drew
  generalize w2.drew = W0 at *
  refine tw (i := 0) (d := some 48) (fuel := 10) (v := ?_) rfl rfl ?_ HR ?_
  rotate_left
  · intro W hW
    have hc := hW.row
    go_simp
    try with_reducible rfl
  simp only [Act.put, sT, List.set]
  refine tw (i := 1) (d := some 49) (fuel := 9) (v := ?_) rfl rfl ?_ HR ?_
  rotate_left
  · intro W hW
    have hc := hW.row
    go_simp
    try with_reducible rfl
  simp only [Act.put, sT, List.set]
  refine tw (i := 2) (d := some 50) (fuel := 8) (v := ?_) rfl rfl ?_ HR ?_
  rotate_left
  · intro W hW
    have hc := hW.row
    go_simp
    try with_reducible rfl
  simp only [Act.put, sT, List.set]
  refine tk (i := 3) (d := some 51) (fuel := 7) (v := .agg L'.cells) rfl rfl (Or.inl ⟨by rfl, fun W hW => exec_land' (.tmp 50) rfl rfl hW.land⟩) HR ?_
  simp only [Act.put, sT, List.set]
  refine tw (i := 4) (d := some 52) (fuel := 6) (v := ?_) rfl rfl ?_ HR ?_
  rotate_left
  · intro W hW
    have hc := hW.row
    go_simp
    try with_reducible rfl
  simp only [Act.put, sT, List.set]
  refine tw (i := 5) (d := some 53) (fuel := 5) (v := ?_) rfl rfl ?_ HR ?_
  rotate_left
  · intro W hW
    have hc := hW.row
    go_simp
    try with_reducible rfl
  simp only [Act.put, sT, List.set]
  refine tw (i := 6) (d := some 54) (fuel := 4) (v := ?_) rfl rfl ?_ HR ?_
  rotate_left
  · intro W hW
    have hc := hW.row
    go_simp
    try with_reducible rfl
  simp only [Act.put, sT, List.set]
  refine tw (i := 7) (d := some 55) (fuel := 3) (v := ?_) rfl rfl ?_ HR ?_
  rotate_left
  · intro W hW
    have hc := hW.row
    go_simp
    try with_reducible rfl
  simp only [Act.put, sT, List.set]
  refine wpAnyH_all (fuel := 2) (rs := [8]) (by kernel_rfl) (by simp) ?_
  intro i hi
  obtain rfl : i = 8 := by simpa using hi
  clear hi
  refine skip_at (d := none) rfl rfl (by rfl) (exec_storeland (.tmp 6) (.tmp 51) rfl (k := (w.heap.size + 1 + 1)) (L := L') (old := zl.cells) rfl rfl RR zl.size) ?_
  have HR2 := HR.setRow hne (cs := L'.cells)
  refine ⟨HR2, ?_⟩
  simp only [Act.put]
  refine tw (i := 9) (d := some 7) (fuel := 1) (v := ?_) rfl rfl ?_ HR2 ?_
  rotate_left
  · intro W hW; go_simp; try with_reducible rfl
  simp only [Act.put, sT, List.set]
  refine tw (i := 10) (d := some 8) (fuel := 0) (v := ?_) rfl rfl ?_ HR2 ?_
  rotate_left
  · intro W hW; go_simp; try with_reducible rfl
  simp only [Act.put, sT, List.set]
  refine wpAnyH_done (by kernel_rfl) ?_ _
  go_wp2
  refine bodyPost_ret (v := .tuple #[.agg L'.cells, .slice av Fs.length cap, .int .i64 0]) (res_land rfl _ _ (w.heap.size + 1 + 1) L' _ _ rfl rfl rfl (setRow_heap _ _ _ _ _ _ RR)) rfl ⟨_, rfl, own_setRow OW ⟨by omega, by omega⟩, below_setRow BB (by omega) _⟩
end Go.Proofs.YtaifjndkgfffpaaGreatDoor
