/-
  Those that are meant of things; a thing is moved; what lies about is taken: contracts.
-/
import Derived.Test.YtaifjndkgfffpaaDoorMgAR
namespace Go.Proofs.YtaifjndkgfffpaaDoor
open Go.RowKit
set_option linter.unusedVariables false

/-- An order. -/
structure Od where
  verb : Int
  nth : Int
  all : Bool
  name : ByteArray
  second : ByteArray
  text : ByteArray
def Od.cells (O : Od) : Array Value := #[.int .i64 O.verb, .int .i64 O.nth, .bool O.all, .string O.name, .string O.second, .string O.text]
theorem Tryd.sizeOrder : (Tryd.prog.info? 47).map (·.size) = some 6 := by kernel_rfl

def nthL (q : List Int) (n : Int) : List Int := if n < 1 ∨ (q.length : Int) < n then [] else [q.getD (n - 1).toNat 0]
def fits (L : Ld) (name : ByteArray) (i : Int) : Bool := decide (name = ⟨#[]⟩) || decide (L.tname i.toNat = name)
def meantL (L : Ld) (q : List Int) (nth : Int) (all : Bool) (name : ByteArray) : List Int := if all = true then q.filter (fits L name) else nthL (q.filter (fits L name)) nth

theorem nth_mem {q : List Int} {n x : Int} (h : x ∈ nthL q n) : x ∈ q := by
  unfold nthL at h
  split at h
  · simp at h
  · rename_i hn
    rw [List.mem_singleton.1 h]
    exact getD_mem (by omega)
theorem meant_mem {L : Ld} {q : List Int} {n : Int} {all : Bool} {name : ByteArray} {x : Int} (h : x ∈ meantL L q n all name) : x ∈ q := by
  unfold meantL at h
  split at h
  · exact (List.mem_filter.1 h).1
  · exact (List.mem_filter.1 (nth_mem h)).1
theorem toList_eq {a b : ByteArray} : (a.toList == b.toList) = decide (a = b) := by
  rw [Bool.eq_iff_iff]
  simp only [beq_iff_eq, decide_eq_true_eq, Lib.toList_data]
  constructor
  · intro h; rw [← bs_of a, h, bs_of]
  · intro h; rw [h]
theorem empty_iff {a : ByteArray} : a.toList.isEmpty = decide (a = ⟨#[]⟩) := by
  rw [Bool.eq_iff_iff]
  simp only [List.isEmpty_iff, decide_eq_true_eq, Lib.toList_data]
  constructor
  · intro h; rw [← bs_of a, h]; rfl
  · intro h; rw [h]

theorem NumK.part {g o : Nat} {w : World} {b off cap : Nat} {q : List Int} {k : Nat} (h : NumK g o w (.slice (some ⟨b, off, none⟩) q.length cap) q) (hk : k < q.length) :
    NumK g o w (.slice (some ⟨b, off + k, none⟩) 1 (cap - k)) [q.getD k 0] := by
  obtain ⟨av, cap', e, hl, hm, hc⟩ := h.nums
  injection e with e1 e2 e3
  subst e1 e3
  obtain ⟨b', off', e, hcell⟩ := hc (by omega)
  injection e with e; injection e with e1 e2
  subst e1 e2
  refine ⟨⟨_, cap - k, rfl, by simp; omega, by omega, fun _ => ⟨b, off + k, rfl, fun i hi => ?_⟩⟩, fun b' off' n c _ e => ?_⟩
  · have : i = 0 := by simp at hi; omega
    subst this
    have := hcell k hk
    simpa using this
  · injection e with e; injection e with e; injection e with e1
    subst e1
    exact h.kept b off _ _ (by omega) rfl
theorem numk_nil (g o : Nat) (w : World) : NumK g o w (.slice none 0 0) [] := ⟨⟨none, 0, rfl, Nat.le_refl _, Nat.zero_le _, fun h => by simp at h⟩, fun _ _ _ _ h => by simp at h⟩

set_option maxRecDepth 100000 in
set_option maxHeartbeats 1000000 in
theorem rnth_any {g o : Nat} {w : World} {v : Value} {q : List Int} (hN : NumK g o w v q) (hlen : q.length ≤ 18) (n : Int) (hn0 : -9223372036854775808 ≤ n) (hn1 : n ≤ 9223372036854775807) :
    Calls Tryd.prog 100 #[v, .int .i64 n] w fun e w' => ∃ v', e = .returned v' ∧ NumK g o w v' (nthL q n) ∧ w' = w := by
  by_cases h1 : n < 1
  · obtain ⟨av, cap, rfl⟩ := hN.shape
    have HV := hide (show nthL q n = [] by unfold nthL; rw [if_pos (.inl h1)])
    clear hN
    go_enter Tryd.func100, Tryd.ntmps100
    go_wp2
    go_ret
    exact ⟨_, rfl, by rw [HV.out]; exact numk_nil _ _ _, rfl⟩
  · by_cases h2 : (q.length : Int) < n
    · obtain ⟨av, cap, rfl⟩ := hN.shape
      have HV := hide (show nthL q n = [] by unfold nthL; rw [if_pos (.inr h2)])
      clear hN
      go_enter Tryd.func100, Tryd.ntmps100
      go_wp2
      go_ret
      exact ⟨_, rfl, by rw [HV.out]; exact numk_nil _ _ _, rfl⟩
    · obtain ⟨k, rfl⟩ : ∃ k : Nat, n = (k : Int) + 1 := ⟨(n - 1).toNat, by omega⟩
      have hk : k < q.length := by omega
      obtain ⟨b, off, cap, e, hl, hm, _⟩ := hN.nums.some (by omega)
      subst e
      have HV := hide (show nthL q ((k : Int) + 1) = [q.getD k 0] by unfold nthL; rw [if_neg (by omega)]; congr 2; omega)
      have HP := hide (hN.part hk)
      generalize hq : q.length = m at *
      have hw : wrap64 ((k : Int) + 1 - 1) = (k : Int) := by rw [show (k : Int) + 1 - 1 = (k : Int) by omega]; simp only [wrap64]; omega
      clear hN hn0 hn1 h1 h2
      go_enter Tryd.func100, Tryd.ntmps100
      go_wp2
      go_ret
      exact ⟨_, rfl, by rw [HV.out]; exact HP.out, rfl⟩

/-- A round's head. -/
structure MtRel (L : Ld) (O : Od) (q : List Int) (w : World) (u : Value) (k : Nat) (wr : World) : Prop where
  ord : wr.heap[w.heap.size]? = some (.cells O.cells 47 (0, 0))
  own : OwnI (w.heap.size + 1) wr u ((q.take k).filter (fits L O.name))
  low : Below w.heap.size w wr
section
variable {L : Ld} {O : Od} {q : List Int} {w : World} {u u' : Value} {k : Nat} {wr wr' : World}
theorem MtRel.lt (h : MtRel L O q w u k wr) : w.heap.size < wr.heap.size := (Array.getElem?_eq_some_iff.1 h.ord).1
theorem MtRel.call (h : MtRel L O q w u k wr) (hb : Below wr.heap.size wr wr') : MtRel L O q w u k wr' :=
  ⟨by rw [hb.block _ h.lt]; exact h.ord, h.own.below hb, h.low.trans (hb.mono h.low.size)⟩
theorem MtRel.drewN (h : MtRel L O q w u k wr) (n : Nat) : MtRel L O q w u k (wr.drewN n) := h.call (below_drewN (Below.refl _ _) n)
theorem MtRel.cell (h : MtRel L O q w u k wr) :
    wr.cell? ⟨w.heap.size, 1, none⟩ = some (.int .i64 O.nth) ∧ wr.cell? ⟨w.heap.size, 2, none⟩ = some (.bool O.all) ∧ wr.cell? ⟨w.heap.size, 3, none⟩ = some (.string O.name) :=
  ⟨by rw [cell_of_row wr _ _ _ _ _ h.ord]; rfl, by rw [cell_of_row wr _ _ _ _ _ h.ord]; rfl, by rw [cell_of_row wr _ _ _ _ _ h.ord]; rfl⟩
theorem MtRel.skip (h : MtRel L O q w u k wr) (hk : k < q.length) (hf : fits L O.name (q.getD k 0) = false) : MtRel L O q w u (k + 1) wr := by
  refine ⟨h.ord, ?_, h.low⟩
  rw [take_snoc hk, List.filter_append]
  simp only [List.filter_cons, hf, List.filter_nil, if_false, Bool.false_eq_true, List.append_nil]
  exact h.own
theorem MtRel.grow (h : MtRel L O q w u k wr) (hk : k < q.length) (hf : fits L O.name (q.getD k 0) = true)
    (ho : wr'.ownsRow (w.heap.size + 1) 3 1 u' (((q.take k).filter (fits L O.name)).length + 1) (icells ((q.take k).filter (fits L O.name)) ++ [.int .i64 (q.getD k 0)])) (hg : wr.grownBy wr' u.ownBlock) : MtRel L O q w u' (k + 1) wr' := by
  have hlt := h.lt
  have hb : Below (w.heap.size + 1) wr wr' := (Below.refl _ _ : Below (w.heap.size + 1) wr wr).grown hg (by omega) (fun j hj => (h.own.lt j (by simpa using hj)).1)
  refine ⟨by rw [hb.block _ (by omega)]; exact h.ord, ?_, h.low.trans (hb.mono (by omega))⟩
  rw [take_snoc hk, List.filter_append]
  simp only [List.filter_cons, hf, List.filter_nil, if_true]
  unfold OwnI
  simpa [icells] using ho
theorem filter_len (q : List Int) (k : Nat) (f : Int → Bool) (h : q.length ≤ 18) : ((q.take k).filter f).length ≤ 18 := by
  have := List.length_filter_le f (q.take k)
  have h2 : (q.take k).length ≤ q.length := by simp; omega
  omega
end

set_option maxRecDepth 100000 in
set_option maxHeartbeats 2000000 in
theorem meant_any {w0 : World} {L : Ld} {Es : List Ev} {w : World} (hS : Sn 62 [] w0 L Es w) {v : Value} {q : List Int} (hN : NumK w0.heap.size 165 w v q) (hq : ∀ x ∈ q, ∃ i : Nat, x = (i : Int) ∧ i < 9) (hlen : q.length ≤ 18)
    (O : Od) (hn0 : -9223372036854775808 ≤ O.nth) (hn1 : O.nth ≤ 9223372036854775807) :
    Calls Tryd.prog 86 #[.pointer (some ⟨w0.heap.size, 0, none⟩), v, .agg O.cells] w fun e w' => ∃ v', e = .returned v' ∧ NumK w0.heap.size 165 w' v' (meantL L q O.nth O.all O.name) ∧ Below w.heap.size w w' := by
  obtain ⟨i0, hi0, hz0, hz1, hz2⟩ := info_parts Tryd.info3
  have HS := hide hS
  have HN := hide hN
  have HQ := hide hq
  obtain ⟨av, cap, rfl⟩ := hN.shape
  clear hS hN hq
  generalize hn : q.length = n at *
  have HNn := hide hn
  clear hn
  unfold Od.cells
  go_enter Tryd.func86, Tryd.ntmps86
  go_wp2
  go_loopw [7, 12] (fun u c wr => ∃ k : Nat, k ≤ n ∧ c = .int .i64 k ∧ MtRel L O q w u k wr) (fun _ c _ => n - (intOf c).toNat)
  case atStart => exact ⟨0, by omega, rfl, ⟨heap_alloc_new w _, ownI_nil _ _, below_box w _⟩⟩
  case round =>
    obtain ⟨k, hle, rfl, R⟩ := hrel
    obtain ⟨av2, cap2, rfl⟩ := R.own.shape
    have HR := hide R
    obtain ⟨o1, o2, o3⟩ := R.cell
    have hlt := R.lt
    clear R
    by_cases hk : k < n
    · have hkq : k < q.length := by rw [HNn.out]; exact hk
      obtain ⟨b, off, cap', e, hcell⟩ := (HN.out.step (Stp.below (o := 165) HR.out.low HS.out.lt)).cell hkq
      rw [HNn.out] at e
      injection e with e1 e2 e3
      subst e1 e3
      obtain ⟨i, ei, hi⟩ := HQ.out _ (getD_mem hkq)
      have hfl := filter_len q k (fits L O.name) (by rw [HNn.out]; exact hlen)
      have c0 := (HS.out.below HR.out.low).thing i 0 hi (by omega)
      simp only [Nat.add_zero, Ld.thingCell] at c0
      have hci : (i : Int) < 9 := by omega
      have HEI := hide ei
      rw [ei] at hcell
      clear ei
      cases hx : decide (O.name = ⟨#[]⟩) with
      | true =>
        have he : O.name.toList.isEmpty = true := by rw [empty_iff]; exact hx
        have HF := hide (show fits L O.name (q.getD k 0) = true by unfold fits; rw [hx]; rfl)
        clear hx
        go_wp2_with fail
        go_quiet (fail)
        have HR2 := hide (HR.out.drewN nq)
        have ho := (HR2.out.own.below (below_box _ (.cells #[.int .i64 (i : Int)] 3)))
        have HO := hide ho
        have hsz := HR2.out.low.size
        have hsz2 := HR2.out.lt
        have HG : Hid (∀ (u' : Value) (wr' : World), wr'.ownsRow (w.heap.size + 1) 3 1 u' (((q.take k).filter (fits L O.name)).length + 1) (icells ((q.take k).filter (fits L O.name)) ++ [.int .i64 (q.getD k 0)]) → World.grownBy ((wr.drewN nq).alloc (.cells #[.int .i64 (i : Int)] 3)) wr' (Value.slice av2 ((q.take k).filter (fits L O.name)).length cap2).ownBlock → MtRel L O q w u' (k + 1) wr') := fun u' wr' hh hg => (HR2.out.call (below_box _ (.cells #[.int .i64 (i : Int)] 3))).grow hkq HF.out hh hg
        rw [HEI.out] at HG
        clear ho HR c0 o1 o2 o3 hcell
        generalize (q.take k).filter (fits L O.name) = Z at *
        go_wp2_with (at_builtin; refine wpList_append_own_at _ rfl (.tmp 32) (.tmp 34) 71 rfl (w.heap.size + 1) 3 i0 (.int .i64 0) 1 8 Tryd.underlying71 hi0 hz0 hz1 hz2 rfl (by decide) _ Z.length (icells Z) rfl HO.out ⟨_, 0, none⟩ 1 1 [.int .i64 (i : Int)] rfl ?a1 ?a2 ?a3 ?a4 ?a5 ?a6 ?_)
        case a1 => rfl
        case a2 => exact cell_one_new _ _ _
        case a3 => intro u hu; simp at hu; subst hu; rfl
        case a4 => unfold maxLen; omega
        case a5 => omega
        case a6 => simp at hsz2 ⊢; omega
        intro v' w1 hoo hg _ _
        have N := hide (HG.out _ _ hoo hg)
        obtain ⟨av', cap', rfl⟩ := own_shapeN hoo
        clear hoo hg HG HO
        go_wp2
        go_roundw
        case rel => exact ⟨k + 1, by omega, by go_num, N.out⟩
        case measure => simp [intOf]; omega
      | false =>
        have he : O.name.toList.isEmpty = false := by rw [empty_iff]; exact hx
        cases hy : decide (L.tname i = O.name) with
        | true =>
          have hyl : ((L.tname i).toList == O.name.toList) = true := by rw [toList_eq]; exact hy
          have HF := hide (show fits L O.name (q.getD k 0) = true by unfold fits; rw [hx, HEI.out, Int.toNat_natCast, hy]; rfl)
          clear hx hy
          go_wp2_with fail
          go_quiet (fail)
          have HR2 := hide (HR.out.drewN nq)
          have ho := (HR2.out.own.below (below_box _ (.cells #[.int .i64 (i : Int)] 3)))
          have HO := hide ho
          have hsz := HR2.out.low.size
          have hsz2 := HR2.out.lt
          have HG : Hid (∀ (u' : Value) (wr' : World), wr'.ownsRow (w.heap.size + 1) 3 1 u' (((q.take k).filter (fits L O.name)).length + 1) (icells ((q.take k).filter (fits L O.name)) ++ [.int .i64 (q.getD k 0)]) → World.grownBy ((wr.drewN nq).alloc (.cells #[.int .i64 (i : Int)] 3)) wr' (Value.slice av2 ((q.take k).filter (fits L O.name)).length cap2).ownBlock → MtRel L O q w u' (k + 1) wr') := fun u' wr' hh hg => (HR2.out.call (below_box _ (.cells #[.int .i64 (i : Int)] 3))).grow hkq HF.out hh hg
          rw [HEI.out] at HG
          clear ho HR c0 o1 o2 o3 hcell
          generalize (q.take k).filter (fits L O.name) = Z at *
          go_wp2_with (at_builtin; refine wpList_append_own_at _ rfl (.tmp 32) (.tmp 34) 71 rfl (w.heap.size + 1) 3 i0 (.int .i64 0) 1 8 Tryd.underlying71 hi0 hz0 hz1 hz2 rfl (by decide) _ Z.length (icells Z) rfl HO.out ⟨_, 0, none⟩ 1 1 [.int .i64 (i : Int)] rfl ?a1 ?a2 ?a3 ?a4 ?a5 ?a6 ?_)
          case a1 => rfl
          case a2 => exact cell_one_new _ _ _
          case a3 => intro u hu; simp at hu; subst hu; rfl
          case a4 => unfold maxLen; omega
          case a5 => omega
          case a6 => simp at hsz2 ⊢; omega
          intro v' w1 hoo hg _ _
          have N := hide (HG.out _ _ hoo hg)
          obtain ⟨av', cap', rfl⟩ := own_shapeN hoo
          clear hoo hg HG HO
          go_wp2
          go_roundw
          case rel => exact ⟨k + 1, by omega, by go_num, N.out⟩
          case measure => simp [intOf]; omega
        | false =>
          have hyl : ((L.tname i).toList == O.name.toList) = false := by rw [toList_eq]; exact hy
          have HF := hide (show fits L O.name (q.getD k 0) = false by unfold fits; rw [hx, HEI.out, Int.toNat_natCast, hy]; rfl)
          clear hx hy
          go_wp2_with fail
          go_quiet (fail)
          have N := hide ((HR.out.drewN nq).skip hkq HF.out)
          clear HR
          go_wp2
          go_roundw
          case rel => exact ⟨k + 1, by omega, by go_num, N.out⟩
          case measure => simp [intOf]; omega
    · have hkn : k = n := by omega
      subst hkn
      have hall : q.take k = q := by rw [← HNn.out]; exact List.take_length
      have hfl := filter_len q k (fits L O.name) (by rw [HNn.out]; exact hlen)
      have HK := hide (numk_own HS.out HR.out.low (HR.out.own.base (Nat.le_succ _)))
      rw [hall] at HK
      rw [hall] at hfl
      rw [hall]
      rw [hall] at HR
      cases ha : O.all with
      | true =>
        have HV := hide (show meantL L q O.nth O.all O.name = q.filter (fits L O.name) by unfold meantL; rw [if_pos ha])
        rw [ha] at o2
        clear hall
        have HA := hide ha
        clear ha
        go_wp2
        go_ret
        exact ⟨_, rfl, by rw [HV.out]; exact HK.out, HR.out.low⟩
      | false =>
        have HV := hide (show meantL L q O.nth O.all O.name = nthL (q.filter (fits L O.name)) O.nth by unfold meantL; rw [if_neg (by simp [ha])])
        rw [ha] at o2
        clear hall
        have HA := hide ha
        clear ha
        go_wp2_with fail
        refine (rnth_any HK.out hfl O.nth hn0 hn1).mono ?_
        rintro e w1 ⟨v', rfl, hK, hw⟩
        have HK2 := hide hK
        rw [hw]
        obtain ⟨av3, cap3, rfl⟩ := hK.shape
        clear hK hw w1
        go_wp2
        go_ret
        exact ⟨_, rfl, by rw [HV.out]; exact HK2.out, HR.out.low⟩
end Go.Proofs.YtaifjndkgfffpaaDoor
