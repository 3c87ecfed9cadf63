/-
  The document's own root, RoomOf, IsBright: contracts.
-/
import Derived.Test.YtdembcpljjgbkadDoorSnRefA
import Derived.Test.YtdembcpljjgbkadDoorSnSees
namespace Go.Proofs.YtdembcpljjgbkadDoor
open Go.RowKit
set_option linter.unusedVariables false

theorem ret_root {L : Ld} {i : Int} {a b : Int} {c d : Bool} (h : rootL L i = (a, b, c, d)) : Ending.returned (.tuple #[.int .i64 a, .int .i64 b, .bool c, .bool d]) = .returned (.tuple #[.int .i64 (rootL L i).1, .int .i64 (rootL L i).2.1, .bool (rootL L i).2.2.1, .bool (rootL L i).2.2.2]) := by rw [h]

theorem resR4 {fn : Func} {a b c d : Tmp} (hf : fn.results = #[.tmp a, .tmp b, .tmp c, .tmp d]) {tmps : Array Value} {w : World} {x y z u : Value}
    (h1 : tmps.getD a undef = x) (h2 : tmps.getD b undef = y) (h3 : tmps.getD c undef = z) (h4 : tmps.getD d undef = u) :
    (results fn tmps).run Tryd.prog w = .ok (.tuple #[x, y, z, u]) w := by
  simp only [Array.getD_eq_getD_getElem?] at h1 h2 h3 h4
  simp only [results, hf]
  simp [h1, h2, h3, h4]

theorem Seen.box {P : Program} {k e : TypeId} {w : World} {b n : Nat} {S : Int → Bool} (h : Seen P k e w b n S) (o : Obj) : Seen P k e (w.alloc o) b n S := h.grown (World.grownBy_alloc w o none) (by simp)

/-- Behind a mark. -/
theorem GdRel.marked {L : Ld} {w wr w1 : World} (h : GdRel L w wr) (hg : wr.grownBy w1 (some (w.heap.size + 1))) : GdRel L w w1 := by
  have hb : Below (w.heap.size + 1) wr w1 := (Below.refl _ _ : Below (w.heap.size + 1) wr wr).grown hg (by have := h.cod.lt; omega) (fun k hk => by simp at hk; omega)
  refine ⟨?_, h.low.trans (hb.mono (by omega))⟩
  have := h.cod
  unfold Cod at this ⊢
  rw [hb.block _ (by omega)]; exact this
theorem seen_snoc {P : Program} {k e : TypeId} {w : World} {b n : Nat} {S : List Int} {i : Int} (h : Seen P k e w b n (fun j => decide (j = i) || decide (j ∈ S))) : Seen P k e w b n (fun j => decide (j ∈ S ++ [i])) := by
  have : (fun j => decide (j = i) || decide (j ∈ S)) = (fun j => decide (j ∈ S ++ [i])) := by
    funext j
    rw [Bool.eq_iff_iff]
    simp only [Bool.or_eq_true, decide_eq_true_eq, List.mem_append, List.mem_singleton]
    exact Or.comm
  rw [← this]; exact h

set_option maxRecDepth 100000 in
set_option maxHeartbeats 2000000 in
theorem root_any (L : Ld) (i0 : Int) (w : World) :
    Calls Tryd.prog 56 #[.agg L.cells, .int .i64 i0] w fun e w' => e = .returned (.tuple #[.int .i64 (rootL L i0).1, .int .i64 (rootL L i0).2.1, .bool (rootL L i0).2.2.1, .bool (rootL L i0).2.2.2]) ∧ Below w.heap.size w w' := by
  have hmk : ∀ w : World, (Instr.makeMap 98 none).run Tryd.prog w = .ok (.map (some w.heap.size)) (w.alloc (.map #[] 0)) := fun w => rfl
  go_enter Tryd.func56, Tryd.ntmps56
  go_wp2
  go_loopw [1, 6] (fun iv ov wr => ∃ (i : Int) (o : Bool) (S : List Int), iv = .int .i64 i ∧ ov = .bool o ∧ RtRel L w i0 i o S wr) (fun _ _ wr => 9 - (List.range 9).countP (fun k => @decide (SaysYes (w.heap.size + 1) wr k) (Classical.propDecidable _)))
  case atStart =>
    refine ⟨i0, true, [], rfl, rfl, rt_start L i0, (gd_start L w).box _, ?_⟩
    have := seen_made (P := Tryd.prog) (k := 3) (e := 4) (w.alloc (.cells L.cells 46))
    rw [World.size_alloc] at this
    simpa using this
  case round =>
    obtain ⟨i, o, S, rfl, rfl, R⟩ := hrel
    have HR := hide R
    clear R
    by_cases hi0 : 0 ≤ i
    · obtain ⟨k, rfl⟩ := Int.eq_ofNat_of_zero_le hi0
      by_cases h9 : k < 9
      · by_cases hm : (k : Int) ∈ S
        · have HM := hide hm
          have hd : decide ((k : Int) ∈ S) = true := decide_eq_true hm
          have HN := hide (HR.out.rt.out (.inr hm))
          clear hm
          go_wp2_with (refine wl_ask 98 (.tmp 18) (.tmp 19) rfl rfl Tryd.underlying3 Tryd.underlying98 Tryd.underlying4 (Tryd.zeroBool _) rfl HR.out.seen (k : Int) rfl (wf_small k h9) ?_)
          refine bodyPost_ret (resR4 rfl rfl rfl rfl rfl) rfl ?_
          exact ⟨ret_root HN.out, HR.out.gd.low⟩
        · have HM := hide hm
          have hd : decide ((k : Int) ∈ S) = false := decide_eq_false hm
          have hlen := HR.out.rt.len
          clear hm
          go_wp2_with (first | (refine wl_ask 98 (.tmp 18) (.tmp 19) rfl rfl Tryd.underlying3 Tryd.underlying98 Tryd.underlying4 (Tryd.zeroBool _) rfl HR.out.seen (k : Int) rfl (wf_small k h9) ?_) | (refine wl_mark 98 (.tmp 23) (.tmp 24) (.const (.bool true)) rfl rfl Tryd.underlying3 Tryd.underlying98 Tryd.underlying4 (by unfold maxLen; omega) rfl HR.out.seen (k : Int) rfl (wf_small k h9) rfl ?_))
          intro w1 hs hg
          have G1 := hide (HR.out.gd.marked hg)
          have S1 := hide (seen_snoc hs)
          clear hs hg
          have HX := hide (notYet_lt h9 HM.out HR.out.seen S1.out)
          by_cases h2 : L.wh k = 2
          · have H2 := hide h2
            have e2 : (L.wh k != 2) = false := by simp [h2]
            clear h2
            have HS := hide (HR.out.rt.step (amg_mk (by omega) (by omega)) HM.out (by rw [Int.toNat_natCast]; exact H2.out))
            rw [Int.toNat_natCast] at HS
            have B1 := hide (G1.out.box (.cells #[.string (L.tname k), .int .i64 (L.kind k), .int .i64 (L.wh k), .int .i64 (L.loc k), .bool (L.on k)] 40))
            have T1 := hide (S1.out.box (.cells #[.string (L.tname k), .int .i64 (L.kind k), .int .i64 (L.wh k), .int .i64 (L.loc k), .bool (L.on k)] 40))
            have HX1 := hide (notYet_lt h9 HM.out HR.out.seen T1.out)
            have HLn := hide (show (S ++ [(k : Int)]).length = S.length + 1 by simp)
            rw [← HLn.out] at T1
            by_cases hj0 : 0 ≤ L.loc k
            · obtain ⟨j, hj⟩ := Int.eq_ofNat_of_zero_le hj0
              rw [hj] at HS B1 T1 HX1
              by_cases hj9 : j < 9
              · rw [if_pos (amg_mk (by omega) (by omega)), Int.toNat_natCast] at HS
                have co : (w1.alloc (.cells #[.string (L.tname k), .int .i64 (L.kind k), .int .i64 (L.wh k), .int .i64 (j : Int), .bool (L.on k)] 40)).cell? ⟨w.heap.size, 84 + j * 5 + 4, none⟩ = some (.bool (L.on j)) := B1.out.cod.thing j 4 hj9 (by omega)
                clear hj0
                cases o with
                | true =>
                  go_wp2_with (first | (refine wl_thing (.tmp 27) rfl rfl _ k L rfl G1.out.cod h9 ?_) | (refine wl_new 40 (.tmp 9) (.tmp 28) rfl rfl _ _ rfl rfl rfl Tryd.sizeThing rfl rfl ?_))
                  go_roundw
                  case rel => exact ⟨_, _, _, rfl, rfl, HS.out, B1.out, T1.out⟩
                  case measure => exact HX1.out
                | false =>
                  go_wp2_with (first | (refine wl_thing (.tmp 27) rfl rfl _ k L rfl G1.out.cod h9 ?_) | (refine wl_new 40 (.tmp 9) (.tmp 28) rfl rfl _ _ rfl rfl rfl Tryd.sizeThing rfl rfl ?_))
                  go_roundw
                  case rel => exact ⟨_, _, _, rfl, rfl, HS.out, B1.out, T1.out⟩
                  case measure => exact HX1.out
              · rw [if_neg (by rw [amg_no (by omega)]; simp)] at HS
                clear hj0
                go_wp2_with (first | (refine wl_thing (.tmp 27) rfl rfl _ k L rfl G1.out.cod h9 ?_) | (refine wl_new 40 (.tmp 9) (.tmp 28) rfl rfl _ _ rfl rfl rfl Tryd.sizeThing rfl rfl ?_))
                go_roundw
                case rel => exact ⟨_, _, _, rfl, rfl, HS.out, B1.out, T1.out⟩
                case measure => exact HX1.out
            · rw [if_neg (by rw [amg_no (by omega)]; simp)] at HS
              go_wp2_with (first | (refine wl_thing (.tmp 27) rfl rfl _ k L rfl G1.out.cod h9 ?_) | (refine wl_new 40 (.tmp 9) (.tmp 28) rfl rfl _ _ rfl rfl rfl Tryd.sizeThing rfl rfl ?_))
              go_roundw
              case rel => exact ⟨_, _, _, rfl, rfl, HS.out, B1.out, T1.out⟩
              case measure => exact HX1.out
          · have H2 := hide h2
            have e2 : (L.wh k != 2) = true := by simp [h2]
            have HN := hide (HR.out.rt.done (amg_mk (by omega) (by omega)) HM.out (by rw [Int.toNat_natCast]; exact h2))
            rw [Int.toNat_natCast] at HN
            clear h2
            have B1 := hide (G1.out.box (.cells #[.string (L.tname k), .int .i64 (L.kind k), .int .i64 (L.wh k), .int .i64 (L.loc k), .bool (L.on k)] 40))
            cases hz : (L.wh k == 0) with
            | true =>
              have HZ := hide (show rootL L i0 = (L.wh k, L.loc k, o, true) by rw [HN.out]; have : L.wh k = 0 := by simpa using hz
                                                                               simp [this])
              go_wp2_with (first | (refine wl_thing (.tmp 27) rfl rfl _ k L rfl G1.out.cod h9 ?_) | (refine wl_new 40 (.tmp 9) (.tmp 28) rfl rfl _ _ rfl rfl rfl Tryd.sizeThing rfl rfl ?_))
              go_region
              all_goals go_wp2
              all_goals refine bodyPost_ret (resR4 rfl rfl rfl rfl rfl) rfl ?_
              all_goals exact ⟨ret_root HZ.out, B1.out.drew.low⟩
            | false =>
              have HZ := hide (show rootL L i0 = (L.wh k, L.loc k, o, (L.wh k == 1)) by
                rw [HN.out]; have : ¬ L.wh k = 0 := by simpa using hz
                have e : decide (L.wh k = 1) = (L.wh k == 1) := by rw [Bool.eq_iff_iff]; simp
                simp [this, e])
              go_wp2_with (first | (refine wl_thing (.tmp 27) rfl rfl _ k L rfl G1.out.cod h9 ?_) | (refine wl_new 40 (.tmp 9) (.tmp 28) rfl rfl _ _ rfl rfl rfl Tryd.sizeThing rfl rfl ?_))
              go_region
              all_goals go_wp2
              all_goals refine bodyPost_ret (resR4 rfl rfl rfl rfl rfl) rfl ?_
              all_goals exact ⟨ret_root HZ.out, B1.out.drew.low⟩
      · have HN := hide (HR.out.rt.out (.inl (amg_no (by omega))))
        go_wp2
        refine bodyPost_ret (resR4 rfl rfl rfl rfl rfl) rfl ?_
        exact ⟨ret_root HN.out, HR.out.gd.low⟩
    · have HN := hide (HR.out.rt.out (.inl (amg_no (by omega))))
      go_wp2
      refine bodyPost_ret (resR4 rfl rfl rfl rfl rfl) rfl ?_
      exact ⟨ret_root HN.out, HR.out.gd.low⟩
end Go.Proofs.YtdembcpljjgbkadDoor
