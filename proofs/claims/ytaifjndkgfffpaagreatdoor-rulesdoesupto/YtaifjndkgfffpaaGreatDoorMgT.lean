/-
  The document's own IsInside; a direction's number: contracts.
-/
import Derived.Test.YtaifjndkgfffpaaGreatDoorMgN
import Derived.Test.YtaifjndkgfffpaaGreatDoorMgF
import Derived.Test.YtaifjndkgfffpaaGreatDoorMgJ
import Derived.Test.YtaifjndkgfffpaaGreatDoorRfWho
import Derived.Test.YtaifjndkgfffpaaGreatDoorMg1
import Derived.Test.YtaifjndkgfffpaaGreatDoorMgS
namespace Go.Proofs.YtaifjndkgfffpaaGreatDoor
open Go.RowKit
set_option linter.unusedVariables false
/-- What is in a box is in one that there is. -/
def BoxOk (L : Ld) : Prop := ∀ i : Nat, i < 9 → L.wh i = 2 → ∃ j : Nat, j < 9 ∧ L.loc i = (j : Int)

theorem wayFrom_mem (L : Ld) (x : Int) : ∀ (n : Nat) (S : List Int) (i : Int), x ∈ S → x ∈ wayFrom L n S i
  | 0, S, i, h => h
  | n + 1, S, i, h => by
    simp only [wayFrom]
    split
    · split
      · exact wayFrom_mem L x n _ _ (List.mem_append_left _ h)
      · exact List.mem_append_left _ h
    · exact h

/-- A round's head. -/
structure InRel (L : Ld) (w : World) (i0 box : Int) (i : Int) (S : List Int) (wr : World) : Prop where
  win : WIn S
  way : wayFrom L (10 - S.length) S i = wayL L i0
  out : box ∉ S
  gd : GdRel L w wr
  seen : Seen Tryz.prog 3 4 wr (w.heap.size + 1) S.length (fun j => decide (j ∈ S))
section
variable {L : Ld} {w wr : World} {i0 box i : Int} {S : List Int}
theorem InRel.len (h : InRel L w i0 box i S wr) : S.length ≤ 9 := pigeon 9 _ h.win.nodup h.win.inn
theorem InRel.found (h : InRel L w i0 box i S wr) (ha : amg i 9 = true) (hn : i ∉ S) : i ∈ wayL L i0 := by
  have hlen := h.len
  obtain ⟨m, hm⟩ : ∃ m, 10 - S.length = m + 1 := ⟨9 - S.length, by omega⟩
  have hw := h.way
  rw [hm] at hw
  simp only [wayFrom] at hw
  rw [if_pos ⟨ha, hn⟩] at hw
  rw [← hw]
  split
  · exact wayFrom_mem L i m _ _ (by simp)
  · simp
theorem InRel.over (h : InRel L w i0 box i S wr) (hn : i ∈ S) : box ∉ wayL L i0 := by
  have hlen := h.len
  obtain ⟨m, hm⟩ : ∃ m, 10 - S.length = m + 1 := ⟨9 - S.length, by omega⟩
  have hw := h.way
  rw [hm] at hw
  simp only [wayFrom] at hw
  rw [if_neg (fun e => e.2 hn)] at hw
  rw [← hw]; exact h.out
theorem InRel.done (h : InRel L w i0 box i S wr) (ha : amg i 9 = true) (hn : i ∉ S) (hb : i ≠ box) (h2 : L.wh i.toNat ≠ 2) : box ∉ wayL L i0 := by
  have hlen := h.len
  obtain ⟨m, hm⟩ : ∃ m, 10 - S.length = m + 1 := ⟨9 - S.length, by omega⟩
  have hw := h.way
  rw [hm] at hw
  simp only [wayFrom] at hw
  rw [if_pos ⟨ha, hn⟩, if_neg h2] at hw
  rw [← hw]
  intro hx
  rcases List.mem_append.1 hx with hx | hx
  · exact h.out hx
  · exact hb (List.mem_singleton.1 hx).symm
theorem InRel.step {w1 : World} (h : InRel L w i0 box i S wr) (ha : amg i 9 = true) (hn : i ∉ S) (hb : i ≠ box) (h2 : L.wh i.toNat = 2) (hg : GdRel L w w1) (hs : Seen Tryz.prog 3 4 w1 (w.heap.size + 1) (S ++ [i]).length (fun j => decide (j ∈ S ++ [i]))) : InRel L w i0 box (L.loc i.toNat) (S ++ [i]) w1 := by
  have hlen := h.len
  obtain ⟨m, hm⟩ : ∃ m, 10 - S.length = m + 1 := ⟨9 - S.length, by omega⟩
  have hw := h.way
  rw [hm] at hw
  simp only [wayFrom] at hw
  rw [if_pos ⟨ha, hn⟩, if_pos h2] at hw
  refine ⟨(h.win.snoc ha hn).1, ?_, ?_, hg, hs⟩
  · rw [← hw]
    simp only [List.length_append, List.length_singleton]
    rw [show 10 - (S.length + 1) = m by omega]
  · intro hx
    rcases List.mem_append.1 hx with hx | hx
    · exact h.out hx
    · exact hb (List.mem_singleton.1 hx).symm
end

set_option maxRecDepth 100000 in
set_option maxHeartbeats 2000000 in
theorem isinside_any (L : Ld) (hB : BoxOk L) (i0 box : Nat) (hi0 : i0 < 9) (hbx : box < 9) (w : World) :
    Calls Tryz.prog 54 #[.agg L.cells, .int .i64 (i0 : Int), .int .i64 (box : Int)] w fun e w' => e = .returned (.bool (decide ((box : Int) ∈ wayL L (i0 : Int)))) ∧ Below w.heap.size w w' := by
  have hmk : ∀ w : World, (Instr.makeMap 107 none).run Tryz.prog w = .ok (.map (some w.heap.size)) (w.alloc (.map #[] 0)) := fun w => rfl
  have HB := hide hB
  clear hB
  go_enter Tryz.func54, Tryz.ntmps54
  go_wp2
  go_loopw [1] (fun iv wr => ∃ (k : Nat) (S : List Int), k < 9 ∧ iv = .int .i64 (k : Int) ∧ InRel L w (i0 : Int) (box : Int) (k : Int) S wr) (fun _ wr => 9 - (List.range 9).countP (fun k => @decide (SaysYes (w.heap.size + 1) wr k) (Classical.propDecidable _)))
  case atStart =>
    refine ⟨i0, [], hi0, rfl, ⟨List.nodup_nil, fun s h => by simp at h⟩, rfl, by simp, (gd_start L w).box _, ?_⟩
    have := seen_made (P := Tryz.prog) (k := 3) (e := 4) (w.alloc (.cells L.cells 34))
    rw [World.size_alloc] at this
    simpa using this
  case round =>
    obtain ⟨k, S, h9, rfl, R⟩ := hrel
    have HR := hide R
    clear R
    by_cases hm : (k : Int) ∈ S
    · have hd : decide ((k : Int) ∈ S) = true := decide_eq_true hm
      have HN := hide (decide_eq_false (HR.out.over hm))
      clear hm
      go_wp2_with (refine wl_ask 107 (.tmp 9) (.tmp 10) rfl rfl Tryz.underlying3 Tryz.underlying107 Tryz.underlying4 (Tryz.zeroBool _) rfl HR.out.seen (k : Int) rfl (wf_small k h9) ?_)
      go_ret
      exact ⟨ret_bool HN.out.symm, HR.out.gd.low⟩
    · have HM := hide hm
      have hd : decide ((k : Int) ∈ S) = false := decide_eq_false hm
      clear hm
      by_cases hkb : k = box
      · have he : ((k : Int) == (box : Int)) = true := by simp [hkb]
        have HN := hide (decide_eq_true (HR.out.found (amg_mk (by omega) (by omega)) HM.out))
        rw [hkb] at HN
        clear hkb
        go_wp2_with (refine wl_ask 107 (.tmp 9) (.tmp 10) rfl rfl Tryz.underlying3 Tryz.underlying107 Tryz.underlying4 (Tryz.zeroBool _) rfl HR.out.seen (k : Int) rfl (wf_small k h9) ?_)
        go_ret
        exact ⟨ret_bool HN.out.symm, HR.out.gd.low⟩
      · have he : ((k : Int) == (box : Int)) = false := by simp; omega
        have hne : (k : Int) ≠ (box : Int) := by omega
        have HNE := hide hne
        have hlen := HR.out.len
        clear hkb hne
        go_wp2_with (first | (refine wl_ask 107 (.tmp 9) (.tmp 10) rfl rfl Tryz.underlying3 Tryz.underlying107 Tryz.underlying4 (Tryz.zeroBool _) rfl HR.out.seen (k : Int) rfl (wf_small k h9) ?_) | (refine wl_mark 107 (.tmp 16) (.tmp 17) (.const (.bool true)) rfl rfl Tryz.underlying3 Tryz.underlying107 Tryz.underlying4 (by unfold maxLen; omega) rfl HR.out.seen (k : Int) rfl (wf_small k h9) rfl ?_))
        intro w1 hs hg
        have G1 := hide (HR.out.gd.marked hg)
        have S1 := hide (seen_snoc hs)
        clear hs hg
        have HX := hide (notYet_lt h9 HM.out HR.out.seen S1.out)
        have HLn := hide (show (S ++ [(k : Int)]).length = S.length + 1 by simp)
        rw [← HLn.out] at S1
        have c2 := G1.out.cod.thing k 2 h9 (by omega)
        have c3 := G1.out.cod.thing k 3 h9 (by omega)
        simp only [Ld.thingCell] at c2 c3
        have hk9 : (k : Int) < 9 := by omega
        by_cases h2 : L.wh k = 2
        · obtain ⟨j, hj, ej⟩ := HB.out k h9 h2
          have e2 : (L.wh k != 2) = false := by simp [h2]
          have HS := hide (HR.out.step (amg_mk (by omega) (by omega)) HM.out HNE.out (by rw [Int.toNat_natCast]; exact h2) G1.out S1.out)
          rw [Int.toNat_natCast, ej] at HS
          rw [ej] at c3
          clear h2 ej
          go_wp2
          go_roundw
          case rel => exact ⟨j, _, hj, rfl, HS.out⟩
          case measure => exact HX.out
        · have e2 : (L.wh k != 2) = true := by simp [h2]
          have HN := hide (decide_eq_false (HR.out.done (amg_mk (by omega) (by omega)) HM.out HNE.out (by rw [Int.toNat_natCast]; exact h2)))
          clear h2
          go_wp2
          go_ret
          exact ⟨ret_bool HN.out.symm, G1.out.low⟩

set_option maxHeartbeats 2000000 in
set_option maxRecDepth 100000 in
theorem dirof_any (s : ByteArray) (w : World) (hv : Vr w) :
    Calls Tryz.prog 57 #[.string s] w fun e w' => e = .returned (.tuple #[.int .i64 (dirA s.data.toList).1, .bool (dirA s.data.toList).2]) ∧ w' = w := by
  have hv := hide hv
  have hbt : ∀ l : List UInt8, (bs l).toList = l := fun l => by rw [Lib.toList_data, bs_data]
  go_enter Tryz.func57, Tryz.ntmps57
  go_wp2
  go_loop [5] (fun v => ∃ k : Nat, v = .int .i64 k ∧ k ≤ 6 ∧ Hid (NoDir s.data.toList k)) (fun v => 6 - (intOf v).toNat)
  case atStart => exact ⟨0, rfl, by omega, fun j hj => by omega⟩
  case round =>
    obtain ⟨k, rfl, hk, HN⟩ := hrel
    by_cases hlt : k < 6
    · have hc := hv.out.cell k (by omega)
      generalize hV : verbs.getD k [] = V at hc
      cases hp : (s.toList == V)
      · have HNN : Hid (NoDir s.data.toList (k + 1)) := fun j hj => by
          by_cases e : j = k
          · subst e; rw [hV]; intro e2; rw [Lib.toList_data, e2] at hp; simp at hp
          · exact HN.out j (by omega)
        clear hV
        go_wp2
        exact ⟨⟨k + 1, by go_num, hlt, HNN.out⟩, by simp [intOf]; omega⟩
      · have HV := hide (dir_at hlt HN.out (show verbs.getD k [] = s.data.toList by rw [hV]; rw [Lib.toList_data] at hp; simpa using (beq_iff_eq.1 hp).symm))
        clear hV
        go_wp2
        go_ret2
        exact ⟨ret_dir HV.out.symm, rfl⟩
    · have hkk : k = 6 := by omega
      subst hkk
      have HV := hide (dir_none HN.out)
      go_wp2
      go_ret2
      exact ⟨ret_dir HV.out.symm, rfl⟩
/-
  The document's own turn: what its parting with things stands on.
-/
theorem Ld.tcells_get' (L : Ld) (k j : Nat) (hj : j < 5) : (L.tcells k).toList[j]? = some (L.thingCell k j) := by
  rcases (show j = 0 ∨ j = 1 ∨ j = 2 ∨ j = 3 ∨ j = 4 by omega) with rfl | rfl | rfl | rfl | rfl <;> rfl
theorem Sn.thingR {T : TypeId} {pre : List Value} {w0 w : World} {L : Ld} {Es : List Ev} (h : Sn T pre w0 L Es w) (k : Nat) (hk : k < 9) : w.rangeAt w0.heap.size (84 + k * 5) (L.tcells k).toList := by
  intro j v hv
  have hj : j < 5 := by
    have := (List.getElem?_eq_some_iff.1 hv).1; simpa [Ld.tcells] using this
  rw [h.thing k j hk hj, ← hv, L.tcells_get' k j hj]
theorem wl_sthing {ops : Array Oper} {rest : List Oper} {op : Oper} {a : Act} {w : World} {Q : Exit → Act → World → Prop} (x : Operand) (ho : op.op = .load 28 x) (hw : Region.wanted op (yielded ops a.tmps) = true) {T : TypeId} {pre : List Value} {w0 : World} {L : Ld} {Es : List Ev} (k : Nat) (hk : k < 9)
    (hx : a.eval x = .pointer (some ⟨w0.heap.size, 84 + k * 5, none⟩)) (hc : Sn T pre w0 L Es w)
    (h : wpList Tryz.prog ops Q rest (a.put op.dst (.agg #[.string (L.tname k), .int .i64 (L.kind k), .int .i64 (L.wh k), .int .i64 (L.loc k), .bool (L.on k)])) w) : wpList Tryz.prog ops Q (op :: rest) a w :=
  wl_mid 28 x ho hw w0.heap.size (84 + k * 5) (L.tcells k).toList _ hx (hc.thingR k hk) Tryz.underlying28 rfl Tryz.sizeThing h
theorem part_mv (L : Ld) (b : Nat) (wh loc : Int) (E : Ev) (q : List Int) : Mv L (partS L b wh loc E q).1 := by
  unfold partS
  have key : ∀ (q : List Int) (s : Ld × List Ev), Mv L s.1 → Mv L (q.foldl (pstep b wh loc E) s).1 := by
    intro q
    induction q with
    | nil => intro s h; exact h
    | cons a q ih =>
      intro s h
      rw [List.foldl_cons]
      refine ih _ ?_
      unfold pstep
      split
      · exact h
      · split
        · exact h
        · exact h.move _ _ _
  exact key q (L, []) (Mv.refl L)
theorem box_move {L : Ld} (h : BoxOk L) (i : Nat) {wh loc : Int} (hp : wh ≠ 2 ∨ ∃ j : Nat, j < 9 ∧ loc = (j : Int)) : BoxOk (moveL L i wh loc) := by
  intro j hj h2
  have ew : (moveL L i wh loc).wh j = if j = i then wh else L.wh j := rfl
  have el : (moveL L i wh loc).loc j = if j = i then loc else L.loc j := rfl
  rw [ew] at h2
  rw [el]
  by_cases e : j = i
  · rw [if_pos e] at h2 ⊢
    rcases hp with hp | hp
    · exact absurd h2 hp
    · exact hp
  · rw [if_neg e] at h2 ⊢
    exact h j hj h2
/-
  The document's own turn: what its turning things on or off stands on.
-/
theorem Sn.exitC {T : TypeId} {pre : List Value} {w0 w : World} {L : Ld} {Es : List Ev} (h : Sn T pre w0 L Es w) (r d : Nat) (hr : r < 6) (hd : d < 6) : w.cell? ⟨w0.heap.size, r * 14 + 2 + d, none⟩ = some (.int .i64 (L.exit r d)) := by
  rw [show r * 14 + 2 + d = r * 14 + (2 + d) by omega, h.room r (2 + d) hr (by omega), Nat.add_comm]; simp [Ld.roomCell, hd]
theorem Sn.shutC {T : TypeId} {pre : List Value} {w0 w : World} {L : Ld} {Es : List Ev} (h : Sn T pre w0 L Es w) (r d : Nat) (hr : r < 6) (hd : d < 6) : w.cell? ⟨w0.heap.size, r * 14 + 8 + d, none⟩ = some (.bool (L.shut r d)) := by
  rw [show r * 14 + 8 + d = r * 14 + (8 + d) by omega, h.room r (8 + d) hr (by omega), show 8 + d = (d + 6) + 2 by omega]; simp [Ld.roomCell]
end Go.Proofs.YtaifjndkgfffpaaGreatDoor
