/-
  Lists of numbers: what is in one; the way out of box after box: contracts.
-/
import Derived.Test.YtncgcejlkmoliaaGreatDoorLdMem
import Derived.Test.YtncgcejlkmoliaaGreatDoorLdP
namespace Go.Proofs.YtncgcejlkmoliaaGreatDoor
open Go.RowKit
set_option linter.unusedVariables false

theorem mem_take_succ {q : List Int} {k : Nat} (hk : k < q.length) {x : Int} (h : x ∈ q.take (k + 1)) (hn : x ∉ q.take k) : q.getD k 0 = x := by
  rw [List.take_succ_eq_append_getElem hk] at h
  rcases List.mem_append.1 h with h | h
  · exact absurd h hn
  · have := List.mem_singleton.1 h
    rw [this]; simp [hk]

theorem index_empty (av : Option Addr) (cap : Nat) (x : Int) (w : World) :
    Calls Tryz.prog 111 #[.slice av 0 cap, .int .i64 x] w fun e w' => e = .returned (.int .i64 (-1)) ∧ w' = w := by
  go_enter Tryz.func111, Tryz.ntmps111
  go_wp2
  go_loop [8] (fun i => i = .int .i64 0) (fun _ => 0)
  case atStart => rfl
  case round =>
    subst hrel
    go_wp2
    go_ret
    exact ⟨rfl, rfl⟩

set_option maxHeartbeats 400000 in
theorem index_cells (b off cap : Nat) (q : List Int) (x : Int) (w : World) (n : Nat) (hn : q.length = n) (hm : n ≤ 9223372036854775807) (hc : ∀ i, i < n → w.cell? ⟨b, off + i, none⟩ = some (.int .i64 (q.getD i 0))) :
    Calls Tryz.prog 111 #[.slice (some ⟨b, off, none⟩) n cap, .int .i64 x] w fun e w' => (∃ n : Int, e = .returned (.int .i64 n) ∧ (0 ≤ n ↔ x ∈ q)) ∧ w' = w := by
  have HC := hide hc
  clear hc
  have HN := hide hn
  clear hn
  go_enter Tryz.func111, Tryz.ntmps111
  go_wp2
  go_loop [8] (fun i => ∃ k : Nat, k ≤ n ∧ i = .int .i64 k ∧ x ∉ q.take k) (fun i => n - (intOf i).toNat)
  case atStart => exact ⟨0, Nat.zero_le _, rfl, by simp⟩
  case round =>
    obtain ⟨k, hk, rfl, hx⟩ := hrel
    have HX := hide hx
    clear hx
    by_cases hlt : k < n
    · have hcell := HC.out k hlt
      have hq : k < q.length := by rw [HN.out]; exact hlt
      generalize hy : q.getD k 0 = y at hcell
      have HY := hide hy
      clear hy
      by_cases he : x = y
      · have he' : (x == y) = true := by simp [he]
        have HE := hide he
        clear he
        go_wp2
        go_ret
        refine ⟨⟨_, rfl, ?_⟩, rfl⟩
        refine ⟨fun _ => ?_, fun _ => by omega⟩
        rw [HE.out, ← HY.out]; simp [hq]
      · have he' : (x == y) = false := by simp [he]
        have HE := hide he
        clear he
        go_wp2
        go_round
        case rel => exact ⟨k + 1, by omega, by go_num, fun hm => HE.out (by rw [← HY.out]; exact (mem_take_succ hq hm HX.out).symm)⟩
        case measure => simp [intOf]; omega
    · go_wp2
      go_ret
      refine ⟨⟨_, rfl, ?_⟩, rfl⟩
      have := HX.out
      rw [List.take_of_length_le (by rw [HN.out]; omega)] at this
      simp [this]

theorem contains_any (v : Value) (q : List Int) (x : Int) (w : World) (h : Nums w v q) :
    Calls Tryz.prog 90 #[v, .int .i64 x] w fun e w' => e = .returned (.bool (decide (x ∈ q))) ∧ w' = w := by
  obtain ⟨av, cap, rfl, hl, hm, hc⟩ := h
  unfold maxLen at hm
  by_cases h0 : 0 < q.length
  · obtain ⟨b, off, rfl, hcc⟩ := hc h0
    generalize hn : q.length = n at *
    have C := hide (index_cells b off cap q x w n hn (by omega) hcc)
    clear hc hcc hl hm h0 hn
    go_enter Tryz.func90, Tryz.ntmps90
    go_wp2_with fail
    refine C.out.mono ?_
    rintro e w1 ⟨⟨n, rfl, hn⟩, hw⟩
    rw [hw]
    clear hw w1
    have HN := hide hn
    clear hn
    go_wp2
    go_ret
    exact ⟨ret_bool (by simp [HN.out]), rfl⟩
  · have e : q = [] := List.eq_nil_of_length_eq_zero (by omega)
    subst e
    clear hc hl hm h0
    show Calls Tryz.prog 90 #[.slice av 0 cap, .int .i64 x] w _
    go_enter Tryz.func90, Tryz.ntmps90
    go_wp2_with fail
    refine (index_empty av cap x w).mono ?_
    rintro e w1 ⟨rfl, hw⟩
    rw [hw]
    clear hw w1
    go_wp2
    go_ret
    exact ⟨ret_bool (by simp), rfl⟩

def icells (q : List Int) : List Value := q.map (.int .i64)
theorem icells_length (q : List Int) : (icells q).length = q.length := by simp [icells]

theorem nums_own {w : World} {base : Nat} {v : Value} {q : List Int} (h : w.ownsRow base 3 1 v q.length (icells q)) : Nums w v q := by
  rcases h.2 with ⟨rfl, h0⟩ | ⟨g, cap, cur, rfl, hbg, hgg, hnc, hcm, hcs, htake⟩
  · rw [List.eq_nil_of_length_eq_zero h0]; exact ⟨none, 0, rfl, Nat.le_refl _, Nat.zero_le _, fun h => by simp at h⟩
  · refine ⟨some ⟨g, 0, none⟩, cap, rfl, hnc, hcm, fun _ => ⟨g, 0, rfl, fun i hi => ?_⟩⟩
    have := h.cells (g := g) rfl i (.int .i64 (q.getD i 0)) (by simp [icells, hi])
    by_cases h0 : i = 0
    · subst h0; simpa [Addr.add] using this
    · simpa [Addr.add, h0] using this

theorem own_shapeN {w : World} {base : Nat} {v : Value} {n : Nat} {xs : List Value} (h : w.ownsRow base 3 1 v n xs) : ∃ (av : Option Addr) (cap : Nat), v = .slice av n cap := by
  rcases h.2 with ⟨rfl, rfl⟩ | ⟨g, cap, cur, rfl, _⟩
  · exact ⟨_, _, rfl⟩
  · exact ⟨_, _, rfl⟩

theorem Tryz.info3 : (Tryz.prog.info? 3).map (fun i => (i.zero, i.size, i.bytes)) = some (some (.int .i64 0), 1, 8) := by kernel_rfl

/-- What a slice's value holds: how many. -/
def lenOf : Value → Nat
  | .slice _ n _ => n
  | _ => 0

/-- The way out: what was seen, and where it is. -/
def wayFrom (L : Ld) : Nat → List Int → Int → List Int
  | 0, S, _ => S
  | n + 1, S, i => if amg i 9 = true ∧ i ∉ S then (if L.wh i.toNat = 2 then wayFrom L n (S ++ [i]) (L.loc i.toNat) else S ++ [i]) else S

def wayL (L : Ld) (i : Int) : List Int := wayFrom L 10 [] i

structure WIn (S : List Int) : Prop where
  nodup : S.Nodup
  inn : ∀ s ∈ S, 0 ≤ s ∧ s < 9

theorem WIn.snoc {S : List Int} {i : Int} (h : WIn S) (hi : amg i 9 = true) (hn : i ∉ S) : WIn (S ++ [i]) ∧ S.length < 9 := by
  have hp := amg_pos hi
  have hin : ∀ s ∈ S ++ [i], 0 ≤ s ∧ s < 9 := by
    intro s hs
    rcases List.mem_append.1 hs with hs | hs
    · exact h.inn s hs
    · rw [List.mem_singleton.1 hs]; exact hp
  have hnd : (S ++ [i]).Nodup := by
    rw [List.nodup_append]
    refine ⟨h.nodup, by simp, fun a ha b hb e => ?_⟩
    rw [List.mem_singleton.1 hb] at e
    exact hn (e ▸ ha)
  have := pigeon 9 _ hnd hin
  simp at this
  exact ⟨⟨hnd, hin⟩, by omega⟩

/-- A round's head. -/
structure WRel (L : Ld) (w : World) (j : Int) (i : Int) (v : Value) (S : List Int) (wr : World) : Prop where
  own : wr.ownsRow (w.heap.size + 1) 3 1 v S.length (icells S)
  cod : Cod wr w.heap.size L
  low : Below w.heap.size w wr
  size : w.heap.size + 1 ≤ wr.heap.size
  win : WIn S
  len : S.length ≤ 9
  way : wayFrom L (10 - S.length) S i = wayL L j

theorem WRel.out {L : Ld} {w wr : World} {j i : Int} {v : Value} {S : List Int} (h : WRel L w j i v S wr) (hn : amg i 9 = false ∨ i ∈ S) : S = wayL L j := by
  rw [← h.way]
  have := h.len
  obtain ⟨m, hm⟩ : ∃ m, 10 - S.length = m + 1 := ⟨9 - S.length, by omega⟩
  rw [hm]
  simp only [wayFrom]
  rw [if_neg]
  rintro ⟨h1, h2⟩
  rcases hn with hn | hn
  · rw [hn] at h1; simp at h1
  · exact h2 hn

theorem WRel.next {L : Ld} {w wr wr' : World} {j i : Int} {v v' : Value} {S : List Int} {u : Value} {t : TypeId} (h : WRel L w j i v S wr) (ha : amg i 9 = true) (hn : i ∉ S)
    (ho : wr'.ownsRow (w.heap.size + 1) 3 1 v' (S.length + 1) (icells S ++ [.int .i64 i])) (hg : (wr.alloc (.cells #[u] t)).grownBy wr' v.ownBlock) :
    (L.wh i.toNat = 2 → WRel L w j (L.loc i.toNat) v' (S ++ [i]) wr') ∧ (L.wh i.toNat ≠ 2 → S ++ [i] = wayL L j) ∧ Nums wr' v' (S ++ [i]) ∧ Below w.heap.size w wr' ∧ Cod wr' w.heap.size L ∧ lenOf v' = S.length + 1 := by
  have hw := h.win.snoc ha hn
  have hb : Below (w.heap.size + 1) wr wr' := by
    refine (Below.refl _ _ |>.alloc (by have := h.size; omega) _ : Below (w.heap.size + 1) wr (wr.alloc (.cells #[u] t))).grown hg (by have := h.size; simp; omega) ?_
    intro k hk
    exact (h.own.lt k (by simpa using hk)).1
  have hc : Cod wr' w.heap.size L := by
    have := h.cod
    unfold Cod at this ⊢
    rw [hb.block _ (by omega)]; exact this
  have hl : Below w.heap.size w wr' := h.low.trans (hb.mono (by omega))
  have ho' : wr'.ownsRow (w.heap.size + 1) 3 1 v' (S ++ [i]).length (icells (S ++ [i])) := by
    have e1 : (S ++ [i]).length = S.length + 1 := by simp
    have e2 : icells (S ++ [i]) = icells S ++ [.int .i64 i] := by simp [icells]
    rw [e1, e2]; exact ho
  have hlen := h.len
  obtain ⟨m, hm⟩ : ∃ m, 10 - S.length = m + 1 := ⟨9 - S.length, by omega⟩
  have hway := h.way
  rw [hm] at hway
  simp only [wayFrom] at hway
  rw [if_pos ⟨ha, hn⟩] at hway
  refine ⟨fun h2 => ⟨ho', hc, hl, by have := hb.size; have := h.size; omega, hw.1, by have := hw.2; simp; omega, ?_⟩, fun h2 => ?_, nums_own ho', hl, hc, ?_⟩
  · rw [if_pos h2] at hway
    rw [← hway]
    simp only [List.length_append, List.length_singleton]
    rw [show 10 - (S.length + 1) = m by omega]
  · rw [if_neg h2] at hway
    exact hway
  · obtain ⟨av, cap, rfl⟩ := own_shapeN ho
    rfl
end Go.Proofs.YtncgcejlkmoliaaGreatDoor
