/-
  The contract of Split.
-/
import Derived.Test.YtfbgaimjjfmfaacDoorWdLow
import Derived.Test.YtfbgaimjjfmfaacDoorWdSec
namespace Go.Proofs.YtfbgaimjjfmfaacDoor
open Go.RowKit
set_option linter.unusedVariables false

section
variable {w w' : World} {base : Nat} {v : Value} {n : Nat} {xs : List Value}
theorem own_below (h : w.ownsRow base 9 1 v n xs) (hb : Below w.heap.size w w') : w'.ownsRow base 9 1 v n xs :=
  h.kept (row := none) ⟨hb.os, hb.tape, hb.output, hb.size, fun k hk _ => hb.block k hk⟩ (by
    cases e : v.ownBlock with
    | none => exact .inl rfl
    | some k => exact .inr (by simp))
theorem own_rd {q : List (List UInt8)} (h : w.ownsRow base 9 1 v q.length (scells (q.map bs))) : Rd w v q := by
  have h' : w.ownsRow base 9 1 v (q.map bs).length (scells (q.map bs)) := by rw [List.length_map]; exact h
  exact reads_own h'
theorem drewN_below (w : World) (m : Nat) : Below w.heap.size w (w.drewN m) := below_drewN (Below.refl _ _) m
end

theorem one_some {A : List UInt8} (h : A.isEmpty = false) : one A = [lowerL A] := by
  have : ¬ A = [] := by intro e; rw [e] at h; simp at h
  simp [one, this]
theorem one_none {A : List UInt8} (h : A.isEmpty = true) : one A = [] := by
  have : A = [] := List.isEmpty_iff.1 h
  simp [one, this]

/-- As a round begins: q are the words so far, t is what is left. -/
structure Sp (w : World) (s : ByteArray) (t : ByteArray) (q : List (List UInt8)) (lv : Value) (wr : World) : Prop where
  le : t.size ≤ s.size
  eq : q ++ splitL t.data.toList = splitL s.data.toList
  own : wr.ownsRow w.heap.size 9 1 lv q.length (scells (q.map bs))
  below : Below w.heap.size w wr

theorem Sp.few {w wr : World} {s t : ByteArray} {q : List (List UInt8)} {lv : Value} (h : Sp w s t q lv wr) : q.length ≤ s.size := by
  have h1 := congrArg List.length h.eq
  have h2 := split_len s.data.toList
  rw [size_len] at h2
  rw [List.length_append] at h1
  omega

set_option maxHeartbeats 4000000 in
set_option maxRecDepth 100000 in
theorem split_any (s : ByteArray) (w : World) (hs : s.size ≤ 8796093022207) :
    Calls Tryd.prog 8 #[.string s] w fun e w' => ∃ v, e = .returned v ∧ Rd w' v (splitL s.data.toList) ∧ Below w.heap.size w w' := by
  obtain ⟨i0, hi, hz0, hz1, hz2⟩ := info_parts Tryd.info9
  go_enter Tryd.func8, Tryd.ntmps8
  go_wp2
  go_loopw [0, 3, 4] (fun sv lv _ wr => ∃ (t : ByteArray) (q : List (List UInt8)), sv = .string t ∧ Sp w s t q lv wr) (fun sv _ _ _ => strSize sv)
  case atStart => exact ⟨s, [], rfl, Nat.le_refl _, rfl, World.ownsRow_nil _ _ _ _, Below.refl _ _⟩
  case round =>
    obtain ⟨t, q, rfl, hI⟩ := hrel
    have hle := hI.le
    have hfew := hI.few
    have hlow := hI.below.size
    have HI := hide hI
    clear hI
    cases he : t.toList.isEmpty
    · have hne : t.data.toList ≠ [] := by intro e; rw [Lib.toList_data, e] at he; simp at he
      have HX := hide (split_cut t.data.toList)
      have hlt := cut_less 32 _ hne
      have hcl := cut_len 32 t.data.toList
      have C1 := hide (fun w' => cut_one t 32 w' (by omega))
      rw [size_len] at hlt hcl
      generalize (cutL 32 t.data.toList).1 = A at C1 HX hcl
      generalize (cutL 32 t.data.toList).2.1 = B at C1 HX hcl hlt
      generalize (cutL 32 t.data.toList).2.2 = F at C1
      have hbt := bs_toList
      clear hne
      cases hA : A.isEmpty
      · have hbs : (bs A).size ≤ 140737488355328 := by rw [bs_size]; omega
        have C2 := hide (fun w' => lower_any (bs A) w' hbs)
        rw [bs_data] at C2
        have HO := hide (one_some hA)
        clear hbs
        go_wp2_with fail
        refine (C1.out _).mono ?_
        rintro e w1 ⟨rfl, m, rfl⟩
        go_wp2_with fail
        refine (C2.out _).mono ?_
        rintro e w2 ⟨rfl, hb2⟩
        have hown2 := own_below (own_below HI.out.own (drewN_below _ m)) hb2
        have hb3 : Below w.heap.size w w2 := (HI.out.below.trans ((drewN_below wr m).mono hlow)).trans (hb2.mono hlow)
        have hz2' := hb3.size
        replace hown2 := hide hown2
        replace hb3 := hide hb3
        clear hb2
        go_wp2_with (at_builtin; refine wpList_append_own_at _ rfl (.tmp 15) (.tmp 18) 28 rfl w.heap.size 9 i0 (.string ⟨#[]⟩) 1 16 Tryd.underlying28 hi hz0 hz1 hz2 rfl (by decide) _ q.length (scells (q.map bs)) rfl (hown2.out.alloc _) ⟨w2.heap.size, 0, none⟩ 1 1 (scells [bs (lowerL A)]) rfl ?c1 ?c2 (scells_one _) ?c3 ?c4 ?c5 ?_)
        case c1 => rfl
        case c2 =>
          intro j u hj
          cases j with
          | zero => simp [scells] at hj; subst hj; exact cell_new (by simp) _ _
          | succ j => simp [scells] at hj
        case c3 => unfold maxLen; omega
        case c4 => omega
        case c5 => simp; omega
        intro v' w' ho hg _ _
        have ho' : w'.ownsRow w.heap.size 9 1 v' (q ++ [lowerL A]).length (scells ((q ++ [lowerL A]).map bs)) := by
          rw [List.map_append, scells_append, List.length_append]; exact ho
        have hb' : Below w.heap.size w w' := (hb3.out.alloc hz2' _).grown hg (by simp; omega) (fun k e => (hown2.out.lt k e).1)
        replace ho' := hide ho'
        replace hb' := hide hb'
        clear ho hg
        go_wp2
        refine ⟨⟨bs B, q ++ [lowerL A], rfl, ?_, ?_, ho'.out, hb'.out⟩, ?_⟩
        · rw [bs_size]; omega
        · rw [bs_data, List.append_assoc, ← HI.out.eq, HX.out, HO.out]
        · simp only [strSize, bs_size]; exact hlt
      · have HO := hide (one_none hA)
        go_wp2_with fail
        refine (C1.out _).mono ?_
        rintro e w1 ⟨rfl, m, rfl⟩
        go_wp2
        refine ⟨⟨bs B, q, rfl, ?_, ?_, own_below HI.out.own (drewN_below _ m), HI.out.below.trans ((drewN_below wr m).mono hlow)⟩, ?_⟩
        · rw [bs_size]; omega
        · rw [bs_data, ← HI.out.eq, HX.out, HO.out, List.nil_append]
        · simp only [strSize, bs_size]; exact hlt
    · have HE := hide (show t.data.toList = [] by rw [Lib.toList_data] at he; exact List.isEmpty_iff.1 he)
      go_wp2
      go_ret
      refine ⟨_, rfl, ?_, HI.out.below⟩
      have := HI.out.eq
      rw [HE.out, split_nil, List.append_nil] at this
      rw [← this]
      exact own_rd HI.out.own
end Go.Proofs.YtfbgaimjjfmfaacDoor
