/-
  A good land stays good, whatever is ordered; what is not that being's own stays as it was: plain mathematics.
-/
import Derived.Test.YtaifjndkgfffpaaDoorRuKp
namespace Go.Proofs.YtaifjndkgfffpaaDoor
open Go.RowKit
set_option linter.unusedVariables false

/-- Things have been moved, and nothing else. -/
def Mv (L X : Ld) : Prop := ∃ f g, X = { L with wh := f, loc := g }
theorem Mv.refl (L : Ld) : Mv L L := ⟨L.wh, L.loc, rfl⟩
theorem Mv.move {L X : Ld} (h : Mv L X) (i : Nat) (wh loc : Int) : Mv L (moveL X i wh loc) := by
  obtain ⟨f, g, rfl⟩ := h
  exact ⟨_, _, rfl⟩
theorem good_move {L : Ld} (hg : goodL L = true) (i : Nat) (hi : i < 9) (wh loc : Int) (h1 : wh = 1 ∨ ¬ (L.kind i = 2 ∧ L.on i = true)) (h2 : gplace L wh loc = true) (h3 : wh = 2 → (i : Int) ∉ wayL L loc) : goodL (moveL L i wh loc) = true := by
  have ew : ∀ j, (moveL L i wh loc).wh j = if j = i then wh else L.wh j := fun _ => rfl
  have el : ∀ j, (moveL L i wh loc).loc j = if j = i then loc else L.loc j := fun _ => rfl
  have hoff : ∀ j : Nat, j ≠ i → (moveL L i wh loc).wh j = L.wh j ∧ (moveL L i wh loc).loc j = L.loc j := fun j hj => by rw [ew, el, if_neg hj, if_neg hj]; exact ⟨rfl, rfl⟩
  have hp : ∀ j : Nat, j < 9 → ∃ q, PathR (moveL L i wh loc) q (j : Int) := by
    intro j hj
    refine path_move hoff ?_ _ _ (good_path hg j hj)
    rw [ew, el, if_pos rfl, if_pos rfl]
    by_cases e2 : wh = 2
    · right
      refine ⟨e2, wayL L loc, ?_⟩
      have hl : amg loc 9 = true := by
        subst e2
        unfold gplace at h2
        rw [if_neg (by decide), if_neg (by decide)] at h2
        simp only [Bool.and_eq_true] at h2
        exact h2.1.2
      exact path_off hoff _ _ (good_way hg hl) (h3 e2)
    · exact .inl e2
  refine good_mk (fun r hr => by have := good_R hg r hr; unfold goodR at this ⊢; exact this) (fun b hb => by have := good_B hg b hb; unfold goodB at this ⊢; exact this) fun j hj => ?_
  have hk := good_kind hg j hj
  have ek : (moveL L i wh loc).kind j = L.kind j := rfl
  have eo : (moveL L i wh loc).on j = L.on j := rfl
  have egp : ∀ a c, gplace (moveL L i wh loc) a c = gplace L a c := fun _ _ => rfl
  refine ⟨?_, ?_, hp j hj⟩
  · rw [ek, eo, ew]
    by_cases e : j = i
    · subst e
      rw [if_pos rfl]
      have hk1 := hk.1
      unfold gkind at hk1 ⊢
      by_cases k0 : L.kind j = 0
      · rw [if_pos k0] at hk1 ⊢; exact hk1
      · rw [if_neg k0] at hk1 ⊢
        by_cases k2 : L.kind j = 2
        · rw [if_pos k2]
          rcases h1 with h1 | h1
          · rw [h1]; simp
          · cases ho : L.on j with
            | true => exact absurd ⟨k2, ho⟩ h1
            | false => rfl
        · rw [if_neg k2] at hk1 ⊢; exact hk1
    · rw [if_neg e]; exact hk.1
  · rw [egp, ew, el]
    by_cases e : j = i
    · rw [if_pos e, if_pos e]; exact h2
    · rw [if_neg e, if_neg e]; exact hk.2
theorem good_on {L : Ld} (hg : goodL L = true) (i : Nat) (hi : i < 9) (x : Bool) (h0 : L.kind i ≠ 0) (h2 : L.kind i = 2 → L.wh i = 1) : goodL (L.setOn i x) = true := by
  refine good_mk (fun r hr => by have := good_R hg r hr; unfold goodR at this ⊢; exact this) (fun b hb => by have := good_B hg b hb; unfold goodB at this ⊢; exact this) fun j hj => ?_
  have hk := good_kind hg j hj
  have egp : ∀ a c, gplace (L.setOn i x) a c = gplace L a c := fun _ _ => rfl
  refine ⟨?_, by rw [egp]; exact hk.2, _, path_same (L := L) (L' := L.setOn i x) (fun _ _ => Iff.rfl) (fun _ _ _ => rfl) _ _ (good_path hg j hj)⟩
  show gkind (L.kind j) (L.wh j) (if j = i then x else L.on j) = true
  by_cases e : j = i
  · subst e
    rw [if_pos rfl]
    have hk1 := hk.1
    unfold gkind at hk1 ⊢
    rw [if_neg h0] at hk1 ⊢
    by_cases k2 : L.kind j = 2
    · rw [if_pos k2, h2 k2]; simp
    · rw [if_neg k2] at hk1 ⊢; exact hk1
  · rw [if_neg e]; exact hk.1
theorem good_shut {L : Ld} (hg : goodL L = true) (r d : Nat) (x : Bool) (h : L.exit r d ≠ 0) : goodL (L.setShut r d x) = true := by
  refine good_mk (fun r' hr => ?_) (fun b hb => by have := good_B hg b hb; unfold goodB at this ⊢; exact this) fun j hj => ?_
  · have := good_R hg r' hr
    unfold goodR groom at this ⊢
    refine List.all_eq_true.2 fun d' hd => ?_
    have h2 := List.all_eq_true.1 this d' hd
    show (if L.exit r' d' = 0 then !(if r' = r ∧ d' = d then x else L.shut r' d') else amg (L.exit r' d' - 1) 6) = true
    by_cases e : L.exit r' d' = 0
    · rw [if_pos e] at h2 ⊢
      rw [if_neg]
      · exact h2
      · rintro ⟨rfl, rfl⟩; exact h e
    · rw [if_neg e] at h2 ⊢; exact h2
  · have hk := good_kind hg j hj
    have egp : ∀ a c, gplace (L.setShut r d x) a c = gplace L a c := fun _ _ => rfl
    exact ⟨hk.1, by rw [egp]; exact hk.2, _, path_same (L := L) (L' := L.setShut r d x) (fun _ _ => Iff.rfl) (fun _ _ _ => rfl) _ _ (good_path hg j hj)⟩

/-- What an order of b leaves as it was. -/
structure Kp (b : Nat) (L X : Ld) : Prop where
  good : goodL X = true
  tname : X.tname = L.tname
  kind : X.kind = L.kind
  rname : X.rname = L.rname
  dark : X.dark = L.dark
  exit : X.exit = L.exit
  thing : ∀ i : Nat, i < 9 → L.wh i = 1 → L.loc i ≠ (b : Int) → X.wh i = L.wh i ∧ X.loc i = L.loc i ∧ X.on i = L.on i
  being : ∀ c : Nat, c < 6 → c ≠ b → X.bname c = L.bname c ∧ X.here c = L.here c ∧ X.keen c = L.keen c ∧ X.room c = L.room c ∧ X.health c = L.health c
theorem Kp.refl {b : Nat} {L : Ld} (hg : goodL L = true) : Kp b L L := ⟨hg, rfl, rfl, rfl, rfl, rfl, fun _ _ _ _ => ⟨rfl, rfl, rfl⟩, fun _ _ _ => ⟨rfl, rfl, rfl, rfl, rfl⟩⟩
/-- Things that are not another's are moved. -/
structure MvK (b : Nat) (L X : Ld) : Prop where
  good : goodL X = true
  mv : Mv L X
  thing : ∀ i : Nat, i < 9 → L.wh i = 1 → L.loc i ≠ (b : Int) → X.wh i = L.wh i ∧ X.loc i = L.loc i
theorem MvK.refl {b : Nat} {L : Ld} (hg : goodL L = true) : MvK b L L := ⟨hg, Mv.refl L, fun _ _ _ _ => ⟨rfl, rfl⟩⟩
theorem MvK.kp {b : Nat} {L X : Ld} (h : MvK b L X) : Kp b L X := by
  obtain ⟨f, g, e⟩ := h.mv
  refine ⟨h.good, ?_, ?_, ?_, ?_, ?_, fun i hi h1 h2 => ⟨(h.thing i hi h1 h2).1, (h.thing i hi h1 h2).2, ?_⟩, fun c hc hn => ?_⟩
  all_goals rw [e]
  exact ⟨rfl, rfl, rfl, rfl, rfl⟩
theorem MvK.move {b : Nat} {L X : Ld} (h : MvK b L X) (i : Nat) (hi : i < 9) (wh loc : Int) (hn : ¬ (L.wh i = 1 ∧ L.loc i ≠ (b : Int))) (hg : goodL (moveL X i wh loc) = true) : MvK b L (moveL X i wh loc) := by
  refine ⟨hg, h.mv.move i wh loc, fun j hj h1 h2 => ?_⟩
  have hne : j ≠ i := by rintro rfl; exact hn ⟨h1, h2⟩
  have := h.thing j hj h1 h2
  show (if j = i then wh else X.wh j) = L.wh j ∧ (if j = i then loc else X.loc j) = L.loc j
  rw [if_neg hne, if_neg hne]; exact this
theorem mv_same {L X : Ld} (h : Mv L X) : X.kind = L.kind ∧ X.here = L.here ∧ X.on = L.on ∧ X.room = L.room ∧ X.tname = L.tname ∧ X.bname = L.bname := by
  obtain ⟨f, g, e⟩ := h
  rw [e]; exact ⟨rfl, rfl, rfl, rfl, rfl, rfl⟩

theorem has_iff (L : Ld) (wh loc : Int) (i : Nat) (h : (i : Int) ∈ hasK L wh loc 9) : i < 9 ∧ L.wh i = wh ∧ L.loc i = loc := by
  obtain ⟨j, hj, hlt, ha⟩ := hasK_mem h
  have : i = j := by omega
  subst this
  simp [isAt] at ha
  exact ⟨hlt, ha.1, ha.2⟩
theorem sight_iff (L : Ld) (b i : Nat) (h : (i : Int) ∈ sightL L b) : i < 9 ∧ L.wh i = 0 := by
  unfold sightL at h
  split at h
  · exact ⟨(has_iff L _ _ i h).1, (has_iff L _ _ i h).2.1⟩
  · simp at h
theorem reach_iff (L : Ld) (b i : Nat) (h : (i : Int) ∈ reachL L b) : i < 9 ∧ (L.wh i = 0 ∨ (L.wh i = 1 ∧ L.loc i = (b : Int))) := by
  rcases List.mem_append.1 h with h | h
  · have := has_iff L 1 (b : Int) i h
    exact ⟨this.1, .inr this.2⟩
  · have := sight_iff L b i h
    exact ⟨this.1, .inl this.2⟩

theorem take_mvk {L : Ld} {b : Nat} (hb : b < 6) (hh : L.here b = true) (hg : goodL L = true) (q : List Int) (hq : ∀ x ∈ q, ∃ i : Nat, x = (i : Int) ∧ i < 9 ∧ L.wh i ≠ 1) : MvK b L (takeS L b q).1 := by
  unfold takeS
  have key : ∀ (q : List Int) (s : Ld × List Ev), (∀ x ∈ q, ∃ i : Nat, x = (i : Int) ∧ i < 9 ∧ L.wh i ≠ 1) → MvK b L s.1 → MvK b L (q.foldl (gstep b) s).1 := by
    intro q
    induction q with
    | nil => intro s _ h; exact h
    | cons a q ih =>
      intro s hq h
      rw [List.foldl_cons]
      refine ih _ (fun x hx => hq x (List.mem_cons_of_mem _ hx)) ?_
      obtain ⟨i, rfl, hi, hw⟩ := hq a (List.mem_cons_self ..)
      show MvK b L (moveL s.1 i 1 (b : Int))
      refine h.move i hi 1 (b : Int) (fun e => hw e.1) (good_move h.good i hi 1 (b : Int) (.inl rfl) ?_ (fun e => absurd e (by decide)))
      unfold gplace
      rw [if_neg (by decide), if_pos rfl, amg_mk (by omega) (by omega)]
      rw [(mv_same h.mv).2.1]
      simpa using hh
  exact key q (L, []) hq (MvK.refl hg)
theorem part_mvk {L : Ld} {b : Nat} (hg : goodL L = true) (O : Od) (wh loc : Int) (E : Ev) (hp : gplace L wh loc = true) : MvK b L (partL L b O wh loc E) := by
  unfold partL partS
  have key : ∀ (q : List Int) (s : Ld × List Ev), (∀ x ∈ q, x ∈ handL L b) → MvK b L s.1 → MvK b L (q.foldl (pstep b wh loc E) s).1 := by
    intro q
    induction q with
    | nil => intro s _ h; exact h
    | cons a q ih =>
      intro s hq h
      rw [List.foldl_cons]
      refine ih _ (fun x hx => hq x (List.mem_cons_of_mem _ hx)) ?_
      obtain ⟨i, rfl, hi⟩ := hand_lt (hq a (List.mem_cons_self ..))
      have hh := has_iff L 1 (b : Int) i (hq _ (List.mem_cons_self ..))
      unfold pstep
      split
      · exact h
      · rename_i hc
        split
        · exact h
        · rename_i hd
          show MvK b L (moveL s.1 i wh loc)
          refine h.move i hi wh loc (fun e => e.2 hh.2.2) (good_move h.good i hi wh loc (.inr (by simpa using hc)) ?_ (fun e2 hm => hd ⟨e2, hm⟩))
          have hs := mv_same h.mv
          unfold gplace at hp ⊢
          rw [hs.1, hs.2.1]; exact hp
  exact key _ (L, []) (fun x hx => meant_mem hx) (MvK.refl hg)
theorem sees_here {L : Ld} {b c : Nat} (h : seesO L b c = true) : c ≠ b ∧ c < 6 ∧ L.here c = true := by
  unfold seesO seesL at h
  simp only [Bool.and_eq_true, decide_eq_true_eq] at h
  have h2 := h.2.1.2
  unfold abtL at h2
  simp only [Bool.and_eq_true] at h2
  have := amg_pos h2.1
  exact ⟨h.1, by omega, by simpa using h2.2⟩
theorem turned_kind (v : Int) : (turnedC v).kind ≠ 0 ∧ ((turnedC v).kind = 3 ∨ (turnedC v).kind = 1 ∨ (turnedC v).kind = 2) := by
  unfold turnedC
  repeat' split
  all_goals exact ⟨by decide, by decide⟩
theorem turn_kp {L : Ld} {b : Nat} (hg : goodL L = true) (O : Od) (v : Int) : Kp b L (turnL L b O (turnedC v)) := by
  have hk := turned_kind v
  unfold turnL
  split
  · exact Kp.refl hg
  · rename_i i hi
    obtain ⟨h9, hm, hkk⟩ := turnW_lt hi
    split
    · exact Kp.refl hg
    · have hw : L.wh i = 0 ∨ (L.wh i = 1 ∧ L.loc i = (b : Int)) := by
        unfold turnQ at hm
        split at hm
        · exact (reach_iff L b i hm).2
        · exact .inr (has_iff L 1 (b : Int) i hm).2
      refine ⟨good_on hg i h9 _ (by rw [hkk]; exact hk.1) (fun e2 => ?_), rfl, rfl, rfl, rfl, rfl, fun j hj h1 h2 => ⟨rfl, rfl, ?_⟩, fun _ _ _ => ⟨rfl, rfl, rfl, rfl, rfl⟩⟩
      · unfold turnQ at hm
        rw [if_neg (by rw [← hkk, e2]; decide)] at hm
        exact (has_iff L 1 (b : Int) i hm).2.1
      · show (if j = i then _ else L.on j) = L.on j
        rw [if_neg]
        rintro rfl
        rcases hw with hw | hw
        · omega
        · exact h2 hw.2
theorem act_kp {L : Ld} {b : Nat} (hg : goodL L = true) (hb : b < 6) (hh : L.here b = true) (O : Od) (h0 : 0 ≤ O.verb) (h1 : O.verb ≤ 20) : Kp b L (actL L b O) := by
  have hB := good_being hg b hb
  refine act_cases L b O h0 h1 ?_ ?_ ?_ ?_ ?_ ?_ ?_ ?_ ?_ ?_ ?_ ?_ ?_
  · intro h e1 e2; rw [e1]; exact Kp.refl hg
  · intro h e1 e2
    rw [e1]
    unfold getAL
    split
    · refine (take_mvk hb hh hg _ fun x hx => ?_).kp
      have hm := meant_mem hx
      obtain ⟨i, rfl, hi⟩ := sight_lt hm
      exact ⟨i, rfl, hi, by have := (sight_iff L b i hm).2; omega⟩
    · unfold getBL
      split
      · exact Kp.refl hg
      · refine (take_mvk hb hh hg _ fun x hx => ?_).kp
        have hm := meant_mem hx
        obtain ⟨i, rfl, hi⟩ := has_lt hm
        exact ⟨i, rfl, hi, by have := (has_iff L _ _ i hm).2.1; omega⟩
  · intro h e1 e2; rw [e1]; exact (part_mvk hg O 0 (L.room b) _ (place_room hB.1)).kp
  · intro h e1 e2
    rw [e1]
    unfold putL
    split
    · exact Kp.refl hg
    · rename_i i hi
      obtain ⟨h9, -, h3, -⟩ := box_lt hi
      refine (part_mvk hg O 2 (i : Int) _ ?_).kp
      unfold gplace
      rw [if_neg (by decide), if_neg (by decide), amg_mk (by omega) (by omega)]
      simp [h3]
  · intro h e1 e2
    rw [e1]
    unfold giveL
    split
    · exact Kp.refl hg
    · rename_i c hc
      obtain ⟨h6, hs⟩ := who_sees hc
      refine (part_mvk hg O 1 (c : Int) _ ?_).kp
      unfold gplace
      rw [if_neg (by decide), if_pos rfl, amg_mk (by omega) (by omega)]
      simpa using (sees_here hs).2.2
  · intro h e1 e2; rw [e1]; exact Kp.refl hg
  · intro d hd h hx e1 e2
    rw [e1]
    unfold doorL
    split
    · exact Kp.refl hg
    · rename_i hne
      split
      · exact Kp.refl hg
      · unfold sideL
        split
        · rename_i hx2
          refine ⟨good_shut (good_shut hg _ d _ hne) _ _ _ ?_, rfl, rfl, rfl, rfl, rfl, fun _ _ _ _ => ⟨rfl, rfl, rfl⟩, fun _ _ _ => ⟨rfl, rfl, rfl, rfl, rfl⟩⟩
          show L.exit _ _ ≠ 0
          rw [hx2]; omega
        · exact ⟨good_shut hg _ d _ hne, rfl, rfl, rfl, rfl, rfl, fun _ _ _ _ => ⟨rfl, rfl, rfl⟩, fun _ _ _ => ⟨rfl, rfl, rfl, rfl, rfl⟩⟩
  · intro h hx e1 e2; rw [e1]; exact turn_kp hg O O.verb
  · intro h e1 e2; rw [e1]; exact turn_kp hg O O.verb
  · intro h e1 e2
    rw [e1]
    unfold hitsL
    split
    · exact Kp.refl hg
    · rename_i c hc
      have hc2 : whoL L b O.name = some c := by
        unfold hitW at hc
        split at hc
        · exact hc
        · simp at hc
      obtain ⟨h6, hs⟩ := who_sees hc2
      obtain ⟨-, -, hch⟩ := sees_here hs
      have g1 : goodL (L.setFoe b ((c : Int) + 1)) = true := good_foe hg b (.inr ⟨hh, by rw [Int.add_sub_cancel]; exact amg_mk (by omega) (by omega)⟩)
      unfold foesL
      split
      · exact ⟨good_foe g1 c (.inr ⟨hch, by rw [Int.add_sub_cancel]; exact amg_mk (by omega) (by omega)⟩), rfl, rfl, rfl, rfl, rfl, fun _ _ _ _ => ⟨rfl, rfl, rfl⟩, fun _ _ _ => ⟨rfl, rfl, rfl, rfl, rfl⟩⟩
      · exact ⟨g1, rfl, rfl, rfl, rfl, rfl, fun _ _ _ _ => ⟨rfl, rfl, rfl⟩, fun _ _ _ => ⟨rfl, rfl, rfl, rfl, rfl⟩⟩
  · intro h e1 e2; rw [e1]; exact Kp.refl hg
  · intro h e1 e2
    rw [e1]
    have hl := good_letGo hg b hb
    refine ⟨good_zero hl.1 b hb hl.2, rfl, rfl, rfl, rfl, rfl, fun i hi h1 h2 => ?_, fun c hc hn => ?_⟩
    · have hni : (i : Int) ∉ handL L b := fun hm => h2 (has_iff L 1 (b : Int) i hm).2.2
      refine ⟨?_, ?_, ?_⟩
      · show (if (i : Int) ∈ handL L b then 0 else L.wh i) = L.wh i
        rw [if_neg hni]
      · show (if (i : Int) ∈ handL L b then L.room b else L.loc i) = L.loc i
        rw [if_neg hni]
      · show (if (i : Int) ∈ handL L b ∧ L.kind i = 2 then false else L.on i) = L.on i
        rw [if_neg (fun e => hni e.1)]
    · simp [zeroB, Ld.setBeing, hn, letGoL, freeK, dropS, Ld.setFoe]
  · intro d hd h e1 e2
    rw [e1]
    unfold walkL
    split
    · exact Kp.refl hg
    · rename_i hne
      split
      · exact Kp.refl hg
      · have hr := amg_pos hB.1
        have hx := good_exit hg (L.room b).toNat d (by omega) hd
        refine ⟨gone_good hg b ?_, rfl, rfl, rfl, rfl, rfl, fun _ _ _ _ => ⟨rfl, rfl, rfl⟩, fun c hc hn => ⟨rfl, rfl, rfl, ?_, rfl⟩⟩
        · rcases hx with hx | hx
          · exact absurd hx.1 hne
          · exact hx.2
        · show (if c = b then _ else L.room c) = L.room c
          rw [if_neg hn]
end Go.Proofs.YtaifjndkgfffpaaDoor
