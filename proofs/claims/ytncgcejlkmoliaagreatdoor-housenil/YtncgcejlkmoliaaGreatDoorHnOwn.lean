/-
  Proved: for every act and number, the law inglenooklaw.HouseNil of the landed program returns true and leaves its arguments as they were: a house that is none refuses every act with ErrNone, nobody sits in it, its land is empty, nothing was told, its pages and lines are empty. No condition (the tables are laid as the program's text lays them, which the card ties, but none is read).
-/
import Derived.Test.YtncgcejlkmoliaaGreatDoorHnW
import Derived.Test.YtncgcejlkmoliaaGreatDoorLdOpen
import Derived.Test.YtncgcejlkmoliaaGreatDoorHnCl
import Derived.Test.YtncgcejlkmoliaaGreatDoorCards
import Derived.Test.YtncgcejlkmoliaaGreatDoorTie
import Derived.Lay
import Derived.SevenTiedAt
import Derived.Stop.Joined
import Derived.Deep.DeepHandedRow
namespace Go.Proofs.YtncgcejlkmoliaaGreatDoor.houseNil
open Go.ChangeShapes Go.WideShapes Go.ChangeAt Go.RowKit
open Go.ChangeMaps (open_string shut_string)
set_option linter.unusedVariables false

theorem Tryz.cellsAct : Tryz.prog.cellsOf 23 = 4 := by kernel_rfl
theorem Tryz.recAct : Tryz.prog.readableRec 23 = true := by kernel_rfl
def zAct : Array Value := #[.int .i64 0, .int .i64 0, .int .i64 0, .string .empty]
def dAct {H : Type} : DataW H := .agg [.lit (.int .i64 0), .lit (.int .i64 0), .lit (.int .i64 0), .lit (.string [])]

set_option maxRecDepth 100000 in
theorem open_act {H : Type} {enc : TypeId × Value → H} {w : World} {base : Nat} {spare : Nat → Bool} {held : Bool} {r : Reach} {b0 : Nat} {v : Value} {d : DataW H} {p : List MemPlace} (hv : Value.okWide Tryz.prog w r b0 23 v) (h : DataW.Trod enc Tryz.prog w base spare held 23 v d p) :
    ∃ (a b c : Int) (s : ByteArray), v = .agg #[.int .i64 a, .int .i64 b, .int .i64 c, .string s] := by
  obtain ⟨cs, rfl, hsz⟩ := okWide_struct Tryz.underlying23 hv
  rw [Tryz.cellsAct] at hsz
  obtain ⟨fuel, hf⟩ := h
  obtain ⟨ys, m, _, _, _, hl, hf⟩ := DataW.trod_struct Tryz.underlying23 hf
  have hs : Sub (fun n => cs.getD n undef) 0 4 cs.toList := ⟨by simpa using hsz, fun j hj => by simp [hsz, hj]⟩
  have g0 : DataW.trod enc Tryz.prog w base spare held m 3 ((cs.toList.drop 0).take (Tryz.prog.cellsOf 3)) = ys[0]? := hf 0 _ rfl
  rw [Tryz.cells3] at g0
  have i0 := sub_int (hs.cut 0 1 (by omega)) g0 (isSome_get hl (by decide))
  have g1 : DataW.trod enc Tryz.prog w base spare held m 3 ((cs.toList.drop 1).take (Tryz.prog.cellsOf 3)) = ys[1]? := hf 1 _ rfl
  rw [Tryz.cells3] at g1
  have i1 := sub_int (hs.cut 1 1 (by omega)) g1 (isSome_get hl (by decide))
  have g2 : DataW.trod enc Tryz.prog w base spare held m 3 ((cs.toList.drop 2).take (Tryz.prog.cellsOf 3)) = ys[2]? := hf 2 _ rfl
  rw [Tryz.cells3] at g2
  have i2 := sub_int (hs.cut 2 1 (by omega)) g2 (isSome_get hl (by decide))
  have g3 : DataW.trod enc Tryz.prog w base spare held m 9 ((cs.toList.drop 3).take (Tryz.prog.cellsOf 9)) = ys[3]? := hf 3 _ rfl
  rw [Tryz.cells9] at g3
  have s3 := sub_str (hs.cut 3 1 (by omega)) g3 (isSome_get hl (by decide))
  simp only [Nat.zero_add] at i0 i1 i2 s3
  refine ⟨intOf (cs.getD 0 undef), intOf (cs.getD 1 undef), intOf (cs.getD 2 undef), sOf (cs.getD 3 undef), congrArg Value.agg ?_⟩
  have hc : ∀ n, n < 4 → cs[n]? = some (cs.getD n undef) := fun n hn => by simp [hsz, hn]
  apply Array.ext_getElem?
  intro n
  match n with
  | 0 => rw [hc 0 (by omega)]; exact (congrArg some i0.eq).symm
  | 1 => rw [hc 1 (by omega)]; exact (congrArg some i1.eq).symm
  | 2 => rw [hc 2 (by omega)]; exact (congrArg some i2.eq).symm
  | 3 => rw [hc 3 (by omega)]; exact (congrArg some s3.eq).symm
  | n + 4 => rw [Array.getElem?_eq_none (by omega), Array.getElem?_eq_none (by simp)]

set_option maxRecDepth 100000 in
theorem contract (H : Type) (enc : TypeId × Value → H) (W : World) (base : Nat) (args : Array Value) (ds gs : List (DataW H)) (before : List MemPlace)
    (hval : ∀ (j : Nat) t v, Tryz.f3.params[j]? = some t → args[j]? = some v → Value.okWide Tryz.prog W .any base t v)
    (hW : DataW.Whole enc Tryz.prog Tryz.f3.params.toList Rows.houseNilSpec.vars false W args.toList ds gs before)
    (hL : laidMetH Tryz.prog Rows.houseNilRow.laid W) :
    Calls Tryz.prog 3 args W fun e W' => ∃ v, e = .returned v ∧ Rows.houseNilSpec.post enc Tryz.prog Tryz.f3 false true false false W args v W' := by
  have hW' := hW
  obtain ⟨p, q, hA0, hV, rfl, hfz, hnd⟩ := hW
  have hA : DataW.TrodAll enc Tryz.prog W 0 (fun _ => true) true Tryz.f3.params.toList args.toList ds p := hA0
  rw [Tryz.params3] at hA hval
  obtain ⟨v0, vs0, d0, ds0, p0, q0, hargs, rfl, rfl, h0, r0⟩ := trodAll_cons hA
  obtain ⟨v1, vs1, d1, ds1, p1, q1, rfl, rfl, rfl, h1, r1⟩ := trodAll_cons r0
  obtain ⟨rfl, rfl, rfl⟩ := trodAll_nil r1
  obtain rfl : args = #[v0, v1] := by cases args; simp_all
  obtain ⟨rfl, rfl⟩ := trodVars_none hV
  obtain ⟨a, b, c, s, rfl⟩ := open_act (hval 0 23 v0 rfl rfl) h0
  obtain ⟨i, rfl, rfl, rfl, wi⟩ := open_int Tryz.underlying3 (hval 1 3 v1 rfl rfl) h1
  clear hA0
  simp only [List.append_nil] at hW'
  refine (Hn.nilW a b c s i W).mono fun e W' ⟨he, hb⟩ => ?_
  subst he
  refine ⟨_, rfl, post_true hW' (by kernel_rfl) rfl (pa := p0 ++ ([] ++ [])) ?_ rfl hb⟩
  rw [Tryz.params3]
  exact trodAll_cons_mk (hb.trod Tryz.laidOut Tryz.recAct (of_decide_eq_true (by kernel_rfl)) h0 (trod_lt' h0)) (trodAll_cons_mk (hb.trod Tryz.laidOut Tryz.rec3 (of_decide_eq_true (by kernel_rfl)) h1 (by simp)) trodAll_mk0)

theorem reads (os : Os) {H : Type} (enc : TypeId × Value → H) : ∃ places, DataW.whole enc Tryz.prog ((World.laidAll Tryz.prog os Rows.houseNilRow.laid).forCall (fun _ _ => 0) ⟨#[], #[.agg zAct, .int .i64 0], []⟩).memory Tryz.f3.params.toList Rows.houseNilSpec.vars false (#[.agg zAct, .int .i64 0] : Array Value).toList 8 = some ([dAct, .lit (.int .i64 0)], [], places) :=
  ⟨[], by kernel_rfl⟩

theorem fits (os : Os) : laidMet Tryz.prog Rows.houseNilRow.laid ((World.laidAll Tryz.prog os Rows.houseNilRow.laid).forCall (fun _ _ => 0) ⟨#[], #[.agg zAct, .int .i64 0], []⟩).memory :=
  laidMet_laidAll _ (by kernel_rfl) (by kernel_rfl)

set_option maxRecDepth 100000 in
theorem lifted (os : Os) (started : os.Started) (H : Type) (enc : TypeId × Value → H) (F : Stop.Interp) :
    ReturnsInHanded {} Tryz.checked os 3 .any ((OpenSpec.ofChange Rows.houseNilSpec).preRow enc Tryz.prog Tryz.f3 Rows.houseNilRow.domain false Rows.houseNilRow.laid) (((OpenSpec.ofChange Rows.houseNilSpec).at F).post enc Tryz.prog Tryz.f3 false true false false) := by
  obtain ⟨places, hx⟩ := reads os enc
  refine returnsInHanded_of_row (C := Tryz.checked) (s := OpenSpec.ofChange Rows.houseNilSpec) Tryz.own started (by kernel_rfl) Tryz.func3
    ⟨World.laidAll Tryz.prog os Rows.houseNilRow.laid, fun _ _ => 0, ⟨#[], #[.agg zAct, .int .i64 0], []⟩, World.laidAll_os _ _ _, World.shaped_of_ZipB (by kernel_rfl) (by kernel_rfl), rfl, (Input.okWide_of_okWideB (by kernel_rfl)).2,
      OpenSpec.preRow_of_cond 8 hx (by kernel_rfl) (fun k hk => by cases hk) (by kernel_rfl) (fits os), by simp [Assume.holds]⟩ ?_
  intro W base args ds gs before hval hW _ _ _ hL _ _
  exact contract H enc W base args ds gs before hval hW hL

set_option maxRecDepth 100000 in
theorem said : Rows.HouseNilSaid :=
  OpenClaim.holds_of_cond 3 Tryz.f3 rfl rfl rfl rfl rfl rfl rfl ⟨rfl, rfl, rfl, rfl, rfl⟩ rfl rfl rfl rfl rfl (by kernel_rfl) Tryz.func3 closed
    (of_decide_eq_true (by kernel_rfl)) (by unfold Func.isWrapper; first | (rw [if_pos (by decide +kernel)]; kernel_rfl) | (rw [if_neg (by decide +kernel)]; exact ⟨rfl, rfl⟩))
    (fun os started H enc _ F => by rw [OpenClaim.pre_eq_preRow]; exact lifted os started H enc F)

theorem plain (f : FuncId) (fn : Func) (hf : Tryz.pinned.checked.prog.funcNamed Rows.houseNilRow.func = some f) (hfn : Tryz.pinned.checked.prog.funcs[f]? = some fn) :
    false = Tryz.pinned.checked.prog.looks [] ∧ ∀ (j : Nat) t, fn.params[j]? = some t → Tryz.pinned.checked.prog.wantsStandIn t = false := by
  obtain rfl : f = 3 := Option.some.inj ((show Tryz.prog.funcNamed Rows.houseNilRow.func = some 3 by kernel_rfl).symm.trans hf) |>.symm
  obtain rfl : fn = Tryz.f3 := (Option.some.inj (Tryz.func3.symm.trans hfn)).symm
  refine ⟨by kernel_rfl, fun j t ht => ?_⟩
  rw [Tryz.params3] at ht
  have hm : t ∈ [23, 3] := by simpa using Array.mem_of_getElem? ht
  have hall : ([23, 3].all fun u => !Tryz.prog.wantsStandIn u) = true := by kernel_rfl
  exact (show Tryz.prog.wantsStandIn t = false by simpa using List.all_eq_true.1 hall t hm)

theorem proved : Rows.HouseNilCardSaid :=
  Claim7.holds_tied_plain_at .later [] _ _ _ _ said (fun _ h => by cases h) (by kernel_rfl) (fun _ h => by cases h) houseNil_row_tie rfl ⟨rfl, rfl⟩ (by kernel_rfl) rfl plain (by kernel_rfl)
#print axioms proved
end Go.Proofs.YtncgcejlkmoliaaGreatDoor.houseNil
