/-
  The contract of FeedBytes of the document's own answer at a good codec.
-/
import Derived.Test.YtbjcmnemcgadjaaRefFeed
import Derived.Deep.DeepCutAuto
namespace Go.Proofs.Ytbjcmnemcgadjaa
open Go.RowKit
set_option linter.unusedVariables false

/-- The key of the document's switch. -/
def keyOf (T : Tel) (c : UInt8) : Int := T.pos * 256 + c.toNat

theorem cell_alloc_new (w : World) (v : Value) (ty : TypeId) : (w.alloc (.cells #[v] ty)).cell? ⟨w.heap.size, 0, none⟩ = some v := by
  have := heap_alloc_new w (.cells #[v] ty); simp only [World.cell?, this]; rfl

/-- What asked is wanted for: its codec, with the place and the verb struck, is what a byte behind a verb makes. -/
theorem asked_step (T : Tel) (o : UInt8) (w : World) (h1 : 251 ≤ T.verb) (h2 : T.verb ≤ 254) :
    Calls Try.prog 27 #[T.val, .int .i64 T.verb, .int .i64 ((o.toNat : Nat) : Int)] w fun e w' => ∃ T' : Tel, e = .returned (.tuple #[T'.val, .string ⟨(setl T o.toNat).2.toArray⟩]) ∧ ({ T' with pos := 0, verb := 0 } : Tel) = (setl T o.toNat).1 ∧ Below w.heap.size w w' := by
  have hc := o.toNat_lt
  obtain ⟨e1, e2⟩ := askd_setl T o.toNat
  refine (asked_any T T.verb o.toNat w h1 h2 (by omega) (by omega)).mono ?_
  rintro e w' ⟨rfl, hb⟩
  exact ⟨_, by rw [e2], e1, hb⟩

set_option maxRecDepth 100000 in
set_option maxHeartbeats 16000000 in
theorem reffeed_good (t : Tel) (s : ByteArray) (w : World) (hfine : Fine t) (hs : s.size ≤ 2097152) :
    Calls Try.prog 10 #[t.val, .string s] w fun e w' => e = .returned (.tuple #[(feedL t s.data.toList).1.val, .string ⟨(feedL t s.data.toList).2.1.toArray⟩, .string ⟨(feedL t s.data.toList).2.2.toArray⟩, .int .i64 0]) ∧ Below w.heap.size w w' := by
  have hsub : t.sub.size ≤ maxLen := by have := hfine.sub16; unfold maxLen; omega
  have hg : good t = true := (fine_iff t).2 hfine
  have HF := hide hfine
  clear hfine
  unfold Tel.val Tel.cells
  go_enter Try.func10, Try.ntmps10
  go_wp2_with fail
  refine (refgood_any t _ hsub).mono ?_
  rintro e w1 ⟨rfl, hb1⟩
  rw [hg]
  clear hsub hg
  go_wp2_with fail
  go_loopw [8, 9, 10] (fun vt va i wr => ∃ (k : Nat) (T : Tel) (X Y : List UInt8), i = .int .i64 k ∧ Rel w t s k T vt va X Y wr) (fun _ _ i _ => s.size - (intOf i).toNat)
  case atStart =>
    refine ⟨0, t, [], [], rfl, Nat.zero_le _, rfl, HF.out, ?_, ?_, ?_, World.ownsRow_nil _ _ _ _, World.ownsRow_nil _ _ _ _, ?_⟩
    · exact (((Below.refl _ _).alloc (Nat.le_refl _) _).alloc (by simp) _).trans (hb1.mono (by simp; omega))
    · show w1.heap[w.heap.size]? = _
      rw [hb1.block _ (by simp; omega), Below.heap_alloc _ _ _ (by simp)]
      exact heap_alloc_new w _
    · show w1.heap[w.heap.size + 1]? = _
      rw [hb1.block _ (by simp)]
      have := heap_alloc_new (w.alloc (.cells t.cells 25)) (.cells zt.cells 25)
      rw [World.size_alloc] at this
      exact this
    · intro k e; simp [Value.ownBlock] at e
  case round =>
    obtain ⟨k, T, X, Y, rfl, hR⟩ := hrel
    have hk := hR.le
    clear hb1
    by_cases hlt : k < s.size
    · have hroom := hR.inv.room
      have hsm := hR.small
      have b255 : s[k].toNat < 256 := s[k].toNat_lt
      have hI := hide (hR.inv.alloc (.cells #[.int .i64 ((s[k].toNat : Nat) : Int)] 3))
      have hC := hide (cell_alloc_new wr (.int .i64 ((s[k].toNat : Nat) : Int)) 3)
      obtain ⟨c0, c1, c2, c3, c4, c5, c6, c7, c8, c9, hfz⟩ := hR.inv.cod.all
      have hmn : ∀ (w : World) ts t, (Builtin.min_ ts t #[.int .i64 ((s[k].toNat : Nat) : Int), .int .i64 256]).run Try.prog w = .ok (.int .i64 ((s[k].toNat : Nat) : Int)) w := fun w ts t => by
        rw [run_min_int2]; congr 2; split <;> omega
      have hwr : IntKind.i64.wrap ((s[k].toNat : Nat) : Int) = s[k].toNat := by rw [IntKind.wrap_i64]; omega
      have p0 := hR.fine.pos0
      have p4 := hR.fine.pos4
      have hR' := hide hR
      have hzl : w.heap.size < wr.heap.size := by omega
      clear hR
      go_upto_region 9 with fail
      go_cut [34] (fun key wc => key = .int .i64 (keyOf T s[k]) ∧ FInv w T u8 u9 X Y wc ∧ wc.cell? ⟨wr.heap.size, 0, none⟩ = some (.int .i64 ((s[k].toNat : Nat) : Int)) ∧ wr.heap.size < wc.heap.size)
      case first =>
        go_wp2_with fail
        go_meet
        exact ⟨rfl, hI.out, hC.out, by simp⟩
      case rest =>
        obtain ⟨rfl, hI2, hC2, hz2⟩ := hcut
        clear c0 c1 c2 c3 c4 c5 c6 c7 c8 c9 hfz hmn hwr hI hC
        have hroom2 := hI2.room
        have hgne : ¬ wr.heap.size = w.heap.size := by omega
        generalize hK : keyOf T s[k] = K
        obtain ⟨c0, c1, c2, c3, c4, c5, c6, c7, c8, c9, hfz⟩ := hI2.cod.all
        unfold keyOf at hK
        have hcases : T.pos = 0 ∨ T.pos = 1 ∨ T.pos = 2 ∨ T.pos = 3 ∨ T.pos = 4 := by omega
        clear hzl hroom
        rcases hcases with hp | hp | hp | hp | hp
        · rw [hp] at c0 hK
          by_cases hc : s[k] = 255
          · have hcn : s[k].toNat = 255 := by rw [hc]; rfl
            have e255 : (K == 255) = true := by simp; omega
            have hS : step T s[k] = ({ T with pos := 1 }, [], []) := by unfold step; rw [if_pos hp, if_pos hc]
            have HR := hide (hR'.out.next hlt hS (by simpa using hI2.turn (cod_mk (cod_set hI2.cod 0 (.int .i64 1)) rfl) (grown_set (grown_refl _ _) _ _)))
            clear hS hI2 hK hR' hc hcn hp p0 p4
            go_wp2
            exact ⟨⟨k + 1, _, _, _, by go_num, HR.out⟩, by simp [intOf]; omega⟩
          · have hcn : s[k].toNat ≠ 255 := fun e => hc (UInt8.toNat.inj e)
            have e255 : (K == 255) = false := by simp; omega
            have e511 : (K == 511) = false := by simp; omega
            have e506 : (K == 506) = false := by simp; omega
            have e507 : (K == 507) = false := by simp; omega
            have e508 : (K == 508) = false := by simp; omega
            have e509 : (K == 509) = false := by simp; omega
            have e510 : (K == 510) = false := by simp; omega
            have e1023 : (K == 1023) = false := by simp; omega
            have e1279 : (K == 1279) = false := by simp; omega
            have HS := hide (show step T s[k] = (T, [s[k]], []) by unfold step; rw [if_pos hp, if_neg hc])
            clear hc hp p0 p4 hK hcn
            have HI2 := hide hI2
            clear hI2
            go_upto_region 12 with fail
            go_wp2_with (at_builtin; refine wp_append1 _ rfl (.tmp 39) (.tmp 43) rfl (w.heap.size + 2) u8 X rfl (HI2.out.own1.alloc _) s[k] ⟨wc.heap.size, 0, none⟩ rfl ?a1 ?a2 ?a3 ?_)
            case a1 => simp
            case a2 => omega
            case a3 => simp; omega
            intro v2 w2 ho2 hg2 hb2
            have hi2 := (HI2.out.alloc (.cells #[.int .u8 ((s[k].toNat : Nat) : Int)] 5)).app1 (z := X ++ [s[k]]) (by rw [List.length_append]; exact ho2) hg2 (by simpa using hb2)
            have HR := hide (hR'.out.next hlt HS.out (by simpa using hi2))
            clear ho2 hg2 hb2 hi2 HI2 hR'
            go_wp2
            exact ⟨⟨k + 1, _, _, _, by go_num, HR.out⟩, by simp [intOf]; omega⟩
        · rw [hp] at c0 hK
          have hsub := hR'.out.fine.sub0 (by omega)
          have hn0 : ¬ T.pos = 0 := by omega
          by_cases hc : s[k] = 255
          · have hcn : s[k].toNat = 255 := by rw [hc]; rfl
            have e255 : (K == 255) = false := by simp; omega
            have e511 : (K == 511) = true := by simp; omega
            have HS := hide (show step T s[k] = ({ T with pos := 0 }, [255], []) by unfold step; rw [if_neg hn0, if_pos hp, hc]; rfl)
            clear hc hp p0 p4 hK hcn hn0 hsub
            have HI2 := hide hI2
            clear hI2
            go_upto_region 29 with fail
            go_wp2_with (at_builtin; refine wp_append1 _ rfl (.tmp 108) (.tmp 109) rfl (w.heap.size + 2) u8 X rfl (HI2.out.own1.alloc _) 255 ⟨wc.heap.size, 0, none⟩ rfl ?a1 ?a2 ?a3 ?_)
            case a1 => simp
            case a2 => omega
            case a3 => simp; omega
            intro v2 w2 ho2 hg2 hb2
            have hi2 := (HI2.out.alloc (.cells #[.int .u8 255] 5)).app1 (z := X ++ [255]) (by rw [List.length_append]; exact ho2) hg2 (by simpa using hb2)
            have HR := hide (hR'.out.next hlt HS.out (by simpa using hi2.turn (cod_mk (cod_set hi2.cod 0 (.int .i64 0)) rfl) (grown_set (grown_refl _ _) _ _)))
            clear c0 c1 c2 c3 c4 c5 c6 c7 c8 c9 hfz
            obtain ⟨c0, c1, c2, c3, c4, c5, c6, c7, c8, c9, hfz⟩ := hi2.cod.all
            have hz3 := hi2.cod.lt
            clear ho2 hg2 hb2 hi2 HI2 hR'
            go_wp2
            exact ⟨⟨k + 1, _, _, _, by go_num, HR.out⟩, by simp [intOf]; omega⟩
          by_cases hc0 : s[k] = 250
          · have hcn : s[k].toNat = 250 := by rw [hc0]; rfl
            have e255 : (K == 255) = false := by simp; omega
            have e511 : (K == 511) = false := by simp; omega
            have e506 : (K == 506) = true := by simp; omega
            have hS : step T s[k] = ({ T with pos := 3 }, [], []) := by unfold step; rw [if_neg hn0, if_pos hp, if_neg hc, hc0]; show (cmd T 250, _, _) = _; unfold cmd; rw [if_pos rfl, ← hsub]
            have HR := hide (hR'.out.next hlt hS (by simpa using hI2.turn (cod_mk (cod_set hI2.cod 0 (.int .i64 3)) rfl) (grown_set (grown_refl _ _) _ _)))
            clear hS hI2 hK hR' hc hc0 hcn hp p0 p4 hn0 hsub
            go_wp2
            exact ⟨⟨k + 1, _, _, _, by go_num, HR.out⟩, by simp [intOf]; omega⟩
          by_cases hc251 : s[k] = 251
          · have hcn : s[k].toNat = 251 := by rw [hc251]; rfl
            have e255 : (K == 255) = false := by simp; omega
            have e511 : (K == 511) = false := by simp; omega
            have e506 : (K == 506) = false := by simp; omega
            have e507 : (K == 507) = true := by simp; omega
            have HS := hide (show step T s[k] = ({ T with pos := 2, verb := ((s[k].toNat : Nat) : Int) }, [], []) by unfold step; rw [if_neg hn0, if_pos hp, if_neg hc]; unfold cmd; rw [if_neg (by omega), if_pos (by omega)])
            have HI2 := hide hI2
            clear hI2 hK hp hn0 hsub hcn hc hc0 hc251
            go_upto_region 37 with fail
            go_region
            all_goals go_wp2
            all_goals exact ⟨⟨k + 1, _, _, _, by go_num, hR'.out.next hlt HS.out (by rw [List.append_nil, List.append_nil]; exact (HI2.out.turn (cod_mk (cod_set (cod_set HI2.out.cod 0 (.int .i64 2)) 1 (.int .i64 ((s[k].toNat : Nat) : Int))) rfl) (grown_set (grown_set (grown_refl _ _) _ _) _ _)).drewN 1)⟩, by simp [intOf]; omega⟩
          by_cases hc252 : s[k] = 252
          · have hcn : s[k].toNat = 252 := by rw [hc252]; rfl
            have e255 : (K == 255) = false := by simp; omega
            have e511 : (K == 511) = false := by simp; omega
            have e506 : (K == 506) = false := by simp; omega
            have e507 : (K == 507) = false := by simp; omega
            have e508 : (K == 508) = true := by simp; omega
            have HS := hide (show step T s[k] = ({ T with pos := 2, verb := ((s[k].toNat : Nat) : Int) }, [], []) by unfold step; rw [if_neg hn0, if_pos hp, if_neg hc]; unfold cmd; rw [if_neg (by omega), if_pos (by omega)])
            have HI2 := hide hI2
            clear hI2 hK hp hn0 hsub hcn hc hc0 hc251 hc252
            go_upto_region 37 with fail
            go_region
            all_goals go_wp2
            all_goals exact ⟨⟨k + 1, _, _, _, by go_num, hR'.out.next hlt HS.out (by rw [List.append_nil, List.append_nil]; exact (HI2.out.turn (cod_mk (cod_set (cod_set HI2.out.cod 0 (.int .i64 2)) 1 (.int .i64 ((s[k].toNat : Nat) : Int))) rfl) (grown_set (grown_set (grown_refl _ _) _ _) _ _)).drewN 1)⟩, by simp [intOf]; omega⟩
          by_cases hc253 : s[k] = 253
          · have hcn : s[k].toNat = 253 := by rw [hc253]; rfl
            have e255 : (K == 255) = false := by simp; omega
            have e511 : (K == 511) = false := by simp; omega
            have e506 : (K == 506) = false := by simp; omega
            have e507 : (K == 507) = false := by simp; omega
            have e508 : (K == 508) = false := by simp; omega
            have e509 : (K == 509) = true := by simp; omega
            have HS := hide (show step T s[k] = ({ T with pos := 2, verb := ((s[k].toNat : Nat) : Int) }, [], []) by unfold step; rw [if_neg hn0, if_pos hp, if_neg hc]; unfold cmd; rw [if_neg (by omega), if_pos (by omega)])
            have HI2 := hide hI2
            clear hI2 hK hp hn0 hsub hcn hc hc0 hc251 hc252 hc253
            go_upto_region 37 with fail
            go_region
            all_goals go_wp2
            all_goals exact ⟨⟨k + 1, _, _, _, by go_num, hR'.out.next hlt HS.out (by rw [List.append_nil, List.append_nil]; exact (HI2.out.turn (cod_mk (cod_set (cod_set HI2.out.cod 0 (.int .i64 2)) 1 (.int .i64 ((s[k].toNat : Nat) : Int))) rfl) (grown_set (grown_set (grown_refl _ _) _ _) _ _)).drewN 1)⟩, by simp [intOf]; omega⟩
          by_cases hc254 : s[k] = 254
          · have hcn : s[k].toNat = 254 := by rw [hc254]; rfl
            have e255 : (K == 255) = false := by simp; omega
            have e511 : (K == 511) = false := by simp; omega
            have e506 : (K == 506) = false := by simp; omega
            have e507 : (K == 507) = false := by simp; omega
            have e508 : (K == 508) = false := by simp; omega
            have e509 : (K == 509) = false := by simp; omega
            have e510 : (K == 510) = true := by simp; omega
            have HS := hide (show step T s[k] = ({ T with pos := 2, verb := ((s[k].toNat : Nat) : Int) }, [], []) by unfold step; rw [if_neg hn0, if_pos hp, if_neg hc]; unfold cmd; rw [if_neg (by omega), if_pos (by omega)])
            have HI2 := hide hI2
            clear hI2 hK hp hn0 hsub hcn hc hc0 hc251 hc252 hc253 hc254
            go_upto_region 37 with fail
            go_region
            all_goals go_wp2
            all_goals exact ⟨⟨k + 1, _, _, _, by go_num, hR'.out.next hlt HS.out (by rw [List.append_nil, List.append_nil]; exact (HI2.out.turn (cod_mk (cod_set (cod_set HI2.out.cod 0 (.int .i64 2)) 1 (.int .i64 ((s[k].toNat : Nat) : Int))) rfl) (grown_set (grown_set (grown_refl _ _) _ _) _ _)).drewN 1)⟩, by simp [intOf]; omega⟩
          have hcn : s[k].toNat ≠ 255 := fun e => hc (UInt8.toNat.inj e)
          have hcn0 : s[k].toNat ≠ 250 := fun e => hc0 (UInt8.toNat.inj e)
          have hcn1 : s[k].toNat ≠ 251 := fun e => hc251 (UInt8.toNat.inj e)
          have hcn2 : s[k].toNat ≠ 252 := fun e => hc252 (UInt8.toNat.inj e)
          have hcn3 : s[k].toNat ≠ 253 := fun e => hc253 (UInt8.toNat.inj e)
          have hcn4 : s[k].toNat ≠ 254 := fun e => hc254 (UInt8.toNat.inj e)
          have e255 : (K == 255) = false := by simp; omega
          have e511 : (K == 511) = false := by simp; omega
          have e506 : (K == 506) = false := by simp; omega
          have e507 : (K == 507) = false := by simp; omega
          have e508 : (K == 508) = false := by simp; omega
          have e509 : (K == 509) = false := by simp; omega
          have e510 : (K == 510) = false := by simp; omega
          have e1023 : (K == 1023) = false := by simp; omega
          have e1279 : (K == 1279) = false := by simp; omega
          have hS : step T s[k] = ({ T with pos := 0 }, [], []) := by unfold step; rw [if_neg hn0, if_pos hp, if_neg hc]; unfold cmd; rw [if_neg (by omega), if_neg (by omega)]
          have HR := hide (hR'.out.next hlt hS (by simpa using hI2.turn (cod_mk (cod_set hI2.cod 0 (.int .i64 0)) rfl) (grown_set (grown_refl _ _) _ _)))
          clear hS hI2 hK hR' hc hc0 hc251 hc252 hc253 hc254 hcn hcn0 hcn1 hcn2 hcn3 hcn4 hp p0 p4 hn0 hsub
          go_wp2
          exact ⟨⟨k + 1, _, _, _, by go_num, HR.out⟩, by simp [intOf]; omega⟩
        · rw [hp] at c0 hK
          have hv := hR'.out.fine.verb2 hp
          have hn0 : ¬ T.pos = 0 := by omega
          have hn1 : ¬ T.pos = 1 := by omega
          have HS := hide (show step T s[k] = ((setl T s[k].toNat).1, [], (setl T s[k].toNat).2) by unfold step; rw [if_neg hn0, if_neg hn1, if_pos hp])
          have HL := hide (setl_len T s[k].toNat)
          have CA := hide (fun w' => asked_step T s[k] w' hv.1 hv.2)
          unfold Tel.val Tel.cells at CA
          rw [hp] at CA
          have e255 : (K == 255) = false := by simp; omega
          have e511 : (K == 511) = false := by simp; omega
          have e506 : (K == 506) = false := by simp; omega
          have e507 : (K == 507) = false := by simp; omega
          have e508 : (K == 508) = false := by simp; omega
          have e509 : (K == 509) = false := by simp; omega
          have e510 : (K == 510) = false := by simp; omega
          have e1023 : (K == 1023) = false := by simp; omega
          have e1279 : (K == 1279) = false := by simp; omega
          have HI2 := hide hI2
          clear hI2 hK hn0 hn1 hv
          clear hp
          go_upto_region 17 with fail
          go_cut [13] (fun a wd => a = .string ⟨(setl T s[k].toNat).2.toArray⟩ ∧ ∃ T' : Tel, FInv w T' u8 u9 X Y wd ∧ ({ T' with pos := 0, verb := 0 } : Tel) = (setl T s[k].toNat).1)
          case first =>
            go_wp2_with fail
            refine (CA.out _).mono ?_
            rintro e w3 ⟨T', rfl, hT', hb3⟩
            have hI3 := HI2.out.later hb3
            clear c0 c1 c2 c3 c4 c5 c6 c7 c8 c9 hfz
            obtain ⟨c0, c1, c2, c3, c4, c5, c6, c7, c8, c9, hfz⟩ := hI3.cod.all
            have hz3 := hI3.cod.lt
            have hI4 := hide (hI3.turn (t' := T') (cod_ten hI3.cod) (grown_ten (grown_refl _ _)))
            replace hT' := hide hT'
            clear hI3 hb3 HI2
            go_wp2_with fail
            go_meet
            exact ⟨rfl, T', hI4.out, hT'.out⟩
          case rest =>
            obtain ⟨rfl, T', hI3, hT'⟩ := hcut
            clear c0 c1 c2 c3 c4 c5 c6 c7 c8 c9 hfz HI2 CA
            replace hT' := hide hT'
            have HI3 := hide hI3
            have hroom3 := hI3.room
            clear hI3
            generalize hz' : (setl T s[k].toNat).2 = Z at HL ⊢
            rw [hz'] at HS
            replace hz' := hide hz'
            have hzl := HL.out
            go_upto_region 18 with fail
            go_wp2_with (at_builtin; refine wp_appendS _ rfl (.tmp 58) (.tmp 59) rfl (w.heap.size + 2) u9 Y Z rfl HI3.out.own2 rfl ?a1 ?a2 ?_)
            case a1 => omega
            case a2 => omega
            intro v2 w2 ho2 hg2 hb2
            have hi2 := HI3.out.app2 (z := Y ++ Z) (by rw [List.length_append]; exact ho2) hg2 hb2
            have hi3 := (hi2.turn (t' := { T' with pos := 0 }) (cod_mk (cod_set hi2.cod 0 (.int .i64 0)) rfl) (grown_set (grown_refl _ _) _ _))
            have hi4 := (hi3.turn (t' := (setl T s[k].toNat).1) (by rw [← hT'.out]; exact cod_mk (cod_set hi3.cod 1 (.int .i64 0)) rfl) (grown_set (grown_refl _ _) _ _))
            have HR := hide (hR'.out.next hlt HS.out (by simpa using hi4))
            obtain ⟨c0, c1, c2, c3, c4, c5, c6, c7, c8, c9, hfz⟩ := hi2.cod.all
            have hz3 := hi2.cod.lt
            clear ho2 hg2 hb2 hi2 hi3 hi4 HI3 hR'
            go_wp2
            exact ⟨⟨k + 1, _, _, _, by go_num, HR.out⟩, by simp [intOf]; omega⟩
        · rw [hp] at c0 hK
          have hn0 : ¬ T.pos = 0 := by omega
          have hn1 : ¬ T.pos = 1 := by omega
          have hn2 : ¬ T.pos = 2 := by omega
          by_cases hc : s[k] = 255
          · have hcn : s[k].toNat = 255 := by rw [hc]; rfl
            have e255 : (K == 255) = false := by simp; omega
            have e511 : (K == 511) = false := by simp; omega
            have e506 : (K == 506) = false := by simp; omega
            have e507 : (K == 507) = false := by simp; omega
            have e508 : (K == 508) = false := by simp; omega
            have e509 : (K == 509) = false := by simp; omega
            have e510 : (K == 510) = false := by simp; omega
            have e1023 : (K == 1023) = true := by simp; omega
            have hS : step T s[k] = ({ T with pos := 4 }, [], []) := by unfold step; rw [if_neg hn0, if_neg hn1, if_neg hn2, if_pos hp, if_pos hc]
            have HR := hide (hR'.out.next hlt hS (by simpa using hI2.turn (cod_mk (cod_set hI2.cod 0 (.int .i64 4)) rfl) (grown_set (grown_refl _ _) _ _)))
            clear hS hI2 hK hR' hc hcn hp p0 p4 hn0 hn1 hn2
            go_wp2
            exact ⟨⟨k + 1, _, _, _, by go_num, HR.out⟩, by simp [intOf]; omega⟩
          · have hcn : s[k].toNat ≠ 255 := fun e => hc (UInt8.toNat.inj e)
            have e255 : (K == 255) = false := by simp; omega
            have e511 : (K == 511) = false := by simp; omega
            have e506 : (K == 506) = false := by simp; omega
            have e507 : (K == 507) = false := by simp; omega
            have e508 : (K == 508) = false := by simp; omega
            have e509 : (K == 509) = false := by simp; omega
            have e510 : (K == 510) = false := by simp; omega
            have e1023 : (K == 1023) = false := by simp; omega
            have e1279 : (K == 1279) = false := by simp; omega
            have HS := hide (show step T s[k] = (kp T s[k], [], []) by unfold step; rw [if_neg hn0, if_neg hn1, if_neg hn2, if_pos hp, if_neg hc])
            have CM := hide (more_any T w.heap.size wr.heap.size s[k] wc hI2.cod hR'.out.fine.sub16 hC2 hz2 hgne)
            have HI2 := hide hI2
            clear hI2 hK hc hcn hp hn0 hn1 hn2 p0 p4
            go_wp2_with fail
            refine CM.out.mono ?_
            rintro e w3 ⟨rfl, hc3, hg3⟩
            have HR := hide (hR'.out.next hlt HS.out (by simpa using HI2.out.turn hc3 hg3))
            clear hc3 hg3 HI2 CM hR'
            go_wp2
            exact ⟨⟨k + 1, _, _, _, by go_num, HR.out⟩, by simp [intOf]; omega⟩
        · rw [hp] at c0 hK
          have hn0 : ¬ T.pos = 0 := by omega
          have hn1 : ¬ T.pos = 1 := by omega
          have hn2 : ¬ T.pos = 2 := by omega
          have hn3 : ¬ T.pos = 3 := by omega
          by_cases hc : s[k] = 255
          · have hcn : s[k].toNat = 255 := by rw [hc]; rfl
            have e255 : (K == 255) = false := by simp; omega
            have e511 : (K == 511) = false := by simp; omega
            have e506 : (K == 506) = false := by simp; omega
            have e507 : (K == 507) = false := by simp; omega
            have e508 : (K == 508) = false := by simp; omega
            have e509 : (K == 509) = false := by simp; omega
            have e510 : (K == 510) = false := by simp; omega
            have e1023 : (K == 1023) = false := by simp; omega
            have e1279 : (K == 1279) = true := by simp; omega
            have HS := hide (show step T s[k] = ({ kp T s[k] with pos := 3 }, [], []) by unfold step; rw [if_neg hn0, if_neg hn1, if_neg hn2, if_neg hn3, if_pos hc, kp_pos])
            have CM := hide (more_any T w.heap.size wr.heap.size s[k] wc hI2.cod hR'.out.fine.sub16 hC2 hz2 hgne)
            have HI2 := hide hI2
            clear hI2 hK hc hcn hp hn0 hn1 hn2 hn3 p0 p4
            go_wp2_with fail
            refine CM.out.mono ?_
            rintro e w3 ⟨rfl, hc3, hg3⟩
            have hi3 := HI2.out.turn hc3 hg3
            have HR := hide (hR'.out.next hlt HS.out (by simpa using hi3.turn (t' := { kp T s[k] with pos := 3 }) (cod_mk (cod_set hi3.cod 0 (.int .i64 3)) rfl) (grown_set (grown_refl _ _) _ _)))
            clear c0 c1 c2 c3 c4 c5 c6 c7 c8 c9 hfz
            obtain ⟨c0, c1, c2, c3, c4, c5, c6, c7, c8, c9, hfz⟩ := hi3.cod.all
            have hz3 := hi3.cod.lt
            clear hc3 hg3 HI2 CM hi3 hR'
            go_wp2
            exact ⟨⟨k + 1, _, _, _, by go_num, HR.out⟩, by simp [intOf]; omega⟩
          · have hcn : s[k].toNat ≠ 255 := fun e => hc (UInt8.toNat.inj e)
            have HS := hide (show step T s[k] = (fin T s[k], [], []) by unfold step; rw [if_neg hn0, if_neg hn1, if_neg hn2, if_neg hn3, if_neg hc])
            have s16 := hR'.out.fine.sub16
            have e255 : (K == 255) = false := by simp; omega
            have e511 : (K == 511) = false := by simp; omega
            have e506 : (K == 506) = false := by simp; omega
            have e507 : (K == 507) = false := by simp; omega
            have e508 : (K == 508) = false := by simp; omega
            have e509 : (K == 509) = false := by simp; omega
            have e510 : (K == 510) = false := by simp; omega
            have e1023 : (K == 1023) = false := by simp; omega
            have e1279 : (K == 1279) = false := by simp; omega
            have HI2 := hide hI2
            have k240 := byte_beq s[k] 240 (by omega)
            clear hI2 hK hp hn0 hn1 hn2 hn3 p0 p4
            by_cases hall : s[k] = 240 ∧ T.sub.size = 5 ∧ T.sub.data.toList.getD 0 0 = 31 ∧ T.t2 = 1
            · obtain ⟨h1, h5, h0, h2⟩ := hall
              obtain ⟨x0, x1, x2, x3, x4, hx⟩ := five _ h5
              have HF0 := hide (show fin T s[k] = { T with pos := 0, sub := ⟨#[]⟩, height := min (256 * (x3.toNat : Int) + (x4.toNat : Int)) 200 } by unfold fin; rw [if_pos ⟨h1, h5, h0, h2⟩, hx]; rfl)
              rw [hx] at h0
              have h0' : x0 = 31 := h0
              subst h0'
              rw [hx] at c2
              rw [h2] at c8
              have i0 : ∀ h, (ByteArray.mk #[31, x1, x2, x3, x4])[0]'h = 31 := fun _ => rfl
              have i3 : ∀ h, (ByteArray.mk #[31, x1, x2, x3, x4])[3]'h = x3 := fun _ => rfl
              have i4 : ∀ h, (ByteArray.mk #[31, x1, x2, x3, x4])[4]'h = x4 := fun _ => rfl
              have e240 : (((s[k].toNat : Nat) : Int) == 240) = true := by simp [h1]
              have y3 : x3.toNat < 256 := x3.toNat_lt
              have y4 : x4.toNat < 256 := x4.toNat_lt
              have hmn : ∀ (w : World) ts t, (Builtin.min_ ts t #[.int .i64 (256 * (x3.toNat : Int) + (x4.toNat : Int)), .int .i64 200]).run Try.prog w = .ok (.int .i64 (min (256 * (x3.toNat : Int) + (x4.toNat : Int)) 200)) w := fun w ts t => by
                rw [run_min_int2]; congr 2; split <;> omega
              clear hc hcn h1 h5 h0 h2 hx k240 s16
              go_upto_region 24 with fail
              go_region
              all_goals go_wp2
              all_goals exact ⟨⟨k + 1, _, _, _, by go_num, hR'.out.next hlt (HS.out.trans (by rw [HF0.out])) (by rw [List.append_nil, List.append_nil]; exact (HI2.out.turn (cod_mk (cod_set (cod_set (cod_set HI2.out.cod 9 (.int .i64 (min (256 * (x3.toNat : Int) + (x4.toNat : Int)) 200))) 0 (.int .i64 0)) 2 (.string ⟨#[]⟩)) rfl) (grown_set (grown_set (grown_set (grown_refl _ _) _ _) _ _) _ _)).drewN 1)⟩, by simp [intOf]; omega⟩
            · have HF0 := hide (show fin T s[k] = { T with pos := 0, sub := ⟨#[]⟩ } by unfold fin; rw [if_neg hall])
              have HR := hide (hR'.out.next hlt (HS.out.trans (by rw [HF0.out])) (by simpa using (HI2.out.turn (cod_mk (cod_set (cod_set HI2.out.cod 0 (.int .i64 0)) 2 (.string ⟨#[]⟩)) rfl) (grown_set (grown_set (grown_refl _ _) _ _) _ _))))
              by_cases h1 : s[k] = 240
              · have e240 : (((s[k].toNat : Nat) : Int) == 240) = true := by simp [h1]
                by_cases h5 : T.sub.size = 5
                · obtain ⟨x0, x1, x2, x3, x4, hx⟩ := five _ h5
                  have i0 : ∀ h, (ByteArray.mk #[x0, x1, x2, x3, x4])[0]'h = x0 := fun _ => rfl
                  have k0 := byte_beq x0 31 (by omega)
                  rw [hx] at c2
                  by_cases h0 : x0 = 31
                  · subst h0
                    have h2 : ¬ T.t2 = 1 := fun e => hall ⟨h1, h5, by rw [hx]; rfl, e⟩
                    have e2 : (T.t2 == 1) = false := by simpa using h2
                    clear hall hc hcn h1 h5 hx k240 s16 k0 h2 HI2
                    go_wp2
                    exact ⟨⟨k + 1, _, _, _, by go_num, HR.out⟩, by simp [intOf]; omega⟩
                  · have e0 : (((x0.toNat : Nat) : Int) == 31) = false := by simpa [h0] using k0
                    clear hall hc hcn h1 h5 hx k240 s16 k0 h0 HI2
                    go_wp2
                    exact ⟨⟨k + 1, _, _, _, by go_num, HR.out⟩, by simp [intOf]; omega⟩
                · have e5 : ((T.sub.size : Int) == 5) = false := by simp; omega
                  clear hall hc hcn h1 h5 k240 HI2
                  go_wp2
                  exact ⟨⟨k + 1, _, _, _, by go_num, HR.out⟩, by simp [intOf]; omega⟩
              · have e240 : (((s[k].toNat : Nat) : Int) == 240) = false := by simpa [h1] using k240
                clear hall hc hcn h1 k240 HI2
                go_wp2
                exact ⟨⟨k + 1, _, _, _, by go_num, HR.out⟩, by simp [intOf]; omega⟩
    · have hkk : k = s.size := by omega
      have hT : feedL t s.data.toList = (T, X, Y) := by have := hR.eq; rwa [hkk, List.take_of_length_le (by simp)] at this
      have HT := hide hT
      obtain ⟨hX, hY⟩ := hR.inv.convs (grown_refl _ _)
      obtain ⟨hX', hY'⟩ := hR.inv.convs (grown_ten (t := T) (grown_refl _ _))
      obtain ⟨c0, c1, c2, c3, c4, c5, c6, c7, c8, c9, hfz⟩ := hR.inv.cod.all
      obtain ⟨d0, d1, d2, d3, d4, d5, d6, d7, d8, d9, hfd⟩ := hR.inv.res.all
      clear hT hkk
      go_wp2
      go_region
      go_wp2
      refine bodyPost_ret (res4 Try.results10 rfl rfl rfl rfl (cod_drew (cod_ten hR.inv.res))) rfl ⟨?_, (below_ten hR.inv.below (by omega)).drew⟩
      rw [HT.out]
      rfl
end Go.Proofs.Ytbjcmnemcgadjaa
