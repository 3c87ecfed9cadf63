/-
  The walk of the law PagerShows.
-/
import Derived.Test.YtponfhjplpfjkacPgAllP
namespace Go.Proofs.Ytponfhjplpfjkac
open Go.RowKit
set_option linter.unusedVariables false

/-- The law's page in its block, of the call's own memory. -/
structure PB (w : World) (P : Pg) (v : Value) (wr : World) : Prop where
  below : Below w.heap.size w wr
  cod : Cod wr w.heap.size P v
  reads : Reads wr v P.wait
  far : Far (w.heap.size + 1) v

section
variable {w wr w' : World} {P P' : Pg} {v v' : Value}
theorem PB.behind {B : Nat} (h : PB w P v wr) (hb : Below B wr w') (hB : wr.heap.size ≤ B) : PB w P v w' :=
  ⟨h.below.trans (hb.mono (by have := h.below.size; omega)), cod_behind h.cod hb hB, h.reads.below hb hB, h.far⟩
theorem PB.drew (h : PB w P v wr) : PB w P v wr.drew := h.behind (Below.refl wr.heap.size wr).drew (Nat.le_refl _)
theorem PB.lay (h : PB w P v wr) (hq : Reads wr v' P'.wait) (hf : Far (w.heap.size + 1) v') :
    PB w P' v' (((((wr.setCell ⟨w.heap.size, 0, none⟩ v').setCell ⟨w.heap.size, 1, none⟩ (.int .i64 P'.shown)).setCell ⟨w.heap.size, 2, none⟩ (.bool P'.asking)).setCell ⟨w.heap.size, 3, none⟩ (.string P'.ring)).setCell ⟨w.heap.size, 4, none⟩ (.bool P'.cut)) :=
  ⟨below_five h.below (Nat.le_refl _), cod_five h.cod, reads_five hq (off_far hf (by omega)), hf⟩
end

theorem cell_put {w : World} {g o b f : Nat} {x u : Value} (h : w.cell? ⟨g, o, none⟩ = some x) (hne : ¬ g = b) : (w.setCell ⟨b, f, none⟩ u).cell? ⟨g, o, none⟩ = some x := by
  have e := Below.heap_setCell w ⟨b, f, none⟩ u g hne
  rw [← h]; simp only [World.cell?, e]

theorem cell_five {w : World} {g o b : Nat} {x x0 x1 x2 x3 x4 : Value} (h : w.cell? ⟨g, o, none⟩ = some x) (hne : ¬ g = b) :
    (((((w.setCell ⟨b, 0, none⟩ x0).setCell ⟨b, 1, none⟩ x1).setCell ⟨b, 2, none⟩ x2).setCell ⟨b, 3, none⟩ x3).setCell ⟨b, 4, none⟩ x4).cell? ⟨g, o, none⟩ = some x :=
  cell_put (cell_put (cell_put (cell_put (cell_put h hne) hne) hne) hne) hne

theorem pb_new (w : World) : PB w zp (.slice none 0 0) (w.alloc (.cells (zp.cells (.slice none 0 0)) 25)) :=
  ⟨(Below.refl _ _).alloc (Nat.le_refl _) _, heap_alloc_new w _, reads_nil _, fun b off n c e => by simp at e⟩

theorem tell_q (q : List ByteArray) (s : ByteArray) (h : q.length < 60) : tellP (qp q) s = qp (q ++ [s]) ∧ refusal (qp q) = 0 := by
  have hr : refusal (qp q) = 0 := by
    have hg : goodP (qp q) = true := good_qp q (by omega)
    unfold refusal
    rw [hg]
    rfl
  refine ⟨?_, hr⟩
  unfold tellP
  rw [if_pos hr, if_neg (by simp only [qp]; omega)]
  rfl

theorem tell_step (q : List ByteArray) (s : ByteArray) (v : Value) (w : World) (h : q.length < 60) (hv : Reads w v q) :
    Calls Try.prog 8 #[.agg ((qp q).cells v), .string s] w fun e w' => ∃ (a : Option Addr) (c : Nat), e = .returned (.tuple #[.agg ((qp (q ++ [s])).cells (.slice a (q.length + 1) c)), .int .i64 0]) ∧ Reads w' (.slice a (q.length + 1) c) (q ++ [s]) ∧ Far (w.heap.size + 2) (.slice a (q.length + 1) c) ∧ Below w.heap.size w w' := by
  have := tell_any (qp q) s v w hv (small_qp q (by omega))
  rw [(tell_q q s h).1, (tell_q q s h).2] at this
  refine this.mono ?_
  rintro e w' ⟨v', rfl, h1, h2, h3⟩
  have h1' : Reads w' v' (q ++ [s]) := h1
  obtain ⟨a, c, ev⟩ := h1'.shape
  rw [List.length_append] at ev
  subst ev
  exact ⟨a, c, rfl, h1, h2, h3⟩

theorem ext_left (a b : ByteArray) : (a ++ b).extract 0 a.size = a := by
  exact ByteArray.extract_append_eq_left rfl

theorem want_pos {d : List ByteArray} (h : d ≠ []) : 2 ≤ (wantL d).size := by
  cases d with
  | nil => exact absurd rfl h
  | cons f r =>
    simp only [wantL, lineB, ByteArray.size_append]
    have : crlf.size = 2 := rfl
    omega

theorem div_bound (n h len : Nat) (h1 : n * h ≤ len) (h0 : 1 ≤ h) (hm : len ≤ 2 ^ 63 - 1) : (n : Int) ≤ wrap64 ((len : Int) / (h : Int)) := by
  have e : ((len / h : Nat) : Int) = (len : Int) / (h : Int) := by simp
  rw [← e]
  have h2 : n ≤ len / h := (Nat.le_div_iff_mul_le (by omega)).2 h1
  have h3 : len / h ≤ len := Nat.div_le_self _ _
  unfold wrap64
  omega

/-- How many lines wait in the block. -/
def wlen (b : Nat) (w : World) : Nat := match w.cell? ⟨b, 0, none⟩ with | some (.slice _ n _) => n | _ => 0

theorem wlen_pb {w wr : World} {P : Pg} {v : Value} (h : PB w P v wr) : wlen w.heap.size wr = P.wait.length := by
  obtain ⟨c0, _⟩ := h.cod.all
  obtain ⟨av, cap, rfl⟩ := h.reads.shape
  unfold wlen
  rw [c0]

set_option maxRecDepth 100000 in
set_option maxHeartbeats 2000000 in
theorem shows_walk (l : List ByteArray) (m : Int) (v : Value) (w : World) (hv : Reads w v l) (hl : ∀ s ∈ l, s.size ≤ maxLen) (hm : -9223372036854775808 ≤ m) (hm' : m ≤ 9223372036854775807) :
    Calls Try.prog 3 #[v, .int .i64 m] w fun e w' => e = .returned (.bool true) ∧ Below w.heap.size w w' := by
  have CP := hide (fun w => pick_any m 201 w hm hm' (by decide) (by decide))
  have CW := hide shows_any
  have hv0 := hide hv
  have hlm := hide hl
  have hmx := hv.max
  unfold maxLen at hmx
  obtain ⟨av, cap, rfl⟩ := hv.shape
  clear hv hl hm hm'
  go_enter Try.func3, Try.ntmps3
  go_wp2_with fail
  refine (CP.out _).mono ?_
  rintro e w1 ⟨⟨h, hh, rfl⟩, hw⟩
  rw [hw]
  clear hw w1 CP
  go_wp2_with fail
  go_loopw [6, 7] (fun want i wr => ∃ (k : Nat) (u : Value), k ≤ 60 ∧ k ≤ l.length ∧ want = .string (wantL (l.take k)) ∧ i = .int .i64 k ∧ Hid (∀ s ∈ l.take k, s.size ≤ 40) ∧ PB w (qp (l.take k)) u wr) (fun _ i _ => 60 - (intOf i).toNat)
  case atStart => exact ⟨0, _, by omega, by omega, rfl, rfl, fun s hs => by simp at hs, pb_new w⟩
  case round =>
    obtain ⟨k, u, hk, hkl, rfl, rfl, HS, hB⟩ := hrel
    have Hq : Hid ((l.take k).length = k) := hide (by rw [List.length_take]; omega)
    have hvr := hide (hv0.out.below hB.below (Nat.le_refl _))
    by_cases hgo : k < l.length ∧ k < 60
    · obtain ⟨hlt, h60⟩ := hgo
      obtain ⟨s, es⟩ : ∃ s, l[k] = s := ⟨_, rfl⟩
      have HT : Hid (l.take (k + 1) = l.take k ++ [s]) := hide (by rw [List.take_succ_eq_append_getElem hlt, es])
      generalize hqq : l.take k = q at HS hB HT Hq
      obtain ⟨av', cap', ev, _, _, _, hc⟩ := hvr.out
      obtain ⟨g, off, rfl, hcell⟩ := hc (by omega)
      injection ev with e1 e2 e3
      subst e1 e3
      have hcs := hcell k hlt
      rw [es] at hcs
      have hsm := hlm.out s (by rw [← es]; exact List.getElem_mem hlt)
      unfold maxLen at hsm
      have hglt := cell_lt hcs
      have hgne : ¬ g = w.heap.size := by
        intro e
        obtain ⟨av2, cap2, ev2, _, _, _, hc2⟩ := hv0.out
        obtain ⟨g2, off2, rfl, hcell2⟩ := hc2 (by omega)
        injection ev2 with e1; injection e1 with e1; injection e1 with e1
        have := cell_lt (hcell2 k hlt)
        simp only at this
        omega
      have hshape := hB.reads.shape
      simp only [qp] at hshape
      obtain ⟨a1, cap1, rfl⟩ := hshape
      clear hc hcell hqq es
      by_cases h40 : 40 < s.size
      · replace hB := hide hB
        go_wp2_with fail
        refine (CW.out _).mono ?_
        rintro e w2 ⟨rfl, hb2⟩
        have hb3 := hide ((hB.out.behind hb2 (Nat.le_refl _)).below)
        clear hb2
        go_wp2
        go_ret
        exact ⟨rfl, hb3.out⟩
      · have CT := hide (fun w' hr => tell_step q s (.slice a1 q.length cap1) w' (by rw [Hq.out]; exact h60) hr)
        have CE := hide (fun w' => escape_any s w' (by omega))
        have hesz := esc_size s
        have hwz := want_size q HS.out
        have hwz2 : (wantL q).size ≤ 4920 := by rw [Hq.out] at hwz; omega
        clear hwz
        obtain ⟨c0, c1, c2, c3, c4, cfz⟩ := hB.cod.all
        have hz := hB.cod.lt
        have hBd := hide hB.drew
        have hB0 := hide hB
        unfold qp Pg.cells at CT
        dsimp only [qp] at CT c0 c1 c2 c3 c4
        clear hB
        go_upto_region 10 with fail
        go_cut [8] (fun e wc => e = .int .i64 0 ∧ ∃ v', PB w (qp (q ++ [s])) v' wc ∧ wc.cell? ⟨g, off + k, none⟩ = some (.string s))
        case first =>
          go_region_with (go_at_call 8; refine (CT.out _ hBd.out.reads).mono ?_; rintro e w3 ⟨a3, cap3, rfl, hr3, hf3, hb3⟩; have hB3 := hBd.out.behind hb3 (Nat.le_refl _); have hL3 := hide (hB3.lay (P' := qp (q ++ [s])) (v' := .slice a3 (q.length + 1) cap3) hr3 (hf3.mono (by simp; omega))); obtain ⟨e0, e1, e2, e3, e4, efz⟩ := hB3.cod.all; have ez := hB3.cod.lt; have hcs3 : w3.cell? ⟨g, off + k, none⟩ = some (.string s) := (by rw [hb3.cell (p := ⟨g, off + k, none⟩) (by simpa using hglt)]; exact hcs); clear hB3 hb3 hf3 hr3)
          all_goals go_wp2_with fail
          all_goals go_meet
          all_goals exact ⟨rfl, _, hL3.out, cell_five hcs3 hgne⟩
        case rest =>
          obtain ⟨rfl, v', hB, hcs'⟩ := hcut
          clear c0 c1 c2 c3 c4 cfz hcs hBd hB0 CT hglt
          replace hB := hide hB
          go_wp2_with fail
          refine (CE.out _).mono ?_
          rintro e w4 ⟨rfl, hb4⟩
          have hB4 := hide (hB.out.behind hb4 (Nat.le_refl _))
          clear hb4 hB
          go_wp2
          refine ⟨⟨k + 1, _, h60, hlt, ?_, by go_num, hide ?_, by rw [HT.out]; exact hB4.out⟩, by simp [intOf]; omega⟩
          · rw [HT.out, wantL_app, wantL_one]; rfl
          · rw [HT.out]; intro x hx
            rcases List.mem_append.1 hx with hx | hx
            · exact HS.out x hx
            · simp at hx; subst hx; omega
    · have hkl2 : k ≤ l.length := hkl
      generalize hqq : l.take k = q at HS hB Hq
      clear hqq hkl
      go_upto_region 5 with fail
      go_cut [23] (fun c wc => c = .bool false ∧ wc = wr)
      case first =>
        by_cases h1 : k < l.length
        · have h2 : ¬ k < 60 := fun e => hgo ⟨h1, e⟩
          clear hgo hkl2
          go_wp2_with fail
          go_meet
          exact ⟨by simp; omega, rfl⟩
        · clear hgo hkl2
          go_wp2_with fail
          go_meet
          exact ⟨rfl, rfl⟩
      case rest =>
        obtain ⟨rfl, rfl⟩ := hcut
        have hlq : q.length ≤ 60 := by rw [Hq.out]; exact hk
        replace hlq := hide hlq
        have hB0 := hide hB
        clear hB hgo
        go_wp2_with fail
        go_loopw [9, 10] (fun got pages wr' => ∃ (d : List ByteArray) (P : Pg) (u : Value) (n : Nat), got = .string (wantL d) ∧ pages = .int .i64 n ∧ PB w P u wr' ∧ Hid (Rel q h P n d)) (fun _ _ wr' => wlen w.heap.size wr')
        case atStart => exact ⟨[], qp q, u, 0, rfl, rfl, hB0.out, hide ⟨rfl, rfl, rfl, rfl, fun _ => rfl, fun _ => rfl, by simp⟩⟩
        case round =>
          obtain ⟨d, ⟨wt, sh, ak, rg, ct⟩, u, n, rfl, rfl, hB, HR⟩ := hrel
          clear hB0
          obtain rfl : ak = false := HR.out.asking
          obtain rfl : ct = false := HR.out.cut
          obtain rfl : rg = ⟨#[]⟩ := HR.out.ring
          have HL := hide (wlen_pb hB)
          cases wt with
          | nil =>
            have hqd : q = d := by have := HR.out.split; simpa using this
            subst hqd
            have hshape := hB.reads.shape
            obtain ⟨a1, cap1, rfl⟩ := hshape
            obtain ⟨c0, c1, c2, c3, c4, cfz⟩ := hB.cod.all
            dsimp only [List.length_nil] at c0 c1 c2 c3 c4
            have hz := hB.cod.lt
            replace hB := hide hB
            by_cases h0 : h = 0
            · have hn0 := HR.out.none h0
              subst h0 hn0
              go_wp2_with fail
              refine (CW.out _).mono ?_
              rintro e w3 ⟨rfl, hb3⟩
              have hB3 := hide (hB.out.behind hb3 (Nat.le_refl _)).below
              clear hb3
              go_wp2
              go_ret
              exact ⟨rfl, hB3.out⟩
            · have hdv : (n : Int) ≤ wrap64 ((l.length : Int) / (h : Int)) := div_bound n h l.length (by have h1 := HR.out.some; have h2 := Hq.out; omega) (by omega) hmx
              have hpos : 0 < h := by omega
              have h0b : ((h : Int) == 0) = false := by simp; omega
              clear h0
              go_wp2_with fail
              refine (CW.out _).mono ?_
              rintro e w3 ⟨rfl, hb3⟩
              have hB3 := hide (hB.out.behind hb3 (Nat.le_refl _)).below
              clear hb3
              go_wp2
              go_ret
              exact ⟨rfl, hB3.out⟩
          | cons f r =>
            obtain rfl : sh = 0 := HR.out.shown (by simp)
            have hsp : q = d ++ (f :: r) := HR.out.split
            have hfr : (f :: r).length ≤ 60 := by have := hlq.out; rw [hsp, List.length_append] at this; omega
            have hal : ∀ s ∈ f :: r, s.size ≤ 40 := fun s hs => HS.out s (by rw [hsp]; exact List.mem_append.2 (.inr hs))
            have CF := hide (fun w' hr => flow_step (f :: r) h u w' hr hh hfr hal)
            have hshape := hB.reads.shape
            simp only [List.length_cons] at hshape
            obtain ⟨a1, cap1, rfl⟩ := hshape
            obtain ⟨c0, c1, c2, c3, c4, cfz⟩ := hB.cod.all
            have hz := hB.cod.lt
            replace hB := hide hB
            replace hsp := hide hsp
            replace hfr := hide hfr
            unfold qp Pg.cells at CF
            dsimp only at CF c0 c1 c2 c3 c4
            clear hal
            go_upto_region 19 with fail
            go_cut [12] (fun e wc => e = .int .i64 0 ∧ ∃ (Q : Pg) (v' : Value), PB w Q v' wc ∧ Ends h (f :: r) ⟨#[]⟩ 0 Q ∧ Ok Q)
            case first =>
              go_wp2_with fail
              refine (CF.out _ hB.out.reads).mono ?_
              rintro e w3 ⟨Q, v3, rfl, hE, hO, hr3, hf3, hb3⟩
              have hB3 := hB.out.behind hb3 (Nat.le_refl _)
              have hL3 := hide (hB3.lay (P' := Q) (v' := v3) hr3 (hf3.mono (by simp; omega)))
              clear c0 c1 c2 c3 c4 cfz
              obtain ⟨c0, c1, c2, c3, c4, cfz⟩ := hB3.cod.all
              have ez := hB3.cod.lt
              obtain ⟨a3, cap3, rfl⟩ := hr3.shape
              replace hE := hide hE
              replace hO := hide hO
              clear hB3 hb3 hf3 hr3 hB
              dsimp only at c0 c1 c2 c3 c4
              go_wp2_with fail
              go_meet
              exact ⟨rfl, Q, _, hL3.out, hE.out, hO.out⟩
            case rest =>
              obtain ⟨rfl, ⟨wt, sh, ak, rg, ct⟩, v', hB2, hE, hO⟩ := hcut
              clear c0 c1 c2 c3 c4 cfz hB CF
              obtain ⟨c0, c1, c2, c3, c4, cfz⟩ := hB2.cod.all
              have hz2 := hB2.cod.lt
              have hshape := hB2.reads.shape
              obtain ⟨a2, cap2, rfl⟩ := hshape
              dsimp only at c0 c1 c2 c3 c4
              rcases hE with ⟨hc, hs⟩ | ⟨d2, r2, hq, hr, hc, ha, hw, hg, hh0, hn⟩ | ⟨hc, ha, hw, hg⟩
              ·
                obtain rfl : ct = true := hc
                have hws : 688 < (wantL q).size := by
                  rw [hsp.out, wantL_app, ByteArray.size_append]
                  have e0 : (ByteArray.mk #[]).size = 0 := rfl
                  rw [e0] at hs
                  omega
                replace hB2 := hide hB2
                replace hO := hide hO
                clear hs
                go_wp2
                go_ret
                exact ⟨ret_bool (by simp; omega), hB2.out.below⟩
              ·
                obtain rfl : ct = false := hc
                obtain rfl : ak = true := ha
                obtain rfl : wt = r2 := hw
                have CT := hide (fun w' hr => take_step ⟨wt, sh, true, rg, false⟩ (.slice a2 wt.length cap2) w' hr hO)
                have hO2 := hide hO
                replace hB2 := hide hB2
                unfold Pg.cells at CT
                dsimp only at CT
                clear hO
                replace hq := hide hq
                replace hr := hide hr
                have hg' : Hid (rg = wantL d2 ++ moreB) := hide (by have e : rg = ⟨#[]⟩ ++ wantL d2 ++ moreB := hg; rw [e, empty_app])
                clear hg
                have hd1 : h ≤ d2.length := by omega
                have hp1 : 1 ≤ h := by omega
                clear hh0 hn
                have hd1' := hide hd1
                clear hd1
                go_upto_region 25 with fail
                go_cut [] (fun wc => ∃ v', PB w ⟨wt, sh, true, ⟨#[]⟩, false⟩ v' wc)
                case first =>
                  go_wp2_with fail
                  refine (CT.out _ hB2.out.reads).mono ?_
                  rintro e w3 ⟨v3, s3, rfl, hr3, hf3, hb3⟩
                  have hB3 := hB2.out.behind hb3 (Nat.le_refl _)
                  have hL3 := hide (hB3.lay (P' := ⟨wt, sh, true, ⟨#[]⟩, false⟩) (v' := v3) hr3 (hf3.mono (by simp; omega)))
                  clear c0 c1 c2 c3 c4 cfz
                  obtain ⟨c0, c1, c2, c3, c4, cfz⟩ := hB3.cod.all
                  have ez := hB3.cod.lt
                  obtain ⟨a3, cap3, rfl⟩ := hr3.shape
                  clear hB3 hb3 hf3 hr3 hB2
                  dsimp only at c0 c1 c2 c3 c4
                  go_wp2_with fail
                  go_meet
                  exact ⟨_, hL3.out⟩
                case rest =>
                  obtain ⟨v3, hB3⟩ := hcut
                  clear c0 c1 c2 c3 c4 cfz CT hB2
                  obtain ⟨c0, c1, c2, c3, c4, cfz⟩ := hB3.cod.all
                  have hz3 := hB3.cod.lt
                  have hshape := hB3.reads.shape
                  obtain ⟨a3, cap3, rfl⟩ := hshape
                  dsimp only at c0 c1 c2 c3 c4
                  replace hB3 := hide hB3
                  have hrs : 12 < rg.size := by
                    have := want_pos (d := d2) (fun e => by have := hd1'.out; rw [e] at this; simp at this; omega)
                    rw [hg'.out, ByteArray.size_append, more_size]; omega
                  have hrm := hO2.out.ring
                  dsimp only at hrm
                  go_upto_region 28 with fail
                  have hx : rg.extract 0 (rg.size - 10 - 2) = wantL d2 := by
                    have e : rg.size - 10 - 2 = (wantL d2).size := by
                      have e1 : rg.size = (wantL d2).size + 12 := by rw [hg'.out, ByteArray.size_append, more_size]
                      omega
                    rw [e, hg'.out]
                    exact ext_left _ _
                  rw [hx]
                  have hd2 : (wantL d2).size ≤ 700 := by have e1 : rg.size = (wantL d2).size + 12 := by { rw [hg'.out, ByteArray.size_append, more_size] }; omega
                  have CU := hide (fun w' hr => turn_any ⟨wt, sh, true, ⟨#[]⟩, false⟩ (.slice a3 wt.length cap3) w' hr (small_of _ (show (ByteArray.mk #[]).size ≤ 700 by decide) hO2.out.lo hO2.out.hi hO2.out.len))
                  unfold turnP Pg.cells at CU
                  dsimp only at CU
                  clear hx hrs hrm hg'
                  go_cut [] (fun wc => ∃ v', PB w ⟨wt, 0, false, ⟨#[]⟩, false⟩ v' wc)
                  case first =>
                    go_wp2_with fail
                    refine (CU.out _ hB3.out.reads).mono ?_
                    rintro e w4 ⟨v4, rfl, hr4, hf4, hb4⟩
                    have hB4 := hB3.out.behind hb4 (Nat.le_refl _)
                    have hL4 := hide (hB4.lay (P' := ⟨wt, 0, false, ⟨#[]⟩, false⟩) (v' := v4) hr4 (hf4.mono (by simp; omega)))
                    clear c0 c1 c2 c3 c4 cfz
                    obtain ⟨c0, c1, c2, c3, c4, cfz⟩ := hB4.cod.all
                    have ez := hB4.cod.lt
                    obtain ⟨a4, cap4, rfl⟩ := hr4.shape
                    clear hB4 hb4 hf4 hr4 hB3
                    dsimp only at c0 c1 c2 c3 c4
                    go_wp2_with fail
                    go_meet
                    exact ⟨_, hL4.out⟩
                  case rest =>
                    obtain ⟨v4, hB4⟩ := hcut
                    clear c0 c1 c2 c3 c4 cfz CU hB3
                    obtain ⟨c0, c1, c2, c3, c4, cfz⟩ := hB4.cod.all
                    have hz4 := hB4.cod.lt
                    have HL4 := hide (wlen_pb hB4)
                    have hshape := hB4.reads.shape
                    obtain ⟨a4, cap4, rfl⟩ := hshape
                    dsimp only at c0 c1 c2 c3 c4
                    replace hB4 := hide hB4
                    have hlen : r.length + 1 = d2.length + wt.length := by
                      have := congrArg List.length hq.out
                      rw [List.length_append, List.length_cons] at this
                      exact this
                    have hd1 := hd1'.out
                    have hlw : wt.length < r.length + 1 := by omega
                    have hne : ((wt.length : Int) == (r.length : Int) + 1) = false := by simp; omega
                    have hds : (wantL d).size ≤ 4920 := by
                      have h1 := want_size d (fun s hs => HS.out s (by rw [hsp.out]; exact List.mem_append.2 (.inl hs)))
                      have h2 := hlq.out
                      rw [hsp.out, List.length_append] at h2
                      omega
                    have HRR : Hid (Rel q h ⟨wt, 0, false, ⟨#[]⟩, false⟩ (n + 1) (d ++ d2)) := hide ⟨by rw [hsp.out, hq.out, List.append_assoc], rfl, rfl, rfl, fun _ => rfl, fun e => by omega, by
                      have := HR.out.some
                      rw [Nat.add_mul, List.length_append]; omega⟩
                    have hnn : n ≤ 60 := by
                      have h1 := HR.out.some
                      have h2 := hlq.out
                      rw [hsp.out, List.length_append] at h2
                      have h3 : n * 1 ≤ n * h := Nat.mul_le_mul_left n (by omega)
                      omega
                    replace hlen := hide hlen
                    clear hd1
                    go_wp2
                    refine ⟨⟨d ++ d2, ⟨wt, 0, false, ⟨#[]⟩, false⟩, _, n + 1, by rw [wantL_app], by go_num, hB4.out, HRR⟩, ?_⟩
                    rw [HL.out, HL4.out]
                    exact hlw
              ·
                obtain rfl : ct = false := hc
                obtain rfl : ak = false := ha
                obtain rfl : wt = [] := hw
                have CT := hide (fun w' hr => take_step ⟨[], sh, false, rg, false⟩ (.slice a2 0 cap2) w' hr hO)
                have hO2 := hide hO
                replace hB2 := hide hB2
                unfold Pg.cells at CT
                dsimp only at CT
                clear hO
                have hg' : Hid (rg = wantL (f :: r)) := hide (by have e : rg = ⟨#[]⟩ ++ wantL (f :: r) := hg; rw [e, empty_app])
                clear hg
                dsimp only [List.length_nil] at c0
                go_upto_region 25 with fail
                go_cut [] (fun wc => ∃ v', PB w ⟨[], sh, false, ⟨#[]⟩, false⟩ v' wc)
                case first =>
                  go_wp2_with fail
                  refine (CT.out _ hB2.out.reads).mono ?_
                  rintro e w3 ⟨v3, s3, rfl, hr3, hf3, hb3⟩
                  have hB3 := hB2.out.behind hb3 (Nat.le_refl _)
                  have hL3 := hide (hB3.lay (P' := ⟨[], sh, false, ⟨#[]⟩, false⟩) (v' := v3) hr3 (hf3.mono (by simp; omega)))
                  clear c0 c1 c2 c3 c4 cfz
                  obtain ⟨c0, c1, c2, c3, c4, cfz⟩ := hB3.cod.all
                  have ez := hB3.cod.lt
                  obtain ⟨a3, cap3, rfl⟩ := hr3.shape
                  clear hB3 hb3 hf3 hr3 hB2
                  dsimp only [List.length_nil] at c0 c1 c2 c3 c4
                  go_wp2_with fail
                  go_meet
                  exact ⟨_, hL3.out⟩
                case rest =>
                  obtain ⟨v3, hB3⟩ := hcut
                  clear c0 c1 c2 c3 c4 cfz CT hB2
                  obtain ⟨c0, c1, c2, c3, c4, cfz⟩ := hB3.cod.all
                  have hz3 := hB3.cod.lt
                  have HL3 := hide (wlen_pb hB3)
                  have hshape := hB3.reads.shape
                  obtain ⟨a3, cap3, rfl⟩ := hshape
                  dsimp only [List.length_nil] at c0 c1 c2 c3 c4
                  replace hB3 := hide hB3
                  have hrm := hO2.out.ring
                  dsimp only at hrm
                  have hne : ((0 : Int) == (r.length : Int) + 1) = false := by simp; omega
                  have hds : (wantL d).size ≤ 4920 := by
                    have h1 := want_size d (fun s hs => HS.out s (by rw [hsp.out]; exact List.mem_append.2 (.inl hs)))
                    have h2 := hlq.out
                    rw [hsp.out, List.length_append] at h2
                    omega
                  have HRR : Hid (Rel q h ⟨[], sh, false, ⟨#[]⟩, false⟩ n (d ++ (f :: r))) := hide ⟨by rw [hsp.out]; simp, rfl, rfl, rfl, fun e => absurd rfl e, HR.out.none, by
                    have := HR.out.some
                    rw [List.length_append]; omega⟩
                  go_wp2
                  refine ⟨⟨d ++ (f :: r), ⟨[], sh, false, ⟨#[]⟩, false⟩, _, n, by rw [wantL_app, hg'.out], rfl, hB3.out, HRR⟩, ?_⟩
                  rw [HL.out, HL3.out]
                  simp
end Go.Proofs.Ytponfhjplpfjkac
