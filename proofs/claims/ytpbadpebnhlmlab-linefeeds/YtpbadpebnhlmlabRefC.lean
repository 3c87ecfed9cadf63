/-
  The contracts of the document's own NextLine, bytesOf at one byte, and of the closure of FeedText.
-/
import Derived.Test.YtpbadpebnhlmlabRefB
namespace Go.Proofs.Ytpbadpebnhlmlab
open Go.RowKit
set_option linter.unusedVariables false

theorem one_part (x : UInt8) : ByteArray.mk #[] ++ ByteArray.mk #[x] = ByteArray.mk #[x] := by
  apply ByteArray.ext; simp

theorem ret_str {a b : ByteArray} (h : a = b) : Ending.returned (.string a) = .returned (.string b) := by rw [h]

set_option maxRecDepth 100000 in
set_option maxHeartbeats 1000000 in
theorem bytesOf1 (g : Nat) (c : UInt8) (w : World) (hg : g < w.heap.size) (h0 : w.cell? ⟨g, 0, none⟩ = some (.int .i64 c.toNat)) :
    Calls Try.prog 25 #[.slice (some ⟨g, 0, none⟩) 1 1] w fun e w' => e = .returned (.string ⟨#[c]⟩) ∧ Below w.heap.size w w' := by
  have v0 := conv_one w w.heap.size rfl c
  have hc := c.toNat_lt
  have k1 : g < w.heap.size + 1 := by omega
  go_enter Try.func25, Try.ntmps25
  go_wp2
  refine wp_loop_rounds 2 ?_
  rw [rounds_succ]
  go_wp2
  rw [rounds_succ]
  go_wp2
  go_ret
  exact ⟨ret_str (one_part c), (Below.refl _ _).alloc (Nat.le_refl _) _⟩

/-- While bytes go through, with the count of lost lines in block g. -/
structure TInv (w0 : World) (b : Nat) (o : Obj) (g n : Nat) (L : Lin) (v : Value) (wr : World) : Prop where
  inv : FInv w0 b o L v wr
  lost : wr.heap[g]? = some (.cells #[.int .i64 (n : Int)] 3 (0, 0))
  hi : b + 2 ≤ g
  sep : v.ownBlock ≠ some g

section
variable {w0 wr w' : World} {b g n : Nat} {o : Obj} {L L' : Lin} {v v' : Value}

theorem TInv.put (h : TInv w0 b o g n L v wr) (f : Nat) (u : Value) (hc : (L.cells v).setIfInBounds f u = L'.cells v) (hq : L'.q = L.q) : TInv w0 b o g n L' v (wr.setCell ⟨b, f, none⟩ u) :=
  ⟨h.inv.put f u hc hq, cod_ne h.lost (by have := h.hi; omega) _ _, h.hi, h.sep⟩

theorem TInv.alloc (h : TInv w0 b o g n L v wr) (x : Obj) : TInv w0 b o g n L v (wr.alloc x) := ⟨h.inv.alloc x, cod_alloc h.lost x, h.hi, h.sep⟩

theorem TInv.cell (h : TInv w0 b o g n L v wr) : wr.cell? ⟨g, 0, none⟩ = some (.int .i64 (n : Int)) ∧ (∀ x, wr.frozen? ⟨g, x, none⟩ = false) ∧ g < wr.heap.size := by
  refine ⟨by simp [World.cell?, h.lost], fun x => by simp [World.frozen?, h.lost], (Array.getElem?_eq_some_iff.1 h.lost).1⟩

theorem TInv.more (h : TInv w0 b o g n L v wr) : TInv w0 b o g (n + 1) L v (wr.setCell ⟨g, 0, none⟩ (.int .i64 ((n + 1 : Nat) : Int))) := by
  have hhi := h.hi
  have hlo := h.inv.lo
  refine ⟨⟨h.inv.lo, h.inv.below.setCell (show w0.heap.size ≤ g by omega) _, cod_ne h.inv.cod (by omega) _ _, cod_ne h.inv.other (by omega) _ _, h.inv.own.kept (grown_set wr g 0 _) ?_⟩, ?_, h.hi, h.sep⟩
  · right; exact fun e => h.sep e
  · exact heap_setCell_same wr g 0 _ 3 _ h.lost

end

set_option maxRecDepth 100000 in
set_option maxHeartbeats 1000000 in
theorem end24 (w0 : World) (b : Nat) (o : Obj) (g n : Nat) (L : Lin) (v : Value) (w : World) (h : TInv w0 b o g n L v w) (h6 : L.q.length ≤ 6) (hn : n ≤ 9223372036854775806) :
    Calls Try.prog 24 #[.pointer (some ⟨b, 0, none⟩), .pointer (some ⟨g, 0, none⟩)] w fun e w' => e = .returned (.tuple #[]) ∧ ∃ v', TInv w0 b o g (n + if 6 ≤ L.q.length then 1 else 0) (endL L) v' w' := by
  obtain ⟨i0, hi, hz0, hz1, hz2⟩ := info_parts Try.info9
  obtain ⟨c0, c1, c2, c3, hfz⟩ := h.inv.cod.all
  obtain ⟨g0, gfz, glt⟩ := h.cell
  have hhi := h.hi
  have hgb : ¬ g = b := by omega
  have hbg : ¬ b = g := by omega
  obtain ⟨av, cap, rfl⟩ := own_shape h.inv.own
  have hroom := h.inv.room
  by_cases hf : 6 ≤ L.q.length
  · have he := hide (show endL L = { L with now := ⟨#[]⟩, long := false } by simp [endL, hf])
    have h1 := hide ((h.more.put (L' := { L with now := ⟨#[]⟩ }) 0 (.string ⟨#[]⟩) rfl rfl).put (L' := { L with now := ⟨#[]⟩, long := false }) 1 (.bool false) rfl rfl)
    have hl6 : ((L.q.length : Int) == 6) = true := by simp; omega
    rw [if_pos hf]
    clear h hf
    go_enter Try.func24, Try.ntmps24
    go_wp2
    go_end0
    exact ⟨rfl, _, by rw [he.out]; exact h1.out⟩
  · have he := hide (show endL L = { L with now := ⟨#[]⟩, long := false, q := L.q ++ [L.now] } by simp [endL, hf])
    have H := hide h
    have hl6 : ((L.q.length : Int) == 6) = false := by simp; omega
    rw [if_neg hf]
    clear h
    go_enter Try.func24, Try.ntmps24
    go_wp2_with (at_builtin; refine wpList_append_own_at _ rfl (.tmp 9) (.tmp 12) 22 rfl (b + 2) 9 i0 (.string ⟨#[]⟩) 1 16 Try.underlying22 hi hz0 hz1 hz2 rfl (by decide) _ L.q.length (scells L.q) rfl (H.out.inv.own.alloc _) ⟨w.heap.size, 0, none⟩ 1 1 (scells [L.now]) rfl ?c1 ?c2 (scells_one _) ?c3 ?c4 ?c5 ?_)
    case c1 => rfl
    case c2 =>
      intro j u hj
      cases j with
      | zero => simp [scells] at hj; subst hj; exact cell_new rfl _ _
      | succ j => simp [scells] at hj
    case c3 => unfold maxLen; omega
    case c4 => omega
    case c5 => simp; omega
    intro v' w' ho hg _ hown
    have ho' : w'.ownsRow (b + 2) 9 1 v' (L.q ++ [L.now]).length (scells (L.q ++ [L.now])) := by
      rw [scells_append, List.length_append]; exact ho
    have hal := H.out.alloc (.cells #[.string L.now] 9)
    obtain ⟨k1, k2, k3, k4⟩ := hal.inv.grow ho' hg
    have hlo := H.out.inv.lo
    have hlost : w'.heap[g]? = some (.cells #[.int .i64 (n : Int)] 3 (0, 0)) := by
      rw [hg.block _ (by simp; omega) (fun e => hal.sep e.symm)]; exact hal.lost
    have hsep : v'.ownBlock ≠ some g := by
      rcases hown with e | e
      · rw [e]; exact hal.sep
      · rw [e]; intro e2; injection e2 with e2; omega
    obtain ⟨av', cap', rfl⟩ := own_shape k4
    have HT : TInv w0 b o g n { L with q := L.q ++ [L.now] } (.slice av' (L.q ++ [L.now]).length cap') (w'.setCell ⟨b, 3, none⟩ (.slice av' (L.q ++ [L.now]).length cap')) := by
      refine ⟨⟨hlo, k1.setCell hlo _, cod_mk (cod_set k2 3 _) (by simp [Lin.cells]), cod_ne k3 (by omega) _ _, ?_⟩, cod_ne hlost (by omega) _ _, hhi, hsep⟩
      refine k4.kept (grown_set w' b 3 _) ?_
      right; intro e; have := k4.lt _ e; omega
    have H1 := hide ((HT.put (L' := { L with now := ⟨#[]⟩, q := L.q ++ [L.now] }) 0 (.string ⟨#[]⟩) rfl rfl).put (L' := { L with now := ⟨#[]⟩, long := false, q := L.q ++ [L.now] }) 1 (.bool false) rfl rfl)
    clear c0 c1 c2 c3 hfz
    obtain ⟨c0, c1, c2, c3, hfz⟩ := k2.all
    have hbl := k2.lt
    clear k1 k2 k3 k4 ho ho' hg hown hal hlost hsep HT
    generalize (L.q ++ [L.now]).length = nn at *
    go_wp2
    go_end0
    exact ⟨rfl, _, by rw [he.out]; exact H1.out⟩

set_option maxRecDepth 100000 in
set_option maxHeartbeats 1000000 in
theorem next14_nil (L : Lin) (v : Value) (w : World) (hv : Reads w v L.q) (hq : L.q = []) :
    Calls Try.prog 14 #[.agg (L.cells v)] w fun e w' => ∃ v', e = .returned (.tuple #[.agg (L.cells v'), .string ⟨#[]⟩, .bool false]) ∧ Reads w' v' L.q ∧ Below w.heap.size w w' := by
  obtain ⟨now, long, ret, q⟩ := L
  simp only at hq
  subst hq
  have hv1 := hide hv
  obtain ⟨av, cap, rfl⟩ := hv.shape
  clear hv
  unfold Lin.cells
  go_enter Try.func14, Try.ntmps14
  go_wp2
  have hcd : Cod ((w.alloc (.cells #[.string now, .bool long, .bool ret, .slice av 0 cap] 24)).alloc (.cells #[.string now, .bool long, .bool ret, .slice av 0 cap] 24)) (w.heap.size + 1) ⟨now, long, ret, []⟩ (.slice av 0 cap) := by
    have := heap_alloc_new (w.alloc (.cells #[.string now, .bool long, .bool ret, .slice av 0 cap] 24)) (.cells #[.string now, .bool long, .bool ret, .slice av 0 cap] 24)
    rw [World.size_alloc] at this
    exact this
  exact bodyPost_ret (res3 Try.results14 rfl rfl rfl hcd) rfl ⟨_, rfl, (hv1.out.alloc _).alloc _, ((Below.refl _ _).alloc (Nat.le_refl _) _).alloc (by simp) _⟩

set_option maxRecDepth 100000 in
set_option maxHeartbeats 2000000 in
theorem next14_cons (L : Lin) (v : Value) (w : World) (hv : Reads w v L.q) (f : ByteArray) (r : List ByteArray) (hq : L.q = f :: r) (hlen : L.q.length ≤ 8796093022208) :
    Calls Try.prog 14 #[.agg (L.cells v)] w fun e w' => ∃ v', e = .returned (.tuple #[.agg (({ L with q := r } : Lin).cells v'), .string f, .bool true]) ∧ Reads w' v' r ∧ Below w.heap.size w w' ∧ ∀ b off n c, v' = .slice (some ⟨b, off, none⟩) n c → w.heap.size ≤ b := by
  obtain ⟨i0, hi, hz0, hz1, hz2⟩ := info_parts Try.info9
  obtain ⟨av, cap, rfl, hl, hm, hn, hc⟩ := hv
  obtain ⟨now, long, ret, q⟩ := L
  simp only at hq hlen hl hm hn hc
  obtain ⟨g, off, rfl, hcell⟩ := hc (by rw [hq]; simp)
  have hcell0 : w.cell? ⟨g, off, none⟩ = some (.string f) := by
    have := hcell 0 (by rw [hq]; simp)
    simpa [hq] using this
  have hglt := cell_lt hcell0
  simp only at hglt
  cases r with
  | nil =>
    subst hq
    clear hc hcell hn hlen hm
    unfold Lin.cells
    have hcd : Cod ((w.alloc (.cells #[.string now, .bool long, .bool ret, .slice none 0 0] 24)).alloc (.cells #[.string now, .bool long, .bool ret, .slice none 0 0] 24)) (w.heap.size + 1) ⟨now, long, ret, []⟩ (.slice none 0 0) := by
      have := heap_alloc_new (w.alloc (.cells #[.string now, .bool long, .bool ret, .slice none 0 0] 24)) (.cells #[.string now, .bool long, .bool ret, .slice none 0 0] 24)
      rw [World.size_alloc] at this
      exact this
    replace hcd := hide hcd
    go_enter Try.func14, Try.ntmps14
    go_wp2
    all_goals exact bodyPost_ret (res3 Try.results14 rfl rfl rfl hcd.out) rfl ⟨_, rfl, reads_nil _, ((Below.refl _ _).alloc (Nat.le_refl _) _).alloc (by simp) _, fun b off n c e => by injection e with e1; simp at e1⟩
  | cons f2 r2 =>
    have hrl : q.length - 1 = (f2 :: r2).length := by rw [hq]; simp
    have hcap : ¬ cap = 1 := by rw [hq] at hl; simp at hl; omega
    have hRt := reads_tail (w := w) (b := g) (off := off) (cap := cap) (f := f) (r := f2 :: r2) (by rw [← hq]; exact ⟨_, cap, rfl, hl, hm, hn, hc⟩)
    rw [if_neg hcap] at hRt
    obtain ⟨_, _, er, _, _, _, hcr⟩ := hRt
    injection er with er1 er2 er3
    subst er1
    have hlist := hide (Reads.list (cap := 0) hcr)
    have hqn : ¬ q = [] := by rw [hq]; simp
    have hq1 : 0 < q.length := by rw [hq]; simp
    generalize f2 :: r2 = r at *
    have HRL := hide hrl
    have hrlen : r.length ≤ 8796093022208 := by omega
    clear hrl hq hcell hc hn hcr er2 er3
    unfold Lin.cells
    go_enter Try.func14, Try.ntmps14
    go_wp2_with (at_builtin; refine wpList_append_own_at _ rfl (.const (.slice none 0 0)) (.tmp 17) 22 rfl (w.heap.size + 2) 9 i0 (.string ⟨#[]⟩) 1 16 Try.underlying22 hi hz0 hz1 hz2 rfl (by decide) _ 0 [] rfl (World.ownsRow_nil _ _ _ _) ⟨g, off + 1, none⟩ (q.length - 1) (cap - 1) (scells r) rfl ?c1 ?c2 (scells_one _) ?c3 ?c4 ?c5 ?_)
    case c1 => rw [HRL.out]; simp [scells]
    case c2 =>
      intro j u hj
      have h := hlist.out j u hj
      have hlt := cell_lt h
      rw [(((Below.refl w.heap.size w).alloc (Nat.le_refl _) _).alloc (by simp) _).cell (p := Addr.add ⟨g, off + 1, none⟩ j) hlt]; exact h
    case c3 => unfold maxLen; rw [HRL.out]; omega
    case c4 => rw [HRL.out]; omega
    case c5 => simp
    intro v' w' ho hg _ hob
    have ho1 : w'.ownsRow (w.heap.size + 2) 9 1 v' r.length (scells r) := by rw [HRL.out] at ho; simpa using ho
    have hb : Below ((w.alloc (.cells #[.string now, .bool long, .bool ret, .slice (some ⟨g, off, none⟩) q.length cap] 24)).alloc (.cells (zl.cells (.slice none 0 0)) 24)).heap.size ((w.alloc (.cells #[.string now, .bool long, .bool ret, .slice (some ⟨g, off, none⟩) q.length cap] 24)).alloc (.cells (zl.cells (.slice none 0 0)) 24)) w' :=
      (Below.refl _ _).grown hg (Nat.le_refl _) (fun k e => by simp [Value.ownBlock] at e)
    obtain ⟨l2, k2, o2, hi2⟩ := finv_start (L := ⟨now, long, ret, r⟩) (v := .slice (some ⟨g, off, none⟩) q.length cap) (v2 := v') (Below.refl _ _) hb (own_base ho1 (by simp))
    obtain ⟨av2, cap2, rfl⟩ := own_shape ho1
    have hfar : ∀ b off n c, Value.slice av2 r.length cap2 = .slice (some ⟨b, off, none⟩) n c → w.heap.size ≤ b := fun b off n c e => by
      injection e with e1; subst e1
      have := (ho1.lt b rfl).1; omega
    obtain ⟨c0, c1, c2, c3, hfz⟩ := k2.all
    obtain ⟨d0, d1, d2, d3, hfd⟩ := Cod.all (L := zl) (v := .slice none 0 0) o2
    have hz2 : w.heap.size + 1 < w'.heap.size := (Array.getElem?_eq_some_iff.1 o2).1
    replace hi2 := hide hi2
    replace hfar := hide hfar
    clear o2 k2 hb ho hg l2 ho1 hob
    go_wp2
    obtain ⟨f1, f2, f3⟩ := hi2.out.done
    exact bodyPost_ret (res3 Try.results14 rfl rfl rfl f1) rfl ⟨_, rfl, f2, f3, hfar.out⟩
end Go.Proofs.Ytpbadpebnhlmlab
