/-
  Lists of texts in memory; the contracts of shown, goodText and Good of package line, and of slices.Clone.
-/
import Derived.Test.YtpbadpebnhlmlabRows
import Derived.Test.YtpbadpebnhlmlabLin
import Derived.WalkKit
import Derived.ProofKit
import Derived.OpenShut
import Derived.ShutString
import Derived.WalkSpells
import Derived.WalkLawsBesides
import Derived.Deep.QuietTactic
import Derived.BigQuiet
import Derived.Deep.RegionWith
import Derived.Maps.AppendAt
namespace Go.Proofs.Ytpbadpebnhlmlab
open Go.RowKit
set_option linter.unusedVariables false

theorem hide {p : Prop} (h : p) : Hid p := h

theorem ret_bool {a b : Bool} (h : a = b) : Ending.returned (.bool a) = .returned (.bool b) := by rw [h]

theorem Try.info9 : (Try.prog.info? 9).map (fun i => (i.zero, i.size, i.bytes)) = some (some (.string ⟨#[]⟩), 1, 16) := by kernel_rfl

theorem byte_beq (c : UInt8) (n : Nat) (hn : n < 256) : (((c.toNat : Nat) : Int) == (n : Int)) = decide (c = UInt8.ofNat n) := by
  rw [Bool.eq_iff_iff]
  simp only [beq_iff_eq, decide_eq_true_eq]
  constructor
  · intro h; apply UInt8.toNat.inj; rw [UInt8.toNat_ofNat']; omega
  · intro h; subst h; rw [UInt8.toNat_ofNat']; omega

/-- v is a list of texts in memory, and these are they. -/
def Reads (w : World) (v : Value) (q : List ByteArray) : Prop :=
  ∃ (av : Option Addr) (cap : Nat), v = .slice av q.length cap ∧ q.length ≤ cap ∧ cap ≤ maxLen ∧ (av = none → cap = 0) ∧
    (0 < q.length → ∃ b off, av = some ⟨b, off, none⟩ ∧ ∀ i (h : i < q.length), w.cell? ⟨b, off + i, none⟩ = some (.string q[i]))

theorem cell_lt {w : World} {p : Addr} {v : Value} (h : w.cell? p = some v) : p.block < w.heap.size := by
  simp only [World.cell?] at h
  by_cases hx : p.block < w.heap.size
  · exact hx
  · rw [Array.getElem?_eq_none (by omega)] at h; simp at h

theorem Reads.below {w w' : World} {v : Value} {q : List ByteArray} {B : Nat} (h : Reads w v q) (hb : Below B w w') (hB : w.heap.size ≤ B) : Reads w' v q := by
  obtain ⟨av, cap, e, hl, hm, hn, h⟩ := h
  refine ⟨av, cap, e, hl, hm, hn, fun h0 => ?_⟩
  obtain ⟨b, off, ea, hc⟩ := h h0
  refine ⟨b, off, ea, fun i hi => ?_⟩
  have hlt := cell_lt (hc i hi)
  rw [hb.cell (p := ⟨b, off + i, none⟩) (by simp at hlt ⊢; omega)]; exact hc i hi

theorem Reads.alloc {w : World} {v : Value} {q : List ByteArray} (h : Reads w v q) (o : Obj) : Reads (w.alloc o) v q :=
  h.below ((Below.refl w.heap.size w).alloc (Nat.le_refl _) o) (Nat.le_refl _)

theorem reads_nil (w : World) : Reads w (.slice none 0 0) [] := ⟨none, 0, rfl, Nat.le_refl _, Nat.zero_le _, fun _ => rfl, fun h => by simp at h⟩

def scells (q : List ByteArray) : List Value := q.map .string

theorem scells_length (q : List ByteArray) : (scells q).length = q.length := by simp [scells]
theorem scells_append (q r : List ByteArray) : scells (q ++ r) = scells q ++ scells r := by simp [scells]

theorem reads_own {w : World} {base : Nat} {v : Value} {q : List ByteArray} (h : w.ownsRow base 9 1 v q.length (scells q)) : Reads w v q := by
  rcases h.2 with ⟨rfl, h0⟩ | ⟨g, cap, cur, rfl, hbg, hgg, hnc, hcm, hcs, htake⟩
  · rw [List.eq_nil_of_length_eq_zero h0]; exact reads_nil w
  · refine ⟨some ⟨g, 0, none⟩, cap, rfl, hnc, hcm, fun e => by simp at e, fun _ => ⟨g, 0, rfl, fun i hi => ?_⟩⟩
    have := h.cells (g := g) rfl i (.string q[i]) (by simp [scells, hi])
    by_cases h0 : i = 0
    · subst h0; simpa [Addr.add] using this
    · simpa [Addr.add, h0] using this

theorem shown_any (b : UInt8) (w : World) : Calls Try.prog 23 #[.int .u8 b.toNat] w fun e w' => e = .returned (.bool (vis b)) ∧ w' = w := by
  by_cases h : 32 ≤ b.toNat
  · have HV : Hid (vis b = decide (b.toNat ≤ 126)) := (by simp [vis, h] : vis b = decide (b.toNat ≤ 126))
    go_enter Try.func23, Try.ntmps23
    go_wp2
    all_goals go_ret
    all_goals refine ⟨ret_bool ?_, rfl⟩
    all_goals rw [HV.out]
    all_goals first | (simp_all; done) | (simp_all; omega)
  · have HV : Hid (vis b = false) := (by simp [vis, h] : vis b = false)
    go_enter Try.func23, Try.ntmps23
    go_wp2
    all_goals go_ret
    all_goals refine ⟨ret_bool ?_, rfl⟩
    all_goals rw [HV.out]
    all_goals first | (simp_all; done) | (simp_all; omega)

end Go.Proofs.Ytpbadpebnhlmlab
