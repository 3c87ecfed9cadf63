/-
  Every line of the document's own TellOf is the form, filled.
-/
import Derived.Test.YtdembcpljjgbkadDoorSnTk
namespace Go.Proofs.YtdembcpljjgbkadDoor
open Go.RowKit
set_option linter.unusedVariables false

theorem ba_ext {a b : ByteArray} (h : a.data.toList = b.data.toList) : a = b := by rw [← bs_of a, h, bs_of]
theorem ba_app (a b : ByteArray) : (a ++ b).data.toList = a.data.toList ++ b.data.toList := by simp
theorem tail_some (Y : ByteArray) (c : UInt8) (l : List UInt8) : (Y ++ ⟨(c :: l).toArray⟩).toList.isEmpty = false := by
  rw [Lib.toList_data, ba_app]; simp
theorem verb_size (own : Bool) (A m t : ByteArray) (hA : A.size ≤ 1048576) (hm : m.size ≤ 100) (ht : t.size ≤ 100) : (verbT own A m t).size ≤ 2000000 := by
  have e4 : (⟨#[89, 111, 117, 32]⟩ : ByteArray).size = 4 := rfl
  have e1 : (⟨#[32]⟩ : ByteArray).size = 1 := rfl
  cases own
  · show (A ++ ⟨#[32]⟩ ++ t ++ ⟨#[32]⟩).size ≤ _
    simp only [ByteArray.size_append, e1]; omega
  · show (⟨#[89, 111, 117, 32]⟩ ++ m ++ ⟨#[32]⟩ : ByteArray).size ≤ _
    simp only [ByteArray.size_append, e1, e4]; omega
theorem the_size (own : Bool) (T : ByteArray) (hT : T.size ≤ 1048576) : (theT own T).size ≤ 2000000 := by
  have e4 : (⟨#[116, 104, 101, 32]⟩ : ByteArray).size = 4 := rfl
  have e2 : (⟨#[97, 32]⟩ : ByteArray).size = 2 := rfl
  cases own
  · show (⟨#[97, 32]⟩ ++ T : ByteArray).size ≤ _
    simp only [ByteArray.size_append, e2]; omega
  · show (⟨#[116, 104, 101, 32]⟩ ++ T : ByteArray).size ≤ _
    simp only [ByteArray.size_append, e4]; omega
theorem verb_some (own : Bool) (A m t Z : ByteArray) : (verbT own A m t ++ Z).toList.isEmpty = false := by
  rw [Lib.toList_data, ba_app]
  cases own
  · show ((A ++ ⟨#[32]⟩ ++ t ++ ⟨#[32]⟩).data.toList ++ _).isEmpty = false
    rw [ba_app]; simp
  · show ((⟨#[89, 111, 117, 32]⟩ ++ m ++ ⟨#[32]⟩ : ByteArray).data.toList ++ _).isEmpty = false
    rw [ba_app]; simp

theorem line1a (K : Ev) (A O : ByteArray) (hA : K.who = A) (hO : K.whom = O) : verbT true A ⟨#[103, 111]⟩ ⟨#[103, 111, 101, 115]⟩ ++ bs (calledI K.dir) ++ ⟨#[46]⟩ = bs (fillL K (formA 1)) := by
  subst hA hO
  apply ba_ext
  simp [bs_data, fillL, formA, markL, verbT]

theorem line1o (K : Ev) (A O : ByteArray) (hA : K.who = A) (hO : K.whom = O) : verbT false A ⟨#[103, 111]⟩ ⟨#[103, 111, 101, 115]⟩ ++ bs (calledI K.dir) ++ ⟨#[46]⟩ = bs (fillL K (formO 1)) := by
  subst hA hO
  apply ba_ext
  simp [bs_data, fillL, formO, markL, verbT]

theorem line2o (K : Ev) (A O : ByteArray) (hA : K.who = A) (hO : K.whom = O) : A ++ ⟨#[32, 99, 111, 109, 101, 115, 32, 102, 114, 111, 109, 32]⟩ ++ bs (calledI K.dir) ++ ⟨#[46]⟩ = bs (fillL K (formO 2)) := by
  subst hA hO
  apply ba_ext
  simp [bs_data, fillL, formO, markL]

theorem line3a (K : Ev) (A O : ByteArray) (hA : K.who = A) (hO : K.whom = O) : verbT true A ⟨#[103, 101, 116]⟩ ⟨#[103, 101, 116, 115]⟩ ++ theT true K.thing ++ ⟨#[46]⟩ = bs (fillL K (formA 3)) := by
  subst hA hO
  apply ba_ext
  simp [bs_data, fillL, formA, markL, verbT, theT]

theorem line3o (K : Ev) (A O : ByteArray) (hA : K.who = A) (hO : K.whom = O) : verbT false A ⟨#[103, 101, 116]⟩ ⟨#[103, 101, 116, 115]⟩ ++ theT false K.thing ++ ⟨#[46]⟩ = bs (fillL K (formO 3)) := by
  subst hA hO
  apply ba_ext
  simp [bs_data, fillL, formO, markL, verbT, theT]

theorem line4a (K : Ev) (A O : ByteArray) (hA : K.who = A) (hO : K.whom = O) : verbT true A ⟨#[100, 114, 111, 112]⟩ ⟨#[100, 114, 111, 112, 115]⟩ ++ theT true K.thing ++ ⟨#[46]⟩ = bs (fillL K (formA 4)) := by
  subst hA hO
  apply ba_ext
  simp [bs_data, fillL, formA, markL, verbT, theT]

theorem line4o (K : Ev) (A O : ByteArray) (hA : K.who = A) (hO : K.whom = O) : verbT false A ⟨#[100, 114, 111, 112]⟩ ⟨#[100, 114, 111, 112, 115]⟩ ++ theT false K.thing ++ ⟨#[46]⟩ = bs (fillL K (formO 4)) := by
  subst hA hO
  apply ba_ext
  simp [bs_data, fillL, formO, markL, verbT, theT]

theorem line5a (K : Ev) (A O : ByteArray) (hA : K.who = A) (hO : K.whom = O) : verbT true A ⟨#[112, 117, 116]⟩ ⟨#[112, 117, 116, 115]⟩ ++ theT true K.thing ++ ⟨#[32, 105, 110, 116, 111, 32]⟩ ++ (⟨#[116, 104, 101, 32]⟩ ++ K.text) ++ ⟨#[46]⟩ = bs (fillL K (formA 5)) := by
  subst hA hO
  apply ba_ext
  simp [bs_data, fillL, formA, markL, verbT, theT]

theorem line5o (K : Ev) (A O : ByteArray) (hA : K.who = A) (hO : K.whom = O) : verbT false A ⟨#[112, 117, 116]⟩ ⟨#[112, 117, 116, 115]⟩ ++ theT false K.thing ++ ⟨#[32, 105, 110, 116, 111, 32]⟩ ++ (⟨#[97, 32]⟩ ++ K.text) ++ ⟨#[46]⟩ = bs (fillL K (formO 5)) := by
  subst hA hO
  apply ba_ext
  simp [bs_data, fillL, formO, markL, verbT, theT]

theorem line6a (K : Ev) (A O : ByteArray) (hA : K.who = A) (hO : K.whom = O) : verbT true A ⟨#[103, 105, 118, 101]⟩ ⟨#[103, 105, 118, 101, 115]⟩ ++ theT true K.thing ++ ⟨#[32, 116, 111, 32]⟩ ++ O ++ ⟨#[46]⟩ = bs (fillL K (formA 6)) := by
  subst hA hO
  apply ba_ext
  simp [bs_data, fillL, formA, markL, verbT, theT]

theorem line6o (K : Ev) (A O : ByteArray) (hA : K.who = A) (hO : K.whom = O) : verbT false A ⟨#[103, 105, 118, 101]⟩ ⟨#[103, 105, 118, 101, 115]⟩ ++ theT false K.thing ++ ⟨#[32, 116, 111, 32]⟩ ++ O ++ ⟨#[46]⟩ = bs (fillL K (formO 6)) := by
  subst hA hO
  apply ba_ext
  simp [bs_data, fillL, formO, markL, verbT, theT]

theorem line7a (K : Ev) (A O : ByteArray) (hA : K.who = A) (hO : K.whom = O) : verbT true A ⟨#[115, 97, 121, 58]⟩ ⟨#[115, 97, 121, 115, 58]⟩ ++ K.text = bs (fillL K (formA 7)) := by
  subst hA hO
  apply ba_ext
  simp [bs_data, fillL, formA, markL, verbT]

theorem line7o (K : Ev) (A O : ByteArray) (hA : K.who = A) (hO : K.whom = O) : verbT false A ⟨#[115, 97, 121, 58]⟩ ⟨#[115, 97, 121, 115, 58]⟩ ++ K.text = bs (fillL K (formO 7)) := by
  subst hA hO
  apply ba_ext
  simp [bs_data, fillL, formO, markL, verbT]

theorem line8a (K : Ev) (A O : ByteArray) (hA : K.who = A) (hO : K.whom = O) : verbT true A ⟨#[111, 112, 101, 110]⟩ ⟨#[111, 112, 101, 110, 115]⟩ ++ theT true K.thing ++ ⟨#[46]⟩ = bs (fillL K (formA 8)) := by
  subst hA hO
  apply ba_ext
  simp [bs_data, fillL, formA, markL, verbT, theT]

theorem line8o (K : Ev) (A O : ByteArray) (hA : K.who = A) (hO : K.whom = O) : verbT false A ⟨#[111, 112, 101, 110]⟩ ⟨#[111, 112, 101, 110, 115]⟩ ++ theT false K.thing ++ ⟨#[46]⟩ = bs (fillL K (formO 8)) := by
  subst hA hO
  apply ba_ext
  simp [bs_data, fillL, formO, markL, verbT, theT]

theorem line9a (K : Ev) (A O : ByteArray) (hA : K.who = A) (hO : K.whom = O) : verbT true A ⟨#[99, 108, 111, 115, 101]⟩ ⟨#[99, 108, 111, 115, 101, 115]⟩ ++ theT true K.thing ++ ⟨#[46]⟩ = bs (fillL K (formA 9)) := by
  subst hA hO
  apply ba_ext
  simp [bs_data, fillL, formA, markL, verbT, theT]

theorem line9o (K : Ev) (A O : ByteArray) (hA : K.who = A) (hO : K.whom = O) : verbT false A ⟨#[99, 108, 111, 115, 101]⟩ ⟨#[99, 108, 111, 115, 101, 115]⟩ ++ theT false K.thing ++ ⟨#[46]⟩ = bs (fillL K (formO 9)) := by
  subst hA hO
  apply ba_ext
  simp [bs_data, fillL, formO, markL, verbT, theT]

theorem line10a (K : Ev) (A O : ByteArray) (hA : K.who = A) (hO : K.whom = O) : verbT true A ⟨#[108, 105, 103, 104, 116]⟩ ⟨#[108, 105, 103, 104, 116, 115]⟩ ++ theT true K.thing ++ ⟨#[46]⟩ = bs (fillL K (formA 10)) := by
  subst hA hO
  apply ba_ext
  simp [bs_data, fillL, formA, markL, verbT, theT]

theorem line10o (K : Ev) (A O : ByteArray) (hA : K.who = A) (hO : K.whom = O) : verbT false A ⟨#[108, 105, 103, 104, 116]⟩ ⟨#[108, 105, 103, 104, 116, 115]⟩ ++ theT false K.thing ++ ⟨#[46]⟩ = bs (fillL K (formO 10)) := by
  subst hA hO
  apply ba_ext
  simp [bs_data, fillL, formO, markL, verbT, theT]

theorem line11a (K : Ev) (A O : ByteArray) (hA : K.who = A) (hO : K.whom = O) : verbT true A ⟨#[100, 111, 117, 115, 101]⟩ ⟨#[100, 111, 117, 115, 101, 115]⟩ ++ theT true K.thing ++ ⟨#[46]⟩ = bs (fillL K (formA 11)) := by
  subst hA hO
  apply ba_ext
  simp [bs_data, fillL, formA, markL, verbT, theT]

theorem line11o (K : Ev) (A O : ByteArray) (hA : K.who = A) (hO : K.whom = O) : verbT false A ⟨#[100, 111, 117, 115, 101]⟩ ⟨#[100, 111, 117, 115, 101, 115]⟩ ++ theT false K.thing ++ ⟨#[46]⟩ = bs (fillL K (formO 11)) := by
  subst hA hO
  apply ba_ext
  simp [bs_data, fillL, formO, markL, verbT, theT]

theorem line12a (K : Ev) (A O : ByteArray) (hA : K.who = A) (hO : K.whom = O) : verbT true A ⟨#[112, 117, 116, 32, 111, 110]⟩ ⟨#[112, 117, 116, 115, 32, 111, 110]⟩ ++ theT true K.thing ++ ⟨#[46]⟩ = bs (fillL K (formA 12)) := by
  subst hA hO
  apply ba_ext
  simp [bs_data, fillL, formA, markL, verbT, theT]

theorem line12o (K : Ev) (A O : ByteArray) (hA : K.who = A) (hO : K.whom = O) : verbT false A ⟨#[112, 117, 116, 32, 111, 110]⟩ ⟨#[112, 117, 116, 115, 32, 111, 110]⟩ ++ theT false K.thing ++ ⟨#[46]⟩ = bs (fillL K (formO 12)) := by
  subst hA hO
  apply ba_ext
  simp [bs_data, fillL, formO, markL, verbT, theT]

theorem line13a (K : Ev) (A O : ByteArray) (hA : K.who = A) (hO : K.whom = O) : verbT true A ⟨#[116, 97, 107, 101, 32, 111, 102, 102]⟩ ⟨#[116, 97, 107, 101, 115, 32, 111, 102, 102]⟩ ++ theT true K.thing ++ ⟨#[46]⟩ = bs (fillL K (formA 13)) := by
  subst hA hO
  apply ba_ext
  simp [bs_data, fillL, formA, markL, verbT, theT]

theorem line13o (K : Ev) (A O : ByteArray) (hA : K.who = A) (hO : K.whom = O) : verbT false A ⟨#[116, 97, 107, 101, 32, 111, 102, 102]⟩ ⟨#[116, 97, 107, 101, 115, 32, 111, 102, 102]⟩ ++ theT false K.thing ++ ⟨#[46]⟩ = bs (fillL K (formO 13)) := by
  subst hA hO
  apply ba_ext
  simp [bs_data, fillL, formO, markL, verbT, theT]

theorem line14a (K : Ev) (A O : ByteArray) (hA : K.who = A) (hO : K.whom = O) : verbT true A ⟨#[104, 105, 116]⟩ ⟨#[104, 105, 116, 115]⟩ ++ O ++ ⟨#[32, 102, 111, 114, 32]⟩ ++ bs (Lib.itoa K.num) ++ ⟨#[46]⟩ = bs (fillL K (formA 14)) := by
  subst hA hO
  apply ba_ext
  simp [bs_data, fillL, formA, markL, verbT]

theorem line14o (K : Ev) (A O : ByteArray) (hA : K.who = A) (hO : K.whom = O) : verbT false A ⟨#[104, 105, 116]⟩ ⟨#[104, 105, 116, 115]⟩ ++ O ++ ⟨#[32, 102, 111, 114, 32]⟩ ++ bs (Lib.itoa K.num) ++ ⟨#[46]⟩ = bs (fillL K (formO 14)) := by
  subst hA hO
  apply ba_ext
  simp [bs_data, fillL, formO, markL, verbT]

theorem line15a (K : Ev) (A O : ByteArray) (hA : K.who = A) (hO : K.whom = O) : (⟨#[89, 111, 117, 32, 100, 105, 101, 46]⟩ : ByteArray) = bs (fillL K (formA 15)) := by
  subst hA hO
  apply ba_ext
  simp [bs_data, fillL, formA, markL]

theorem line15o (K : Ev) (A O : ByteArray) (hA : K.who = A) (hO : K.whom = O) : A ++ ⟨#[32, 100, 105, 101, 115, 46]⟩ = bs (fillL K (formO 15)) := by
  subst hA hO
  apply ba_ext
  simp [bs_data, fillL, formO, markL]

theorem line16a (K : Ev) (A O : ByteArray) (hA : K.who = A) (hO : K.whom = O) : K.text = bs (fillL K (formA 16)) := by
  subst hA hO
  apply ba_ext
  simp [bs_data, fillL, formA, markL]

theorem line17a (K : Ev) (A O : ByteArray) (hA : K.who = A) (hO : K.whom = O) : (⟨#[66, 101, 32, 119, 101, 108, 99, 111, 109, 101, 46]⟩ : ByteArray) = bs (fillL K (formA 17)) := by
  subst hA hO
  apply ba_ext
  simp [bs_data, fillL, formA, markL]

theorem line17o (K : Ev) (A O : ByteArray) (hA : K.who = A) (hO : K.whom = O) : A ++ ⟨#[32, 97, 114, 114, 105, 118, 101, 115, 46]⟩ = bs (fillL K (formO 17)) := by
  subst hA hO
  apply ba_ext
  simp [bs_data, fillL, formO, markL]

theorem line18o (K : Ev) (A O : ByteArray) (hA : K.who = A) (hO : K.whom = O) : A ++ ⟨#[32, 102, 97, 100, 101, 115, 46]⟩ = bs (fillL K (formO 18)) := by
  subst hA hO
  apply ba_ext
  simp [bs_data, fillL, formO, markL]

end Go.Proofs.YtdembcpljjgbkadDoor
