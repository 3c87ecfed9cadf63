import Derived.Test.YtncgcejlkmoliaaGreatDoorMh18
import Derived.Test.YtncgcejlkmoliaaGreatDoorMh03
set_option linter.unusedVariables false
set_option maxRecDepth 100000
set_option maxHeartbeats 16000000
namespace Go.Proofs.YtncgcejlkmoliaaGreatDoor
open Go.RowKit
theorem ret_forms {k:Int} {a b:ByteArray} (ha:a=bs (formA k)) (hb:b=bs (formO k)):Ending.returned (.tuple #[.string a,.string b])=.returned (.tuple #[.string (bs (formA k)),.string (bs (formO k))]):=by rw [ha,hb]
theorem forms_any (k:Int) (w:World):Calls Tryz.prog 74 #[.int .i64 k] w fun e w'=>e=.returned (.tuple #[.string (bs (formA k)),.string (bs (formO k))])∧w'=w:=by
 rcases kind_cases k with rfl | rfl | rfl | rfl | rfl | rfl | rfl | rfl | rfl | rfl | rfl | rfl | rfl | rfl | rfl | rfl | rfl | rfl | h
 iterate 18
  ·go_enter Tryz.func74,Tryz.ntmps74
   go_wp2
   go_ret2
   exact ⟨rfl,rfl⟩
 have HA:=hide (formA_none h)
 have HO:=hide (formO_none h)
 have e1:(k==1)=false:=by unfold isKind at h; simp; omega
 have e2:(k==2)=false:=by unfold isKind at h; simp; omega
 have e3:(k==3)=false:=by unfold isKind at h; simp; omega
 have e4:(k==4)=false:=by unfold isKind at h; simp; omega
 have e5:(k==5)=false:=by unfold isKind at h; simp; omega
 have e6:(k==6)=false:=by unfold isKind at h; simp; omega
 have e7:(k==7)=false:=by unfold isKind at h; simp; omega
 have e8:(k==8)=false:=by unfold isKind at h; simp; omega
 have e9:(k==9)=false:=by unfold isKind at h; simp; omega
 have e10:(k==10)=false:=by unfold isKind at h; simp; omega
 have e11:(k==11)=false:=by unfold isKind at h; simp; omega
 have e12:(k==12)=false:=by unfold isKind at h; simp; omega
 have e13:(k==13)=false:=by unfold isKind at h; simp; omega
 have e14:(k==14)=false:=by unfold isKind at h; simp; omega
 have e15:(k==15)=false:=by unfold isKind at h; simp; omega
 have e16:(k==16)=false:=by unfold isKind at h; simp; omega
 have e17:(k==17)=false:=by unfold isKind at h; simp; omega
 have e18:(k==18)=false:=by unfold isKind at h; simp; omega
 clear h
 go_enter Tryz.func74,Tryz.ntmps74
 go_wp2
 go_ret2
 exact ⟨ret_forms (by rw [HA.out]; rfl) (by rw [HO.out]; rfl),rfl⟩
open Go.RowKit
def tellA:Option (List UInt8)→Value
 | none=>.tuple #[.string ⟨#[]⟩,.bool false]
 | some l=>.tuple #[.string (bs l),.bool true]
theorem wl_event_new {ops:Array Oper} {rest:List Oper} {op:Oper} {a:Act} {w W:World} {Q:Exit→Act→World→Prop} (x:Operand) (ho:op.op=.load 71 x) (hw:Region.wanted op (yielded ops a.tmps)=true) (c:Array Value) (hW:W=w.alloc (.cells c 71)) (E:Ev)
 (hx:a.eval x=.pointer (some ⟨w.heap.size,0,none⟩)) (hc:c=E.cells) (h:wpList Tryz.prog ops Q rest (a.put op.dst (.agg E.cells)) W):wpList Tryz.prog ops Q (op::rest) a W:=by
 subst hW hc
 exact wl_event x ho hw w.heap.size E hx (cev_new w E) h
structure TvRel (E:Ev) (w wr:World):Prop where
 cev:Cev wr w.heap.size E
 low:Below w.heap.size w wr
theorem tv_start (E:Ev) (w:World):TvRel E w (w.alloc (.cells E.cells 71)):=⟨cev_new w E,(Below.refl _ _).alloc (Nat.le_refl _) _⟩
section
variable {E:Ev} {b:Int} {k:Nat}
theorem tell_none (h:amg b 6=false∨bitB (E.by' b.toNat) 1=false∨formOf E b.toNat=[]):tellL E b=none:=by
 unfold tellL
 rw [if_neg]
 rintro ⟨h1,h2,h3⟩
 rcases h with h | h | h
 ·rw [h] at h1; simp at h1
 ·rw [h] at h2; simp at h2
 ·exact h3 h
theorem tell_some (h1:amg (k:Int) 6=true) (h2:bitB (E.by' k) 1=true) (h3:formOf E k ≠ []):tellL E (k:Int)=some (fillL (asKnown E k) (formOf E k)):=by
 unfold tellL
 rw [if_pos ⟨h1,h2,h3⟩]; rfl
end
theorem tell_any (E:Ev) (b:Int) (w:World) (hv:Vb w) (hai:Ai w) (hn0:-9223372036854775808≤E.num) (hn1:E.num≤9223372036854775807) (hs:∀ k:Nat,k < 6→(fillL (asKnown E k) (formOf E k)).length+21≤140737488355328) :
 Calls Tryz.prog 35 #[.agg E.cells,.int .i64 b] w fun e w'=>e=.returned (tellA (tellL E b))∧Below w.heap.size w w':=by
 have P0:=hide (tv_start E w)
 cases hb6:amg b 6 with
 | false =>
  have HT:=hide (tell_none (E:=E) (.inl hb6))
  have HB6:=hide hb6
  clear hb6 hs
  go_enter Tryz.func35,Tryz.ntmps35
  go_wp2_with fail
  refine (sbeing_any b _).mono ?_
  rintro e w9 ⟨rfl,hw⟩
  rw [hw,HB6.out]
  clear hw w9
  go_wp2
  go_ret2
  exact ⟨ret_any (by rw [HT.out]; rfl),P0.out.low⟩
 | true =>
  obtain ⟨b0,b6⟩:=amg_pos hb6
  obtain ⟨k,rfl⟩:=Int.eq_ofNat_of_zero_le b0
  have HB6:=hide hb6
  clear hb6
  have hk6:k < 6:=by omega
  have kb:=P0.out.cev.by' k hk6
  have kk:=P0.out.cev.kind
  have ka:=P0.out.cev.actor
  have ko:=P0.out.cev.othr
  cases h1:bitB (E.by' k) 1 with
  | false =>
   have HT:=hide (tell_none (E:=E) (b:=(k:Int)) (.inr (.inl h1)))
   have f1:(bits .and .i64 (E.by' k) 1==0)=true:=by unfold bitB at h1; simpa using h1
   clear h1 hs
   go_enter Tryz.func35,Tryz.ntmps35
   go_wp2_with fail
   refine (sbeing_any (k:Int) _).mono ?_
   rintro e w9 ⟨rfl,hw⟩
   rw [hw,HB6.out]
   clear hw w9
   go_wp2
   go_ret2
   exact ⟨ret_any (by rw [HT.out]; rfl),P0.out.low⟩
  | true =>
   have f1:(bits .and .i64 (E.by' k) 1==0)=false:=by unfold bitB at h1; simpa using h1
   have HL1:=hs k (by omega)
   have HT0:Hid (formOf E k ≠ []→tellL E (k:Int)=some (fillL (asKnown E k) (formOf E k))):=fun h=>tell_some HB6.out h1 h
   have HT1:Hid (formOf E k=[]→tellL E (k:Int)=none):=fun h=>tell_none (.inr (.inr h))
   have hfl:=form_len E.kind
   have HV:=hide hv
   have HAi:=hide hai
   have hbt:∀ l:List UInt8,(bs l).toList=l:=fun l=>by rw [Lib.toList_data,bs_data]
   clear hs h1 hv hai
   by_cases hN:(k:Int)=E.actor
   ·have fN:((k:Int) != E.actor)=false:=by simp [hN]
    have HF:=hide (show formOf E k=formA E.kind by unfold formOf; rw [if_pos hN])
    clear hN
    rw [HF.out] at HL1 HT0 HT1
    have C0:=fun (W:World) (hv:Vb W) (hai:Ai W)=>filled_any (bs (formA E.kind)) (asKnown E k) W hv hai hn0 hn1 (by rw [bs_size]; omega) (by rw [bs_data]; exact HL1)
    rw [bs_data] at C0
    have C:=hide C0
    clear C0 HL1 hfl HF
    have FC:=hide (fun W=>forms_any E.kind W)
    generalize formO E.kind=G at *
    generalize formA E.kind=F at *
    cases hF:F.isEmpty with
    | true =>
     have HT:=hide (HT1.out (List.isEmpty_iff.1 hF))
     go_enter Tryz.func35,Tryz.ntmps35
     go_wp2_with fail
     refine (sbeing_any (k:Int) _).mono ?_
     rintro e w9 ⟨rfl,hw⟩
     rw [hw,HB6.out]
     clear hw w9
     go_wp2_with fail
     refine (FC.out _).mono ?_
     rintro e w9 ⟨rfl,hw⟩
     rw [hw]
     clear hw w9
     go_wp2
     go_ret2
     exact ⟨ret_any (by rw [HT.out]; rfl),P0.out.low⟩
    | false =>
     have HT:=hide (HT0.out (fun h=>by rw [h] at hF; simp at hF))
     cases hA:bitB (E.by' k) 2 with
     | false =>
      have fA:(bits .and .i64 (E.by' k) 2 != 0)=false:=hA
      cases hB:bitB (E.by' k) 4 with
      | false =>
       have fB:(bits .and .i64 (E.by' k) 4 != 0)=false:=hB
       by_cases hO:(k:Int)=E.other
       ·have fO:((k:Int)==E.other)=true:=by simp [hO]
        have HO:=hide hO
        clear hO
        have HK:=hide (show asKnown E k={ E with who:=E.who,whom:=bs youL } by unfold asKnown; rw [if_neg (by rw [hA]; simp),if_pos HO.out])
        go_enter Tryz.func35,Tryz.ntmps35
        go_wp2_with fail
        refine (sbeing_any (k:Int) _).mono ?_
        rintro e w9 ⟨rfl,hw⟩
        rw [hw,HB6.out]
        clear hw w9
        go_wp2_with fail
        refine (FC.out _).mono ?_
        rintro e w9 ⟨rfl,hw⟩
        rw [hw]
        clear hw w9
        go_wp2_with (refine wl_event_new (.tmp 2) rfl rfl _ rfl (asKnown E k) rfl (by rw [HK.out] <;> rfl) ?_)
        refine (C.out _ (HV.out.alloc _) (HAi.out.below ((Below.refl _ _).alloc (Nat.le_refl _) _))).mono ?_
        rintro e w9 ⟨rfl,hb⟩
        have HZ:=hide (((Below.refl w.heap.size w).alloc (Nat.le_refl _) _).trans (hb.mono (by simp)))
        clear hb
        go_wp2
        go_ret2
        exact ⟨ret_any (by rw [HT.out]; rfl),HZ.out⟩
       ·have fO:((k:Int)==E.other)=false:=by simp [hO]
        have HO:=hide hO
        clear hO
        have HK:=hide (show asKnown E k={ E with who:=E.who,whom:=E.whom } by unfold asKnown; rw [if_neg (by rw [hA]; simp),if_neg HO.out,if_neg (by rw [hB]; simp)])
        go_enter Tryz.func35,Tryz.ntmps35
        go_wp2_with fail
        refine (sbeing_any (k:Int) _).mono ?_
        rintro e w9 ⟨rfl,hw⟩
        rw [hw,HB6.out]
        clear hw w9
        go_wp2_with fail
        refine (FC.out _).mono ?_
        rintro e w9 ⟨rfl,hw⟩
        rw [hw]
        clear hw w9
        go_wp2_with (refine wl_event_new (.tmp 2) rfl rfl _ rfl (asKnown E k) rfl (by rw [HK.out] <;> rfl) ?_)
        refine (C.out _ (HV.out.alloc _) (HAi.out.below ((Below.refl _ _).alloc (Nat.le_refl _) _))).mono ?_
        rintro e w9 ⟨rfl,hb⟩
        have HZ:=hide (((Below.refl w.heap.size w).alloc (Nat.le_refl _) _).trans (hb.mono (by simp)))
        clear hb
        go_wp2
        go_ret2
        exact ⟨ret_any (by rw [HT.out]; rfl),HZ.out⟩
      | true =>
       have fB:(bits .and .i64 (E.by' k) 4 != 0)=true:=hB
       by_cases hO:(k:Int)=E.other
       ·have fO:((k:Int)==E.other)=true:=by simp [hO]
        have HO:=hide hO
        clear hO
        have xo:(w.alloc (.cells (E.cells.setIfInBounds 7 (Value.string ⟨#[115,111,109,101,111,110,101]⟩)) 71)).cell? ⟨w.heap.size,3,none⟩=some (.int .i64 E.other):=(cev_new w { E with whom:=⟨#[115,111,109,101,111,110,101]⟩ }).othr
        have HK:=hide (show asKnown E k={ E with who:=E.who,whom:=bs youL } by unfold asKnown; rw [if_neg (by rw [hA]; simp),if_pos HO.out])
        go_enter Tryz.func35,Tryz.ntmps35
        go_wp2_with fail
        refine (sbeing_any (k:Int) _).mono ?_
        rintro e w9 ⟨rfl,hw⟩
        rw [hw,HB6.out]
        clear hw w9
        go_wp2_with fail
        refine (FC.out _).mono ?_
        rintro e w9 ⟨rfl,hw⟩
        rw [hw]
        clear hw w9
        go_wp2_with (refine wl_event_new (.tmp 2) rfl rfl _ rfl (asKnown E k) rfl (by rw [HK.out] <;> rfl) ?_)
        refine (C.out _ (HV.out.alloc _) (HAi.out.below ((Below.refl _ _).alloc (Nat.le_refl _) _))).mono ?_
        rintro e w9 ⟨rfl,hb⟩
        have HZ:=hide (((Below.refl w.heap.size w).alloc (Nat.le_refl _) _).trans (hb.mono (by simp)))
        clear hb
        go_wp2
        go_ret2
        exact ⟨ret_any (by rw [HT.out]; rfl),HZ.out⟩
       ·have fO:((k:Int)==E.other)=false:=by simp [hO]
        have HO:=hide hO
        clear hO
        have xo:(w.alloc (.cells (E.cells.setIfInBounds 7 (Value.string ⟨#[115,111,109,101,111,110,101]⟩)) 71)).cell? ⟨w.heap.size,3,none⟩=some (.int .i64 E.other):=(cev_new w { E with whom:=⟨#[115,111,109,101,111,110,101]⟩ }).othr
        have HK:=hide (show asKnown E k={ E with who:=E.who,whom:=bs someoneL } by unfold asKnown; rw [if_neg (by rw [hA]; simp),if_neg HO.out,if_pos hB])
        go_enter Tryz.func35,Tryz.ntmps35
        go_wp2_with fail
        refine (sbeing_any (k:Int) _).mono ?_
        rintro e w9 ⟨rfl,hw⟩
        rw [hw,HB6.out]
        clear hw w9
        go_wp2_with fail
        refine (FC.out _).mono ?_
        rintro e w9 ⟨rfl,hw⟩
        rw [hw]
        clear hw w9
        go_wp2_with (refine wl_event_new (.tmp 2) rfl rfl _ rfl (asKnown E k) rfl (by rw [HK.out] <;> rfl) ?_)
        refine (C.out _ (HV.out.alloc _) (HAi.out.below ((Below.refl _ _).alloc (Nat.le_refl _) _))).mono ?_
        rintro e w9 ⟨rfl,hb⟩
        have HZ:=hide (((Below.refl w.heap.size w).alloc (Nat.le_refl _) _).trans (hb.mono (by simp)))
        clear hb
        go_wp2
        go_ret2
        exact ⟨ret_any (by rw [HT.out]; rfl),HZ.out⟩
     | true =>
      have fA:(bits .and .i64 (E.by' k) 2 != 0)=true:=hA
      cases hB:bitB (E.by' k) 4 with
      | false =>
       have fB:(bits .and .i64 (E.by' k) 4 != 0)=false:=hB
       by_cases hO:(k:Int)=E.other
       ·have fO:((k:Int)==E.other)=true:=by simp [hO]
        have HO:=hide hO
        clear hO
        have xa:(w.alloc (.cells (E.cells.setIfInBounds 6 (Value.string ⟨#[115,111,109,101,111,110,101]⟩)) 71)).cell? ⟨w.heap.size,10+k,none⟩=some (.int .i64 (E.by' k)):=(cev_new w { E with who:=⟨#[115,111,109,101,111,110,101]⟩ }).by' k hk6
        have xo:(w.alloc (.cells (E.cells.setIfInBounds 6 (Value.string ⟨#[115,111,109,101,111,110,101]⟩)) 71)).cell? ⟨w.heap.size,3,none⟩=some (.int .i64 E.other):=(cev_new w { E with who:=⟨#[115,111,109,101,111,110,101]⟩ }).othr
        have HK:=hide (show asKnown E k={ E with who:=bs someoneL,whom:=bs youL } by unfold asKnown; rw [if_pos hA,if_pos HO.out])
        go_enter Tryz.func35,Tryz.ntmps35
        go_wp2_with fail
        refine (sbeing_any (k:Int) _).mono ?_
        rintro e w9 ⟨rfl,hw⟩
        rw [hw,HB6.out]
        clear hw w9
        go_wp2_with fail
        refine (FC.out _).mono ?_
        rintro e w9 ⟨rfl,hw⟩
        rw [hw]
        clear hw w9
        go_wp2_with (refine wl_event_new (.tmp 2) rfl rfl _ rfl (asKnown E k) rfl (by rw [HK.out] <;> rfl) ?_)
        refine (C.out _ (HV.out.alloc _) (HAi.out.below ((Below.refl _ _).alloc (Nat.le_refl _) _))).mono ?_
        rintro e w9 ⟨rfl,hb⟩
        have HZ:=hide (((Below.refl w.heap.size w).alloc (Nat.le_refl _) _).trans (hb.mono (by simp)))
        clear hb
        go_wp2
        go_ret2
        exact ⟨ret_any (by rw [HT.out]; rfl),HZ.out⟩
       ·have fO:((k:Int)==E.other)=false:=by simp [hO]
        have HO:=hide hO
        clear hO
        have xa:(w.alloc (.cells (E.cells.setIfInBounds 6 (Value.string ⟨#[115,111,109,101,111,110,101]⟩)) 71)).cell? ⟨w.heap.size,10+k,none⟩=some (.int .i64 (E.by' k)):=(cev_new w { E with who:=⟨#[115,111,109,101,111,110,101]⟩ }).by' k hk6
        have xo:(w.alloc (.cells (E.cells.setIfInBounds 6 (Value.string ⟨#[115,111,109,101,111,110,101]⟩)) 71)).cell? ⟨w.heap.size,3,none⟩=some (.int .i64 E.other):=(cev_new w { E with who:=⟨#[115,111,109,101,111,110,101]⟩ }).othr
        have HK:=hide (show asKnown E k={ E with who:=bs someoneL,whom:=E.whom } by unfold asKnown; rw [if_pos hA,if_neg HO.out,if_neg (by rw [hB]; simp)])
        go_enter Tryz.func35,Tryz.ntmps35
        go_wp2_with fail
        refine (sbeing_any (k:Int) _).mono ?_
        rintro e w9 ⟨rfl,hw⟩
        rw [hw,HB6.out]
        clear hw w9
        go_wp2_with fail
        refine (FC.out _).mono ?_
        rintro e w9 ⟨rfl,hw⟩
        rw [hw]
        clear hw w9
        go_wp2_with (refine wl_event_new (.tmp 2) rfl rfl _ rfl (asKnown E k) rfl (by rw [HK.out] <;> rfl) ?_)
        refine (C.out _ (HV.out.alloc _) (HAi.out.below ((Below.refl _ _).alloc (Nat.le_refl _) _))).mono ?_
        rintro e w9 ⟨rfl,hb⟩
        have HZ:=hide (((Below.refl w.heap.size w).alloc (Nat.le_refl _) _).trans (hb.mono (by simp)))
        clear hb
        go_wp2
        go_ret2
        exact ⟨ret_any (by rw [HT.out]; rfl),HZ.out⟩
      | true =>
       have fB:(bits .and .i64 (E.by' k) 4 != 0)=true:=hB
       by_cases hO:(k:Int)=E.other
       ·have fO:((k:Int)==E.other)=true:=by simp [hO]
        have HO:=hide hO
        clear hO
        have xa:(w.alloc (.cells (E.cells.setIfInBounds 6 (Value.string ⟨#[115,111,109,101,111,110,101]⟩)) 71)).cell? ⟨w.heap.size,10+k,none⟩=some (.int .i64 (E.by' k)):=(cev_new w { E with who:=⟨#[115,111,109,101,111,110,101]⟩ }).by' k hk6
        have xo:(w.alloc (.cells ((E.cells.setIfInBounds 6 (Value.string ⟨#[115,111,109,101,111,110,101]⟩)).setIfInBounds 7 (Value.string ⟨#[115,111,109,101,111,110,101]⟩)) 71)).cell? ⟨w.heap.size,3,none⟩=some (.int .i64 E.other):=(cev_new w { E with who:=⟨#[115,111,109,101,111,110,101]⟩,whom:=⟨#[115,111,109,101,111,110,101]⟩ }).othr
        have HK:=hide (show asKnown E k={ E with who:=bs someoneL,whom:=bs youL } by unfold asKnown; rw [if_pos hA,if_pos HO.out])
        go_enter Tryz.func35,Tryz.ntmps35
        go_wp2_with fail
        refine (sbeing_any (k:Int) _).mono ?_
        rintro e w9 ⟨rfl,hw⟩
        rw [hw,HB6.out]
        clear hw w9
        go_wp2_with fail
        refine (FC.out _).mono ?_
        rintro e w9 ⟨rfl,hw⟩
        rw [hw]
        clear hw w9
        go_wp2_with (refine wl_event_new (.tmp 2) rfl rfl _ rfl (asKnown E k) rfl (by rw [HK.out] <;> rfl) ?_)
        refine (C.out _ (HV.out.alloc _) (HAi.out.below ((Below.refl _ _).alloc (Nat.le_refl _) _))).mono ?_
        rintro e w9 ⟨rfl,hb⟩
        have HZ:=hide (((Below.refl w.heap.size w).alloc (Nat.le_refl _) _).trans (hb.mono (by simp)))
        clear hb
        go_wp2
        go_ret2
        exact ⟨ret_any (by rw [HT.out]; rfl),HZ.out⟩
       ·have fO:((k:Int)==E.other)=false:=by simp [hO]
        have HO:=hide hO
        clear hO
        have xa:(w.alloc (.cells (E.cells.setIfInBounds 6 (Value.string ⟨#[115,111,109,101,111,110,101]⟩)) 71)).cell? ⟨w.heap.size,10+k,none⟩=some (.int .i64 (E.by' k)):=(cev_new w { E with who:=⟨#[115,111,109,101,111,110,101]⟩ }).by' k hk6
        have xo:(w.alloc (.cells ((E.cells.setIfInBounds 6 (Value.string ⟨#[115,111,109,101,111,110,101]⟩)).setIfInBounds 7 (Value.string ⟨#[115,111,109,101,111,110,101]⟩)) 71)).cell? ⟨w.heap.size,3,none⟩=some (.int .i64 E.other):=(cev_new w { E with who:=⟨#[115,111,109,101,111,110,101]⟩,whom:=⟨#[115,111,109,101,111,110,101]⟩ }).othr
        have HK:=hide (show asKnown E k={ E with who:=bs someoneL,whom:=bs someoneL } by unfold asKnown; rw [if_pos hA,if_neg HO.out,if_pos hB])
        go_enter Tryz.func35,Tryz.ntmps35
        go_wp2_with fail
        refine (sbeing_any (k:Int) _).mono ?_
        rintro e w9 ⟨rfl,hw⟩
        rw [hw,HB6.out]
        clear hw w9
        go_wp2_with fail
        refine (FC.out _).mono ?_
        rintro e w9 ⟨rfl,hw⟩
        rw [hw]
        clear hw w9
        go_wp2_with (refine wl_event_new (.tmp 2) rfl rfl _ rfl (asKnown E k) rfl (by rw [HK.out] <;> rfl) ?_)
        refine (C.out _ (HV.out.alloc _) (HAi.out.below ((Below.refl _ _).alloc (Nat.le_refl _) _))).mono ?_
        rintro e w9 ⟨rfl,hb⟩
        have HZ:=hide (((Below.refl w.heap.size w).alloc (Nat.le_refl _) _).trans (hb.mono (by simp)))
        clear hb
        go_wp2
        go_ret2
        exact ⟨ret_any (by rw [HT.out]; rfl),HZ.out⟩
   ·have fN:((k:Int) != E.actor)=true:=by simp [hN]
    have HF:=hide (show formOf E k=formO E.kind by unfold formOf; rw [if_neg hN])
    clear hN
    rw [HF.out] at HL1 HT0 HT1
    have C0:=fun (W:World) (hv:Vb W) (hai:Ai W)=>filled_any (bs (formO E.kind)) (asKnown E k) W hv hai hn0 hn1 (by rw [bs_size]; omega) (by rw [bs_data]; exact HL1)
    rw [bs_data] at C0
    have C:=hide C0
    clear C0 HL1 hfl HF
    have FC:=hide (fun W=>forms_any E.kind W)
    generalize formA E.kind=G at *
    generalize formO E.kind=F at *
    cases hF:F.isEmpty with
    | true =>
     have HT:=hide (HT1.out (List.isEmpty_iff.1 hF))
     go_enter Tryz.func35,Tryz.ntmps35
     go_wp2_with fail
     refine (sbeing_any (k:Int) _).mono ?_
     rintro e w9 ⟨rfl,hw⟩
     rw [hw,HB6.out]
     clear hw w9
     go_wp2_with fail
     refine (FC.out _).mono ?_
     rintro e w9 ⟨rfl,hw⟩
     rw [hw]
     clear hw w9
     go_wp2
     go_ret2
     exact ⟨ret_any (by rw [HT.out]; rfl),P0.out.low⟩
    | false =>
     have HT:=hide (HT0.out (fun h=>by rw [h] at hF; simp at hF))
     cases hA:bitB (E.by' k) 2 with
     | false =>
      have fA:(bits .and .i64 (E.by' k) 2 != 0)=false:=hA
      cases hB:bitB (E.by' k) 4 with
      | false =>
       have fB:(bits .and .i64 (E.by' k) 4 != 0)=false:=hB
       by_cases hO:(k:Int)=E.other
       ·have fO:((k:Int)==E.other)=true:=by simp [hO]
        have HO:=hide hO
        clear hO
        have HK:=hide (show asKnown E k={ E with who:=E.who,whom:=bs youL } by unfold asKnown; rw [if_neg (by rw [hA]; simp),if_pos HO.out])
        go_enter Tryz.func35,Tryz.ntmps35
        go_wp2_with fail
        refine (sbeing_any (k:Int) _).mono ?_
        rintro e w9 ⟨rfl,hw⟩
        rw [hw,HB6.out]
        clear hw w9
        go_wp2_with fail
        refine (FC.out _).mono ?_
        rintro e w9 ⟨rfl,hw⟩
        rw [hw]
        clear hw w9
        go_wp2_with (refine wl_event_new (.tmp 2) rfl rfl _ rfl (asKnown E k) rfl (by rw [HK.out] <;> rfl) ?_)
        refine (C.out _ (HV.out.alloc _) (HAi.out.below ((Below.refl _ _).alloc (Nat.le_refl _) _))).mono ?_
        rintro e w9 ⟨rfl,hb⟩
        have HZ:=hide (((Below.refl w.heap.size w).alloc (Nat.le_refl _) _).trans (hb.mono (by simp)))
        clear hb
        go_wp2
        go_ret2
        exact ⟨ret_any (by rw [HT.out]; rfl),HZ.out⟩
       ·have fO:((k:Int)==E.other)=false:=by simp [hO]
        have HO:=hide hO
        clear hO
        have HK:=hide (show asKnown E k={ E with who:=E.who,whom:=E.whom } by unfold asKnown; rw [if_neg (by rw [hA]; simp),if_neg HO.out,if_neg (by rw [hB]; simp)])
        go_enter Tryz.func35,Tryz.ntmps35
        go_wp2_with fail
        refine (sbeing_any (k:Int) _).mono ?_
        rintro e w9 ⟨rfl,hw⟩
        rw [hw,HB6.out]
        clear hw w9
        go_wp2_with fail
        refine (FC.out _).mono ?_
        rintro e w9 ⟨rfl,hw⟩
        rw [hw]
        clear hw w9
        go_wp2_with (refine wl_event_new (.tmp 2) rfl rfl _ rfl (asKnown E k) rfl (by rw [HK.out] <;> rfl) ?_)
        refine (C.out _ (HV.out.alloc _) (HAi.out.below ((Below.refl _ _).alloc (Nat.le_refl _) _))).mono ?_
        rintro e w9 ⟨rfl,hb⟩
        have HZ:=hide (((Below.refl w.heap.size w).alloc (Nat.le_refl _) _).trans (hb.mono (by simp)))
        clear hb
        go_wp2
        go_ret2
        exact ⟨ret_any (by rw [HT.out]; rfl),HZ.out⟩
      | true =>
       have fB:(bits .and .i64 (E.by' k) 4 != 0)=true:=hB
       by_cases hO:(k:Int)=E.other
       ·have fO:((k:Int)==E.other)=true:=by simp [hO]
        have HO:=hide hO
        clear hO
        have xo:(w.alloc (.cells (E.cells.setIfInBounds 7 (Value.string ⟨#[115,111,109,101,111,110,101]⟩)) 71)).cell? ⟨w.heap.size,3,none⟩=some (.int .i64 E.other):=(cev_new w { E with whom:=⟨#[115,111,109,101,111,110,101]⟩ }).othr
        have HK:=hide (show asKnown E k={ E with who:=E.who,whom:=bs youL } by unfold asKnown; rw [if_neg (by rw [hA]; simp),if_pos HO.out])
        go_enter Tryz.func35,Tryz.ntmps35
        go_wp2_with fail
        refine (sbeing_any (k:Int) _).mono ?_
        rintro e w9 ⟨rfl,hw⟩
        rw [hw,HB6.out]
        clear hw w9
        go_wp2_with fail
        refine (FC.out _).mono ?_
        rintro e w9 ⟨rfl,hw⟩
        rw [hw]
        clear hw w9
        go_wp2_with (refine wl_event_new (.tmp 2) rfl rfl _ rfl (asKnown E k) rfl (by rw [HK.out] <;> rfl) ?_)
        refine (C.out _ (HV.out.alloc _) (HAi.out.below ((Below.refl _ _).alloc (Nat.le_refl _) _))).mono ?_
        rintro e w9 ⟨rfl,hb⟩
        have HZ:=hide (((Below.refl w.heap.size w).alloc (Nat.le_refl _) _).trans (hb.mono (by simp)))
        clear hb
        go_wp2
        go_ret2
        exact ⟨ret_any (by rw [HT.out]; rfl),HZ.out⟩
       ·have fO:((k:Int)==E.other)=false:=by simp [hO]
        have HO:=hide hO
        clear hO
        have xo:(w.alloc (.cells (E.cells.setIfInBounds 7 (Value.string ⟨#[115,111,109,101,111,110,101]⟩)) 71)).cell? ⟨w.heap.size,3,none⟩=some (.int .i64 E.other):=(cev_new w { E with whom:=⟨#[115,111,109,101,111,110,101]⟩ }).othr
        have HK:=hide (show asKnown E k={ E with who:=E.who,whom:=bs someoneL } by unfold asKnown; rw [if_neg (by rw [hA]; simp),if_neg HO.out,if_pos hB])
        go_enter Tryz.func35,Tryz.ntmps35
        go_wp2_with fail
        refine (sbeing_any (k:Int) _).mono ?_
        rintro e w9 ⟨rfl,hw⟩
        rw [hw,HB6.out]
        clear hw w9
        go_wp2_with fail
        refine (FC.out _).mono ?_
        rintro e w9 ⟨rfl,hw⟩
        rw [hw]
        clear hw w9
        go_wp2_with (refine wl_event_new (.tmp 2) rfl rfl _ rfl (asKnown E k) rfl (by rw [HK.out] <;> rfl) ?_)
        refine (C.out _ (HV.out.alloc _) (HAi.out.below ((Below.refl _ _).alloc (Nat.le_refl _) _))).mono ?_
        rintro e w9 ⟨rfl,hb⟩
        have HZ:=hide (((Below.refl w.heap.size w).alloc (Nat.le_refl _) _).trans (hb.mono (by simp)))
        clear hb
        go_wp2
        go_ret2
        exact ⟨ret_any (by rw [HT.out]; rfl),HZ.out⟩
     | true =>
      have fA:(bits .and .i64 (E.by' k) 2 != 0)=true:=hA
      cases hB:bitB (E.by' k) 4 with
      | false =>
       have fB:(bits .and .i64 (E.by' k) 4 != 0)=false:=hB
       by_cases hO:(k:Int)=E.other
       ·have fO:((k:Int)==E.other)=true:=by simp [hO]
        have HO:=hide hO
        clear hO
        have xa:(w.alloc (.cells (E.cells.setIfInBounds 6 (Value.string ⟨#[115,111,109,101,111,110,101]⟩)) 71)).cell? ⟨w.heap.size,10+k,none⟩=some (.int .i64 (E.by' k)):=(cev_new w { E with who:=⟨#[115,111,109,101,111,110,101]⟩ }).by' k hk6
        have xo:(w.alloc (.cells (E.cells.setIfInBounds 6 (Value.string ⟨#[115,111,109,101,111,110,101]⟩)) 71)).cell? ⟨w.heap.size,3,none⟩=some (.int .i64 E.other):=(cev_new w { E with who:=⟨#[115,111,109,101,111,110,101]⟩ }).othr
        have HK:=hide (show asKnown E k={ E with who:=bs someoneL,whom:=bs youL } by unfold asKnown; rw [if_pos hA,if_pos HO.out])
        go_enter Tryz.func35,Tryz.ntmps35
        go_wp2_with fail
        refine (sbeing_any (k:Int) _).mono ?_
        rintro e w9 ⟨rfl,hw⟩
        rw [hw,HB6.out]
        clear hw w9
        go_wp2_with fail
        refine (FC.out _).mono ?_
        rintro e w9 ⟨rfl,hw⟩
        rw [hw]
        clear hw w9
        go_wp2_with (refine wl_event_new (.tmp 2) rfl rfl _ rfl (asKnown E k) rfl (by rw [HK.out] <;> rfl) ?_)
        refine (C.out _ (HV.out.alloc _) (HAi.out.below ((Below.refl _ _).alloc (Nat.le_refl _) _))).mono ?_
        rintro e w9 ⟨rfl,hb⟩
        have HZ:=hide (((Below.refl w.heap.size w).alloc (Nat.le_refl _) _).trans (hb.mono (by simp)))
        clear hb
        go_wp2
        go_ret2
        exact ⟨ret_any (by rw [HT.out]; rfl),HZ.out⟩
       ·have fO:((k:Int)==E.other)=false:=by simp [hO]
        have HO:=hide hO
        clear hO
        have xa:(w.alloc (.cells (E.cells.setIfInBounds 6 (Value.string ⟨#[115,111,109,101,111,110,101]⟩)) 71)).cell? ⟨w.heap.size,10+k,none⟩=some (.int .i64 (E.by' k)):=(cev_new w { E with who:=⟨#[115,111,109,101,111,110,101]⟩ }).by' k hk6
        have xo:(w.alloc (.cells (E.cells.setIfInBounds 6 (Value.string ⟨#[115,111,109,101,111,110,101]⟩)) 71)).cell? ⟨w.heap.size,3,none⟩=some (.int .i64 E.other):=(cev_new w { E with who:=⟨#[115,111,109,101,111,110,101]⟩ }).othr
        have HK:=hide (show asKnown E k={ E with who:=bs someoneL,whom:=E.whom } by unfold asKnown; rw [if_pos hA,if_neg HO.out,if_neg (by rw [hB]; simp)])
        go_enter Tryz.func35,Tryz.ntmps35
        go_wp2_with fail
        refine (sbeing_any (k:Int) _).mono ?_
        rintro e w9 ⟨rfl,hw⟩
        rw [hw,HB6.out]
        clear hw w9
        go_wp2_with fail
        refine (FC.out _).mono ?_
        rintro e w9 ⟨rfl,hw⟩
        rw [hw]
        clear hw w9
        go_wp2_with (refine wl_event_new (.tmp 2) rfl rfl _ rfl (asKnown E k) rfl (by rw [HK.out] <;> rfl) ?_)
        refine (C.out _ (HV.out.alloc _) (HAi.out.below ((Below.refl _ _).alloc (Nat.le_refl _) _))).mono ?_
        rintro e w9 ⟨rfl,hb⟩
        have HZ:=hide (((Below.refl w.heap.size w).alloc (Nat.le_refl _) _).trans (hb.mono (by simp)))
        clear hb
        go_wp2
        go_ret2
        exact ⟨ret_any (by rw [HT.out]; rfl),HZ.out⟩
      | true =>
       have fB:(bits .and .i64 (E.by' k) 4 != 0)=true:=hB
       by_cases hO:(k:Int)=E.other
       ·have fO:((k:Int)==E.other)=true:=by simp [hO]
        have HO:=hide hO
        clear hO
        have xa:(w.alloc (.cells (E.cells.setIfInBounds 6 (Value.string ⟨#[115,111,109,101,111,110,101]⟩)) 71)).cell? ⟨w.heap.size,10+k,none⟩=some (.int .i64 (E.by' k)):=(cev_new w { E with who:=⟨#[115,111,109,101,111,110,101]⟩ }).by' k hk6
        have xo:(w.alloc (.cells ((E.cells.setIfInBounds 6 (Value.string ⟨#[115,111,109,101,111,110,101]⟩)).setIfInBounds 7 (Value.string ⟨#[115,111,109,101,111,110,101]⟩)) 71)).cell? ⟨w.heap.size,3,none⟩=some (.int .i64 E.other):=(cev_new w { E with who:=⟨#[115,111,109,101,111,110,101]⟩,whom:=⟨#[115,111,109,101,111,110,101]⟩ }).othr
        have HK:=hide (show asKnown E k={ E with who:=bs someoneL,whom:=bs youL } by unfold asKnown; rw [if_pos hA,if_pos HO.out])
        go_enter Tryz.func35,Tryz.ntmps35
        go_wp2_with fail
        refine (sbeing_any (k:Int) _).mono ?_
        rintro e w9 ⟨rfl,hw⟩
        rw [hw,HB6.out]
        clear hw w9
        go_wp2_with fail
        refine (FC.out _).mono ?_
        rintro e w9 ⟨rfl,hw⟩
        rw [hw]
        clear hw w9
        go_wp2_with (refine wl_event_new (.tmp 2) rfl rfl _ rfl (asKnown E k) rfl (by rw [HK.out] <;> rfl) ?_)
        refine (C.out _ (HV.out.alloc _) (HAi.out.below ((Below.refl _ _).alloc (Nat.le_refl _) _))).mono ?_
        rintro e w9 ⟨rfl,hb⟩
        have HZ:=hide (((Below.refl w.heap.size w).alloc (Nat.le_refl _) _).trans (hb.mono (by simp)))
        clear hb
        go_wp2
        go_ret2
        exact ⟨ret_any (by rw [HT.out]; rfl),HZ.out⟩
       ·have fO:((k:Int)==E.other)=false:=by simp [hO]
        have HO:=hide hO
        clear hO
        have xa:(w.alloc (.cells (E.cells.setIfInBounds 6 (Value.string ⟨#[115,111,109,101,111,110,101]⟩)) 71)).cell? ⟨w.heap.size,10+k,none⟩=some (.int .i64 (E.by' k)):=(cev_new w { E with who:=⟨#[115,111,109,101,111,110,101]⟩ }).by' k hk6
        have xo:(w.alloc (.cells ((E.cells.setIfInBounds 6 (Value.string ⟨#[115,111,109,101,111,110,101]⟩)).setIfInBounds 7 (Value.string ⟨#[115,111,109,101,111,110,101]⟩)) 71)).cell? ⟨w.heap.size,3,none⟩=some (.int .i64 E.other):=(cev_new w { E with who:=⟨#[115,111,109,101,111,110,101]⟩,whom:=⟨#[115,111,109,101,111,110,101]⟩ }).othr
        have HK:=hide (show asKnown E k={ E with who:=bs someoneL,whom:=bs someoneL } by unfold asKnown; rw [if_pos hA,if_neg HO.out,if_pos hB])
        go_enter Tryz.func35,Tryz.ntmps35
        go_wp2_with fail
        refine (sbeing_any (k:Int) _).mono ?_
        rintro e w9 ⟨rfl,hw⟩
        rw [hw,HB6.out]
        clear hw w9
        go_wp2_with fail
        refine (FC.out _).mono ?_
        rintro e w9 ⟨rfl,hw⟩
        rw [hw]
        clear hw w9
        go_wp2_with (refine wl_event_new (.tmp 2) rfl rfl _ rfl (asKnown E k) rfl (by rw [HK.out] <;> rfl) ?_)
        refine (C.out _ (HV.out.alloc _) (HAi.out.below ((Below.refl _ _).alloc (Nat.le_refl _) _))).mono ?_
        rintro e w9 ⟨rfl,hb⟩
        have HZ:=hide (((Below.refl w.heap.size w).alloc (Nat.le_refl _) _).trans (hb.mono (by simp)))
        clear hb
        go_wp2
        go_ret2
        exact ⟨ret_any (by rw [HT.out]; rfl),HZ.out⟩
end Go.Proofs.YtncgcejlkmoliaaGreatDoor
