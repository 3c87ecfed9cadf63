import Derived.Test.YtncgcejlkmoliaaGreatDoorMh17
import Derived.Test.YtncgcejlkmoliaaGreatDoorMh16
import Derived.Test.YtncgcejlkmoliaaGreatDoorMh08
import Derived.Test.YtncgcejlkmoliaaGreatDoorMh01
import Derived.Test.YtncgcejlkmoliaaGreatDoorMh04
import Derived.Lib.ItoaMem
import Derived.Lib.AppendStr
import Derived.Lib.UnsafeStr
import Derived.Lib.ItoaLen
set_option linter.unusedVariables false
set_option maxRecDepth 100000
set_option maxHeartbeats 16000000
namespace Go.Proofs.YtncgcejlkmoliaaGreatDoor
open Go.RowKit
theorem res_land4 {fn:Func} {p u t q:Tmp} (h:fn.results=#[.cell p 43,.tmp u,.tmp t,.tmp q]) (tmps:Array Value) (w:World) (g:Nat) (L:Ld) (x y z:Value)
 (hp:tmps.getD p undef=.pointer (some ⟨g,0,none⟩)) (hx:tmps.getD u undef=x) (hy:tmps.getD t undef=y) (hz:tmps.getD q undef=z) (hg:w.heap[g]?=some (.cells L.cells 43 (0,0))) :
 (results fn tmps).run Tryz.prog w=.ok (.tuple #[.agg L.cells,x,y,z]) w:=by
 have hp':tmps[p]?.getD undef=.pointer (some ⟨g,0,none⟩):=by simpa using hp
 have hx':tmps[u]?.getD undef=x:=by simpa using hx
 have hy':tmps[t]?.getD undef=y:=by simpa using hy
 have hz':tmps[q]?.getD undef=z:=by simpa using hz
 have hl:=run_loadVar_row (P:=Tryz.prog) w g 43 43 L.cells (0,0) _ hg Tryz.underlying43 rfl (by rw [L.size]; exact Tryz.sizeLand)
 simp [results,h,hp',hx',hy',hz',asAddr,hl]
structure EnRel (L:Ld) (w w1:World):Prop where
 cod:Cod w1 w.heap.size L
 res:w1.heap[w.heap.size+1]?=some (.cells zl.cells 43 (0,0))
 low:Below w.heap.size w w1
theorem en_start (L:Ld) (w:World):EnRel L w ((w.alloc (.cells L.cells 43)).alloc (.cells zl.cells 43)):=by
 refine ⟨(cod_new w L).alloc (.cells zl.cells 43),?_,(below_box w (.cells L.cells 43)).alloc (by simp) (.cells zl.cells 43)⟩
 have:=heap_alloc_new (w.alloc (.cells L.cells 43)) (.cells zl.cells 43)
 rw [World.size_alloc] at this; exact this
theorem EnRel.call {L:Ld} {w w1 w2:World} (h:EnRel L w w1) (hb:Below w1.heap.size w1 w2):EnRel L w w2:=by
 have hl:=(Array.getElem?_eq_some_iff.1 h.res).1
 exact ⟨h.cod.behind hb (Nat.le_refl _),by rw [hb.block _ (by omega)]; exact h.res,h.low.trans (hb.mono h.low.size)⟩
def bars (L:Ld) (nm:ByteArray):Int:=if goodL L=false then 2 else if namedB nm=false then 1 else if takenL L nm=true then 1 else if (vacA L).2=false then 4 else 0
theorem enter_bad (L:Ld) (nm:ByteArray) (w:World) (hwf:Wf L) (hs:nm.size≤140737488355328) (hr:bars L nm ≠ 0) :
 Calls Tryz.prog 141 #[.agg L.cells,.string nm] w fun e w'=>e=.returned (.tuple #[.agg L.cells,.int .i64 0,.slice none 0 0,.int .i64 (bars L nm)])∧Below w.heap.size w w':=by
 have hz:=(zero_of_info Tryz.zLand).1
 have D0:=hide (en_start L w)
 go_enter Tryz.func141,Tryz.ntmps141
 go_wp2_with (refine wl_land (.tmp 2) rfl rfl _ L rfl D0.out.cod ?_)
 refine (good_any L _ hwf).mono ?_
 rintro e w1 ⟨rfl,hb1⟩
 have D1:=hide (D0.out.call hb1)
 clear hb1 D0
 cases hg:goodL L with
 | false =>
  have HV:=hide (show bars L nm=2 by unfold bars; rw [if_pos hg])
  clear hg hr
  go_wp2_with (first | (refine wl_land (.tmp 2) rfl rfl _ L rfl D1.out.cod ?_) | (refine wl_row 43 (.tmp 4) (.tmp 15) rfl rfl (w.heap.size+1) L.cells rfl rfl 43 zl.cells D1.out.res (by rw [L.size]; exact Tryz.sizeLand) (by rw [L.size,zl.size]) (land_one L) ?_))
  exact bodyPost_ret (v:=.tuple #[.agg L.cells,.int .i64 0,.slice none 0 0,.int .i64 2]) (res_land4 rfl _ _ (w.heap.size+1) L _ _ _ rfl rfl rfl rfl (setRow_heap _ _ _ _ _ _ D1.out.res)) rfl ⟨by rw [HV.out],below_setRow D1.out.low (by omega) _⟩
 | true =>
  go_wp2_with fail
  refine (rnamed_any nm _ hs).mono ?_
  rintro e w1' ⟨rfl,hw⟩
  rw [hw]
  clear hw w1'
  cases hn:namedB nm with
  | false =>
   have HV:=hide (show bars L nm=1 by unfold bars; rw [if_neg (by simp [hg]),if_pos hn])
   clear hg hr hn
   go_wp2_with (first | (refine wl_land (.tmp 2) rfl rfl _ L rfl D1.out.cod ?_) | (refine wl_row 43 (.tmp 4) (.tmp 25) rfl rfl (w.heap.size+1) L.cells rfl rfl 43 zl.cells D1.out.res (by rw [L.size]; exact Tryz.sizeLand) (by rw [L.size,zl.size]) (land_one L) ?_))
   exact bodyPost_ret (v:=.tuple #[.agg L.cells,.int .i64 0,.slice none 0 0,.int .i64 1]) (res_land4 rfl _ _ (w.heap.size+1) L _ _ _ rfl rfl rfl rfl (setRow_heap _ _ _ _ _ _ D1.out.res)) rfl ⟨by rw [HV.out],below_setRow D1.out.low (by omega) _⟩
  | true =>
   go_wp2_with (refine wl_land (.tmp 2) rfl rfl _ L rfl D1.out.cod ?_)
   refine (rtaken_any L nm _).mono ?_
   rintro e w2 ⟨rfl,hb2⟩
   have D2:=hide (D1.out.call hb2)
   clear hb2 D1
   cases ht:takenL L nm with
   | true =>
    have HV:=hide (show bars L nm=1 by unfold bars; rw [if_neg (by simp [hg]),if_neg (by simp [hn]),if_pos ht])
    clear hg hr hn ht
    go_wp2_with (first | (refine wl_land (.tmp 2) rfl rfl _ L rfl D2.out.cod ?_) | (refine wl_row 43 (.tmp 4) (.tmp 25) rfl rfl (w.heap.size+1) L.cells rfl rfl 43 zl.cells D2.out.res (by rw [L.size]; exact Tryz.sizeLand) (by rw [L.size,zl.size]) (land_one L) ?_))
    exact bodyPost_ret (v:=.tuple #[.agg L.cells,.int .i64 0,.slice none 0 0,.int .i64 1]) (res_land4 rfl _ _ (w.heap.size+1) L _ _ _ rfl rfl rfl rfl (setRow_heap _ _ _ _ _ _ D2.out.res)) rfl ⟨by rw [HV.out],below_setRow D2.out.low (by omega) _⟩
   | false =>
    have hv:(vacA L).2=false:=by
     cases h:(vacA L).2 with
     | false=>rfl
     | true=>exact absurd (by unfold bars; rw [if_neg (by simp [hg]),if_neg (by simp [hn]),if_neg (by simp [ht]),if_neg (by simp [h])]) hr
    have HV:=hide (show bars L nm=4 by unfold bars; rw [if_neg (by simp [hg]),if_neg (by simp [hn]),if_neg (by simp [ht]),if_pos hv])
    clear hg hr hn ht
    go_wp2_with (refine wl_land (.tmp 2) rfl rfl _ L rfl D2.out.cod ?_)
    refine (rfree_any L _).mono ?_
    rintro e w3 ⟨rfl,hb3⟩
    have D3:=hide (D2.out.call hb3)
    clear hb3 D2
    rw [hv]
    clear hv
    generalize (vacA L).1=c
    go_wp2_with (first | (refine wl_land (.tmp 2) rfl rfl _ L rfl D3.out.cod ?_) | (refine wl_row 43 (.tmp 4) (.tmp 33) rfl rfl (w.heap.size+1) L.cells rfl rfl 43 zl.cells D3.out.res (by rw [L.size]; exact Tryz.sizeLand) (by rw [L.size,zl.size]) (land_one L) ?_))
    exact bodyPost_ret (v:=.tuple #[.agg L.cells,.int .i64 0,.slice none 0 0,.int .i64 4]) (res_land4 rfl _ _ (w.heap.size+1) L _ _ _ rfl rfl rfl rfl (setRow_heap _ _ _ _ _ _ D3.out.res)) rfl ⟨by rw [HV.out],below_setRow D3.out.low (by omega) _⟩
open Go.RowKit
theorem enter_any (L L':Ld) (Fs:List Ev) (nm:ByteArray) (k:Nat) (w:World) (hvb:Vb w) (hwf:Wf L) (hs:nm.size≤140737488355328) (hg:goodL L=true) (hn:namedB nm=true) (ht:takenL L nm=false) (hk:k < 6) (hv:vacA L=((k:Int),true))
 (hL:beginL (L.setBeing k nm true false 0 0 0) k=L') (hF:beginE L' k=Fs) (hf:Fine L') :
 Calls Tryz.prog 141 #[.agg L.cells,.string nm] w fun e w'=>∃ v,e=.returned (.tuple #[.agg L'.cells,.int .i64 (k:Int),v,.int .i64 0])∧w'.ownsRow w.heap.size 71 16 v Fs.length (evc Fs)∧Below w.heap.size w w':=by
 have hz:=(zero_of_info Tryz.zLand).1
 have HVB:=hide hvb
 have HL:=hide hL
 have HF:=hide hF
 have HFI:=hide hf
 have hki:(k:Int) < 6:=by omega
 clear hvb hL hF hf
 have D0:=hide (en_start L w)
 go_enter Tryz.func141,Tryz.ntmps141
 go_wp2_with (refine wl_land (.tmp 2) rfl rfl _ L rfl D0.out.cod ?_)
 refine (good_any L _ hwf).mono ?_
 rintro e w1 ⟨rfl,hb1⟩
 have D1:=hide (D0.out.call hb1)
 rw [hg]
 clear hb1 D0 hg
 go_wp2_with fail
 refine (rnamed_any nm _ hs).mono ?_
 rintro e w1' ⟨rfl,hw⟩
 rw [hw,hn]
 clear hw w1' hn
 go_wp2_with (refine wl_land (.tmp 2) rfl rfl _ L rfl D1.out.cod ?_)
 refine (rtaken_any L nm _).mono ?_
 rintro e w2 ⟨rfl,hb2⟩
 have D2:=hide (D1.out.call hb2)
 rw [ht]
 clear hb2 D1 ht
 go_wp2_with (refine wl_land (.tmp 2) rfl rfl _ L rfl D2.out.cod ?_)
 refine (rfree_any L _).mono ?_
 rintro e w3 ⟨rfl,hb3⟩
 have D3:=hide (D2.out.call hb3)
 rw [hv]
 simp only
 clear hb3 D2 hv
 have hw:=(sn_start L w3).whole k hk nm true false 0 0 0
 have X:=hide hw.1
 clear hw
 go_upto_region 10 with (first | (refine wl_land (.tmp 2) rfl rfl _ L rfl D3.out.cod ?_) | (refine wl_build 172 #[(0,.tmp 34)] rfl ?hh _ _ (built_scene L) ?hv ?_) | (refine wl_whole (.tmp 44) (.tmp 40) rfl rfl k hk nm true false 0 0 0 rfl rfl (sn_start L w3) ?_))
 generalize (w3.alloc (.cells (L.more [] (.slice none 0 0)) 172)).setCells w3.heap.size (129+k*6) [.string nm,.bool true,.bool false,.int .i64 0,.int .i64 0,.int .i64 0]=wq at X ⊢
 simp only [Act.put]
 go_wp2_with fail
 refine (rbegin_any X.out k hk (by rw [HL.out]; exact HFI.out) (HVB.out.below D3.out.low (Nat.le_refl _)) (by simp)).mono ?_
 rintro e w4 ⟨rfl,S4,T4⟩
 rw [HL.out,List.nil_append,HF.out] at S4
 obtain ⟨v,hv,ho⟩:=S4.ex
 obtain ⟨av,cap,rfl⟩:=shapeE ho
 have hlt1:w.heap.size+1 < w3.heap.size:=(Array.getElem?_eq_some_iff.1 D3.out.res).1
 have HR:Hr w3.heap.size L' (.slice av Fs.length cap) w4.drew:=⟨S4.land,by
  show w4.cell? _=_
  rw [cell_of_row _ _ _ _ _ _ hv]; exact more_row L' [] _⟩
 have RR:w4.drew.heap[w.heap.size+1]?=some (.cells zl.cells 43 (0,0)):=by
  show w4.heap[w.heap.size+1]?=_
  rw [S4.low.block _ (by omega)]; exact D3.out.res
 have OW:w4.drew.ownsRow (w3.heap.size+1) 71 16 (.slice av Fs.length cap) Fs.length (evc Fs):=ho
 have BB:Below w.heap.size w w4.drew:=(D3.out.low.trans (S4.low.mono D3.out.low.size)).drew
 have hne:w3.heap.size ≠ w.heap.size+1:=by omega
 clear S4 T4 hv ho D3 X HL HF HFI
 go_wp2_with fail
 refine wp_region_held (S:=Hr w3.heap.size L' (.slice av Fs.length cap)) (by kernel_rfl) ?_
 change wpAnyH _ _ _ _ _ _ _ _ w4.drew
 generalize w4.drew=W0 at *
 refine tw (i:=0) (d:=some 48) (fuel:=12) (v:=?_) rfl rfl ?_ HR ?_
 rotate_left
 ·intro W hW
  have hc:=hW.row
  go_simp
  try with_reducible rfl
 simp only [Act.put,sT,List.set]
 refine tw (i:=1) (d:=some 49) (fuel:=11) (v:=?_) rfl rfl ?_ HR ?_
 rotate_left
 ·intro W hW
  have hc:=hW.row
  go_simp
  try with_reducible rfl
 simp only [Act.put,sT,List.set]
 refine tw (i:=2) (d:=some 50) (fuel:=10) (v:=?_) rfl rfl ?_ HR ?_
 rotate_left
 ·intro W hW
  have hc:=hW.row
  go_simp
  try with_reducible rfl
 simp only [Act.put,sT,List.set]
 refine tk (i:=3) (d:=some 51) (fuel:=9) (v:=.agg L'.cells) rfl rfl (Or.inl ⟨by rfl,fun W hW=>exec_land' (.tmp 50) rfl rfl hW.land⟩) HR ?_
 simp only [Act.put,sT,List.set]
 refine tw (i:=4) (d:=some 52) (fuel:=8) (v:=?_) rfl rfl ?_ HR ?_
 rotate_left
 ·intro W hW
  have hc:=hW.row
  go_simp
  try with_reducible rfl
 simp only [Act.put,sT,List.set]
 refine tw (i:=5) (d:=some 53) (fuel:=7) (v:=?_) rfl rfl ?_ HR ?_
 rotate_left
 ·intro W hW
  have hc:=hW.row
  go_simp
  try with_reducible rfl
 simp only [Act.put,sT,List.set]
 refine tw (i:=6) (d:=some 54) (fuel:=6) (v:=?_) rfl rfl ?_ HR ?_
 rotate_left
 ·intro W hW
  have hc:=hW.row
  go_simp
  try with_reducible rfl
 simp only [Act.put,sT,List.set]
 refine tw (i:=7) (d:=some 55) (fuel:=5) (v:=?_) rfl rfl ?_ HR ?_
 rotate_left
 ·intro W hW
  have hc:=hW.row
  go_simp
  try with_reducible rfl
 simp only [Act.put,sT,List.set]
 refine tw (i:=8) (d:=some 56) (fuel:=4) (v:=?_) rfl rfl ?_ HR ?_
 rotate_left
 ·intro W hW
  have hc:=hW.row
  go_simp
  try with_reducible rfl
 simp only [Act.put,sT,List.set]
 refine wpAnyH_all (fuel:=3) (rs:=[9]) (by kernel_rfl) (by simp) ?_
 intro i hi
 obtain rfl:i=9:=by simpa using hi
 clear hi
 refine skip_at (d:=none) rfl rfl (by rfl) (exec_storeland (.tmp 4) (.tmp 51) rfl (k:=(w.heap.size+1)) (L:=L') (old:=zl.cells) rfl rfl RR zl.size) ?_
 have HR2:=HR.setRow hne (cs:=L'.cells)
 refine ⟨HR2,?_⟩
 simp only [Act.put]
 refine tw (i:=10) (d:=some 5) (fuel:=2) (v:=?_) rfl rfl ?_ HR2 ?_
 rotate_left
 ·intro W hW; go_simp; try with_reducible rfl
 simp only [Act.put,sT,List.set]
 refine tw (i:=11) (d:=some 6) (fuel:=1) (v:=?_) rfl rfl ?_ HR2 ?_
 rotate_left
 ·intro W hW; go_simp; try with_reducible rfl
 simp only [Act.put,sT,List.set]
 refine tw (i:=12) (d:=some 7) (fuel:=0) (v:=?_) rfl rfl ?_ HR2 ?_
 rotate_left
 ·intro W hW; go_simp; try with_reducible rfl
 simp only [Act.put,sT,List.set]
 refine wpAnyH_done (by kernel_rfl) ?_ _
 go_wp2
 refine bodyPost_ret (v:=.tuple #[.agg L'.cells,.int .i64 (k:Int),.slice av Fs.length cap,.int .i64 0]) (res_land4 rfl _ _ (w.heap.size+1) L' _ _ _ rfl rfl rfl rfl (setRow_heap _ _ _ _ _ _ RR)) rfl ⟨_,rfl,own_setRow OW ⟨by omega,by omega⟩,below_setRow BB (by omega) _⟩
open Go.RowKit
def refuses (L:Ld) (b:Int) (verb:Int):Int:=if goodL L=false then 2 else if amg b 6=false then 3 else if L.here b.toNat=false then 3 else if verb < 0∨20 < verb then 5 else 0
open Go.RowKit
def formA (k:Int):List UInt8:=if k=1 then [89,111,117,32,103,111,32,68,46] else if k=2 then [] else if k=3 then [89,111,117,32,103,101,116,32,116,104,101,32,84,46] else if k=4 then [89,111,117,32,100,114,111,112,32,116,104,101,32,84,46] else if k=5 then [89,111,117,32,112,117,116,32,116,104,101,32,84,32,105,110,116,111,32,116,104,101,32,88,46] else if k=6 then [89,111,117,32,103,105,118,101,32,116,104,101,32,84,32,116,111,32,79,46] else if k=7 then [89,111,117,32,115,97,121,58,32,88] else if k=8 then [89,111,117,32,111,112,101,110,32,116,104,101,32,84,46] else if k=9 then [89,111,117,32,99,108,111,115,101,32,116,104,101,32,84,46] else if k=10 then [89,111,117,32,108,105,103,104,116,32,116,104,101,32,84,46] else if k=11 then [89,111,117,32,100,111,117,115,101,32,116,104,101,32,84,46] else if k=12 then [89,111,117,32,112,117,116,32,111,110,32,116,104,101,32,84,46] else if k=13 then [89,111,117,32,116,97,107,101,32,111,102,102,32,116,104,101,32,84,46] else if k=14 then [89,111,117,32,104,105,116,32,79,32,102,111,114,32,78,46] else if k=15 then [89,111,117,32,100,105,101,46] else if k=16 then [88] else if k=17 then [66,101,32,119,101,108,99,111,109,101,46] else if k=18 then [] else []
def formO (k:Int):List UInt8:=if k=1 then [65,32,103,111,101,115,32,68,46] else if k=2 then [65,32,99,111,109,101,115,32,102,114,111,109,32,68,46] else if k=3 then [65,32,103,101,116,115,32,97,32,84,46] else if k=4 then [65,32,100,114,111,112,115,32,97,32,84,46] else if k=5 then [65,32,112,117,116,115,32,97,32,84,32,105,110,116,111,32,97,32,88,46] else if k=6 then [65,32,103,105,118,101,115,32,97,32,84,32,116,111,32,79,46] else if k=7 then [65,32,115,97,121,115,58,32,88] else if k=8 then [65,32,111,112,101,110,115,32,97,32,84,46] else if k=9 then [65,32,99,108,111,115,101,115,32,97,32,84,46] else if k=10 then [65,32,108,105,103,104,116,115,32,97,32,84,46] else if k=11 then [65,32,100,111,117,115,101,115,32,97,32,84,46] else if k=12 then [65,32,112,117,116,115,32,111,110,32,97,32,84,46] else if k=13 then [65,32,116,97,107,101,115,32,111,102,102,32,97,32,84,46] else if k=14 then [65,32,104,105,116,115,32,79,32,102,111,114,32,78,46] else if k=15 then [65,32,100,105,101,115,46] else if k=16 then [] else if k=17 then [65,32,97,114,114,105,118,101,115,46] else if k=18 then [65,32,102,97,100,101,115,46] else []
def isKind (k:Int):Prop:=1≤k∧k≤18
theorem kind_cases (k:Int):k=1∨k=2∨k=3∨k=4∨k=5∨k=6∨k=7∨k=8∨k=9∨k=10∨k=11∨k=12∨k=13∨k=14∨k=15∨k=16∨k=17∨k=18∨¬ isKind k:=by unfold isKind; omega
theorem formA_none {k:Int} (h:¬ isKind k):formA k=[]:=by
 unfold isKind at h
 unfold formA
 iterate 18 rw [if_neg (by omega)]
theorem formO_none {k:Int} (h:¬ isKind k):formO k=[]:=by
 unfold isKind at h
 unfold formO
 iterate 18 rw [if_neg (by omega)]
theorem form_len (k:Int):(formA k).length≤25∧(formO k).length≤25:=by
 rcases kind_cases k with rfl | rfl | rfl | rfl | rfl | rfl | rfl | rfl | rfl | rfl | rfl | rfl | rfl | rfl | rfl | rfl | rfl | rfl | h
 iterate 18 (exact ⟨by decide,by decide⟩)
 rw [formA_none h,formO_none h]; simp
def markL (E:Ev) (c:UInt8):List UInt8 :=
 if c=65 then E.who.data.toList else if c=79 then E.whom.data.toList else if c=84 then E.thing.data.toList else if c=68 then calledI E.dir else if c=88 then E.text.data.toList else if c=78 then Lib.itoa E.num else [c]
def fillL (E:Ev) (f:List UInt8):List UInt8:=f.flatMap (markL E)
theorem fill_snoc (E:Ev) (f:List UInt8) (k:Nat) (hk:k < f.length):fillL E (f.take (k+1))=fillL E (f.take k)++markL E f[k]:=by
 unfold fillL
 rw [List.take_succ_eq_append_getElem hk,List.flatMap_append]
 simp
def someoneL:List UInt8:=[115,111,109,101,111,110,101]
def youL:List UInt8:=[121,111,117]
def bitB (x m:Int):Bool:=bits .and .i64 x m != 0
def asKnown (E:Ev) (b:Nat):Ev:={ E with
 who:=if bitB (E.by' b) 2=true then bs someoneL else E.who
 whom:=if (b:Int)=E.other then bs youL else if bitB (E.by' b) 4=true then bs someoneL else E.whom }
def formOf (E:Ev) (b:Nat):List UInt8:=if (b:Int)=E.actor then formA E.kind else formO E.kind
def tellL (E:Ev) (b:Int):Option (List UInt8) :=
 if amg b 6=true∧bitB (E.by' b.toNat) 1=true∧formOf E b.toNat ≠ [] then some (fillL (asKnown E b.toNat) (formOf E b.toNat)) else none
open Go.RowKit
def Ai (w0:World):Prop:=∀ (w:World) (B n:Nat) (i:Int) (sv:Value) (xs:List Value),Below w0.heap.size w0 w→w0.heap.size≤B→-9223372036854775808≤i→i≤9223372036854775807→w.ownsRow B 5 1 sv n xs→B≤w.heap.size→n+21≤140737488355328 →
 Calls Tryz.prog 92 #[sv,.int .i64 i,.int .i64 10] w fun e w'=>∃ v',e=.returned v'∧w'.ownsRow B 5 1 v' (n+(Lib.itoa i).length) (xs++Lib.byteCells (Lib.itoa i))∧Below B w w'
theorem Ai.below {w0 w1:World} (h:Ai w0) (hb:Below w0.heap.size w0 w1):Ai w1:=fun w B n i sv xs hb1 hB h0 h1 ho hBw hl =>
 h w B n i sv xs (hb.trans (hb1.mono hb.size)) (Nat.le_trans hb.size hB) h0 h1 ho hBw hl
theorem Tryz.info5:(Tryz.prog.info? 5).map (fun i=>(i.zero,i.size,i.bytes))=some (some (.int .u8 0),1,1):=by kernel_rfl
theorem own_shapeB {w:World} {base:Nat} {v:Value} {n:Nat} {xs:List Value} (h:w.ownsRow base 5 1 v n xs):∃ (av:Option Addr) (cap:Nat),v=.slice av n cap:=by
 rcases h.2 with ⟨rfl,rfl⟩ | ⟨g,cap,cur,rfl,_⟩
 ·exact ⟨_,_,rfl⟩
 ·exact ⟨_,_,rfl⟩
theorem conv_own {w:World} {base:Nat} {v:Value} {l:List UInt8} (h:w.ownsRow base 5 1 v l.length (Lib.byteCells l)):(convert 123 9 v).run Tryz.prog w=.ok (.string (bs l)) w:=by
 rcases h.2 with ⟨rfl,h0⟩ | ⟨g,cap,cur,rfl,hbg,hgg,hnc,hcm,hcs,htake⟩
 ·rw [List.eq_nil_of_length_eq_zero h0]
  rw [run_convert_bytes_string w 123 9 5 none _ _ Tryz.underlying123 Tryz.underlying5 Tryz.underlying9]
  rfl
 ·exact run_convert_bytes_back w 123 9 5 ⟨g,0,none⟩ cap l Tryz.underlying123 Tryz.underlying5 Tryz.underlying9 (fun j hj=>h.cells (g:=g) rfl j _ (by simp [Lib.byteCells,hj]))
structure FRel (E:Ev) (w:World) (v:Value) (l:List UInt8) (wr:World):Prop where
 own:wr.ownsRow (w.heap.size+1) 5 1 v l.length (Lib.byteCells l)
 cev:Cev wr w.heap.size E
 low:Below w.heap.size w wr
 size:w.heap.size+1≤wr.heap.size
section
variable {E:Ev} {w wr wr':World} {v v':Value} {l m:List UInt8}
theorem FRel.on (h:FRel E w v l wr) (ho:wr'.ownsRow (w.heap.size+1) 5 1 v' (l.length+m.length) (Lib.byteCells l++Lib.byteCells m)) (hb:Below (w.heap.size+1) wr wr'):FRel E w v' (l++m) wr':=by
 refine ⟨?_,?_,h.low.trans (hb.mono (by omega)),by have:=hb.size; have:=h.size; omega⟩
 ·have e2:Lib.byteCells (l++m)=Lib.byteCells l++Lib.byteCells m:=by simp [Lib.byteCells]
  rw [List.length_append,e2]; exact ho
 ·have:=h.cev
  unfold Cev at this ⊢
  rw [hb.block _ (by omega)]; exact this
theorem FRel.grown (h:FRel E w v l wr) (ho:wr'.ownsRow (w.heap.size+1) 5 1 v' (l.length+m.length) (Lib.byteCells l++Lib.byteCells m)) (hg:wr.grownBy wr' v.ownBlock):FRel E w v' (l++m) wr' :=
 h.on ho ((Below.refl _ _:Below (w.heap.size+1) wr wr).grown hg (by have:=h.size; omega) (fun k hk=>(h.own.lt k (by simpa using hk)).1))
theorem FRel.box (h:FRel E w v l wr) (o:Obj):FRel E w v l (wr.alloc o) :=
 ⟨h.own.alloc o,h.cev.alloc o,h.low.alloc h.low.size o,by have:=h.size; simp; omega⟩
theorem fr_start (E:Ev) (w:World):FRel E w (.slice none 0 0) [] (w.alloc (.cells E.cells 71)) :=
 ⟨World.ownsRow_nil _ _ _ _,cev_new w E,(Below.refl _ _).alloc (Nat.le_refl _) _,by simp⟩
end
theorem fill_le (E:Ev) (f:List UInt8) (k:Nat):(fillL E (f.take k)).length≤(fillL E f).length:=by
 have:fillL E f=fillL E (f.take k)++fillL E (f.drop k):=by
  unfold fillL
  rw [← List.flatMap_append,List.take_append_drop]
 rw [this,List.length_append]; omega
open Go.RowKit
theorem mark_nat (E:Ev) (c:UInt8):markL E c=if c.toNat=65 then E.who.data.toList else if c.toNat=79 then E.whom.data.toList else if c.toNat=84 then E.thing.data.toList else if c.toNat=68 then calledI E.dir else if c.toNat=88 then E.text.data.toList else if c.toNat=78 then Lib.itoa E.num else [c]:=by
 have e:∀ n:Nat,n < 256→(c=UInt8.ofNat n)=(c.toNat=n):=fun n hn=>propext ⟨fun h=>by rw [h,UInt8.toNat_ofNat']; omega,fun h=>by rw [← h,UInt8.ofNat_toNat]⟩
 have e1:(c=65)=(c.toNat=65):=e 65 (by decide)
 have e2:(c=79)=(c.toNat=79):=e 79 (by decide)
 have e3:(c=84)=(c.toNat=84):=e 84 (by decide)
 have e4:(c=68)=(c.toNat=68):=e 68 (by decide)
 have e5:(c=88)=(c.toNat=88):=e 88 (by decide)
 have e6:(c=78)=(c.toNat=78):=e 78 (by decide)
 unfold markL
 simp only [e1,e2,e3,e4,e5,e6]
theorem len_of (s:ByteArray):s.data.toList.length=s.size:=by rw [Array.length_toList]; rfl
theorem filled_any (f:ByteArray) (E:Ev) (w:World) (hv:Vb w) (hai:Ai w) (hn0:-9223372036854775808≤E.num) (hn1:E.num≤9223372036854775807) (hf:f.size≤140737488355328) (hs:(fillL E f.data.toList).length+21≤140737488355328) :
 Calls Tryz.prog 75 #[.string f,.agg E.cells] w fun e w'=>e=.returned (.string (bs (fillL E f.data.toList)))∧Below w.heap.size w w':=by
 obtain ⟨i0,hi0,hz0,hz1,hz2⟩:=info_parts Tryz.info5
 have HV:=hide hv
 have HAi:=hide hai
 have HN:=hide (And.intro hn0 hn1)
 have HT:=hide hs
 clear hv hai hn0 hn1 hs
 go_enter Tryz.func75,Tryz.ntmps75
 go_wp2
 go_loopw [5,9] (fun v i wr=>∃ k:Nat,k≤f.size∧i=.int .i64 k∧FRel E w v (fillL E (f.data.toList.take k)) wr) (fun _ i _=>f.size - (intOf i).toNat)
 case atStart=>exact ⟨0,Nat.zero_le _,rfl,fr_start E w⟩
 case round =>
  obtain ⟨k,hk,rfl,R⟩:=hrel
  by_cases hlt:k < f.size
  ·have hkl:k < f.data.toList.length:=by rw [len_of]; exact hlt
   have HS:=hide (fill_snoc E f.data.toList k hkl)
   have hb:=fill_le E f.data.toList (k+1)
   rw [HS.out,List.length_append] at hb
   have HB:=hide (show (fillL E (f.data.toList.take k)).length+(markL E f.data.toList[k]).length≤140737488355307 by have:=HT.out; omega)
   have HP:=hide (show (fillL E (f.data.toList.take k)).length+21≤140737488355328 by have:=HT.out; omega)
   clear hb
   obtain ⟨c,hc⟩:∃ c:UInt8,c=f.data.toList[k]:=⟨_,rfl⟩
   obtain ⟨x,hxc⟩:∃ x:Nat,x=c.toNat:=⟨_,rfl⟩
   have hg:∀ h,(f[k]'h).toNat=x:=fun _=>by rw [hxc,hc]; simp; rfl
   have h256:x < 256:=by rw [hxc]; exact c.toNat_lt
   rw [← hc] at HS HB
   have HC:=hide hxc
   have HL:=hide (Lib.itoa_length_le E.num HN.out.1 HN.out.2)
   clear hc hxc hkl
   generalize fillL E (f.data.toList.take k)=l at *
   obtain ⟨av,cap,rfl⟩:=own_shapeB R.own
   have HR:=hide R
   clear R
   by_cases hx:x=65
   ·have HM:=hide (show markL E c=E.who.data.toList by rw [mark_nat,← HC.out]; rw [if_pos hx])
    clear HC
    subst hx
    have kf:=HR.out.cev.who
    go_wp2_with (at_builtin; refine Lib.wpList_append_own_string _ rfl (.tmp 23) (.tmp 25) 123 9 rfl (w.heap.size+1) 5 i0 Tryz.underlying123 Tryz.underlying9 hi0 hz0 hz1 hz2 _ l.length (Lib.byteCells l) rfl HR.out.own E.who rfl ?b1 ?b2 ?b3 ?_)
    case b1=>unfold maxLen; have h1:=HB.out; have h2:=HM.out; have h3:=size_len (E.who); rw [h2] at h1; omega
    case b2=>have h1:=HB.out; have h2:=HM.out; have h3:=size_len (E.who); rw [h2] at h1; omega
    case b3=>have:=HR.out.size; omega
    intro v' w1 ho hg _
    have N:=hide (HR.out.grown (m:=markL E c) (v':=v') (by rw [HM.out]; rw [size_len]; exact ho) hg)
    obtain ⟨av',cap',rfl⟩:=own_shapeB ho
    clear ho hg
    go_wp2
    go_roundw
    case rel=>exact ⟨k+1,hlt,by go_num,by rw [HS.out]; exact N.out⟩
    case measure=>simp [intOf]; omega
   ·have n65:((x:Int)==65)=false:=by simp; omega
    by_cases hx:x=79
    ·have HM:=hide (show markL E c=E.whom.data.toList by rw [mark_nat,← HC.out]; rw [if_neg (by omega)]; rw [if_pos hx])
     clear HC
     subst hx
     have kf:=HR.out.cev.whom
     go_wp2_with (at_builtin; refine Lib.wpList_append_own_string _ rfl (.tmp 29) (.tmp 31) 123 9 rfl (w.heap.size+1) 5 i0 Tryz.underlying123 Tryz.underlying9 hi0 hz0 hz1 hz2 _ l.length (Lib.byteCells l) rfl HR.out.own E.whom rfl ?b1 ?b2 ?b3 ?_)
     case b1=>unfold maxLen; have h1:=HB.out; have h2:=HM.out; have h3:=size_len (E.whom); rw [h2] at h1; omega
     case b2=>have h1:=HB.out; have h2:=HM.out; have h3:=size_len (E.whom); rw [h2] at h1; omega
     case b3=>have:=HR.out.size; omega
     intro v' w1 ho hg _
     have N:=hide (HR.out.grown (m:=markL E c) (v':=v') (by rw [HM.out]; rw [size_len]; exact ho) hg)
     obtain ⟨av',cap',rfl⟩:=own_shapeB ho
     clear ho hg
     go_wp2
     go_roundw
     case rel=>exact ⟨k+1,hlt,by go_num,by rw [HS.out]; exact N.out⟩
     case measure=>simp [intOf]; omega
    ·have n79:((x:Int)==79)=false:=by simp; omega
     by_cases hx:x=84
     ·have HM:=hide (show markL E c=E.thing.data.toList by rw [mark_nat,← HC.out]; rw [if_neg (by omega)]; rw [if_neg (by omega)]; rw [if_pos hx])
      clear HC
      subst hx
      have kf:=HR.out.cev.thing
      go_wp2_with (at_builtin; refine Lib.wpList_append_own_string _ rfl (.tmp 35) (.tmp 37) 123 9 rfl (w.heap.size+1) 5 i0 Tryz.underlying123 Tryz.underlying9 hi0 hz0 hz1 hz2 _ l.length (Lib.byteCells l) rfl HR.out.own E.thing rfl ?b1 ?b2 ?b3 ?_)
      case b1=>unfold maxLen; have h1:=HB.out; have h2:=HM.out; have h3:=size_len (E.thing); rw [h2] at h1; omega
      case b2=>have h1:=HB.out; have h2:=HM.out; have h3:=size_len (E.thing); rw [h2] at h1; omega
      case b3=>have:=HR.out.size; omega
      intro v' w1 ho hg _
      have N:=hide (HR.out.grown (m:=markL E c) (v':=v') (by rw [HM.out]; rw [size_len]; exact ho) hg)
      obtain ⟨av',cap',rfl⟩:=own_shapeB ho
      clear ho hg
      go_wp2
      go_roundw
      case rel=>exact ⟨k+1,hlt,by go_num,by rw [HS.out]; exact N.out⟩
      case measure=>simp [intOf]; omega
     ·have n84:((x:Int)==84)=false:=by simp; omega
      by_cases hx:x=68
      ·have HM:=hide (show markL E c=calledI E.dir by rw [mark_nat,← HC.out]; rw [if_neg (by omega)]; rw [if_neg (by omega)]; rw [if_neg (by omega)]; rw [if_pos hx])
       clear HC
       subst hx
       have kf:=HR.out.cev.dir
       go_wp2_with fail
       refine (called_any E.dir _ (HV.out.below HR.out.low (Nat.le_refl _))).mono ?_
       rintro e w9 ⟨rfl,hw⟩
       rw [hw]
       clear hw w9
       go_wp2_with (at_builtin; refine Lib.wpList_append_own_string _ rfl (.tmp 41) (.tmp 44) 123 9 rfl (w.heap.size+1) 5 i0 Tryz.underlying123 Tryz.underlying9 hi0 hz0 hz1 hz2 _ l.length (Lib.byteCells l) rfl HR.out.own (bs (calledI E.dir)) rfl ?b1 ?b2 ?b3 ?_)
       case b1=>unfold maxLen; have h1:=HB.out; have h2:=HM.out; have h3:=size_len ((bs (calledI E.dir))); rw [h2] at h1; rw [bs_data] at h3; omega
       case b2=>have h1:=HB.out; have h2:=HM.out; have h3:=size_len ((bs (calledI E.dir))); rw [h2] at h1; rw [bs_data] at h3; omega
       case b3=>have:=HR.out.size; omega
       intro v' w1 ho hg _
       have N:=hide (HR.out.grown (m:=markL E c) (v':=v') (by rw [HM.out]; rw [bs_size] at ho; exact ho) hg)
       obtain ⟨av',cap',rfl⟩:=own_shapeB ho
       clear ho hg
       go_wp2
       go_roundw
       case rel=>exact ⟨k+1,hlt,by go_num,by rw [HS.out]; exact N.out⟩
       case measure=>simp [intOf]; omega
      ·have n68:((x:Int)==68)=false:=by simp; omega
       by_cases hx:x=88
       ·have HM:=hide (show markL E c=E.text.data.toList by rw [mark_nat,← HC.out]; rw [if_neg (by omega)]; rw [if_neg (by omega)]; rw [if_neg (by omega)]; rw [if_neg (by omega)]; rw [if_pos hx])
        clear HC
        subst hx
        have kf:=HR.out.cev.text
        go_wp2_with (at_builtin; refine Lib.wpList_append_own_string _ rfl (.tmp 48) (.tmp 50) 123 9 rfl (w.heap.size+1) 5 i0 Tryz.underlying123 Tryz.underlying9 hi0 hz0 hz1 hz2 _ l.length (Lib.byteCells l) rfl HR.out.own E.text rfl ?b1 ?b2 ?b3 ?_)
        case b1=>unfold maxLen; have h1:=HB.out; have h2:=HM.out; have h3:=size_len (E.text); rw [h2] at h1; omega
        case b2=>have h1:=HB.out; have h2:=HM.out; have h3:=size_len (E.text); rw [h2] at h1; omega
        case b3=>have:=HR.out.size; omega
        intro v' w1 ho hg _
        have N:=hide (HR.out.grown (m:=markL E c) (v':=v') (by rw [HM.out]; rw [size_len]; exact ho) hg)
        obtain ⟨av',cap',rfl⟩:=own_shapeB ho
        clear ho hg
        go_wp2
        go_roundw
        case rel=>exact ⟨k+1,hlt,by go_num,by rw [HS.out]; exact N.out⟩
        case measure=>simp [intOf]; omega
       ·have n88:((x:Int)==88)=false:=by simp; omega
        by_cases hx:x=78
        ·have HM:=hide (show markL E c=Lib.itoa E.num by rw [mark_nat,← HC.out]; rw [if_neg (by omega)]; rw [if_neg (by omega)]; rw [if_neg (by omega)]; rw [if_neg (by omega)]; rw [if_neg (by omega)]; rw [if_pos hx])
         clear HC
         subst hx
         have kf:=HR.out.cev.num
         have hlen:=HL.out
         go_wp2_with fail
         refine (HAi.out wr (w.heap.size+1) l.length E.num _ (Lib.byteCells l) HR.out.low (by omega) HN.out.1 HN.out.2 HR.out.own HR.out.size (by have h1:=HP.out; omega)).mono ?_
         rintro e w1 ⟨v',rfl,ho,hb⟩
         have N:=hide (HR.out.on (m:=markL E c) (v':=v') (by rw [HM.out]; exact ho) hb)
         obtain ⟨av',cap',rfl⟩:=own_shapeB ho
         clear ho hb
         go_wp2
         go_roundw
         case rel=>exact ⟨k+1,hlt,by go_num,by rw [HS.out]; exact N.out⟩
         case measure=>simp [intOf]; omega
        ·have n78:((x:Int)==78)=false:=by simp; omega
         have HM:=hide (show markL E c=[c] by rw [mark_nat,← HC.out]; rw [if_neg (by omega)]; rw [if_neg (by omega)]; rw [if_neg (by omega)]; rw [if_neg (by omega)]; rw [if_neg (by omega)]; rw [if_neg (by omega)])
         have hcx:=hide (show Value.int .u8 (x:Int)=Value.int .u8 (c.toNat:Int) by rw [HC.out])
         go_wp2_with (at_builtin; refine wpList_append_own_at _ rfl (.tmp 15) (.tmp 19) 123 rfl (w.heap.size+1) 5 i0 (.int .u8 0) 1 1 Tryz.underlying123 hi0 hz0 hz1 hz2 rfl (by decide) _ l.length (Lib.byteCells l) rfl (HR.out.own.alloc _) ⟨wr.heap.size,0,none⟩ 1 1 [.int .u8 (x:Int)] rfl ?a1 ?a2 ?a3 ?a4 ?a5 ?a6 ?_)
         case a1=>rfl
         case a2 =>
          intro j u hj
          match j,hj with
          | 0,hj=>simp at hj; subst hj; simp [Addr.add]
         case a3=>intro u hu; simp at hu; subst hu; rfl
         case a4=>unfold maxLen; have h1:=HP.out; omega
         case a5=>have h1:=HP.out; omega
         case a6=>have:=HR.out.size; simp; omega
         intro v' w1 ho hg _ _
         have N:=hide ((HR.out.box _).grown (m:=markL E c) (v':=v') (by rw [HM.out]; rw [hcx.out] at ho; exact ho) hg)
         obtain ⟨av',cap',rfl⟩:=own_shapeB ho
         clear ho hg
         go_wp2
         go_roundw
         case rel=>exact ⟨k+1,hlt,by go_num,by rw [HS.out]; exact N.out⟩
         case measure=>simp [intOf]; omega
  ·have e:fillL E (f.data.toList.take k)=fillL E f.data.toList:=by rw [List.take_of_length_le (by rw [len_of]; omega)]
   rw [e] at R
   have hcv:=conv_own R.own
   have HR:=hide R
   clear R e
   obtain ⟨av,cap,rfl⟩:=own_shapeB HR.out.own
   go_wp2
   go_ret
   exact ⟨rfl,HR.out.low⟩
end Go.Proofs.YtncgcejlkmoliaaGreatDoor
