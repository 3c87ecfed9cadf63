import Derived.Test.YtncgcejlkmoliaaGreatDoorMh00
import Derived.Test.YtncgcejlkmoliaaGreatDoorMh01
import Derived.Test.YtncgcejlkmoliaaGreatDoorMh02
import Derived.Test.YtncgcejlkmoliaaGreatDoorMh03
import Derived.Test.YtncgcejlkmoliaaGreatDoorMh04
import Derived.Test.YtncgcejlkmoliaaGreatDoorMh05
import Derived.Test.YtncgcejlkmoliaaGreatDoorMh06
import Derived.Test.YtncgcejlkmoliaaGreatDoorMh07
import Derived.Test.YtncgcejlkmoliaaGreatDoorMh08
import Derived.Test.YtncgcejlkmoliaaGreatDoorMh09
import Derived.Test.YtncgcejlkmoliaaGreatDoorMh10
import Derived.Test.YtncgcejlkmoliaaGreatDoorMh11
import Derived.Test.YtncgcejlkmoliaaGreatDoorMh12
import Derived.Test.YtncgcejlkmoliaaGreatDoorMh13
import Derived.Test.YtncgcejlkmoliaaGreatDoorMh14
import Derived.Test.YtncgcejlkmoliaaGreatDoorMh15
import Derived.Test.YtncgcejlkmoliaaGreatDoorMh16
import Derived.Test.YtncgcejlkmoliaaGreatDoorMh17
import Derived.Test.YtncgcejlkmoliaaGreatDoorMh18
import Derived.Test.YtncgcejlkmoliaaGreatDoorMh19
import Derived.Test.YtncgcejlkmoliaaGreatDoorMh20
import Derived.Test.YtncgcejlkmoliaaGreatDoorMh21
import Derived.Test.YtncgcejlkmoliaaGreatDoorMh22
import Derived.Test.YtncgcejlkmoliaaGreatDoorMh46
import Derived.Test.YtncgcejlkmoliaaGreatDoorMh23
import Derived.Test.YtncgcejlkmoliaaGreatDoorMk24
import Derived.Test.YtncgcejlkmoliaaGreatDoorMk25
import Derived.Test.YtncgcejlkmoliaaGreatDoorMh26
import Derived.Test.YtncgcejlkmoliaaGreatDoorMk27
import Derived.Test.YtncgcejlkmoliaaGreatDoorMh28
import Derived.Test.YtncgcejlkmoliaaGreatDoorMk29
import Derived.Test.YtncgcejlkmoliaaGreatDoorMk30
import Derived.Test.YtncgcejlkmoliaaGreatDoorMk31
import Derived.Test.YtncgcejlkmoliaaGreatDoorMk32
import Derived.Test.YtncgcejlkmoliaaGreatDoorMk33
import Derived.Test.YtncgcejlkmoliaaGreatDoorMk34
import Derived.Test.YtncgcejlkmoliaaGreatDoorMk35
import Derived.Test.YtncgcejlkmoliaaGreatDoorMh45
import Derived.Test.YtncgcejlkmoliaaGreatDoorMh36
import Derived.Test.YtncgcejlkmoliaaGreatDoorMh37
import Derived.Test.YtncgcejlkmoliaaGreatDoorMh38
import Derived.Test.YtncgcejlkmoliaaGreatDoorMk39
import Derived.Test.YtncgcejlkmoliaaGreatDoorMk40
import Derived.Test.YtncgcejlkmoliaaGreatDoorMk41
import Derived.Test.YtncgcejlkmoliaaGreatDoorMk42
import Derived.Test.YtncgcejlkmoliaaGreatDoorMk43
import Derived.Test.YtncgcejlkmoliaaGreatDoorMk44
import Derived.Test.YtncgcejlkmoliaaGreatDoorNc01
set_option linter.unusedVariables false
set_option maxRecDepth 100000
set_option maxHeartbeats 16000000
namespace Go.Proofs.YtncgcejlkmoliaaGreatDoor.Ho
open Go.RowKit
def strLen:Value→Nat
 | .string s=>s.size
 | _=>0
theorem nomore_next (ts:List ByteArray) {n:Nat} {s:ByteArray} (h:ts[n]?=some s):noMore (ts.take (n+1))=noMore (ts.take n)++(if s=moreT then [] else [s]):=by
 unfold noMore
 rw [List.take_add_one,h,List.filter_append]
 by_cases ho:s=moreT <;> simp [ho]
theorem nomore_len (ts:List ByteArray):(noMore ts).length≤ts.length:=List.length_filter_le _ _
theorem end_len (ts:List ByteArray):2*ts.length≤(endL ts).length:=by
 induction ts with
 | nil=>exact Nat.zero_le _
 | cons s ts ih=>rw [end_cons]; simp only [List.length_append,List.length_cons]; omega
theorem bsz (l:List UInt8):(bs l).size=l.length:=by rw [← len_size]; simp [bs]
theorem end_drop {ts:List ByteArray} {n:Nat} {s:ByteArray} (h:ts[n]?=some s):ts.drop n=s::ts.drop (n+1):=by
 have hlt:=(List.getElem?_eq_some_iff.1 h).1
 rw [List.drop_eq_getElem_cons hlt]
 rw [List.getElem?_eq_getElem hlt] at h
 injection h with h
 rw [h]
theorem end_ne_nil {s:ByteArray} {ts:List ByteArray}:bs (endL (s::ts)) ≠ ⟨#[]⟩:=by
 intro e
 have:=congrArg ByteArray.size e
 rw [bsz,end_cons] at this
 have h0:(⟨#[]⟩:ByteArray).size=0:=rfl
 rw [h0] at this
 simp only [List.length_append,List.length_cons] at this
 omega
theorem end_app (a b:List ByteArray):endL (a++b)=endL a++endL b:=List.flatMap_append ..
theorem end_le (ts:List ByteArray) (n:Nat):(endL (ts.drop n)).length≤(endL ts).length:=by
 have e:endL ts=endL (ts.take n)++endL (ts.drop n):=by rw [← end_app,List.take_append_drop]
 rw [e,List.length_append]; omega
theorem str_some {x:ByteArray} (h:x ≠ ⟨#[]⟩):x.toList.isEmpty=false:=by
 obtain ⟨⟨l⟩⟩:=x
 have e:(ByteArray.mk ⟨l⟩).toList=l:=by simp
 rw [e]
 cases l with
 | nil=>exact absurd rfl h
 | cons c l=>rfl
theorem step_fun {α:Type} (A B:Nat→α) (k:Nat):(fun j=>if j=k then B k else if j < k then B j else A j)=fun j=>if j < k+1 then B j else A j:=by
 funext j
 by_cases e:j=k
 ·subst e; rw [if_pos rfl,if_pos (by omega)]
 ·rw [if_neg e]
  by_cases e2:j < k
  ·rw [if_pos e2,if_pos (by omega)]
  ·rw [if_neg e2,if_neg (by omega)]
theorem transC {W0:World} (hct:Ct W0) {lab:Nat→Nat} {w:World} {hb g1 g2:Nat} {M:Hm} {T:Nat→List ByteArray} {O:Nat→ByteArray} {v:Nat→Value} (H:HoC W0 lab w hb M) (hL:Lw W0 lab g1 g2 T O v w) (a:Ac) (c:Int) (s:ByteArray)
 (hto:∀ i,i < 4→(toldOf (M.seat i)).length≤1000) (hpg:∀ i,i < 4→(pageOf (M.seat i)).wait.length≤1000∧(pageOf (M.seat i)).ring.size≤1000) (hTl:∀ i,i < 4→(T i).length≤200000) (hOl:∀ i,i < 4→(O i).size≤200000) (hou:∀ i,i < 4→(outAt a s i).size≤1000)
 (hlaw:∀ i,i < 4→Tri (M.seat i) (nextT M T i) (nextO M a s O i)) :
 Calls Tryz.prog 38 (#[.pointer (some ⟨hb,0,none⟩),.agg a.cells,.agg #[.int .i64 c,.string s]]++#[.pointer (some ⟨g1,0,none⟩),.pointer (some ⟨g2,0,none⟩)]) w fun e w'=>e=.returned (.bool true)∧HoC W0 lab w' hb M∧∃ v',Lw W0 lab g1 g2 (nextT M T) (nextO M a s O) v' w':=by
 have e:(#[.pointer (some ⟨hb,0,none⟩),.agg a.cells,.agg #[.int .i64 c,.string s]]++#[.pointer (some ⟨g1,0,none⟩),.pointer (some ⟨g2,0,none⟩)]:Array Value)=#[.pointer (some ⟨hb,0,none⟩),.agg a.cells,.agg #[.int .i64 c,.string s],.pointer (some ⟨g1,0,none⟩),.pointer (some ⟨g2,0,none⟩)]:=by simp
 rw [e]
 clear e
 obtain ⟨i0,hi0,hz0,hz1,hz2⟩:=info_parts Tryz.info9
 have zP:=(zero_of_info Tryz.zPage).1
 have B0:=((Below.refl w.heap.size w).alloc (Nat.le_refl _) (.cells a.cells 23)).alloc (by simp) (.cells #[.int .i64 c,.string s] 29)
 have K0:Tc W0 lab hb M a c s w.heap.size (w.heap.size+1) g1 g2 T O v ((w.alloc (.cells a.cells 23)).alloc (.cells #[.int .i64 c,.string s] 29)):=⟨H.below B0,hL.below B0,(Below.heap_alloc (w.alloc (.cells a.cells 23)) (.cells #[.int .i64 c,.string s] 29) w.heap.size (by simp)).trans (heap_alloc_new w (.cells a.cells 23)),by
  have:=heap_alloc_new (w.alloc (.cells a.cells 23)) (.cells #[.int .i64 c,.string s] 29)
  rw [World.size_alloc] at this; exact this⟩
 have KK0:=hide K0
 have HCT:=hide hct
 have HTO:=hide hto
 have HPG:=hide hpg
 have HTL:=hide hTl
 have HOL:=hide hOl
 have HOU:=hide hou
 have HLAW:=hide hlaw
 clear H hL B0 K0 hct hto hpg hTl hOl hou hlaw
 go_enter Tryz.func38,Tryz.ntmps38
 go_upto_region 2 with fail
 generalize (w.alloc (.cells a.cells 23)).alloc (.cells #[.int .i64 c,.string s] 29)=w0 at *
 generalize w.heap.size+1=br at *
 generalize w.heap.size=ba at *
 go_loopw [22] (fun i wr=>∃ k:Nat,k≤4∧i=.int .i64 (k:Int)∧∃ v,Tc W0 lab hb M a c s ba br g1 g2 (fun j=>if j < k then nextT M T j else T j) (fun j=>if j < k then nextO M a s O j else O j) v wr) (fun i _=>4 - (intOf i).toNat)
 case atStart=>exact ⟨0,by omega,rfl,v,KK0.out.congr (funext fun j=>(if_neg (Nat.not_lt_zero j)).symm) (funext fun j=>(if_neg (Nat.not_lt_zero j)).symm)⟩
 case round =>
  obtain ⟨k,hk,rfl,u,Tk⟩:=hrel
  clear KK0
  by_cases hk4:k < 4
  ·have hki:(k:Int) < 4:=by omega
   obtain ⟨T1,hT1⟩:∃ T1,T1=fun j=>if j < k then nextT M T j else T j:=⟨_,rfl⟩
   obtain ⟨O1,hO1⟩:∃ O1,O1=fun j=>if j < k then nextO M a s O j else O j:=⟨_,rfl⟩
   rw [← hT1,← hO1] at Tk
   have FT:Hid ((fun j=>if j=k then nextT M T k else T1 j)=fun j=>if j < k+1 then nextT M T j else T j):=hide (by rw [hT1]; exact step_fun T (nextT M T) k)
   have FO:Hid ((fun j=>if j=k then nextO M a s O k else O1 j)=fun j=>if j < k+1 then nextO M a s O j else O j):=hide (by rw [hO1]; exact step_fun O (nextO M a s O) k)
   have ET:Hid (T1 k=T k):=hide (by rw [hT1]; exact if_neg (Nat.lt_irrefl k))
   have EO:Hid (O1 k=O k):=hide (by rw [hO1]; exact if_neg (Nat.lt_irrefl k))
   have hT0:=HTL.out k hk4
   have hO0:=HOL.out k hk4
   have hpk:=HPG.out k hk4
   have htk:=HTO.out k hk4
   have hok:=HOU.out k hk4
   have LW:=hide (HLAW.out k hk4)
   have TK:=hide Tk
   have CS:=hide (state_any Tk.ho (k:Int))
   have hsa:=seatN M hk4
   have hne:=Tk.lw.ne
   clear Tk hT1 hO1
   cases hS:M.seat k with
   | none =>
    rw [hS] at hsa
    rw [hsa] at CS
    have NT:Hid (nextT M T k=[]):=hide (by unfold nextT; rw [hS])
    have NO:Hid (nextO M a s O k=nilB):=hide (by unfold nextO; rw [hS])
    clear hsa hS LW ET EO hT0 hO0 hpk htk hok
    go_upto_region 5 with (go_at_call 16; refine CS.out.mono ?_; rintro e w3 ⟨rfl,b3⟩)
    have K3:=hide (TK.out.below b3)
    have d1:=hide K3.out.lw.c1
    have d2:=hide K3.out.lw.c2
    clear CS TK b3
    unfold stateOf
    go_wp2_with (first | (refine wl_over1 47 (.tmp 35) _ rfl rfl g1 k (.slice none 0 0) _ _ 75 rfl rfl d1.out (by show k < 4; omega) Tryz.sizeStrs rfl (v4_set _ hk4 _) ?_; intro W1 z1 y1) | (refine wl_over1 9 (.tmp 36) _ rfl rfl g2 k (.string ⟨#[]⟩) _ _ 76 rfl rfl ((y1.block _ hne.symm).trans d2.out) (by show k < 4; omega) Tryz.sizeStrT rfl (v4_set _ hk4 _) ?_; intro W2 z2 y2))
    refine ⟨⟨k+1,by omega,by go_num,_,(K3.out.clear hk4 y1 z1 y2 z2).congr ?_ ?_⟩,by simp [intOf]; omega⟩
    ·rw [← FT.out,NT.out]
    ·rw [← FO.out,NO.out]
   | some S =>
    rw [hS] at hsa hpk htk LW
    rw [hsa] at CS
    have NT:Hid (nextT M T k=T k++S.told):=hide (by unfold nextT; rw [hS])
    have NO:Hid (nextO M a s O k=O k++outAt a s k):=hide (by unfold nextO; rw [hS])
    have HTO1:Hid (toldOf (seatAt M (k:Int))=S.told):=hide (by rw [hsa]; rfl)
    have HPG1:Hid (pageOf (seatAt M (k:Int))=S.pg):=hide (by rw [hsa]; rfl)
    have htk2:S.told.length≤1000:=htk
    have hpw:S.pg.wait.length≤1000:=hpk.1
    have hpr:S.pg.ring.size≤1000:=hpk.2
    have hst0:((stateOf (some S)).1==0)=false:=by
     show ((if plays S=true then ((2:Int),S.being) else (1,-1)).1==0)=false
     by_cases hp:plays S=true
     ·rw [if_pos hp]; rfl
     ·rw [if_neg hp]; rfl
    clear hsa hS htk hpk HLAW
    generalize stateOf (some S)=st at *
    go_upto_region 5 with (go_at_call 16; refine CS.out.mono ?_; rintro e w3 ⟨rfl,b3⟩)
    have K3:=hide (TK.out.below b3)
    clear CS TK b3
    generalize hTn:T k++S.told=Tn at *
    have HLN:Hid ((T1 k).length+S.told.length≤1000000):=hide (by rw [ET.out]; omega)
    have HTN:Hid (T1 k++S.told=Tn):=hide (by rw [ET.out]; exact hTn)
    have hTnl:Tn.length≤300000:=by rw [← hTn,List.length_append]; omega
    clear hTn
    go_upto_region 7 with fail
    go_cut [] from 23 to 128 (fun wc=>∃ z,Tc W0 lab hb M a c s ba br g1 g2 (fun j=>if j=k then T1 k++S.told else T1 j) O1 (fun j=>if j=k then z else u j) wc)
    case first =>
     have TK:=hide K3.out
     have CT:Hid (∀ V,Tc W0 lab hb M a c s ba br g1 g2 T1 O1 u V→Calls Tryz.prog 20 #[.pointer (some ⟨hb,0,none⟩),.int .i64 (k:Int)] V fun e w'=>∃ v,e=.returned v∧w'.ownsRow V.heap.size 9 1 v S.told.length (scells S.told)∧Below V.heap.size V w'):=hide (fun V hV=>by
      have:=told_any hV.ho (k:Int) (by rw [HTO1.out]; omega)
      rw [HTO1.out] at this; exact this)
     clear K3
     refine wp_region_held (S:=fun _=>True) (by kernel_rfl) ?_
     have K1:=TK.out.drewN 1
     change Tc _ _ _ _ _ _ _ _ _ _ _ _ _ _ w3.drew at K1
     change wpAnyH _ _ _ _ _ _ _ _ w3.drew
     generalize w3.drew=W4 at *
     have HR:True:=trivial
     refine tw (i:=0) (d:=some 37) (fuel:=9) (v:=?_) rfl rfl ?_ HR ?_
     rotate_left
     ·intro W hW
      go_simp
      try with_reducible rfl
     simp only [Act.put,sT,List.set]
     refine tw (i:=1) (d:=some 38) (fuel:=8) (v:=?_) rfl rfl ?_ HR ?_
     rotate_left
     ·intro W hW
      go_simp
      try with_reducible rfl
     simp only [Act.put,sT,List.set]
     refine tw (i:=2) (d:=some 39) (fuel:=7) (v:=?_) rfl rfl ?_ HR ?_
     rotate_left
     ·intro W hW
      go_simp
      try with_reducible rfl
     simp only [Act.put,sT,List.set]
     refine tw (i:=4) (d:=some 41) (fuel:=6) (v:=?_) rfl rfl ?_ HR ?_
     rotate_left
     ·intro W hW
      go_simp
      try with_reducible rfl
     simp only [Act.put,sT,List.set]
     refine tw (i:=5) (d:=some 42) (fuel:=5) (v:=?_) rfl rfl ?_ HR ?_
     rotate_left
     ·intro W hW
      go_simp
      try with_reducible rfl
     simp only [Act.put,sT,List.set]
     refine wpAnyH_all (fuel:=4) (rs:=[3,6]) (by kernel_rfl) (by simp) ?_
     intro i hi
     have hi2:i=3∨i=6:=by simpa using hi
     clear hi
     rcases hi2 with rfl | rfl
     ·refine run_at (d:=some 40) rfl rfl (by rfl) (exec_told (.tmp 39) rfl rfl hk4 K1.lw.c1) ?_
      refine ⟨trivial,?_⟩
      simp only [Act.put,sT,List.set]
      refine wpAnyH_all (fuel:=3) (rs:=[6]) (by kernel_rfl) (by simp) ?_
      intro i hi
      obtain rfl:i=6:=by simpa using hi
      clear hi
      refine call_at (d:=some 43) rfl rfl (by rfl) 20 #[.pointer (some ⟨hb,0,none⟩),.int .i64 (k:Int)] (by kernel_rfl) ?_
      refine (CT.out W4 K1).mono ?_
      rintro e y1 ⟨x,rfl,o1,b1⟩
      have K2:=K1.below b1
      refine ⟨_,rfl,trivial,?_⟩
      simp only [Act.put,sT,List.set]
      obtain ⟨z,y2,hr,o2,hg2,hx2⟩:=exec_appendT (w:=y1) 47 (base:=W0.heap.size) (K2.lw.own k hk4) o1 HLN.out K2.ho.low.size
      refine wpAnyH_all (fuel:=2) (rs:=[7]) (by kernel_rfl) (by simp) ?_
      intro i hi
      obtain rfl:i=7:=by simpa using hi
      clear hi
      refine run_at (d:=some 44) rfl rfl (by rfl) (hr _ _ (.tmp 40) (.tmp 43) rfl rfl rfl rfl) ?_
      have C2:y2.heap[g1]?=some (.cells (v4 u) 75 (0,0)):=(hg2.block g1 K2.lw.lt1 (fun e=>(K2.neR hk4 e.symm).2.2.1 rfl)).trans K2.lw.c1
      refine ⟨trivial,?_⟩
      simp only [Act.put,sT,List.set]
      refine tw (i:=8) (d:=some 45) (fuel:=1) (v:=?_) rfl rfl ?_ trivial ?_
      rotate_left
      ·intro W hW
       go_simp
       try with_reducible rfl
      simp only [Act.put,sT,List.set]
      refine wpAnyH_all (fuel:=0) (rs:=[9]) (by kernel_rfl) (by simp) ?_
      intro i hi
      obtain rfl:i=9:=by simpa using hi
      clear hi
      refine skip_at (d:=none) rfl rfl (by rfl) (exec_set1 47 (.tmp 45) (.tmp 44) rfl (g:=g1) (k:=k) (u:=z) rfl rfl C2 (by show k < 4; omega) Tryz.sizeStrs (own_one o2)) ?_
      have g3:=over_heap g1 75 [z] y2 _ k C2
      rw [show over (v4 u) k [z]=v4 (fun j=>if j=k then z else u j) from v4_set u hk4 z] at g3
      have u3:=over_upd g1 [z] y2 k
      generalize y2.setCells g1 k [z]=W3 at *
      refine ⟨trivial,?_⟩
      simp only [Act.put]
      have KF:=hide (K2.app hk4 hg2 o2 hx2 u3 g3)
      clear o1 b1 o2 hg2 hx2 u3 g3 C2 hr K1 K2
      refine wpAnyH_done (by kernel_rfl) ?_ _
      go_wp2_with fail
      go_meet
      exact ⟨z,KF.out⟩
     ·refine call_at (d:=some 43) rfl rfl (by rfl) 20 #[.pointer (some ⟨hb,0,none⟩),.int .i64 (k:Int)] (by kernel_rfl) ?_
      refine (CT.out W4 K1).mono ?_
      rintro e y1 ⟨x,rfl,o1,b1⟩
      have K2:=K1.below b1
      refine ⟨_,rfl,trivial,?_⟩
      simp only [Act.put,sT,List.set]
      refine wpAnyH_all (fuel:=3) (rs:=[3]) (by kernel_rfl) (by simp) ?_
      intro i hi
      obtain rfl:i=3:=by simpa using hi
      clear hi
      refine run_at (d:=some 40) rfl rfl (by rfl) (exec_told (.tmp 39) rfl rfl hk4 K2.lw.c1) ?_
      refine ⟨trivial,?_⟩
      simp only [Act.put,sT,List.set]
      obtain ⟨z,y2,hr,o2,hg2,hx2⟩:=exec_appendT (w:=y1) 47 (base:=W0.heap.size) (K2.lw.own k hk4) o1 HLN.out K2.ho.low.size
      refine wpAnyH_all (fuel:=2) (rs:=[7]) (by kernel_rfl) (by simp) ?_
      intro i hi
      obtain rfl:i=7:=by simpa using hi
      clear hi
      refine run_at (d:=some 44) rfl rfl (by rfl) (hr _ _ (.tmp 40) (.tmp 43) rfl rfl rfl rfl) ?_
      have C2:y2.heap[g1]?=some (.cells (v4 u) 75 (0,0)):=(hg2.block g1 K2.lw.lt1 (fun e=>(K2.neR hk4 e.symm).2.2.1 rfl)).trans K2.lw.c1
      refine ⟨trivial,?_⟩
      simp only [Act.put,sT,List.set]
      refine tw (i:=8) (d:=some 45) (fuel:=1) (v:=?_) rfl rfl ?_ trivial ?_
      rotate_left
      ·intro W hW
       go_simp
       try with_reducible rfl
      simp only [Act.put,sT,List.set]
      refine wpAnyH_all (fuel:=0) (rs:=[9]) (by kernel_rfl) (by simp) ?_
      intro i hi
      obtain rfl:i=9:=by simpa using hi
      clear hi
      refine skip_at (d:=none) rfl rfl (by rfl) (exec_set1 47 (.tmp 45) (.tmp 44) rfl (g:=g1) (k:=k) (u:=z) rfl rfl C2 (by show k < 4; omega) Tryz.sizeStrs (own_one o2)) ?_
      have g3:=over_heap g1 75 [z] y2 _ k C2
      rw [show over (v4 u) k [z]=v4 (fun j=>if j=k then z else u j) from v4_set u hk4 z] at g3
      have u3:=over_upd g1 [z] y2 k
      generalize y2.setCells g1 k [z]=W3 at *
      refine ⟨trivial,?_⟩
      simp only [Act.put]
      have KF:=hide (K2.app hk4 hg2 o2 hx2 u3 g3)
      clear o1 b1 o2 hg2 hx2 u3 g3 C2 hr K1 K2
      refine wpAnyH_done (by kernel_rfl) ?_ _
      go_wp2_with fail
      go_meet
      exact ⟨z,KF.out⟩
    case rest =>
     obtain ⟨z,K4⟩:=hcut
     have eTF:(fun j=>if j=k then T1 k++S.told else T1 j)=fun j=>if j < k+1 then nextT M T j else T j:=by rw [HTN.out,← NT.out]; exact FT.out
     rw [eTF] at K4
     obtain ⟨TF,hTF⟩:∃ TF,TF=fun j=>if j < k+1 then nextT M T j else T j:=⟨_,rfl⟩
     obtain ⟨OF,hOF⟩:∃ OF,OF=fun j=>if j < k+1 then nextO M a s O j else O j:=⟨_,rfl⟩
     rw [← hTF] at K4 eTF
     obtain ⟨u3,hu3⟩:∃ u3,u3=fun j=>if j=k then z else u j:=⟨_,rfl⟩
     rw [← hu3] at K4
     have HU3a:Hid (u3 k=z):=hide (by rw [hu3]; exact if_pos rfl)
     have HTFk:Hid (TF k=Tn):=hide (by rw [hTF,← NT.out]; exact if_pos (by omega))
     have HOO:Hid (OF k=nextO M a s O k):=hide (by rw [hOF]; exact if_pos (by omega))
     have HTF:=hide hTF
     have HOF:=hide hOF
     rw [← hOF] at FO
     have OW:=K4.lw.own k hk4
     rw [HTFk.out,HU3a.out] at OW
     obtain ⟨av3,cap3,rfl⟩:=own_shape OW
     have HU3b:=hide HU3a.out
     have K44:=hide K4
     obtain ⟨_,cO,ca0,ca1,cS,_⟩:=K4.cells hk4
     rw [EO.out] at cO
     have CO:=hide cO
     have CSs:=hide cS
     clear eTF hTF hOF hu3 OW HU3a K4 K3 cO cS FT HLN
     generalize wc=wx at *
     clear wc
     go_upto_region 8 with fail
     go_cut [54] from 23 to 128 (fun x wc=>(∃ d:Bool,x=.bool d∧(d=true→a.kind=3∧a.seat=(k:Int))∧(d=false→¬ (a.kind=3∧a.seat=(k:Int))))∧wc=wx)
     case first =>
      by_cases q1:a.kind=3
      ·by_cases q2:a.seat=(k:Int)
       ·have Q:=hide (And.intro q1 q2)
        rw [q1] at ca0
        rw [q2] at ca1
        clear q1 q2
        go_wp2_with fail
        go_meet
        exact ⟨⟨true,rfl,fun _=>Q.out,fun h=>by cases h⟩,rfl⟩
       ·have Q:=hide q2
        have q2b:(a.seat==(k:Int))=false:=by simp [q2]
        rw [q1] at ca0
        clear q1 q2
        go_wp2_with fail
        go_meet
        exact ⟨⟨false,rfl,fun h=>(by cases h),fun _ h=>Q.out h.2⟩,rfl⟩
      ·have Q:=hide q1
       have q1b:(a.kind==3)=false:=by simp [q1]
       clear q1 ca1
       go_wp2_with fail
       go_meet
       exact ⟨⟨false,rfl,fun h=>(by cases h),fun _ h=>Q.out h.1⟩,rfl⟩
     case rest =>
      obtain ⟨⟨d,rfl,hd1,hd2⟩,hwc⟩:=hcut
      subst hwc
      clear ca0 ca1
      have HD1:=hide hd1
      have HD2:=hide hd2
      clear hd1 hd2
      go_upto_if 54 with fail
      go_cut [] from 23 to 128 (fun wc=>Tc W0 lab hb M a c s ba br g1 g2 TF OF u3 wc)
      case first =>
       cases d with
       | false =>
        have e:O1=OF:=by
         rw [← FO.out,NO.out]
         funext j
         by_cases ej:j=k
         ·rw [if_pos ej,ej,EO.out]
          unfold outAt
          rw [if_neg (HD2.out rfl)]
          exact ByteArray.append_empty.symm
         ·rw [if_neg ej]
        have KG:=hide (K44.out.congr rfl e)
        clear e
        go_wp2_with fail
        go_meet
        exact KG.out
       | true =>
        have es:outAt a s k=s:=by unfold outAt; rw [if_pos (HD1.out rfl)]
        rw [es] at hok NO
        have e:(fun j=>if j=k then O k++s else O1 j)=OF:=by rw [← FO.out,NO.out]
        have HE:=hide e
        have hjoin:¬ 9223372036854775807 < (O k).size+s.size:=by omega
        clear es e
        go_wp2_with fail
        refine wp_region_held (S:=fun V=>V.heap[br]?=some (.cells #[.int .i64 c,.string s] 29 (0,0))) (by kernel_rfl) ?_
        have K1:=K44.out.drewN 1
        have C1:wc.drew.cell? ⟨g2,k,none⟩=some (.string (O k)):=CO.out
        change Tc _ _ _ _ _ _ _ _ _ _ _ _ _ _ wc.drew at K1
        change wpAnyH _ _ _ _ _ _ _ _ wc.drew
        generalize wc.drew=W4 at *
        have HR:=K1.cr
        refine tw (i:=0) (d:=some 55) (fuel:=7) (v:=?_) rfl rfl ?_ HR ?_
        rotate_left
        ·intro W hW
         go_simp
         try with_reducible rfl
        simp only [Act.put,sT,List.set]
        refine tw (i:=1) (d:=some 56) (fuel:=6) (v:=?_) rfl rfl ?_ HR ?_
        rotate_left
        ·intro W hW
         go_simp
         try with_reducible rfl
        simp only [Act.put,sT,List.set]
        refine tw (i:=3) (d:=some 58) (fuel:=5) (v:=?_) rfl rfl ?_ HR ?_
        rotate_left
        ·intro W hW
         go_simp
         try with_reducible rfl
        simp only [Act.put,sT,List.set]
        refine tk (i:=4) (d:=some 59) (fuel:=4) (v:=.string s) rfl rfl (Or.inl ⟨by rfl,fun W hW=>exec_rs (.tmp 58) rfl rfl hW⟩) HR ?_
        simp only [Act.put,sT,List.set]
        refine wpAnyH_all (fuel:=3) (rs:=[2]) (by kernel_rfl) (by simp) ?_
        intro i hi
        obtain rfl:i=2:=by simpa using hi
        clear hi
        refine run_at (d:=some 57) rfl rfl (by rfl) (exec_str (.tmp 56) rfl rfl C1) ?_
        refine ⟨HR,?_⟩
        simp only [Act.put,sT,List.set]
        refine tw (i:=5) (d:=some 60) (fuel:=2) (v:=?_) rfl rfl ?_ HR ?_
        rotate_left
        ·intro W hW
         go_simp
         try with_reducible rfl
        simp only [Act.put,sT,List.set]
        refine tw (i:=6) (d:=some 61) (fuel:=1) (v:=?_) rfl rfl ?_ HR ?_
        rotate_left
        ·intro W hW
         go_simp
         try with_reducible rfl
        simp only [Act.put,sT,List.set]
        refine wpAnyH_all (fuel:=0) (rs:=[7]) (by kernel_rfl) (by simp) ?_
        intro i hi
        obtain rfl:i=7:=by simpa using hi
        clear hi
        refine skip_at (d:=none) rfl rfl (by rfl) (exec_set1 9 (.tmp 61) (.tmp 60) rfl (g:=g2) (k:=k) (u:=.string (O k++s)) rfl rfl K1.lw.c2 (by show k < 4; omega) Tryz.sizeStrT rfl) ?_
        have z3:=over_heap g2 76 [.string (O k++s)] W4 _ k K1.lw.c2
        rw [show over (v4 fun i=>.string (O1 i)) k [.string (O k++s)]=v4 (fun j=>if j=k then .string (O k++s) else .string (O1 j)) from v4_set _ hk4 _] at z3
        have y3:=over_upd g2 [.string (O k++s)] W4 k
        generalize W4.setCells g2 k [.string (O k++s)]=W3 at *
        have KF:=(K1.out hk4 y3 z3).congr rfl HE.out
        refine ⟨KF.cr,?_⟩
        simp only [Act.put]
        have KG:=hide KF
        clear z3 y3 K1 KF
        refine wpAnyH_done (by kernel_rfl) ?_ _
        go_wp2_with fail
        go_meet
        exact KG.out
      case rest =>
       have K5:=hide hcut
       clear hcut K44 CO CSs HD1 HD2 FO EO
       generalize wc=wv at *
       clear wc
       have LP:=LW.out
       rw [NT.out] at LP
       obtain ⟨ls,eT,hg,hf⟩:=LP
       obtain ⟨ts,et,em,ev⟩:=hg.text
       have hOn:(nextO M a s O k).size≤300000:=by rw [NO.out,ByteArray.size_append]; omega
       have ed:(nextO M a s O k).data.toList++S.pg.ring.data.toList=(nextO M a s O k++S.pg.ring).data.toList:=(data_app _ _).symm
       rw [ed] at et
       have htx:(endL ts).length≤400000:=by
        have:=(Te.feed_len Te.zt (nextO M a s O k++S.pg.ring).data.toList).1
        rw [et,len_size,ByteArray.size_append] at this
        omega
       have htn:=end_len ts
       have PGC:=page_any K5.out.ho (k:Int) (by rw [HPG1.out]; omega)
       rw [HPG1.out] at PGC
       have CF0:∀ V,Calls Tryz.prog 39 #[Te.zt.val,.string (nextO M a s O k++S.pg.ring)] V fun e w'=>e=.returned (.tuple #[(Te.feedL Te.zt (nextO M a s O k++S.pg.ring).data.toList).1.val,.string (bs (endL ts)),.string ⟨(Te.feedL Te.zt (nextO M a s O k++S.pg.ring).data.toList).2.2.toArray⟩,.int .i64 0])∧Below V.heap.size V w':=fun V=>by
        have:=Te.feed_good Te.zt (nextO M a s O k++S.pg.ring) V fine_zt (by rw [ByteArray.size_append]; omega)
        rw [et] at this; exact this
       obtain ⟨OO,hOO⟩:∃ OO,OO=nextO M a s O k:=⟨_,rfl⟩
       rw [← hOO] at CF0 HOO hOn
       obtain ⟨PP,hPP⟩:∃ PP,PP=S.pg:=⟨_,rfl⟩
       rw [← hPP] at CF0 PGC eT hpw hpr
       obtain ⟨TT,hTT⟩:∃ TT,TT=(Te.feedL Te.zt (OO++PP.ring).data.toList).1:=⟨_,rfl⟩
       rw [← hTT] at CF0
       obtain ⟨AA,hAA⟩:∃ AA:ByteArray,AA=⟨(Te.feedL Te.zt (OO++PP.ring).data.toList).2.2.toArray⟩:=⟨_,rfl⟩
       rw [← hAA] at CF0
       have CF:=hide CF0
       have EM:=hide em
       have EV:=hide ev
       have CPG:=hide PGC
       have hjn:¬ 9223372036854775807 < OO.size+PP.ring.size:=by omega
       have hlT:Tn.length=ls.length+PP.wait.length:=by rw [eT,List.length_append]
       have EQT:=hide eT
       have HLT:=hide hlT
       rw [hlT] at HU3b hTnl
       clear CF0 em ev PGC hOO hPP hTT hAA et ed hg hf LW NT NO HTN HPG1 HTO1 hlT eT hok hO0 hT0 htk2
       go_wp2_with fail
       refine CPG.out.mono ?_
       rintro e w6 ⟨vp,rfl,o6,b6⟩
       obtain ⟨avp,capp,rfl⟩:=own_shape o6
       have A6:=hide (heap_alloc_new w6 (.cells (Pa.zp.cells (.slice none 0 0)) 51))
       have O6:=hide o6
       have K6:=hide (K5.out.below b6)
       clear CPG K5 o6 b6
       go_upto_region 11 with (refine wl_over 51 (.tmp 12) (.tmp 64) rfl rfl w6.heap.size 0 (PP.cells (.slice avp PP.wait.length capp)) _ _ 51 rfl rfl A6.out (by show 0+5≤5; omega) Tryz.sizePage (one_pg rfl) (over_whole rfl) ?_; intro Y1 z1 y1)
       simp only [Act.put]
       have BY:Below w6.heap.size w6 Y1:=Upd.below (below_box w6 _) y1 (Nat.le_refl _)
       have K7:=hide (K6.out.below BY)
       have R7:=hide (reads_own (own_same O6.out fun g hg=>BY.block g (own_lt O6.out g hg).2))
       have CP:=hide z1
       have OW:=K7.out.lw.own k hk4
       rw [HTFk.out,HU3b.out] at OW
       have hlq:=HLT.out
       have OW0:Y1.ownsRow W0.heap.size 9 1 (.slice av3 (ls.length+PP.wait.length) cap3) Tn.length (scells Tn):=OW
       have RQ:Reads Y1 (.slice av3 (ls.length+PP.wait.length) cap3) (ls++PP.wait):=by
        have:=reads_own OW0
        rw [EQT.out] at this; exact this
       have RD:=hide RQ
       obtain ⟨cT,_⟩:=K7.out.cells hk4
       rw [HU3b.out] at cT
       have cW:Y1.cell? ⟨w6.heap.size,0,none⟩=some (.slice avp PP.wait.length capp):=by rw [cell_of_row _ _ _ _ _ _ z1]; rfl
       clear A6 O6 K6 BY z1 y1 OW OW0 RQ hlq
       generalize w6.heap.size=pb at *
       have hlw:ls.length+PP.wait.length≤300000:=hTnl
       go_cut [13] from 23 to 128 (fun x wc=>x=.int .i64 (ls.length:Int)∧Below Y1.heap.size Y1 wc)
       case first =>
        go_quiet (fail)
        go_wp2_with fail
        go_meet
        refine ⟨?_,below_drewN (Below.refl _ _) _⟩
        go_num
       case rest =>
        obtain ⟨rfl,B8⟩:=hcut
        have K8:=K7.out.below B8
        have hlt8:pb < Y1.heap.size:=(Array.getElem?_eq_some_iff.1 CP.out).1
        have CP8:=hide ((B8.block _ hlt8).trans CP.out)
        have RD8:=hide (RD.out.below B8 (Nat.le_refl _))
        have R8:=hide (R7.out.below B8 (Nat.le_refl _))
        have K5:=hide K8
        clear K7 CP RD R7 B8 K8 cT cW hlt8
        generalize wc=wy at *
        clear wc
        go_upto_region 12 with fail
        go_cut [14,15,16,17] from 23 to 128 (fun p x y e wc=>(∃ q,p=q)∧x=.string (bs (endL ts))∧(∃ z,y=z)∧e=.int .i64 0∧Below wy.heap.size wy wc)
        case first =>
         have CP:=hide CP8.out
         obtain ⟨vp,hvp⟩:∃ vp,vp=Value.slice avp PP.wait.length capp:=⟨_,rfl⟩
         rw [← hvp] at CP
         have O3e:=hide HOO.out
         generalize OF=O3 at *
         have HRK:Hid (∀ V,(V.heap[g2]?=some (.cells (v4 fun i=>.string (O3 i)) 76 (0,0))∧V.heap[pb]?=some (.cells (PP.cells vp) 51 (0,0)))→∀ V',Below V.heap.size V V'→V'.heap[g2]?=some (.cells (v4 fun i=>.string (O3 i)) 76 (0,0))∧V'.heap[pb]?=some (.cells (PP.cells vp) 51 (0,0))):=hide (fun V hV V' hB=>⟨(hB.block _ (Array.getElem?_eq_some_iff.1 hV.1).1).trans hV.1,(hB.block _ (Array.getElem?_eq_some_iff.1 hV.2).1).trans hV.2⟩)
         refine wp_region_held (S:=fun V=>V.heap[g2]?=some (.cells (v4 fun i=>.string (O3 i)) 76 (0,0))∧V.heap[pb]?=some (.cells (PP.cells vp) 51 (0,0))) (by kernel_rfl) ?_
         have HR:wy.drew.heap[g2]?=some (.cells (v4 fun i=>.string (O3 i)) 76 (0,0))∧wy.drew.heap[pb]?=some (.cells (PP.cells vp) 51 (0,0)):=⟨K5.out.lw.c2,CP.out⟩
         have BW:=(Below.refl wy.heap.size wy).drew
         change wpAnyH _ _ _ _ _ _ _ _ wy.drew
         generalize wy.drew=W4 at *
         refine tk (i:=0) (d:=some 74) (fuel:=17) (v:=Te.zt.val) rfl rfl (Or.inl ⟨by rfl,fun W hW=>exec_zt rfl⟩) HR ?_
         simp only [Act.put,sT,List.set]
         refine tw (i:=1) (d:=some 75) (fuel:=16) (v:=?_) rfl rfl ?_ HR ?_
         rotate_left
         ·intro W hW
          go_simp
          try with_reducible rfl
         simp only [Act.put,sT,List.set]
         refine tw (i:=2) (d:=some 76) (fuel:=15) (v:=?_) rfl rfl ?_ HR ?_
         rotate_left
         ·intro W hW
          go_simp
          try with_reducible rfl
         simp only [Act.put,sT,List.set]
         refine tk (i:=3) (d:=some 77) (fuel:=14) (v:=.string OO) rfl rfl (Or.inl ⟨by rfl,fun W hW=>(exec_outs (.tmp 76) rfl rfl hk4 hW.1).trans (by rw [O3e.out])⟩) HR ?_
         simp only [Act.put,sT,List.set]
         refine tw (i:=4) (d:=some 78) (fuel:=13) (v:=?_) rfl rfl ?_ HR ?_
         rotate_left
         ·intro W hW
          go_simp
          try with_reducible rfl
         simp only [Act.put,sT,List.set]
         refine tk (i:=5) (d:=some 79) (fuel:=12) (v:=.string PP.ring) rfl rfl (Or.inl ⟨by rfl,fun W hW=>exec_ring (.tmp 78) rfl rfl hW.2⟩) HR ?_
         simp only [Act.put,sT,List.set]
         refine tw (i:=6) (d:=some 80) (fuel:=11) (v:=?_) rfl rfl ?_ HR ?_
         rotate_left
         ·intro W hW
          go_simp
          try with_reducible rfl
         simp only [Act.put,sT,List.set]
         refine wpAnyH_all (fuel:=10) (rs:=[7,13]) (by kernel_rfl) (by simp) ?_
         intro i hi
         have hi2:i=7∨i=13:=by simpa using hi
         clear hi
         rcases hi2 with rfl | rfl
         ·refine call_at (d:=some 81) rfl rfl (by rfl) 39 #[Te.zt.val,.string (OO++PP.ring)] (by kernel_rfl) ?_
          refine (CF.out W4).mono ?_
          rintro e x1 ⟨rfl,b1⟩
          have HR1:=HRK.out W4 HR x1 b1
          refine ⟨_,rfl,HR1,?_⟩
          simp only [Act.put,sT,List.set]
          refine tw (i:=8) (d:=some 73) (fuel:=9) (v:=?_) rfl rfl ?_ HR1 ?_
          rotate_left
          ·intro W hW
           go_simp
           try with_reducible rfl
          simp only [Act.put,sT,List.set]
          refine tw (i:=9) (d:=some 82) (fuel:=8) (v:=?_) rfl rfl ?_ HR1 ?_
          rotate_left
          ·intro W hW
           go_simp
           try with_reducible rfl
          simp only [Act.put,sT,List.set]
          refine tw (i:=10) (d:=some 83) (fuel:=7) (v:=?_) rfl rfl ?_ HR1 ?_
          rotate_left
          ·intro W hW
           go_simp
           try with_reducible rfl
          simp only [Act.put,sT,List.set]
          refine tw (i:=11) (d:=some 84) (fuel:=6) (v:=?_) rfl rfl ?_ HR1 ?_
          rotate_left
          ·intro W hW
           go_simp
           try with_reducible rfl
          simp only [Act.put,sT,List.set]
          refine tw (i:=12) (d:=some 85) (fuel:=5) (v:=?_) rfl rfl ?_ HR1 ?_
          rotate_left
          ·intro W hW
           go_simp
           try with_reducible rfl
          simp only [Act.put,sT,List.set]
          refine wpAnyH_all (fuel:=4) (rs:=[13]) (by kernel_rfl) (by simp) ?_
          intro i hi
          obtain rfl:i=13:=by simpa using hi
          clear hi
          refine run_at (d:=some 14) (v:=.pointer (some ⟨x1.heap.size,0,none⟩)) (w':=x1.alloc (.cells Te.zt.cells 79)) rfl rfl (by rfl) (exec_alloctel rfl) ?_
          have B2:=BW.trans (b1.mono BW.size)
          have B3:=B2.alloc B2.size (.cells Te.zt.cells 79)
          have HR2:=HRK.out x1 HR1 _ (below_box x1 (.cells Te.zt.cells 79))
          refine ⟨HR2,?_⟩
          simp only [Act.put,sT,List.set]
          refine wpAnyH_all (fuel:=3) (rs:=[14]) (by kernel_rfl) (by simp) ?_
          intro i hi
          obtain rfl:i=14:=by simpa using hi
          clear hi
          refine skip_at (d:=none) rfl rfl (by rfl) (exec_puttel (.tmp 14) (.tmp 82) rfl (g:=x1.heap.size) (t:=TT) rfl rfl (heap_alloc_new x1 _)) ?_
          have u3:=over_upd x1.heap.size TT.cells.toList (x1.alloc (.cells Te.zt.cells 79)) 0
          have B4:=Upd.below B3 u3 B2.size
          have HR3:_∧_:=⟨(u3.block _ (by have:=(Array.getElem?_eq_some_iff.1 HR1.1).1; omega)).trans HR2.1,(u3.block _ (by have:=(Array.getElem?_eq_some_iff.1 HR1.2).1; omega)).trans HR2.2⟩
          refine ⟨HR3,?_⟩
          simp only [Act.put]
          refine tw (i:=15) (d:=some 15) (fuel:=2) (v:=?_) rfl rfl ?_ HR3 ?_
          rotate_left
          ·intro W hW
           go_simp
           try with_reducible rfl
          simp only [Act.put,sT,List.set]
          refine tw (i:=16) (d:=some 16) (fuel:=1) (v:=?_) rfl rfl ?_ HR3 ?_
          rotate_left
          ·intro W hW
           go_simp
           try with_reducible rfl
          simp only [Act.put,sT,List.set]
          refine tw (i:=17) (d:=some 17) (fuel:=0) (v:=?_) rfl rfl ?_ HR3 ?_
          rotate_left
          ·intro W hW
           go_simp
           try with_reducible rfl
          simp only [Act.put,sT,List.set]
          refine wpAnyH_done (by kernel_rfl) ?_ _
          go_wp2_with fail
          go_meet
          exact ⟨⟨_,rfl⟩,rfl,⟨_,rfl⟩,rfl,B4⟩
         ·refine run_at (d:=some 14) (v:=.pointer (some ⟨W4.heap.size,0,none⟩)) (w':=W4.alloc (.cells Te.zt.cells 79)) rfl rfl (by rfl) (exec_alloctel rfl) ?_
          have B3:=BW.alloc BW.size (.cells Te.zt.cells 79)
          have HR2:=HRK.out W4 HR _ (below_box W4 (.cells Te.zt.cells 79))
          refine ⟨HR2,?_⟩
          simp only [Act.put,sT,List.set]
          refine wpAnyH_all (fuel:=9) (rs:=[7]) (by kernel_rfl) (by simp) ?_
          intro i hi
          obtain rfl:i=7:=by simpa using hi
          clear hi
          refine call_at (d:=some 81) rfl rfl (by rfl) 39 #[Te.zt.val,.string (OO++PP.ring)] (by kernel_rfl) ?_
          refine (CF.out (W4.alloc (.cells Te.zt.cells 79))).mono ?_
          rintro e x1 ⟨rfl,b1⟩
          have HR1:=HRK.out _ HR2 x1 b1
          refine ⟨_,rfl,HR1,?_⟩
          simp only [Act.put,sT,List.set]
          refine tw (i:=8) (d:=some 73) (fuel:=8) (v:=?_) rfl rfl ?_ HR1 ?_
          rotate_left
          ·intro W hW
           go_simp
           try with_reducible rfl
          simp only [Act.put,sT,List.set]
          refine tw (i:=9) (d:=some 82) (fuel:=7) (v:=?_) rfl rfl ?_ HR1 ?_
          rotate_left
          ·intro W hW
           go_simp
           try with_reducible rfl
          simp only [Act.put,sT,List.set]
          refine tw (i:=10) (d:=some 83) (fuel:=6) (v:=?_) rfl rfl ?_ HR1 ?_
          rotate_left
          ·intro W hW
           go_simp
           try with_reducible rfl
          simp only [Act.put,sT,List.set]
          refine tw (i:=11) (d:=some 84) (fuel:=5) (v:=?_) rfl rfl ?_ HR1 ?_
          rotate_left
          ·intro W hW
           go_simp
           try with_reducible rfl
          simp only [Act.put,sT,List.set]
          refine tw (i:=12) (d:=some 85) (fuel:=4) (v:=?_) rfl rfl ?_ HR1 ?_
          rotate_left
          ·intro W hW
           go_simp
           try with_reducible rfl
          simp only [Act.put,sT,List.set]
          refine wpAnyH_all (fuel:=3) (rs:=[14]) (by kernel_rfl) (by simp) ?_
          intro i hi
          obtain rfl:i=14:=by simpa using hi
          clear hi
          have hz0:x1.heap[W4.heap.size]?=some (.cells Te.zt.cells 79 (0,0)):=(b1.block _ (by simp)).trans (heap_alloc_new W4 _)
          refine skip_at (d:=none) rfl rfl (by rfl) (exec_puttel (.tmp 14) (.tmp 82) rfl (g:=W4.heap.size) (t:=TT) rfl rfl hz0) ?_
          have u3:=over_upd W4.heap.size TT.cells.toList x1 0
          have B2:=B3.trans (b1.mono B3.size)
          have B4:=Upd.below B2 u3 BW.size
          have HR3:_∧_:=⟨(u3.block _ (by have:=(Array.getElem?_eq_some_iff.1 HR.1).1; omega)).trans HR1.1,(u3.block _ (by have:=(Array.getElem?_eq_some_iff.1 HR.2).1; omega)).trans HR1.2⟩
          refine ⟨HR3,?_⟩
          simp only [Act.put]
          refine tw (i:=15) (d:=some 15) (fuel:=2) (v:=?_) rfl rfl ?_ HR3 ?_
          rotate_left
          ·intro W hW
           go_simp
           try with_reducible rfl
          simp only [Act.put,sT,List.set]
          refine tw (i:=16) (d:=some 16) (fuel:=1) (v:=?_) rfl rfl ?_ HR3 ?_
          rotate_left
          ·intro W hW
           go_simp
           try with_reducible rfl
          simp only [Act.put,sT,List.set]
          refine tw (i:=17) (d:=some 17) (fuel:=0) (v:=?_) rfl rfl ?_ HR3 ?_
          rotate_left
          ·intro W hW
           go_simp
           try with_reducible rfl
          simp only [Act.put,sT,List.set]
          refine wpAnyH_done (by kernel_rfl) ?_ _
          go_wp2_with fail
          go_meet
          exact ⟨⟨_,rfl⟩,rfl,⟨_,rfl⟩,rfl,B4⟩
        case rest =>
         obtain ⟨⟨p14,rfl⟩,rfl,⟨p16,rfl⟩,rfl,B9⟩:=hcut
         have K9:=K5.out.below B9
         have hlt9:pb < wy.heap.size:=(Array.getElem?_eq_some_iff.1 CP8.out).1
         have CP2:=hide ((B9.block _ hlt9).trans CP8.out)
         have RDS:=hide (And.intro (RD8.out.below B9 (Nat.le_refl _)) (R8.out.below B9 (Nat.le_refl _)))
         have K6:=hide K9
         clear K5 CP8 RD8 R8 B9 K9 hlt9 CF
         generalize wc=wz at *
         clear wc
         go_upto_region 13 with fail
         go_cut [102] from 23 to 128 (fun x wc=>x=.bool false∧Below wz.heap.size wz wc)
         case first =>
          obtain ⟨vp,hvp⟩:∃ vp,vp=Value.slice avp PP.wait.length capp:=⟨_,rfl⟩
          rw [← hvp] at CP2 RDS
          have HU3:=hide HU3b.out
          have hnn:¬ (ls.length:Int) < 0:=by omega
          refine wp_region_held (S:=fun V=>V.heap[g1]?=some (.cells (v4 u3) 75 (0,0))∧V.heap[pb]?=some (.cells (PP.cells vp) 51 (0,0))) (by kernel_rfl) ?_
          have K7:=K6.out.drewN 1
          have HR:wz.drew.heap[g1]?=some (.cells (v4 u3) 75 (0,0))∧wz.drew.heap[pb]?=some (.cells (PP.cells vp) 51 (0,0)):=⟨K7.lw.c1,CP2.out⟩
          have RD:Reads wz.drew (.slice av3 (ls.length+PP.wait.length) cap3) (ls++PP.wait)∧Reads wz.drew vp PP.wait:=RDS.out
          have BW:=(Below.refl wz.heap.size wz).drew
          change wpAnyH _ _ _ _ _ _ _ _ wz.drew
          generalize wz.drew=W4 at *
          clear K7
          refine tw (i:=0) (d:=some 86) (fuel:=16) (v:=?_) rfl rfl ?_ HR ?_
          rotate_left
          ·intro W hW
           go_simp
           try with_reducible rfl
          simp only [Act.put,sT,List.set]
          refine tw (i:=1) (d:=some 87) (fuel:=15) (v:=?_) rfl rfl ?_ HR ?_
          rotate_left
          ·intro W hW
           go_simp
           try with_reducible rfl
          simp only [Act.put,sT,List.set]
          refine tw (i:=2) (d:=some 88) (fuel:=14) (v:=?_) rfl rfl ?_ HR ?_
          rotate_left
          ·intro W hW
           go_simp
           try with_reducible rfl
          simp only [Act.put,sT,List.set]
          refine tw (i:=3) (d:=some 89) (fuel:=13) (v:=?_) rfl rfl ?_ HR ?_
          rotate_left
          ·intro W hW
           go_simp
           try with_reducible rfl
          simp only [Act.put,sT,List.set]
          refine tw (i:=4) (d:=some 90) (fuel:=12) (v:=?_) rfl rfl ?_ HR ?_
          rotate_left
          ·intro W hW
           go_simp
           try with_reducible rfl
          simp only [Act.put,sT,List.set]
          refine tw (i:=5) (d:=some 91) (fuel:=11) (v:=?_) rfl rfl ?_ HR ?_
          rotate_left
          ·intro W hW
           go_simp
           try with_reducible rfl
          simp only [Act.put,sT,List.set]
          refine tw (i:=6) (d:=some 92) (fuel:=10) (v:=?_) rfl rfl ?_ HR ?_
          rotate_left
          ·intro W hW
           go_simp
           try with_reducible rfl
          simp only [Act.put,sT,List.set]
          refine tw (i:=7) (d:=some 93) (fuel:=9) (v:=?_) rfl rfl ?_ HR ?_
          rotate_left
          ·intro W hW
           go_simp
           try with_reducible rfl
          simp only [Act.put,sT,List.set]
          refine tw (i:=8) (d:=some 94) (fuel:=8) (v:=?_) rfl rfl ?_ HR ?_
          rotate_left
          ·intro W hW
           go_simp
           try with_reducible rfl
          simp only [Act.put,sT,List.set]
          refine tk (i:=9) (d:=some 95) (fuel:=7) (v:=.slice av3 (ls.length+PP.wait.length) cap3) rfl rfl (Or.inl ⟨by rfl,fun W hW=>(exec_told (.tmp 94) rfl rfl hk4 hW.1).trans (by rw [HU3.out])⟩) HR ?_
          simp only [Act.put,sT,List.set]
          refine tw (i:=10) (d:=some 96) (fuel:=6) (v:=?_) rfl rfl ?_ HR ?_
          rotate_left
          ·intro W hW
           go_simp
           try with_reducible rfl
          simp only [Act.put,sT,List.set]
          refine tk (i:=11) (d:=some 97) (fuel:=5) (v:=.slice (fromA av3 ls.length cap3) PP.wait.length (cap3 - ls.length)) rfl rfl (Or.inl ⟨by rfl,fun W hW=>(exec_fromS (.tmp 95) (.tmp 96) rfl rfl rfl (Nat.le_add_right _ _)).trans (by rw [Nat.add_sub_cancel_left])⟩) HR ?_
          simp only [Act.put,sT,List.set]
          refine tw (i:=12) (d:=some 98) (fuel:=4) (v:=?_) rfl rfl ?_ HR ?_
          rotate_left
          ·intro W hW
           go_simp
           try with_reducible rfl
          simp only [Act.put,sT,List.set]
          refine tk (i:=13) (d:=some 99) (fuel:=3) (v:=vp) rfl rfl (Or.inl ⟨by rfl,fun W hW=>exec_wait (.tmp 98) rfl rfl hW.2⟩) HR ?_
          simp only [Act.put,sT,List.set]
          refine wpAnyH_all (fuel:=2) (rs:=[14]) (by kernel_rfl) (by simp) ?_
          intro i hi
          obtain rfl:i=14:=by simpa using hi
          clear hi
          refine call_at (d:=some 100) rfl rfl (by rfl) 37 #[.slice (fromA av3 ls.length cap3) PP.wait.length (cap3 - ls.length),vp] (by kernel_rfl) ?_
          refine (sametexts_any PP.wait PP.wait _ _ W4 (reads_from RD.1) RD.2).mono ?_
          rintro e x1 ⟨rfl,nn,rfl⟩
          rw [decide_eq_true (rfl:PP.wait=PP.wait)]
          refine ⟨_,rfl,HR,?_⟩
          simp only [Act.put,sT,List.set]
          refine tw (i:=15) (d:=some 101) (fuel:=1) (v:=?_) rfl rfl ?_ HR ?_
          rotate_left
          ·intro W hW
           go_simp
           try with_reducible rfl
          simp only [Act.put,sT,List.set]
          refine tw (i:=16) (d:=some 102) (fuel:=0) (v:=?_) rfl rfl ?_ HR ?_
          rotate_left
          ·intro W hW
           go_simp
           try with_reducible rfl
          simp only [Act.put,sT,List.set]
          refine wpAnyH_done (by kernel_rfl) ?_ _
          go_wp2_with fail
          go_meet
          exact ⟨rfl,below_drewN BW nn⟩
         case rest =>
          obtain ⟨rfl,B10⟩:=hcut
          have KA:=hide (K6.out.below B10)
          have RT:=hide (RDS.out.1.below B10 (Nat.le_refl _))
          clear K6 RDS CP2 B10
          generalize wc=wa at *
          clear wc
          go_upto_region 16 with fail
          generalize wr=wk at *
          clear wr
          go_loopw [15,18] (fun x vl wr=>∃ n:Nat,n≤ts.length∧x=.string (bs (endL (ts.drop n)))∧Below wa.heap.size wa wr∧wr.ownsRow wa.heap.size 9 1 vl (noMore (ts.take n)).length (scells (noMore (ts.take n)))) (fun x _ _=>strLen x)
          case atStart=>exact ⟨0,Nat.zero_le _,rfl,Below.refl _ _,World.ownsRow_nil _ _ _ _⟩
          case round =>
           obtain ⟨n,hn,rfl,Bn,On⟩:=hrel
           obtain ⟨avn,capn,rfl⟩:=own_shape On
           by_cases hlt:n < ts.length
           ·obtain ⟨q,hq⟩:∃ q,ts[n]?=some q:=⟨_,List.getElem?_eq_getElem hlt⟩
            have hdr:=end_drop hq
            have NX:=hide (nomore_next ts hq)
            have hle:=end_le ts n
            have hgl:=nomore_len (ts.take n)
            rw [List.length_take] at hgl
            have CC:=hide (ct_line (ts:=ts.drop (n+1)) HCT.out (KA.out.ho.low.trans (Bn.mono KA.out.ho.low.size)) (EV.out q (List.mem_of_getElem? hq)) (by rw [← hdr]; omega))
            have hne1:(bs (endL (q::ts.drop (n+1)))).toList.isEmpty=false:=str_some end_ne_nil
            have hdec:strLen (.string (bs (endL (ts.drop (n+1))))) < strLen (.string (bs (endL (q::ts.drop (n+1))))):=by
             show (bs _).size < (bs _).size
             rw [bsz,bsz,end_cons]
             simp only [List.length_append,List.length_cons]
             omega
            have HDEC:=hide hdec
            rw [hdr]
            have ON:=hide On
            have BN:=hide Bn
            have hsn:=Bn.size
            clear hq hdr hle hdec On Bn
            generalize hrs:ts.drop (n+1)=rs at *
            have HRS:=hide hrs
            clear hrs
            generalize noMore (ts.take n)=A at *
            generalize bs (endL (q::rs))=tx at *
            go_wp2_with fail
            refine CC.out.mono ?_
            rintro e w5 ⟨rfl,nn,hw5⟩
            have B5:Hid (Below wa.heap.size wa w5):=hide (by rw [hw5]; exact below_drewN BN.out nn)
            have O5:Hid (w5.ownsRow wa.heap.size 9 1 (.slice avn A.length capn) A.length (scells A)):=hide (by rw [hw5]; exact ON.out)
            have hs5:=B5.out.size
            clear CC hw5 BN ON hne1
            by_cases hm:q=moreT
            ·rw [if_pos hm] at NX
             subst hm
             unfold moreT
             go_wp2
             exact ⟨⟨n+1,by omega,by rw [HRS.out],B5.out,by rw [NX.out,List.append_nil]; exact O5.out⟩,HDEC.out⟩
            ·rw [if_neg hm] at NX
             have em1:=str_ne hm
             unfold moreT at em1
             simp at em1
             have em2:(q.toList==[45,45,32,109,111,114,101,32,45,45])=false:=by rw [beq_eq_false_iff_ne]; exact em1
             clear hm em1
             go_wp2_with (at_builtin; refine wpList_append_own_at _ rfl (.tmp 116) (.tmp 118) 47 rfl wa.heap.size 9 i0 (.string ⟨#[]⟩) 1 16 Tryz.underlying47 hi0 hz0 hz1 hz2 rfl (by decide) _ A.length (scells A) rfl (O5.out.alloc _) ⟨w5.heap.size,0,none⟩ 1 1 (scells [q]) rfl ?c1 ?c2 (scells_one _) ?c3 ?c4 ?c5 ?_)
             case c1=>rfl
             case c2 =>
              intro j y hj
              cases j with
              | zero=>simp [scells] at hj; subst hj; first | rfl | exact cell_new (by simp) _ _
              | succ j=>simp [scells] at hj
             case c3=>unfold maxLen; omega
             case c4=>omega
             case c5=>first | omega | (simp; omega)
             intro v' w' ho hg' _ _
             have ho':w'.ownsRow wa.heap.size 9 1 v' (A++[q]).length (scells (A++[q])):=by rw [scells_append,List.length_append]; exact ho
             have hb':Below wa.heap.size wa w':=(B5.out.alloc hs5 _).grown hg' (by simp; omega) (fun k e=>(own_lt O5.out k e).1)
             replace ho':=hide ho'
             replace hb':=hide hb'
             clear ho hg'
             go_wp2
             exact ⟨⟨n+1,by omega,by rw [HRS.out],hb'.out,by rw [NX.out]; exact ho'.out⟩,HDEC.out⟩
           ·obtain rfl:n=ts.length:=by omega
            have e0:bs (endL (ts.drop ts.length))=⟨#[]⟩:=by rw [List.drop_length]; rfl
            rw [e0]
            rw [List.take_length,EM.out] at On
            rw [List.take_length,EM.out]
            have KB:=hide (KA.out.below Bn)
            have RL:=hide (reads_own On)
            have RU:=hide (reads_upto (RT.out.below Bn (Nat.le_refl _)))
            obtain ⟨cT,_⟩:=KB.out.cells hk4
            rw [HU3b.out] at cT
            have hcap:=RU.out.2
            clear e0 On Bn KA RT EM EV
            go_wp2_with (refine wl_uptoS (.tmp 123) (.tmp 124) rfl rfl rfl rfl hcap ?_)
            refine (sametexts_any ls ls _ _ wr RL.out RU.out.1).mono ?_
            rintro e w9 ⟨rfl,nn,rfl⟩
            rw [decide_eq_true (rfl:ls=ls)]
            have KC:=hide ((KB.out.drewN nn).congr HTF.out HOF.out)
            clear KB RL RU cT
            go_wp2
            exact ⟨⟨k+1,by omega,by go_num,u3,KC.out⟩,by simp [intOf]; omega⟩
  ·obtain rfl:k=4:=by omega
   have TK:=hide Tk
   clear Tk
   go_wp2
   go_ret
   exact ⟨rfl,TK.out.ho,u,TK.out.lw.upto⟩
open Go.RowKit
def i4 (f:Nat→Int):Array Value:=#[.int .i64 (f 0),.int .i64 (f 1),.int .i64 (f 2),.int .i64 (f 3)]
def qs (M:Hm) (i:Nat):Int:=((lineOf (seatAt M i)).q.length:Int)
open Go.RowKit
theorem acts_lt {done:List Ac} (h:done.length < 150):(runM newM done).acts < 400:=by
 have h1:=run_acts done newM
 have h2:newM.acts=0:=rfl
 omega
end Go.Proofs.YtncgcejlkmoliaaGreatDoor.Ho
