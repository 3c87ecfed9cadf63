import Derived.Test.YtncgcejlkmoliaaGreatDoorMk35
import Derived.Test.YtncgcejlkmoliaaGreatDoorMh38
import Derived.Test.YtncgcejlkmoliaaGreatDoorMh45
set_option linter.unusedVariables false
set_option maxRecDepth 100000
set_option maxHeartbeats 16000000
namespace Go.Proofs.YtncgcejlkmoliaaGreatDoor.Ho
open Go.RowKit
theorem set_ptr (L:Ld) (p:Nat→Value) (n:Nat) (vl x:Value) (i:Nat) (hi:i < 4):(L.more (pre p n) vl).setIfInBounds (165+i) x=L.more (pre (fun j=>if j=i then x else p j) n) vl:=by
 apply Array.ext_getElem?
 intro m
 rw [Array.getElem?_setIfInBounds]
 by_cases e:165+i=m
 ·subst e
  rw [if_pos rfl,if_pos (by rw [more_size]; simp [pre]; omega),more_pre _ _ _ i (by simp [pre]; omega)]
  match i,hi with
  | 0,_ | 1,_ | 2,_ | 3,_=>rfl
 ·rw [if_neg e]
  by_cases h:m < 165
  ·rw [more_get _ _ _ m h,more_get _ _ _ m h]
  ·by_cases h2:m < 170
   ·obtain ⟨k,rfl⟩:∃ k,m=165+k:=⟨m - 165,by omega⟩
    have hk:k < 5:=by omega
    rw [more_pre _ _ _ k (by simp [pre]; omega),more_pre _ _ _ k (by simp [pre]; omega)]
    match k,hk with
    | 0,_=>have h0:¬ (0=i):=by omega
           simp [pre,h0]
    | 1,_=>have h0:¬ (1=i):=by omega
           simp [pre,h0]
    | 2,_=>have h0:¬ (2=i):=by omega
           simp [pre,h0]
    | 3,_=>have h0:¬ (3=i):=by omega
           simp [pre,h0]
    | 4,_=>rfl
   ·by_cases h3:m=170
    ·subst h3
     exact (more_row L (pre p n) vl).trans (more_row L (pre (fun j=>if j=i then x else p j) n) vl).symm
    ·rw [Array.getElem?_eq_none (by rw [more_size]; simp [pre]; omega),Array.getElem?_eq_none (by rw [more_size]; simp [pre]; omega)]
theorem HoV.at' {W0:World} {lab:Nat→Nat} {w:World} {hb:Nat} {M:Hm} {p:Nat→Value} {vl:Value} (h:HoV W0 lab w hb M p vl) {i:Nat} (hi:i < 4) {S:Se} (hS:M.seat i=some S):∃ k vq vp vt,p i=.pointer (some ⟨k,0,none⟩)∧SeL lab i w k S vq vp vt:=by
 rcases h.seats i hi with ⟨e,_⟩ | ⟨k,S',vq,vp,vt,e1,e2,h'⟩
 ·rw [hS] at e; simp at e
 ·rw [hS] at e1; injection e1 with e1; subst e1
  exact ⟨k,vq,vp,vt,e2,h'⟩
theorem built_quit:Tryz.prog.built 149 [(0,.int .i64 20)]=some quitO.cells:=by kernel_rfl
theorem leave_any {W0:World} (hvb:Vb W0) (hai:Ai W0) {lab:Nat→Nat} {w:World} {hb:Nat} {M:Hm} (h:HoC W0 lab w hb M) {N:Nat} (hI:Iv N M) (hN:N+100≤1000000) {i:Nat} (hi:i < 4) {S:Se} (hS:M.seat i=some S) :
 Calls Tryz.prog 86 #[.pointer (some ⟨hb,0,none⟩),.int .i64 (i:Int)] w fun e w'=>e=.returned (.tuple #[])∧∃ lab',HoC W0 lab' w' hb (leaveM M i)∧Gr lab lab' w w':=by
 obtain ⟨p,vl,hV⟩:=h
 obtain ⟨kk,vq,vp,vt,hp,hSL⟩:=hV.at' hi hS
 have c0:w.cell? ⟨hb,165+i,none⟩=some (.pointer (some ⟨kk,0,none⟩)):=by rw [hV.ptr i hi,hp]
 have C0:=hide hV.cell
 have V:=hide hV
 have SL:=hide hSL
 have hii:(i:Int) < 4:=by omega
 have hL:Hid (leaveM M i=if plays S=true then orderM (M.put i none) S.being quitO else M.put i none):=hide (by unfold leaveM; rw [hS])
 have hne:kk ≠ hb:=by rintro rfl; have:=hSL.lk; rw [hV.lh] at this; omega
 have HI:=hide hI
 have HS:=hide hS
 clear hV hSL hp hI hS
 go_enter Tryz.func86,Tryz.ntmps86
 go_upto_region 2 with (refine wl_over1 96 (.tmp 15) (.const (.pointer none)) rfl rfl hb (165+i) (.pointer none) _ _ 102 rfl rfl C0.out (by rw [more_size]; simp [pre]; omega) Tryz.sizePSeat rfl (set_ptr _ _ _ _ _ i hi) ?_; intro W1 g1 u1)
 obtain ⟨A1,G1⟩:=V.out.own (M':=M.put i none) (p':=fun j=>if j=i then .pointer none else p j) u1 g1 V.out.row V.out.lr (fun j hj=>by
  by_cases e:j=i
  ·subst e; exact .inl ⟨by simp [Hm.put],by simp⟩
  ·have:=V.out.seats j hj
   simp only [Hm.put,if_neg e]; exact this)
 have C1:=hide ((u1.block kk hne).trans SL.out.v.cell)
 have c19:W1.cell? ⟨kk,19,none⟩=some (.int .i64 S.being):=SeV.one C1.out 19
 have CP:=hide (plays_any C1.out)
 replace A1:=hide A1
 replace G1:=hide G1
 clear c0 C0 V g1 u1 C1 SL
 cases hpl:plays S with
 | false =>
  rw [hpl] at CP hL
  clear c19
  go_wp2_with fail
  refine CP.out.mono ?_
  rintro e w2 ⟨rfl,hw2⟩
  subst hw2
  clear CP
  go_wp2
  go_end0
  exact ⟨rfl,lab,⟨_,_,by rw [hL.out]; exact A1.out⟩,G1.out⟩
 | true =>
  rw [hpl] at CP hL
  obtain ⟨b,hbe,h2,h6,hh⟩:=HI.out.play i S hi HS.out hpl
  rw [hbe] at c19 hL
  have CO:=hide (order_any hvb hai (M:=M.put i none) ⟨_,_,A1.out⟩ b quitO h6 hh HI.out.good HI.out.fine odt_quit.ok (by decide) (by decide) (fun E hE=>(act_tx HI.out.good HI.out.nm h6 hh quitO odt_quit E hE).hr) (N:=N)
   ⟨fun j T hj e=>by
    simp only [Hm.put] at e
    by_cases e2:j=i
    ·rw [if_pos e2] at e; simp at e
    ·rw [if_neg e2] at e; exact HI.out.sv.seat j T hj e,HI.out.sv.last⟩ (by have:=act_len M.L b quitO; show N+(actE M.L b quitO).length≤_; omega))
  have hO:Hid (orderM (M.put i none) (b:Int) quitO=hapM (M.put i none) (actL M.L b quitO) (actE M.L b quitO)):=hide (order_eq (M:=M.put i none) HI.out.good h6 hh (by decide) (by decide))
  clear hpl
  go_wp2_with fail
  refine CP.out.mono ?_
  rintro e w2 ⟨rfl,hw2⟩
  subst hw2
  clear CP
  go_wp2_with (refine wl_build 149 #[(0,.const (.int .i64 20))] rfl rfl _ _ built_quit rfl ?_)
  refine CO.out.mono ?_
  rintro e w3 ⟨rfl,lab',H',G'⟩
  have G2:=hide (G1.out.trans G')
  clear CO G' G1 A1
  go_wp2
  go_end0
  exact ⟨rfl,lab',by rw [hL.out,if_pos (by trivial),hO.out]; exact H',G2.out⟩
theorem ruleEnter {L:Ld} (hf:Fine L) (hg:goodL L=true) (hN:Nm L) (nm:ByteArray) (hs:nm.size≤140737488355328):∃ (X:Ld) (Fs:List Ev) (k c:Int),(∀ w,Vb w→Calls Tryz.prog 141 #[.agg L.cells,.string nm] w fun e w'=>∃ v,e=.returned (.tuple #[.agg X.cells,.int .i64 k,v,.int .i64 c])∧w'.ownsRow w.heap.size 71 16 v Fs.length (evc Fs)∧Below w.heap.size w w') ∧
 c=bars L nm∧(c=0→X=entL L nm (vacA L).1.toNat∧Fs=beginE (entL L nm (vacA L).1.toNat) (vacA L).1.toNat∧k=(vacA L).1):=by
 by_cases h0:bars L nm=0
 ·obtain ⟨_,hn,ht,k,hv,h2,h6,hh⟩:=bars_nil h0
  refine ⟨entL L nm k,beginE (entL L nm k) k,(k:Int),0,fun w hvb=>?_,h0.symm,fun _=>by rw [hv]; exact ⟨rfl,rfl,rfl⟩⟩
  exact Go.Proofs.YtncgcejlkmoliaaGreatDoor.enter_any L (entL L nm k) _ nm k w hvb (wf_of hf) hs hg hn ht h6 hv rfl rfl ((ent_nm hN (named_T hn) k).fine (ent_good hg h6 hh nm))
 ·refine ⟨L,[],0,bars L nm,fun w hvb=>?_,rfl,fun e=>absurd e h0⟩
  refine (enter_bad L nm w (wf_of hf) hs h0).mono ?_
  rintro e w' ⟨rfl,hb⟩
  exact ⟨_,rfl,World.ownsRow_nil _ _ _ _,hb⟩
theorem enter_any {W0:World} (hvb:Vb W0) (hai:Ai W0) {lab:Nat→Nat} {w:World} {hb:Nat} {M:Hm} {p:Nat→Value} {vl:Value} (hV:HoV W0 lab w hb M p vl) {N:Nat} (hI:Iv N M) (hN:N+100≤1000000) {i:Nat} (hi:i < 4) {S:Se} (hS:M.seat i=some S) (hnp:plays S=false) {kk:Nat} (hp:p i=.pointer (some ⟨kk,0,none⟩)) (f:ByteArray) (hfz:f.size≤140737488355328) :
 Calls Tryz.prog 128 #[.pointer (some ⟨hb,0,none⟩),.pointer (some ⟨kk,0,none⟩),.string f] w fun e w'=>e=.returned (.tuple #[])∧∃ lab',HoC W0 lab' w' hb (enterM M i S (trimB f))∧Gr lab lab' w w':=by
 obtain ⟨kk',vq,vp,vt,hp',hSL⟩:=hV.at' hi hS
 rw [hp] at hp'
 obtain rfl:kk=kk':=by simpa using hp'
 clear hp'
 have htz:(trimB f).size≤140737488355328:=by
  unfold trimB
  rw [bs_size]
  have h1:=trim_sub (trimR f.data.toList)
  have h2:=trimR_sub f.data.toList
  have h3:=len_size f
  omega
 obtain ⟨X,Fs,kb,c,hCE,hc,hX⟩:=ruleEnter hI.fine hI.good hI.nm (trimB f) htz
 have CE:=hide (fun (x:World) (hx:Below W0.heap.size W0 x)=>hCE x (hvb.below hx (Nat.le_refl _)))
 have HR:Lo hb M.L kk (S.cells vq vp vt) 99 w.drew:=⟨(hV.below ((Below.refl _ _).drew)).land,hSL.v.cell⟩
 have hBZ:Below w.heap.size w w.drew:=(Below.refl _ _).drew
 have hlow:Below W0.heap.size W0 w.drew:=hV.low.trans (hBZ.mono hV.low.size)
 have V:=hide hV
 have SL:=hide hSL
 have HI:=hide hI
 have HX:=hide hX
 have HP:=hide hp
 have HS:=hide hS
 have HC:=hide hc
 have HOUT:=hide hV.out
 clear hV hSL hI hX hCE hp hc
 go_enter Tryz.func128,Tryz.ntmps128
 go_upto_region 0 with fail
 go_cut [6,7,8,9] (fun p6 v7 v8 v9 wc=>∃ nb,p6=.pointer (some ⟨nb,0,none⟩)∧v7=.int .i64 kb∧∃ v,v8=v∧v9=.int .i64 c∧Ans w wc X Fs nb v)
 case first =>
  go_wp2_with fail
  refine wp_region_held (S:=Lo hb M.L kk (S.cells vq vp vt) 99) (by kernel_rfl) ?_
  change wpAnyH _ _ _ _ _ _ _ _ w.drew
  generalize w.drew=Z at *
  refine tw (i:=0) (d:=some 11) (fuel:=16) (v:=?_) rfl rfl ?_ HR ?_
  rotate_left
  ·intro W hW
   go_simp
   try with_reducible rfl
  simp only [Act.put,sT,List.set]
  refine tw (i:=1) (d:=some 12) (fuel:=15) (v:=?_) rfl rfl ?_ HR ?_
  rotate_left
  ·intro W hW
   go_simp
   try with_reducible rfl
  simp only [Act.put,sT,List.set]
  refine tw (i:=2) (d:=some 13) (fuel:=14) (v:=?_) rfl rfl ?_ HR ?_
  rotate_left
  ·intro W hW
   go_simp
   try with_reducible rfl
  simp only [Act.put,sT,List.set]
  refine tk (i:=3) (d:=some 14) (fuel:=13) (v:=.agg M.L.cells) rfl rfl (Or.inl ⟨by rfl,fun W hW=>exec_land' (.tmp 13) rfl rfl hW.1⟩) HR ?_
  simp only [Act.put,sT,List.set]
  refine tw (i:=4) (d:=some 15) (fuel:=12) (v:=?_) rfl rfl ?_ HR ?_
  rotate_left
  ·intro W hW
   go_simp
   try with_reducible rfl
  simp only [Act.put,sT,List.set]
  refine wpAnyH_all (fuel:=11) (rs:=[5,12]) (by kernel_rfl) (by simp) ?_
  intro i hi
  have hi2:i=5∨i=12:=by simpa using hi
  clear hi
  rcases hi2 with rfl | rfl
  ·refine call_at (d:=some 16) rfl rfl (by rfl) 142 #[.string f,.string ⟨#[32]⟩] (by kernel_rfl) ?_
   refine (trim_any f Z hfz).mono ?_
   rintro e y1 ⟨rfl,nn,hy1⟩
   have by1:Below Z.heap.size Z y1:=by rw [hy1]; exact below_drewN (Below.refl _ _) nn
   have HR1:=HR.call by1
   clear hy1
   refine ⟨_,rfl,HR1,?_⟩
   simp only [Act.put,sT,List.set]
   refine wpAnyH_all (fuel:=10) (rs:=[6,12]) (by kernel_rfl) (by simp) ?_
   intro i hi
   have hi2:i=6∨i=12:=by simpa using hi
   clear hi
   rcases hi2 with rfl | rfl
   ·refine call_at (d:=some 17) rfl rfl (by rfl) 141 #[.agg M.L.cells,.string (trimB f)] (by kernel_rfl) ?_
    refine (CE.out y1 (hlow.trans (by1.mono hlow.size))).mono ?_
    rintro e x1 ⟨v,rfl,ho1,hb1⟩
    obtain ⟨av,cap,rfl⟩:=shapeE ho1
    have HR3:=HR1.call hb1
    refine ⟨_,rfl,HR3,?_⟩
    simp only [Act.put,sT,List.set]
    refine tw (i:=7) (d:=some 10) (fuel:=9) (v:=?_) rfl rfl ?_ HR3 ?_
    rotate_left
    ·intro W hW; go_simp; try with_reducible rfl
    simp only [Act.put,sT,List.set]
    refine tw (i:=8) (d:=some 18) (fuel:=8) (v:=?_) rfl rfl ?_ HR3 ?_
    rotate_left
    ·intro W hW; go_simp; try with_reducible rfl
    simp only [Act.put,sT,List.set]
    refine tw (i:=9) (d:=some 19) (fuel:=7) (v:=?_) rfl rfl ?_ HR3 ?_
    rotate_left
    ·intro W hW; go_simp; try with_reducible rfl
    simp only [Act.put,sT,List.set]
    refine tw (i:=10) (d:=some 20) (fuel:=6) (v:=?_) rfl rfl ?_ HR3 ?_
    rotate_left
    ·intro W hW; go_simp; try with_reducible rfl
    simp only [Act.put,sT,List.set]
    refine tw (i:=11) (d:=some 21) (fuel:=5) (v:=?_) rfl rfl ?_ HR3 ?_
    rotate_left
    ·intro W hW; go_simp; try with_reducible rfl
    simp only [Act.put,sT,List.set]
    refine wpAnyH_all (fuel:=4) (rs:=[12]) (by kernel_rfl) (by simp) ?_
    intro i hi
    obtain rfl:i=12:=by simpa using hi
    clear hi
    refine run_at (d:=some 6) (v:=.pointer (some ⟨x1.heap.size,0,none⟩)) (w':=x1.alloc (.cells zl.cells 43)) rfl rfl (by rfl) (exec_alloc rfl) ?_
    have HR4:=HR3.call (below_box x1 (.cells zl.cells 43))
    refine ⟨HR4,?_⟩
    simp only [Act.put,sT,List.set]
    refine wpAnyH_all (fuel:=3) (rs:=[13]) (by kernel_rfl) (by simp) ?_
    intro i hi
    obtain rfl:i=13:=by simpa using hi
    clear hi
    refine skip_at (d:=none) rfl rfl (by rfl) (exec_storeland (.tmp 6) (.tmp 18) rfl (k:=x1.heap.size) (L:=X) (old:=zl.cells) rfl rfl (heap_alloc_new x1 _) zl.size) ?_
    have AZ:=hide (ans_a (X:=X) (hBZ.trans (by1.mono hBZ.size)) ho1 hb1)
    have HRz:=HR4.setRow (cs:=X.cells) (k:=x1.heap.size) (by have:=HR3.lt; omega) (by have:=(Array.getElem?_eq_some_iff.1 HR3.2).1; omega)
    refine ⟨HRz,?_⟩
    simp only [Act.put]
    refine tw (i:=14) (d:=some 7) (fuel:=2) (v:=?_) rfl rfl ?_ HRz ?_
    rotate_left
    ·intro W hW; go_simp; try with_reducible rfl
    simp only [Act.put,sT,List.set]
    refine tw (i:=15) (d:=some 8) (fuel:=1) (v:=?_) rfl rfl ?_ HRz ?_
    rotate_left
    ·intro W hW; go_simp; try with_reducible rfl
    simp only [Act.put,sT,List.set]
    refine tw (i:=16) (d:=some 9) (fuel:=0) (v:=?_) rfl rfl ?_ HRz ?_
    rotate_left
    ·intro W hW; go_simp; try with_reducible rfl
    simp only [Act.put,sT,List.set]
    refine wpAnyH_done (by kernel_rfl) ?_ _
    go_wp2_with fail
    go_meet
    exact ⟨_,rfl,rfl,_,rfl,rfl,AZ.out⟩
   ·refine run_at (d:=some 6) (v:=.pointer (some ⟨y1.heap.size,0,none⟩)) (w':=y1.alloc (.cells zl.cells 43)) rfl rfl (by rfl) (exec_alloc rfl) ?_
    have HR2:=HR1.call (below_box y1 (.cells zl.cells 43))
    refine ⟨HR2,?_⟩
    simp only [Act.put,sT,List.set]
    refine wpAnyH_all (fuel:=9) (rs:=[6]) (by kernel_rfl) (by simp) ?_
    intro i hi
    obtain rfl:i=6:=by simpa using hi
    clear hi
    refine call_at (d:=some 17) rfl rfl (by rfl) 141 #[.agg M.L.cells,.string (trimB f)] (by kernel_rfl) ?_
    refine (CE.out (y1.alloc (.cells zl.cells 43)) ((hlow.trans (by1.mono hlow.size)).alloc (hlow.trans (by1.mono hlow.size)).size _)).mono ?_
    rintro e x1 ⟨v,rfl,ho1,hb1⟩
    obtain ⟨av,cap,rfl⟩:=shapeE ho1
    have HR3:=HR2.call hb1
    refine ⟨_,rfl,HR3,?_⟩
    simp only [Act.put,sT,List.set]
    have HRL:=HR1
    have Z0:=(hb1.block _ (by simp)).trans (heap_alloc_new y1 (.cells zl.cells 43))
    refine tw (i:=7) (d:=some 10) (fuel:=8) (v:=?_) rfl rfl ?_ HR3 ?_
    rotate_left
    ·intro W hW; go_simp; try with_reducible rfl
    simp only [Act.put,sT,List.set]
    refine tw (i:=8) (d:=some 18) (fuel:=7) (v:=?_) rfl rfl ?_ HR3 ?_
    rotate_left
    ·intro W hW; go_simp; try with_reducible rfl
    simp only [Act.put,sT,List.set]
    refine tw (i:=9) (d:=some 19) (fuel:=6) (v:=?_) rfl rfl ?_ HR3 ?_
    rotate_left
    ·intro W hW; go_simp; try with_reducible rfl
    simp only [Act.put,sT,List.set]
    refine tw (i:=10) (d:=some 20) (fuel:=5) (v:=?_) rfl rfl ?_ HR3 ?_
    rotate_left
    ·intro W hW; go_simp; try with_reducible rfl
    simp only [Act.put,sT,List.set]
    refine tw (i:=11) (d:=some 21) (fuel:=4) (v:=?_) rfl rfl ?_ HR3 ?_
    rotate_left
    ·intro W hW; go_simp; try with_reducible rfl
    simp only [Act.put,sT,List.set]
    refine wpAnyH_all (fuel:=3) (rs:=[13]) (by kernel_rfl) (by simp) ?_
    intro i hi
    obtain rfl:i=13:=by simpa using hi
    clear hi
    have hz0:x1.heap[y1.heap.size]?=some (.cells zl.cells 43 (0,0)):=Z0
    refine skip_at (d:=none) rfl rfl (by rfl) (exec_storeland (.tmp 6) (.tmp 18) rfl (k:=y1.heap.size) (L:=X) (old:=zl.cells) rfl rfl hz0 zl.size) ?_
    have AZ:=hide (ans_b (X:=X) (hBZ.trans (by1.mono hBZ.size)) ho1 hb1 hz0)
    have HRz:=HR3.setRow (cs:=X.cells) (k:=y1.heap.size) (by have:=HRL.lt; omega) (by have:=(Array.getElem?_eq_some_iff.1 HRL.2).1; omega)
    refine ⟨HRz,?_⟩
    simp only [Act.put]
    refine tw (i:=14) (d:=some 7) (fuel:=2) (v:=?_) rfl rfl ?_ HRz ?_
    rotate_left
    ·intro W hW; go_simp; try with_reducible rfl
    simp only [Act.put,sT,List.set]
    refine tw (i:=15) (d:=some 8) (fuel:=1) (v:=?_) rfl rfl ?_ HRz ?_
    rotate_left
    ·intro W hW; go_simp; try with_reducible rfl
    simp only [Act.put,sT,List.set]
    refine tw (i:=16) (d:=some 9) (fuel:=0) (v:=?_) rfl rfl ?_ HRz ?_
    rotate_left
    ·intro W hW; go_simp; try with_reducible rfl
    simp only [Act.put,sT,List.set]
    refine wpAnyH_done (by kernel_rfl) ?_ _
    go_wp2_with fail
    go_meet
    exact ⟨_,rfl,rfl,_,rfl,rfl,AZ.out⟩
  ·refine run_at (d:=some 6) (v:=.pointer (some ⟨Z.heap.size,0,none⟩)) (w':=Z.alloc (.cells zl.cells 43)) rfl rfl (by rfl) (exec_alloc rfl) ?_
   have HR0:=HR.call (below_box Z (.cells zl.cells 43))
   refine ⟨HR0,?_⟩
   simp only [Act.put,sT,List.set]
   refine wpAnyH_all (fuel:=10) (rs:=[5]) (by kernel_rfl) (by simp) ?_
   intro i hi
   obtain rfl:i=5:=by simpa using hi
   clear hi
   refine call_at (d:=some 16) rfl rfl (by rfl) 142 #[.string f,.string ⟨#[32]⟩] (by kernel_rfl) ?_
   refine (trim_any f (Z.alloc (.cells zl.cells 43)) hfz).mono ?_
   rintro e y1 ⟨rfl,nn,hy1⟩
   have by1:Below (Z.alloc (.cells zl.cells 43)).heap.size (Z.alloc (.cells zl.cells 43)) y1:=by rw [hy1]; exact below_drewN (Below.refl _ _) nn
   have HR2:=HR0.call by1
   clear hy1
   refine ⟨_,rfl,HR2,?_⟩
   simp only [Act.put,sT,List.set]
   refine wpAnyH_all (fuel:=9) (rs:=[6]) (by kernel_rfl) (by simp) ?_
   intro i hi
   obtain rfl:i=6:=by simpa using hi
   clear hi
   have hBA:=hlow.alloc hlow.size (.cells zl.cells 43)
   refine call_at (d:=some 17) rfl rfl (by rfl) 141 #[.agg M.L.cells,.string (trimB f)] (by kernel_rfl) ?_
   refine (CE.out y1 (hBA.trans (by1.mono hBA.size))).mono ?_
   rintro e x1 ⟨v,rfl,ho1,hb1⟩
   obtain ⟨av,cap,rfl⟩:=shapeE ho1
   have HR3:=HR2.call hb1
   refine ⟨_,rfl,HR3,?_⟩
   simp only [Act.put,sT,List.set]
   have HRL:=HR
   have hbb:Below (Z.alloc (.cells zl.cells 43)).heap.size (Z.alloc (.cells zl.cells 43)) x1:=by1.trans (hb1.mono by1.size)
   have Z0:=(hbb.block _ (by simp)).trans (heap_alloc_new Z (.cells zl.cells 43))
   refine tw (i:=7) (d:=some 10) (fuel:=8) (v:=?_) rfl rfl ?_ HR3 ?_
   rotate_left
   ·intro W hW; go_simp; try with_reducible rfl
   simp only [Act.put,sT,List.set]
   refine tw (i:=8) (d:=some 18) (fuel:=7) (v:=?_) rfl rfl ?_ HR3 ?_
   rotate_left
   ·intro W hW; go_simp; try with_reducible rfl
   simp only [Act.put,sT,List.set]
   refine tw (i:=9) (d:=some 19) (fuel:=6) (v:=?_) rfl rfl ?_ HR3 ?_
   rotate_left
   ·intro W hW; go_simp; try with_reducible rfl
   simp only [Act.put,sT,List.set]
   refine tw (i:=10) (d:=some 20) (fuel:=5) (v:=?_) rfl rfl ?_ HR3 ?_
   rotate_left
   ·intro W hW; go_simp; try with_reducible rfl
   simp only [Act.put,sT,List.set]
   refine tw (i:=11) (d:=some 21) (fuel:=4) (v:=?_) rfl rfl ?_ HR3 ?_
   rotate_left
   ·intro W hW; go_simp; try with_reducible rfl
   simp only [Act.put,sT,List.set]
   refine wpAnyH_all (fuel:=3) (rs:=[13]) (by kernel_rfl) (by simp) ?_
   intro i hi
   obtain rfl:i=13:=by simpa using hi
   clear hi
   have hz0:x1.heap[Z.heap.size]?=some (.cells zl.cells 43 (0,0)):=Z0
   refine skip_at (d:=none) rfl rfl (by rfl) (exec_storeland (.tmp 6) (.tmp 18) rfl (k:=Z.heap.size) (L:=X) (old:=zl.cells) rfl rfl hz0 zl.size) ?_
   have AZ:=hide (ans_b (X:=X) hBZ (own_weak ho1 by1.size) hbb hz0)
   have HRz:=HR3.setRow (cs:=X.cells) (k:=Z.heap.size) (by have:=HRL.lt; omega) (by have:=(Array.getElem?_eq_some_iff.1 HRL.2).1; omega)
   refine ⟨HRz,?_⟩
   simp only [Act.put]
   refine tw (i:=14) (d:=some 7) (fuel:=2) (v:=?_) rfl rfl ?_ HRz ?_
   rotate_left
   ·intro W hW; go_simp; try with_reducible rfl
   simp only [Act.put,sT,List.set]
   refine tw (i:=15) (d:=some 8) (fuel:=1) (v:=?_) rfl rfl ?_ HRz ?_
   rotate_left
   ·intro W hW; go_simp; try with_reducible rfl
   simp only [Act.put,sT,List.set]
   refine tw (i:=16) (d:=some 9) (fuel:=0) (v:=?_) rfl rfl ?_ HRz ?_
   rotate_left
   ·intro W hW; go_simp; try with_reducible rfl
   simp only [Act.put,sT,List.set]
   refine wpAnyH_done (by kernel_rfl) ?_ _
   go_wp2_with fail
   go_meet
   exact ⟨_,rfl,rfl,_,rfl,rfl,AZ.out⟩
 case rest =>
  obtain ⟨nb,rfl,rfl,v,rfl,rfl,hA⟩:=hcut
  have V1:=hide (V.out.below hA.low)
  have S1:=hide (SL.out.frame (w':=wc) (lab':=lab) hi (fun n hn _=>hA.low.block n hn) fun _ _=>rfl)
  have GA:=hide (Gr.below (lab:=lab) hA.low)
  have LA:=hide hA.cod
  have HA:=hide hA
  have hE:Hid (enterM M i S (trimB f)=if bars M.L (trimB f)=0 then hapM (M.put i (some { S with being:=(vacA M.L).1 })) (entL M.L (trimB f) (vacA M.L).1.toNat) (beginE (entL M.L (trimB f) (vacA M.L).1.toNat) (vacA M.L).1.toNat) else if bars M.L (trimB f)=4 then M.put i (some (tellS S noRoomT)) else M.put i (some (tellS S noNameT))):=hide rfl
  rw [← HC.out] at hE
  have hSo:=HI.out.sv.seat i S hi HS.out
  clear hA HR hBZ hlow V SL CE htz
  by_cases h0:c=0
  ·subst h0
   obtain ⟨e1,e2,e3⟩:=HX.out rfl
   subst e1 e2 e3
   rw [if_pos rfl] at hE
   obtain ⟨hg,hn,ht,k,hv,h2,h6,hh⟩:=bars_nil HC.out.symm
   have hTX:=hide (ent_tx HI.out.nm HI.out.good (named_T hn) h6 hh)
   have hbl:=begin_len (entL M.L (trimB f) k) k
   rw [hv] at hE LA HA ⊢
   simp only [Int.toNat_natCast] at hE LA HA ⊢
   have C1:=hide S1.out.v.cell
   go_upto_region 5 with (refine wl_sbeing (.tmp 30) (.tmp 28) rfl rfl _ rfl rfl C1.out ?_; intro W1 g1 u1)
   obtain ⟨lab1,V2,G2⟩:=V1.out.step hi HP.out S1.out (S1.out.v.refl.upd u1 (S1.out.v.setT (S':={ S with being:=(k:Int) }) rfl rfl rfl g1 u1) (.inl rfl) (.inl rfl))
   have hnbk:nb ≠ kk:=by
    rintro rfl
    have:=LA.out
    unfold Cod at this
    rw [C1.out] at this
    injection this with this
    injection this with this this2
    exact absurd this2 (by decide)
   have LB:=hide (show Cod W1 nb (entL M.L (trimB f) k) by unfold Cod; rw [u1.block nb hnbk]; exact LA.out)
   have hR2:=own_same HA.out.row (w':=W1) fun g hg=>u1.block g (by
    have:=own_lt HA.out.row g hg
    have h3:=S1.out.v.lt
    have h4:=S1.out.lk
    intro e; subst e
    have h5:=HA.out.row
    rcases h5.2 with ⟨e5,_⟩ | ⟨g',cap',cur,e5,_,hc5,_⟩
    ·rw [e5] at hg; simp [Value.ownBlock] at hg
    ·rw [e5] at hg; simp only [Value.ownBlock,Option.some.injEq] at hg
     subst hg
     rw [C1.out] at hc5
     injection hc5 with hc5
     injection hc5 with hc5 hc6
     exact absurd hc6 (by decide))
   have CH:=hide (happens_any hvb hai (lab:=lab1) (w:=W1) (hb:=hb) (M:=M.put i (some { S with being:=(k:Int) })) ⟨_,_,V2⟩ (entL M.L (trimB f) k) (beginE (entL M.L (trimB f) k) k) _ hR2 (fun g hg=>by
    have h1:=own_lt HA.out.row g hg
    rw [G2.old g h1.2]
    exact HOUT.out g h1.1) (fun E hE2=>(hTX.out E hE2).hr) (N:=N) ⟨fun j T hj e=>by
     simp only [Hm.put] at e
     by_cases e2:j=i
     ·rw [if_pos e2] at e; injection e with e; subst e; exact ⟨hSo.1.is _,hSo.2⟩
     ·rw [if_neg e2] at e; exact HI.out.sv.seat j T hj e,HI.out.sv.last⟩ (by omega))
   have G3:=hide (GA.out.trans G2)
   clear g1 u1 C1 V1 S1 LA HA GA G2 V2 hR2
   go_wp2_with (refine wl_land (.tmp 6) rfl rfl _ (entL M.L (trimB f) k) rfl LB.out ?_)
   refine CH.out.mono ?_
   rintro e w3 ⟨rfl,lab',H',G'⟩
   have G4:=hide (G3.out.trans G')
   clear CH G' G3
   go_wp2
   go_end0
   exact ⟨rfl,lab',by rw [hE.out]; exact H',G4.out⟩
  ·rw [if_neg h0] at hE
   have hcb:(c==0)=false:=by simpa using h0
   by_cases h4:c=4
   ·subst h4
    rw [if_pos rfl] at hE
    clear LA HA HX h0
    go_wp2_with fail
    refine (tell_any S1.out.v (ok_small hSo.1.pg) (by omega) noRoomT).mono ?_
    rintro e w3 ⟨rfl,vp3,vt3,K3⟩
    obtain ⟨lab1,V2,G2⟩:=V1.out.step hi HP.out S1.out K3
    have V3:=hide V2
    have G3:=hide (GA.out.trans G2)
    clear K3 V2 G2 V1 S1 GA
    go_wp2
    go_end0
    exact ⟨rfl,lab1,⟨_,_,by rw [hE.out]; exact V3.out⟩,G3.out⟩
   ·rw [if_neg h4] at hE
    have hcb4:(c==4)=false:=by simpa using h4
    clear LA HA HX h0 h4
    go_wp2_with fail
    refine (tell_any S1.out.v (ok_small hSo.1.pg) (by omega) noNameT).mono ?_
    rintro e w3 ⟨rfl,vp3,vt3,K3⟩
    obtain ⟨lab1,V2,G2⟩:=V1.out.step hi HP.out S1.out K3
    have V3:=hide V2
    have G3:=hide (GA.out.trans G2)
    clear K3 V2 G2 V1 S1 GA
    go_wp2
    go_end0
    exact ⟨rfl,lab1,⟨_,_,by rw [hE.out]; exact V3.out⟩,G3.out⟩
end Go.Proofs.YtncgcejlkmoliaaGreatDoor.Ho
