import Derived.Test.YtncgcejlkmoliaaGreatDoorMh10
import Derived.Test.YtncgcejlkmoliaaGreatDoorMh04
import Derived.Test.YtncgcejlkmoliaaGreatDoorMh09
set_option linter.unusedVariables false
set_option maxRecDepth 100000
set_option maxHeartbeats 16000000
namespace Go.Proofs.YtncgcejlkmoliaaGreatDoor
open Go.RowKit
def nobodyS:ByteArray:=⟨#[84,104,101,114,101,32,105,115,32,110,111,98,111,100,121,32,111,102,32,116,104,97,116,32,110,97,109,101,46]⟩
def whoL (L:Ld) (b:Nat) (word:ByteArray):Option Nat:=match nounL word.data.toList with
 | none=>none
 | some (n,name,every)=>if every=true then none else (nthL (seenK L b (bs name) 6) (n:Int)).head?.map Int.toNat
theorem nth_head {q:List Int} {n:Int} {x:Int} (h:(nthL q n).head?=some x):nthL q n=[x]:=by
 unfold nthL at h ⊢
 split
 ·rename_i h1; rw [if_pos h1] at h; simp at h
 ·rename_i h1; rw [if_neg h1] at h; simpa using h
theorem nth_empty {q:List Int} {n:Int} (h:(nthL q n).head?=none):nthL q n=[]:=List.head?_eq_none_iff.1 h
theorem who_sees {L:Ld} {b c:Nat} {word:ByteArray} (h:whoL L b word=some c):c < 6∧seesO L b c=true:=by
 unfold whoL at h
 split at h
 ·simp at h
 ·split at h
  ·simp at h
  ·rename_i n name every _ _
   cases hx:(nthL (seenK L b (bs name) 6) (n:Int)).head? with
   | none=>rw [hx] at h; simp at h
   | some x =>
    rw [hx] at h
    simp at h
    have hm:x ∈ nthL (seenK L b (bs name) 6) (n:Int):=by rw [nth_head hx]; simp
    obtain ⟨i,e,hi,hp⟩:=seen_mem (nth_mem hm)
    unfold seenP at hp
    simp only [Bool.and_eq_true] at hp
    have:i=c:=by omega
    subst this
    exact ⟨hi,hp.2⟩
theorem num_of {l:List UInt8} {n:Nat} {name:List UInt8} {every:Bool} (h:nounL l=some (n,name,every)):n≤99:=by
 have key:∀ a b:List UInt8,nounT a b=some (n,name,every)→n≤99:=by
  intro a b hh
  unfold nounT at hh
  split at hh <;> (try split at hh) <;> (try split at hh) <;> (first | (simp at hh; done) | (simp at hh; have:=num_bound (by assumption); omega) | (simp at hh; omega) | (have:=num_bound (by assumption); simp at hh; omega))
 unfold nounL at h
 split at h
 ·simp at h; omega
 ·split at h
  ·exact key _ _ h
  ·exact key _ _ h
theorem res_two {fn:Func} {u t:Tmp} (h:fn.results=#[.tmp u,.tmp t]) (tmps:Array Value) (w:World) (x y:Value) (hx:tmps.getD u undef=x) (hy:tmps.getD t undef=y):(results fn tmps).run Tryz.prog w=.ok (.tuple #[x,y]) w:=by
 have hx':tmps[u]?.getD undef=x:=by simpa using hx
 have hy':tmps[t]?.getD undef=y:=by simpa using hy
 simp [results,h,hx',hy']
theorem somebody_any {w0:World} {L:Ld} {Es:List Ev} {w:World} (hS:Sn 172 [] w0 L Es w) (b:Nat) (hb:b < 6) (word:ByteArray) (hs:word.size≤140737488355328) (hlen:Es.length≤1000000) :
 Calls Tryz.prog 199 #[.pointer (some ⟨w0.heap.size,0,none⟩),.int .i64 (b:Int),.string word] w fun e w' =>
  (∃ c,whoL L b word=some c∧e=.returned (.tuple #[.int .i64 (c:Int),.bool true])∧Sn 172 [] w0 L Es w'∧Stp w0.heap.size 165 w w') ∨
  (whoL L b word=none∧e=.returned (.tuple #[.int .i64 0,.bool false])∧Sn 172 [] w0 L (Es++[tellE L b nobodyS]) w'∧Stp w0.heap.size 165 w w'):=by
 go_enter Tryz.func199,Tryz.ntmps199
 go_wp2_with fail
 refine (noun_any word _ hs).mono ?_
 rintro e w1 ⟨rfl,nd,hw1⟩
 have S1:=hide (show Sn 172 [] w0 L Es w1 by rw [hw1]; exact hS.drewN nd)
 have T1:=hide (show Stp w0.heap.size 165 w w1 by rw [hw1]; exact hS.stp (below_drewN (Below.refl _ _) nd) 165)
 clear hw1 hS
 cases hx:nounL word.data.toList with
 | none =>
  have HV:=hide (show whoL L b word=none by unfold whoL; rw [hx])
  clear hx
  unfold nounA
  simp only
  go_wp2_with fail
  refine (rtell_any S1.out b hb _ hlen).mono ?_
  rintro e w2 ⟨rfl,S2h,T2h⟩
  have S2:=hide S2h
  have T2:=hide (T1.out.trans T2h)
  clear S2h T2h S1 T1
  go_wp2
  exact bodyPost_ret (v:=.tuple #[.int .i64 0,.bool false]) (res_two rfl _ _ _ _ rfl rfl) rfl (.inr ⟨HV.out,rfl,S2.out,T2.out⟩)
 | some r =>
  obtain ⟨n,name,every⟩:=r
  have hn99:=num_of hx
  cases he:every with
  | true =>
   subst he
   have HV:=hide (show whoL L b word=none by unfold whoL; rw [hx]; simp)
   clear hx
   unfold nounA
   simp only
   go_wp2_with fail
   refine (rtell_any S1.out b hb _ hlen).mono ?_
   rintro e w2 ⟨rfl,S2h,T2h⟩
   have S2:=hide S2h
   have T2:=hide (T1.out.trans T2h)
   clear S2h T2h S1 T1
   go_wp2
   exact bodyPost_ret (v:=.tuple #[.int .i64 0,.bool false]) (res_two rfl _ _ _ _ rfl rfl) rfl (.inr ⟨HV.out,rfl,S2.out,T2.out⟩)
  | false =>
   subst he
   have HW:=hide (show whoL L b word=(nthL (seenK L b (bs name) 6) (n:Int)).head?.map Int.toNat by unfold whoL; rw [hx]; simp)
   clear hx
   unfold nounA
   simp only
   go_wp2_with fail
   refine (rseen_any S1.out b (bs name)).mono ?_
   rintro e w2 ⟨v,rfl,ho,hb2⟩
   have S2:=hide (S1.out.below hb2)
   have T2:=hide (T1.out.trans (S1.out.stp hb2 165))
   have N2:=hide (numk_own S1.out hb2 ho)
   obtain ⟨av,cap,rfl⟩:=ho.shape
   have hsl:=seen_len L b (bs name) 6
   have HM:=hide (fun x (hx:x ∈ seenK L b (bs name) 6)=>seen_mem hx)
   clear ho hb2 S1 T1
   generalize seenK L b (bs name) 6=q at *
   go_wp2_with fail
   refine (rnth_any N2.out (by omega) (n:Int) (by omega) (by omega)).mono ?_
   rintro e w3 ⟨v',rfl,hK,hw3⟩
   rw [hw3]
   have NK:=hide hK
   obtain ⟨av3,cap3,rfl⟩:=hK.shape
   clear hK hw3 w3
   cases hh:(nthL q (n:Int)).head? with
   | none =>
    have hz:nthL q (n:Int)=[]:=nth_empty hh
    have HV:=hide (show whoL L b word=none by rw [HW.out,hh]; rfl)
    rw [hz]
    clear hh hz NK
    go_wp2_with fail
    refine (rtell_any S2.out b hb _ hlen).mono ?_
    rintro e w4 ⟨rfl,S4h,T4h⟩
    have S4:=hide S4h
    have T4:=hide (T2.out.trans T4h)
    clear S4h T4h S2 T2
    go_wp2
    exact bodyPost_ret (v:=.tuple #[.int .i64 0,.bool false]) (res_two rfl _ _ _ _ rfl rfl) rfl (.inr ⟨HV.out,rfl,S4.out,T4.out⟩)
   | some x =>
    have hz:=nth_head hh
    obtain ⟨c,ec,hc,_⟩:=HM.out x (nth_mem (n:=(n:Int)) (by rw [hz]; simp))
    subst ec
    have HV:=hide (show whoL L b word=some c by rw [HW.out,hh]; simp)
    have NK2:=NK.out
    rw [hz] at NK2
    obtain ⟨bq,off,cap',e,hcell⟩:=NK2.cell (k:=0) (by simp)
    rw [hz]
    injection e with e1 e2 e3
    subst e1 e3
    simp only [List.length_singleton,Nat.add_zero,List.getD_cons_zero] at hcell e2 ⊢
    clear hh hz NK NK2
    go_wp2
    exact bodyPost_ret (v:=.tuple #[.int .i64 (c:Int),.bool true]) (res_two rfl _ _ _ _ rfl rfl) rfl (.inl ⟨c,HV.out,rfl,S2.out,T2.out⟩)
open Go.RowKit
def dirL (l:List UInt8):Option Nat:=(verbs.take 6).findIdx? (fun v=>decide (v=l))
def dirA (l:List UInt8):Int × Bool:=match dirL l with | some d=>((d:Int),true) | none=>(0,false)
def NoDir (l:List UInt8) (k:Nat):Prop:=∀ j,j < k→verbs.getD j [] ≠ l
theorem take_getD (j:Nat) (hj:j < 6):verbs.getD j []=(verbs.take 6)[j]'(by simp [verbs_len]; omega):=by
 have hl:=verbs_len
 simp [List.getD,List.getElem?_eq_getElem (show j < verbs.length by omega)]
theorem dir_at {l:List UInt8} {k:Nat} (hk:k < 6) (hn:NoDir l k) (h:verbs.getD k []=l):dirA l=((k:Int),true):=by
 have:dirL l=some k:=by
  unfold dirL
  rw [List.findIdx?_eq_some_iff_getElem]
  refine ⟨by simp [verbs_len]; omega,?_,fun j hj=>?_⟩
  ·rw [← take_getD k hk]; simpa using h
  ·rw [← take_getD j (by omega)]; simpa using hn j hj
 simp [dirA,this]
theorem dir_none {l:List UInt8} (hn:NoDir l 6):dirA l=(0,false):=by
 have:dirL l=none:=by
  unfold dirL
  rw [List.findIdx?_eq_none_iff]
  intro v hv
  obtain ⟨j,hj,rfl⟩:=List.getElem_of_mem hv
  have hj6:j < 6:=by simp [verbs_len] at hj; omega
  rw [← take_getD j hj6]
  simpa using hn j hj6
 simp [dirA,this]
theorem ret_dir {n m:Int} {a b:Bool} (h:(n,a)=(m,b)):Ending.returned (.tuple #[.int .i64 n,.bool a])=.returned (.tuple #[.int .i64 m,.bool b]):=by
 simp at h; rw [h.1,h.2]
theorem dir_any (s:ByteArray) (w:World) (hv:Vb w) :
 Calls Tryz.prog 158 #[.string s] w fun e w'=>e=.returned (.tuple #[.int .i64 (dirA s.data.toList).1,.bool (dirA s.data.toList).2])∧w'=w:=by
 have hv:=hide hv
 have hbt:∀ l:List UInt8,(bs l).toList=l:=fun l=>by rw [Lib.toList_data,bs_data]
 go_enter Tryz.func158,Tryz.ntmps158
 go_wp2
 go_loop [5] (fun v=>∃ k:Nat,v=.int .i64 k∧k≤6∧Hid (NoDir s.data.toList k)) (fun v=>6 - (intOf v).toNat)
 case atStart=>exact ⟨0,rfl,by omega,fun j hj=>by omega⟩
 case round =>
  obtain ⟨k,rfl,hk,HN⟩:=hrel
  by_cases hlt:k < 6
  ·have hc:=hv.out.cell k (by omega)
   generalize hV:verbs.getD k []=V at hc
   cases hp:(V==s.toList)
   ·have HNN:Hid (NoDir s.data.toList (k+1)):=fun j hj=>by
     by_cases e:j=k
     ·subst e; rw [hV]; intro e2; rw [Lib.toList_data,e2] at hp; simp at hp
     ·exact HN.out j (by omega)
    clear hV
    go_wp2
    exact ⟨⟨k+1,by go_num,hlt,HNN.out⟩,by simp [intOf]; omega⟩
   ·have HV:=hide (dir_at hlt HN.out (show verbs.getD k []=s.data.toList by rw [hV]; rw [Lib.toList_data] at hp; simpa using hp))
    clear hV
    go_wp2
    go_ret2
    exact ⟨ret_dir HV.out.symm,rfl⟩
  ·have hkk:k=6:=by omega
   subst hkk
   have HV:=hide (dir_none HN.out)
   go_wp2
   go_ret2
   exact ⟨ret_dir HV.out.symm,rfl⟩
structure Chg where
 kind:Int
 event:Int
 on:Bool
 behind:Bool
def Chg.cells (C:Chg):Array Value:=#[.int .i64 C.kind,.int .i64 C.event,.bool C.on,.bool C.behind]
theorem Tryz.sizeChange:(Tryz.prog.info? 202).map (·.size)=some 4:=by kernel_rfl
def turnedC (v:Int):Chg:=if v=12 then ⟨3,8,true,true⟩ else if v=13 then ⟨3,9,false,false⟩ else if v=14 then ⟨1,10,true,true⟩ else if v=15 then ⟨1,11,false,false⟩ else if v=16 then ⟨2,12,true,false⟩ else ⟨2,13,false,true⟩
theorem turned_any (v:Int) (w:World):Calls Tryz.prog 160 #[.int .i64 v] w fun e w'=>e=.returned (.agg (turnedC v).cells)∧Below w.heap.size w w':=by
 by_cases h12:v=12
 ·have HV:=hide (show turnedC v=⟨3,8,true,true⟩ by subst h12; rfl)
  subst h12
  go_enter Tryz.func160,Tryz.ntmps160
  go_wp2
  refine bodyPost_ret (v:=.agg (turnedC 12).cells) (results_cell_row rfl _ _ w.heap.size 202 (turnedC 12).cells (0,0) _ rfl (heap_alloc_new w _) Tryz.underlying202 rfl Tryz.sizeChange) rfl ⟨rfl,(Below.refl _ _).alloc (Nat.le_refl _) _⟩
 have b12:(v==12)=false:=by simp [h12]
 by_cases h13:v=13
 ·have HV:=hide (show turnedC v=⟨3,9,false,false⟩ by subst h13; rfl)
  subst h13
  go_enter Tryz.func160,Tryz.ntmps160
  go_wp2
  refine bodyPost_ret (v:=.agg (turnedC 13).cells) (results_cell_row rfl _ _ w.heap.size 202 (turnedC 13).cells (0,0) _ rfl (heap_alloc_new w _) Tryz.underlying202 rfl Tryz.sizeChange) rfl ⟨rfl,(Below.refl _ _).alloc (Nat.le_refl _) _⟩
 have b13:(v==13)=false:=by simp [h13]
 by_cases h14:v=14
 ·have HV:=hide (show turnedC v=⟨1,10,true,true⟩ by subst h14; rfl)
  subst h14
  go_enter Tryz.func160,Tryz.ntmps160
  go_wp2
  refine bodyPost_ret (v:=.agg (turnedC 14).cells) (results_cell_row rfl _ _ w.heap.size 202 (turnedC 14).cells (0,0) _ rfl (heap_alloc_new w _) Tryz.underlying202 rfl Tryz.sizeChange) rfl ⟨rfl,(Below.refl _ _).alloc (Nat.le_refl _) _⟩
 have b14:(v==14)=false:=by simp [h14]
 by_cases h15:v=15
 ·have HV:=hide (show turnedC v=⟨1,11,false,false⟩ by subst h15; rfl)
  subst h15
  go_enter Tryz.func160,Tryz.ntmps160
  go_wp2
  refine bodyPost_ret (v:=.agg (turnedC 15).cells) (results_cell_row rfl _ _ w.heap.size 202 (turnedC 15).cells (0,0) _ rfl (heap_alloc_new w _) Tryz.underlying202 rfl Tryz.sizeChange) rfl ⟨rfl,(Below.refl _ _).alloc (Nat.le_refl _) _⟩
 have b15:(v==15)=false:=by simp [h15]
 by_cases h16:v=16
 ·have HV:=hide (show turnedC v=⟨2,12,true,false⟩ by subst h16; rfl)
  subst h16
  go_enter Tryz.func160,Tryz.ntmps160
  go_wp2
  refine bodyPost_ret (v:=.agg (turnedC 16).cells) (results_cell_row rfl _ _ w.heap.size 202 (turnedC 16).cells (0,0) _ rfl (heap_alloc_new w _) Tryz.underlying202 rfl Tryz.sizeChange) rfl ⟨rfl,(Below.refl _ _).alloc (Nat.le_refl _) _⟩
 have b16:(v==16)=false:=by simp [h16]
 have HV:=hide (show turnedC v=⟨2,13,false,true⟩ by unfold turnedC; rw [if_neg h12,if_neg h13,if_neg h14,if_neg h15,if_neg h16])
 clear h12 h13 h14 h15 h16
 go_enter Tryz.func160,Tryz.ntmps160
 go_wp2
 rw [HV.out]
 refine bodyPost_ret (v:=.agg (Chg.cells ⟨2,13,false,true⟩)) (results_cell_row rfl _ _ w.heap.size 202 (Chg.cells ⟨2,13,false,true⟩) (0,0) _ rfl (heap_alloc_new w _) Tryz.underlying202 rfl Tryz.sizeChange) rfl ⟨rfl,(Below.refl _ _).alloc (Nat.le_refl _) _⟩
open Go.RowKit
def isSoS:ByteArray:=⟨#[73,116,32,105,115,32,115,111,46]⟩
def doorT:ByteArray:=⟨#[100,111,111,114]⟩
def sideL (L:Ld) (r d:Nat) (x:Bool):Ld :=
 if L.exit (L.exit r d - 1).toNat (oppN d)=(r:Int)+1 then (L.setShut r d x).setShut (L.exit r d - 1).toNat (oppN d) x else L.setShut r d x
def doorL (L:Ld) (b d:Nat) (C:Chg):Ld:=if exitL L b d=0 then L else if shutL L b d ≠ C.on then L else sideL L (L.room b).toNat d (!C.on)
def doorE (L:Ld) (b d:Nat) (C:Chg):List Ev :=
 if exitL L b d=0 then [tellE L b noThingS] else if shutL L b d ≠ C.on then [tellE L b isSoS]
 else [allE (doorL L b d C) { evN (doorL L b d C) C.event b with thing:=doorT }]
theorem opp_lt {d:Nat} (hd:d < 6):oppN d < 6:=by
 match d,hd with
 | 0,_ | 1,_ | 2,_ | 3,_ | 4,_ | 5,_=>decide
theorem rdoor_any {w0:World} {L:Ld} {Es:List Ev} {w:World} (hS:Sn 172 [] w0 L Es w) (hf:Fine L) (b d:Nat) (hb:b < 6) (hd:d < 6) (C:Chg) (hlen:Es.length≤800000) :
 Calls Tryz.prog 159 #[.pointer (some ⟨w0.heap.size,0,none⟩),.int .i64 (b:Int),.int .i64 (d:Int),.agg C.cells] w fun e w'=>e=.returned (.tuple #[])∧Sn 172 [] w0 (doorL L b d C) (Es++doorE L b d C) w'∧Stp w0.heap.size 165 w w':=by
 obtain ⟨r,hr,er⟩:=hf.room b hb
 have eE:exitL L b d=L.exit r d:=by unfold exitL; rw [er]; rfl
 have eS:shutL L b d=L.shut r d:=by unfold shutL; rw [er]; rfl
 have eR:(L.room b).toNat=r:=by rw [er]; rfl
 have hl:=hS.lt
 have X0:=hide (hS.alloc (.cells C.cells 202))
 have T0:=hide (Stp.below (o:=165) (below_box w (.cells C.cells 202)) hS.lt)
 have G0:=heap_alloc_new w (.cells C.cells 202)
 have k1:(w.alloc (.cells C.cells 202)).cell? ⟨w.heap.size,1,none⟩=some (.int .i64 C.event):=by rw [cell_of_row _ _ _ _ _ _ G0]; rfl
 have k2:(w.alloc (.cells C.cells 202)).cell? ⟨w.heap.size,2,none⟩=some (.bool C.on):=by rw [cell_of_row _ _ _ _ _ _ G0]; rfl
 have c3:=X0.out.being b 3 hb (by omega)
 have cE:=X0.out.room r (2+d) hr (by omega)
 have cS:=X0.out.room r (8+d) hr (by omega)
 have fS:=X0.out.soft (r*14+8+d)
 rw [show r*14+(2+d)=r*14+2+d by omega] at cE
 rw [show r*14+(8+d)=r*14+8+d by omega] at cS
 have e1:∀ (M:Ld) (r d:Nat),d < 6→M.roomCell r (2+d)=.int .i64 (M.exit r d):=fun M r d hd=>by rw [Nat.add_comm]; simp [Ld.roomCell,hd]
 have e2:∀ (M:Ld) (r d:Nat),M.roomCell r (8+d)=.bool (M.shut r d):=fun M r d=>by rw [show 8+d=(d+6)+2 by omega]; simp [Ld.roomCell]
 have E1:=hide e1
 have E2:=hide e2
 rw [e1 _ _ _ hd] at cE
 rw [e2] at cS
 simp only [Ld.beingCell] at c3
 rw [er] at c3
 have HF:=hide hf
 have hbi:(b:Int) < 6:=by omega
 have hri:(r:Int) < 6:=by omega
 have hdi:(d:Int) < 6:=by omega
 have hne:w.heap.size ≠ w0.heap.size:=by omega
 have hne2:w0.heap.size ≠ w.heap.size:=by omega
 clear hS hf er e2 e1 G0
 by_cases h0:L.exit r d=0
 ·have HE:=hide (show doorE L b d C=[tellE L b noThingS] by unfold doorE; rw [eE,if_pos h0])
  have HL:=hide (show doorL L b d C=L by unfold doorL; rw [eE,if_pos h0])
  have hb0:(L.exit r d==0)=true:=by simp [h0]
  clear h0 eE eS eR
  go_enter Tryz.func159,Tryz.ntmps159
  go_upto_region 1 with fail
  generalize w.alloc (.cells C.cells 202)=wa at *
  go_wp2_with fail
  refine (rtell_any X0.out b hb _ (by omega)).mono ?_
  rintro e w2 ⟨rfl,S2,T2⟩
  have A:=hide S2
  have B:=hide (T0.out.trans T2)
  clear S2 T2
  go_wp2
  go_end0
  exact ⟨rfl,by rw [HE.out,HL.out]; exact A.out,B.out⟩
 ·have hb0:(L.exit r d==0)=false:=by simp [h0]
  by_cases h1:L.shut r d ≠ C.on
  ·have HE:=hide (show doorE L b d C=[tellE L b isSoS] by unfold doorE; rw [eE,if_neg h0,eS,if_pos h1])
   have HL:=hide (show doorL L b d C=L by unfold doorL; rw [eE,if_neg h0,eS,if_pos h1])
   have hb1:(!(L.shut r d==C.on))=true:=by simpa using h1
   clear h0 h1 eE eS eR
   go_enter Tryz.func159,Tryz.ntmps159
   go_upto_region 1 with fail
   generalize w.alloc (.cells C.cells 202)=wa at *
   go_wp2_with fail
   go_quiet (fail)
   go_wp2_with fail
   refine (rtell_any (X0.out.drewN _) b hb _ (by omega)).mono ?_
   rintro e w2 ⟨rfl,S2,T2⟩
   have A:=hide S2
   have B:=hide (T0.out.trans ((X0.out.stp (below_drewN (Below.refl _ _) _) 165).trans T2))
   clear S2 T2
   go_wp2
   go_end0
   exact ⟨rfl,by rw [HE.out,HL.out]; exact A.out,B.out⟩
  ·have hb1:(!(L.shut r d==C.on))=false:=by simpa using h1
   obtain ⟨t,ht,et⟩:∃ t:Nat,t < 6∧L.exit r d=(t:Int)+1:=by
    rcases HF.out.exit r d hr hd with h | h
    ·exact absurd h h0
    ·exact h
   have HL0:doorL L b d C=sideL L r d (!C.on):=by unfold doorL; rw [eE,if_neg h0,eS,if_neg h1,eR]
   have HL:=hide HL0
   have HE:=hide (show doorE L b d C=[allE (sideL L r d (!C.on)) { evN (sideL L r d (!C.on)) C.event b with thing:=doorT }] by unfold doorE; rw [eE,if_neg h0,eS,if_neg h1,HL0])
   have et2:(L.exit r d - 1).toNat=t:=by rw [et]; omega
   have HD0:sideL L r d (!C.on)=if L.exit t (oppN d)=(r:Int)+1 then (L.setShut r d (!C.on)).setShut t (oppN d) (!C.on) else L.setShut r d (!C.on):=by unfold sideL; rw [et2]
   have hod:=opp_lt hd
   have hodi:(oppN d:Int) < 6:=by omega
   have hti:(t:Int) < 6:=by omega
   rw [et] at cE
   rw [et] at hb0
   have ET:=hide et
   have hw:wrap64 ((t:Int)+1 - 1)=(t:Int):=by rw [show (t:Int)+1 - 1=(t:Int) by omega]; simp only [wrap64]; omega
   clear h0 h1 eE eS eR HL0 et et2
   have HD:=hide HD0
   clear HD0
   go_enter Tryz.func159,Tryz.ntmps159
   go_upto_region 1 with fail
   generalize w.alloc (.cells C.cells 202)=wa at *
   go_wp2_with fail
   go_quiet (fail)
   go_wp2_with fail
   go_region
   go_wp2_with fail
   have Y0:=hide (X0.out.drewN (nq+1))
   have S2:Hid (Sn 172 [] w0 (L.setShut r d (!C.on)) Es ((wa.drewN (nq+1)).setCell ⟨w0.heap.size,r*14+8+d,none⟩ (.bool (!C.on)))):=Y0.out.set (by omega) (by rw [show r*14+8+d=r*14+(8+d) by omega]; exact L.up_shut r d hr hd (!C.on))
   have T2:Hid (Stp w0.heap.size 165 w ((wa.drewN (nq+1)).setCell ⟨w0.heap.size,r*14+8+d,none⟩ (.bool (!C.on)))):=T0.out.trans ((X0.out.stp (below_drewN (Below.refl _ _) (nq+1)) 165).trans (Stp.put (by omega)))
   refine (opposite_any d hd _).mono ?_
   rintro e w3 ⟨rfl,hw3⟩
   have hh:w3.heap[w.heap.size]?=wa.heap[w.heap.size]?:=by rw [hw3,Below.heap_setCell _ _ _ _ (by simp; omega)]; rfl
   have q1:w3.cell? ⟨w.heap.size,1,none⟩=some (.int .i64 C.event):=by rw [← k1]; simp only [World.cell?,hh]
   have q2:w3.cell? ⟨w.heap.size,2,none⟩=some (.bool C.on):=by rw [← k2]; simp only [World.cell?,hh]
   rw [← hw3] at S2 T2
   have dE:=S2.out.room r (2+d) hr (by omega)
   have tE:=S2.out.room t (2+oppN d) ht (by omega)
   have tS:=S2.out.room t (8+oppN d) ht (by omega)
   have fT:=S2.out.soft (t*14+8+oppN d)
   rw [show r*14+(2+d)=r*14+2+d by omega,E1.out _ _ _ hd] at dE
   rw [show t*14+(2+oppN d)=t*14+2+oppN d by omega,E1.out _ _ _ hod] at tE
   rw [show t*14+(8+oppN d)=t*14+8+oppN d by omega,E2.out] at tS
   change w3.cell? _=some (.int .i64 (L.exit r d)) at dE
   change w3.cell? _=some (.int .i64 (L.exit t (oppN d))) at tE
   rw [ET.out] at dE
   clear hw3 hh k1 k2 c3 cE cS fS X0 T0 Y0 hb0 hb1 ET
   generalize hod2:oppN d=od at *
   have HO:=hide hod2
   clear hod2
   by_cases hx:L.exit t od=(r:Int)+1
   ·have HD2:=hide (show sideL L r d (!C.on)=(L.setShut r d (!C.on)).setShut t od (!C.on) by rw [HD.out,if_pos hx])
    have hxb:(L.exit t od==(r:Int)+1)=true:=by simp [hx]
    clear hx HD
    go_wp2_with fail
    go_quiet (fail)
    go_wp2_with fail
    go_region
    have S4:Hid (Sn 172 [] w0 (sideL L r d (!C.on)) Es ((w3.drewN (nq+1)).setCell ⟨w0.heap.size,t*14+8+od,none⟩ (.bool (!C.on)))):=by
     rw [HD2.out]
     exact (S2.out.drewN (nq+1)).set (by omega) (by rw [show t*14+8+od=t*14+(8+od) by omega]; exact (L.setShut r d (!C.on)).up_shut t od ht hod (!C.on))
    have T4:Hid (Stp w0.heap.size 165 w ((w3.drewN (nq+1)).setCell ⟨w0.heap.size,t*14+8+od,none⟩ (.bool (!C.on)))):=T2.out.trans ((S2.out.stp (below_drewN (Below.refl _ _) (nq+1)) 165).trans (Stp.put (by omega)))
    clear HD2
    generalize sideL L r d (!C.on)=M at *
    go_wp2_with fail
    refine (revent_lit S4.out C.event b hb).mono ?_
    rintro e w5 ⟨rfl,hb5⟩
    have S5:=hide (S4.out.below hb5)
    have T5:=hide (T4.out.trans (S4.out.stp hb5 165))
    clear hb5 S4 T4 q1 q2 dE tE tS fT S2 T2
    go_wp2_with (first | (refine wl_new 71 (.tmp 12) (.tmp 70) rfl rfl _ _ rfl rfl rfl Tryz.sizeEvent rfl (by simp [Value.oneCell']) ?_) | (refine wl_event (.tmp 12) rfl rfl _ { evN M C.event b with thing:=doorT } rfl (heap_alloc_new w5 _) ?_))
    refine (happens_any (S5.out.alloc _) { evN M C.event b with thing:=doorT } (by omega)).mono ?_
    rintro e w6 ⟨rfl,S6h,T6h⟩
    have S6:=hide S6h
    have T6:=hide (T5.out.trans ((S5.out.stp (below_box w5 _) 165).trans T6h))
    clear S6h T6h S5 T5
    go_wp2
    go_end0
    exact ⟨rfl,by rw [HL.out,HE.out]; exact S6.out,T6.out⟩
   ·have HD2:=hide (show sideL L r d (!C.on)=L.setShut r d (!C.on) by rw [HD.out,if_neg hx])
    have hxb:(L.exit t od==(r:Int)+1)=false:=by simp [hx]
    clear hx HD
    go_wp2_with fail
    go_quiet (fail)
    have S4:Hid (Sn 172 [] w0 (sideL L r d (!C.on)) Es (w3.drewN nq)):=by
     rw [HD2.out]
     exact S2.out.drewN nq
    have T4:Hid (Stp w0.heap.size 165 w (w3.drewN nq)):=T2.out.trans (S2.out.stp (below_drewN (Below.refl _ _) nq) 165)
    clear HD2
    generalize sideL L r d (!C.on)=M at *
    go_wp2_with fail
    refine (revent_lit S4.out C.event b hb).mono ?_
    rintro e w5 ⟨rfl,hb5⟩
    have S5:=hide (S4.out.below hb5)
    have T5:=hide (T4.out.trans (S4.out.stp hb5 165))
    clear hb5 S4 T4 q1 q2 dE tE tS fT S2 T2
    go_wp2_with (first | (refine wl_new 71 (.tmp 12) (.tmp 70) rfl rfl _ _ rfl rfl rfl Tryz.sizeEvent rfl (by simp [Value.oneCell']) ?_) | (refine wl_event (.tmp 12) rfl rfl _ { evN M C.event b with thing:=doorT } rfl (heap_alloc_new w5 _) ?_))
    refine (happens_any (S5.out.alloc _) { evN M C.event b with thing:=doorT } (by omega)).mono ?_
    rintro e w6 ⟨rfl,S6h,T6h⟩
    have S6:=hide S6h
    have T6:=hide (T5.out.trans ((S5.out.stp (below_box w5 _) 165).trans T6h))
    clear S6h T6h S5 T5
    go_wp2
    go_end0
    exact ⟨rfl,by rw [HL.out,HE.out]; exact S6.out,T6.out⟩
open Go.RowKit
def boxL (L:Ld) (b:Nat) (word:ByteArray):Option Nat × ByteArray:=match nounL word.data.toList with
 | none=>(none,noThingS)
 | some (n,name,every)=>if every=true then (none,noThingS) else
  match meantL L (reachL L b) (n:Int) false (bs name) with
  | []=>(none,noThingS)
  | i::_=>if L.kind i.toNat=3 then (if L.on i.toNat=true then (some i.toNat,⟨#[]⟩) else (none,shutS)) else (none,noThingS)
theorem reach_lt {L:Ld} {b:Nat} {x:Int} (h:x ∈ reachL L b):∃ i:Nat,x=(i:Int)∧i < 9:=by
 rcases List.mem_append.1 h with h | h
 ·exact hand_lt h
 ·exact sight_lt h
theorem reach_len (L:Ld) (b:Nat):(reachL L b).length≤18:=by
 have h1:=hand_len L b
 have h2:=sight_len L b
 unfold reachL
 simp only [List.length_append]; omega
theorem box_lt {L:Ld} {b i:Nat} {word:ByteArray} (h:(boxL L b word).1=some i):i < 9∧(i:Int) ∈ reachL L b∧L.kind i=3∧L.on i=true:=by
 unfold boxL at h
 split at h
 ·simp at h
 ·split at h
  ·simp at h
  ·split at h
   ·simp at h
   ·rename_i n name every _ _ _ j r hq
    have hm:j ∈ reachL L b:=meant_mem (L:=L) (n:=(n:Int)) (all:=false) (name:=bs name) (by rw [hq]; exact List.mem_cons_self ..)
    obtain ⟨k,rfl,hk⟩:=reach_lt hm
    split at h
    ·split at h
     ·rename_i h3 h4
      simp at h h3 h4
      subst h
      exact ⟨hk,hm,h3,h4⟩
     ·simp at h
    ·simp at h
theorem rbox_any {w0:World} {L:Ld} {Es:List Ev} {w:World} (hS:Sn 172 [] w0 L Es w) (b:Nat) (hb:b < 6) (word:ByteArray) (hs:word.size≤140737488355328) (hlen:Es.length≤1000000) :
 Calls Tryz.prog 194 #[.pointer (some ⟨w0.heap.size,0,none⟩),.int .i64 (b:Int),.string word] w fun e w' =>
  (∃ i,(boxL L b word).1=some i∧e=.returned (.tuple #[.int .i64 (i:Int),.bool true])∧Sn 172 [] w0 L Es w'∧Stp w0.heap.size 165 w w') ∨
  ((boxL L b word).1=none∧e=.returned (.tuple #[.int .i64 0,.bool false])∧Sn 172 [] w0 L (Es++[tellE L b (boxL L b word).2]) w'∧Stp w0.heap.size 165 w w'):=by
 go_enter Tryz.func194,Tryz.ntmps194
 go_wp2_with fail
 refine (noun_any word _ hs).mono ?_
 rintro e w1 ⟨rfl,nd,hw1⟩
 have S1:=hide (show Sn 172 [] w0 L Es w1 by rw [hw1]; exact hS.drewN nd)
 have T1:=hide (show Stp w0.heap.size 165 w w1 by rw [hw1]; exact hS.stp (below_drewN (Below.refl _ _) nd) 165)
 clear hw1 hS
 cases hx:nounL word.data.toList with
 | none =>
  have HV:=hide (show boxL L b word=(none,noThingS) by unfold boxL; rw [hx])
  clear hx
  unfold nounA
  simp only
  go_wp2_with fail
  refine (rtell_any S1.out b hb _ hlen).mono ?_
  rintro e w2 ⟨rfl,S2h,T2h⟩
  have S2:=hide S2h
  have T2:=hide (T1.out.trans T2h)
  clear S2h T2h S1 T1
  go_wp2
  exact bodyPost_ret (v:=.tuple #[.int .i64 0,.bool false]) (res_two rfl _ _ _ _ rfl rfl) rfl (.inr ⟨by rw [HV.out],rfl,by rw [HV.out]; exact S2.out,T2.out⟩)
 | some r =>
  obtain ⟨n,name,every⟩:=r
  have hn99:=num_of hx
  cases he:every with
  | true =>
   subst he
   have HV:=hide (show boxL L b word=(none,noThingS) by unfold boxL; rw [hx]; simp)
   clear hx
   unfold nounA
   simp only
   go_wp2_with fail
   refine (rtell_any S1.out b hb _ hlen).mono ?_
   rintro e w2 ⟨rfl,S2h,T2h⟩
   have S2:=hide S2h
   have T2:=hide (T1.out.trans T2h)
   clear S2h T2h S1 T1
   go_wp2
   exact bodyPost_ret (v:=.tuple #[.int .i64 0,.bool false]) (res_two rfl _ _ _ _ rfl rfl) rfl (.inr ⟨by rw [HV.out],rfl,by rw [HV.out]; exact S2.out,T2.out⟩)
  | false =>
   subst he
   have HW:=hide (show boxL L b word=(match meantL L (reachL L b) (n:Int) false (bs name) with
    | []=>(none,noThingS)
    | i::_=>if L.kind i.toNat=3 then (if L.on i.toNat=true then (some i.toNat,⟨#[]⟩) else (none,shutS)) else (none,noThingS)) by unfold boxL; rw [hx]; simp)
   clear hx
   unfold nounA
   simp only
   go_wp2_with fail
   refine (reach_any S1.out b hb).mono ?_
   rintro e w2 ⟨v,rfl,ho,hb2⟩
   have S2:=hide (S1.out.below hb2)
   have T2:=hide (T1.out.trans (S1.out.stp hb2 165))
   have N2:=hide (numk_own S1.out hb2 ho)
   obtain ⟨av,cap,rfl⟩:=ho.shape
   have hrl:=reach_len L b
   clear ho hb2 S1 T1
   go_wp2_with fail
   refine (meant_any S2.out N2.out (fun x hx=>reach_lt hx) hrl { verb:=0,nth:=(n:Int),all:=false,name:=bs name,second:=⟨#[]⟩,text:=⟨#[]⟩ } (by show -9223372036854775808≤(n:Int); omega) (by show (n:Int)≤9223372036854775807; omega)).mono ?_
   rintro e w3 ⟨v',rfl,hK,hb3⟩
   have S3:=hide (S2.out.below hb3)
   have T3:=hide (T2.out.trans (S2.out.stp hb3 165))
   have NK:=hide hK
   obtain ⟨av3,cap3,rfl⟩:=hK.shape
   have HM:=hide (fun x (hx:x ∈ meantL L (reachL L b) (n:Int) false (bs name))=>reach_lt (meant_mem hx))
   have hml:(meantL L (reachL L b) (n:Int) false (bs name)).length≤1:=by
    unfold meantL nthL
    rw [if_neg (by simp)]
    split <;> simp
   clear hK hb3 S2 T2 N2
   simp only at NK ⊢
   generalize meantL L (reachL L b) (n:Int) false (bs name)=q at *
   cases q with
   | nil =>
    have HV:=hide (show boxL L b word=(none,noThingS) from HW.out)
    clear NK
    go_wp2_with fail
    go_quiet (fail)
    go_wp2_with fail
    refine (rtell_any (S3.out.drewN nq) b hb _ hlen).mono ?_
    rintro e w4 ⟨rfl,S4h,T4h⟩
    have S4:=hide S4h
    have T4:=hide ((T3.out.trans (S3.out.stp (below_drewN (Below.refl _ _) nq) 165)).trans T4h)
    clear S4h T4h S3 T3
    go_wp2
    exact bodyPost_ret (v:=.tuple #[.int .i64 0,.bool false]) (res_two rfl _ _ _ _ rfl rfl) rfl (.inr ⟨by rw [HV.out],rfl,by rw [HV.out]; exact S4.out,T4.out⟩)
   | cons x r =>
    obtain ⟨i,ei,hi⟩:=HM.out x (List.mem_cons_self ..)
    subst ei
    obtain ⟨bq,off,cap',e,hcell⟩:=NK.out.cell (k:=0) (by simp)
    injection e with e1 e2 e3
    subst e1 e3
    have hr0:r=[]:=List.eq_nil_of_length_eq_zero (by have h:=hml; simp only [List.length_cons] at h; omega)
    subst hr0
    simp only [Nat.add_zero,List.getD_cons_zero,List.length_cons,List.length_nil,Nat.zero_add] at hcell e2 ⊢
    have hii:(i:Int) < 9:=by omega
    have c1:=S3.out.thing i 1 hi (by omega)
    have c4:=S3.out.thing i 4 hi (by omega)
    simp only [Ld.thingCell] at c1 c4
    have HI:=hide (show boxL L b word=(if L.kind i=3 then (if L.on i=true then (some i,⟨#[]⟩) else (none,shutS)) else (none,noThingS)) from HW.out)
    clear NK HW HM e2 hml
    by_cases h3:L.kind i=3
    ·have hk3:(L.kind i != 3)=false:=by simp [h3]
     cases h4:L.on i with
     | true =>
      have HV:=hide (show boxL L b word=(some i,⟨#[]⟩) by rw [HI.out,if_pos h3,if_pos h4])
      rw [h4] at c4
      clear h3 h4 HI
      go_wp2_with fail
      go_quiet (fail)
      go_wp2_with fail
      go_quiet (fail)
      go_wp2
      refine bodyPost_ret (v:=.tuple #[.int .i64 (i:Int),.bool true]) (res_two rfl _ _ _ _ rfl rfl) rfl (.inl ⟨i,by rw [HV.out],rfl,S3.out.drewN _,T3.out.trans (S3.out.stp (below_drewN (Below.refl _ _) _) 165)⟩)
     | false =>
      have HV:=hide (show boxL L b word=(none,shutS) by rw [HI.out,if_pos h3,if_neg (by simp [h4])])
      rw [h4] at c4
      clear h3 h4 HI
      go_wp2_with fail
      go_quiet (fail)
      go_wp2_with fail
      go_quiet (fail)
      go_wp2_with fail
      refine (rtell_any (S3.out.drewN _) b hb _ hlen).mono ?_
      rintro e w4 ⟨rfl,S4h,T4h⟩
      have S4:=hide S4h
      have T4:=hide ((T3.out.trans (S3.out.stp (below_drewN (Below.refl _ _) _) 165)).trans T4h)
      clear S4h T4h S3 T3
      go_wp2
      exact bodyPost_ret (v:=.tuple #[.int .i64 0,.bool false]) (res_two rfl _ _ _ _ rfl rfl) rfl (.inr ⟨by rw [HV.out],rfl,by rw [HV.out]; exact S4.out,T4.out⟩)
    ·have hk3:(L.kind i != 3)=true:=by simp [h3]
     have HV:=hide (show boxL L b word=(none,noThingS) by rw [HI.out,if_neg h3])
     clear h3 HI
     go_wp2_with fail
     go_quiet (fail)
     go_wp2_with fail
     refine (rtell_any (S3.out.drewN nq) b hb _ hlen).mono ?_
     rintro e w4 ⟨rfl,S4h,T4h⟩
     have S4:=hide S4h
     have T4:=hide ((T3.out.trans (S3.out.stp (below_drewN (Below.refl _ _) nq) 165)).trans T4h)
     clear S4h T4h S3 T3
     go_wp2
     exact bodyPost_ret (v:=.tuple #[.int .i64 0,.bool false]) (res_two rfl _ _ _ _ rfl rfl) rfl (.inr ⟨by rw [HV.out],rfl,by rw [HV.out]; exact S4.out,T4.out⟩)
end Go.Proofs.YtncgcejlkmoliaaGreatDoor
