import Derived.Test.YtncgcejlkmoliaaGreatDoorMh05
import Derived.ChangeKeysEq
set_option linter.unusedVariables false
set_option maxRecDepth 100000
set_option maxHeartbeats 16000000
namespace Go.Proofs.YtncgcejlkmoliaaGreatDoor
open Go.RowKit
def OwnI (base:Nat) (w:World) (v:Value) (q:List Int):Prop:=w.ownsRow base 3 1 v q.length (icells q)
theorem OwnI.base {B B':Nat} {w:World} {v:Value} {q:List Int} (h:OwnI B w v q) (hB:B'≤B):OwnI B' w v q:=by
 refine ⟨h.1,?_⟩
 rcases h.2 with hn | ⟨g,cap,cur,rfl,h1,h2⟩
 ·exact .inl hn
 ·exact .inr ⟨g,cap,cur,rfl,Nat.le_trans hB h1,h2⟩
theorem OwnI.nums {B:Nat} {w:World} {v:Value} {q:List Int} (h:OwnI B w v q):Nums w v q:=nums_own h
theorem OwnI.shape {B:Nat} {w:World} {v:Value} {q:List Int} (h:OwnI B w v q):∃ (av:Option Addr) (cap:Nat),v=.slice av q.length cap:=own_shapeN h
theorem ownI_nil (B:Nat) (w:World):OwnI B w (.slice none 0 0) []:=World.ownsRow_nil _ _ _ _
theorem OwnI.below {B:Nat} {w w':World} {v:Value} {q:List Int} (h:OwnI B w v q) (hb:Below w.heap.size w w'):OwnI B w' v q:=by
 refine ⟨h.1,?_⟩
 rcases h.2 with hn | ⟨g,cap,cur,rfl,h1,h2,h3⟩
 ·exact .inl hn
 ·exact .inr ⟨g,cap,cur,rfl,h1,by rw [hb.block _ (Array.getElem?_eq_some_iff.1 h2).1]; exact h2,h3⟩
structure NumK (g o:Nat) (w:World) (v:Value) (q:List Int):Prop where
 nums:Nums w v q
 kept:∀ b off n c,0 < q.length→v=.slice (some ⟨b,off,none⟩) n c→Kept g o w b
theorem NumK.step {g o:Nat} {w w':World} {v:Value} {q:List Int} (h:NumK g o w v q) (hs:Stp g o w w'):NumK g o w' v q:=by
 refine ⟨?_,fun b off n c h0 e=>(hs.kept (h.kept b off n c h0 e)).1⟩
 obtain ⟨av,cap,rfl,hl,hm,hc⟩:=h.nums
 refine ⟨av,cap,rfl,hl,hm,fun h0=>?_⟩
 obtain ⟨b,off,rfl,hcell⟩:=hc h0
 refine ⟨b,off,rfl,fun i hi=>?_⟩
 have:=(hs.kept (h.kept b off _ _ h0 rfl)).2
 rw [← hcell i hi]
 simp only [World.cell?,this]
theorem numk_own {T:TypeId} {pre:List Value} {w0 w w':World} {L:Ld} {Es:List Ev} {v:Value} {q:List Int} (hS:Sn T pre w0 L Es w) (hb:Below w.heap.size w w') (ho:OwnI w.heap.size w' v q):NumK w0.heap.size (165+pre.length) w' v q:=by
 refine ⟨ho.nums,fun b off n c h0 e=>?_⟩
 subst e
 have:=ho.lt b rfl
 exact hS.kept hb this.1 this.2
theorem NumK.cell {g o:Nat} {w:World} {v:Value} {q:List Int} (h:NumK g o w v q) {k:Nat} (hk:k < q.length):∃ b off cap,v=.slice (some ⟨b,off,none⟩) q.length cap∧w.cell? ⟨b,off+k,none⟩=some (.int .i64 (q.getD k 0)):=by
 obtain ⟨b,off,cap,e,_,_,hc⟩:=h.nums.some (by omega)
 exact ⟨b,off,cap,e,hc k hk⟩
theorem NumK.shape {g o:Nat} {w:World} {v:Value} {q:List Int} (h:NumK g o w v q):∃ (av:Option Addr) (cap:Nat),v=.slice av q.length cap:=by
 obtain ⟨av,cap,e,_⟩:=h.nums; exact ⟨av,cap,e⟩
theorem rhand_any {w0:World} {L:Ld} {Es:List Ev} {w:World} (hS:Sn 172 [] w0 L Es w) (b:Nat) :
 Calls Tryz.prog 165 #[.pointer (some ⟨w0.heap.size,0,none⟩),.int .i64 (b:Int)] w fun e w'=>∃ v,e=.returned v∧OwnI w.heap.size w' v (handL L b)∧Below w.heap.size w w':=by
 have HS:=hide hS
 clear hS
 go_enter Tryz.func165,Tryz.ntmps165
 go_wp2_with (refine wl_scene (.tmp 7) rfl rfl rfl HS.out ?_)
 refine (has_own L 1 (b:Int) _).mono ?_
 rintro e w1 ⟨v,rfl,ho,hb⟩
 have A:=hide (OwnI.base (show OwnI _ _ _ _ from ho) (Nat.le_succ _))
 have B:=hide hb
 obtain ⟨av,cap,rfl⟩:=own_shapeN ho
 clear ho hb
 go_wp2
 go_ret
 exact ⟨_,rfl,A.out,B.out⟩
theorem sight_any {w0:World} {L:Ld} {Es:List Ev} {w:World} (hS:Sn 172 [] w0 L Es w) (b:Nat) (hb:b < 6) :
 Calls Tryz.prog 192 #[.pointer (some ⟨w0.heap.size,0,none⟩),.int .i64 (b:Int)] w fun e w'=>∃ v,e=.returned v∧OwnI w.heap.size w' v (sightL L b)∧Below w.heap.size w w':=by
 have HS:=hide hS
 have c3:=hS.being b 3 hb (by omega)
 simp only [Ld.beingCell] at c3
 clear hS
 go_enter Tryz.func192,Tryz.ntmps192
 go_wp2_with (refine wl_scene (.tmp 16) rfl rfl rfl HS.out ?_)
 refine (bright_any L (L.room b) _).mono ?_
 rintro e w1 ⟨rfl,hb1⟩
 have S1:=hide (HS.out.below hb1)
 have B1:=hide hb1
 clear hb1 c3
 cases hx:brightL L (L.room b) with
 | false =>
  have HV:=hide (show sightL L b=[] by unfold sightL; rw [if_neg (by simp [hx])])
  clear hx
  go_wp2
  go_ret
  exact ⟨_,rfl,by rw [HV.out]; exact ownI_nil _ _,B1.out⟩
 | true =>
  have HV:=hide (show sightL L b=hasK L 0 (L.room b) 9 by unfold sightL; rw [if_pos hx])
  clear hx
  go_wp2_with (refine wl_scene (.tmp 23) rfl rfl rfl S1.out ?_)
  refine (has_own L 0 (L.room b) _).mono ?_
  rintro e w2 ⟨v,rfl,ho,hb2⟩
  have A:=hide (OwnI.base (show OwnI _ _ _ _ from ho) (show w.heap.size≤w1.heap.size+1 by have:=B1.out.size; omega))
  have B2:=hide (B1.out.trans (hb2.mono B1.out.size))
  obtain ⟨av,cap,rfl⟩:=own_shapeN ho
  clear ho hb2
  go_wp2
  go_ret
  exact ⟨_,rfl,by rw [HV.out]; exact A.out,B2.out⟩
theorem seesOther_any {w0:World} {L:Ld} {Es:List Ev} {w:World} (hS:Sn 172 [] w0 L Es w) (b c:Nat) :
 Calls Tryz.prog 193 #[.pointer (some ⟨w0.heap.size,0,none⟩),.int .i64 (b:Int),.int .i64 (c:Int)] w fun e w'=>e=.returned (.bool (seesO L b c))∧Below w.heap.size w w':=by
 have HS:=hide hS
 clear hS
 by_cases hc:c=b
 ·subst hc
  have HV:=hide (show seesO L c c=false by simp [seesO])
  go_enter Tryz.func193,Tryz.ntmps193
  go_wp2
  go_ret
  exact ⟨ret_bool HV.out.symm,Below.refl _ _⟩
 ·have hne:((c:Int) != (b:Int))=true:=by simp; omega
  have HV:=hide (show seesO L b c=seesL L (b:Int) (c:Int) by simp [seesO,hc])
  clear hc
  go_enter Tryz.func193,Tryz.ntmps193
  go_wp2_with (refine wl_scene (.tmp 13) rfl rfl rfl HS.out ?_)
  refine (sees_any L (b:Int) (c:Int) _).mono ?_
  rintro e w1 ⟨rfl,hb1⟩
  go_wp2
  go_ret
  exact ⟨ret_bool HV.out.symm,hb1⟩
theorem star_any (s:Bool) (w:World):Calls Tryz.prog 202 #[.bool s] w fun e w'=>e=.returned (.string (starT s))∧w'=w:=by
 cases s with
 | true =>
  go_enter Tryz.func202,Tryz.ntmps202
  go_wp2
  go_ret
  exact ⟨rfl,rfl⟩
 | false =>
  go_enter Tryz.func202,Tryz.ntmps202
  go_wp2
  go_ret
  exact ⟨rfl,rfl⟩
open Go.RowKit
theorem names_size {L:Ld} (hf:Fine L):∀ (q:List Int),(∀ x ∈ q,∃ i:Nat,x=(i:Int)∧i < 9)→(namesK L q).size≤q.length*1048578:=by
 intro q
 induction q with
 | nil=>intro _; exact Nat.le_refl 0
 | cons a q ih =>
  intro h
  have:=ih (fun x hx=>h x (List.mem_cons_of_mem _ hx))
  obtain ⟨i,e,hi⟩:=h a (List.mem_cons_self ..)
  have h1:=hf.tname a.toNat (by omega)
  have h2:=star_size (L.on a.toNat)
  have h3:(⟨#[32]⟩:ByteArray).size=1:=rfl
  simp only [namesK,ByteArray.size_append,h3,List.length_cons]
  omega
theorem names_some (L:Ld) {q:List Int} (h:q ≠ []):(namesK L q).toList.isEmpty=false:=by
 cases q with
 | nil=>exact absurd rfl h
 | cons a q =>
  rw [Lib.toList_data]
  simp only [namesK]
  simp
theorem take_snoc {q:List Int} {k:Nat} (hk:k < q.length):q.take (k+1)=q.take k++[q.getD k 0]:=by
 rw [List.take_succ_eq_append_getElem hk]; simp [hk]
theorem listed_any {w0:World} {L:Ld} {Es:List Ev} {w:World} (hS:Sn 172 [] w0 L Es w) (hf:Fine L) {v:Value} {q:List Int} (hN:NumK w0.heap.size 165 w v q) (hq:∀ x ∈ q,∃ i:Nat,x=(i:Int)∧i < 9) (hlen:q.length≤18) :
 Calls Tryz.prog 164 #[.pointer (some ⟨w0.heap.size,0,none⟩),v] w fun e w'=>e=.returned (.string (listedT L q))∧Below w.heap.size w w':=by
 have HS:=hide hS
 have HN:=hide hN
 have HQ:=hide hq
 have HF:=hide hf
 obtain ⟨av,cap,rfl⟩:=hN.shape
 clear hS hN hq hf
 generalize hn:q.length=n at *
 have HNn:=hide hn
 clear hn
 go_enter Tryz.func164,Tryz.ntmps164
 go_wp2
 go_loopw [5,10] (fun t c wr=>∃ k:Nat,k≤n∧c=.int .i64 k∧t=.string (namesK L (q.take k))∧∃ m,wr=w.drewN m) (fun _ c _=>n - (intOf c).toNat)
 case atStart=>exact ⟨0,by omega,rfl,rfl,0,rfl⟩
 case round =>
  obtain ⟨k,hle,rfl,rfl,m,rfl⟩:=hrel
  by_cases hk:k < n
  ·have hkq:k < q.length:=by rw [HNn.out]; exact hk
   obtain ⟨b,off,cap',e,hcell⟩:=HN.out.cell hkq
   rw [HNn.out] at e
   injection e with e1 e2 e3
   subst e1 e3
   obtain ⟨i,ei,hi⟩:=HQ.out _ (getD_mem hkq)
   have HT:=hide (show namesK L (q.take (k+1))=namesK L (q.take k)++(⟨#[32]⟩++L.tname i++starT (L.on i)) by rw [take_snoc hkq,names_snoc,ei]; rfl)
   rw [ei] at hcell
   have c0:=HS.out.thing i 0 hi (by omega)
   have c4:=HS.out.thing i 4 hi (by omega)
   simp only [Nat.add_zero,Ld.thingCell] at c0 c4
   have hci:(i:Int) < 9:=by omega
   have hs0:(namesK L (q.take k)).size≤20000000:=by
    have:=names_size HF.out (q.take k) (fun x hx=>HQ.out x (List.mem_of_mem_take hx))
    have h2:(q.take k).length≤18:=by simp; omega
    have:(q.take k).length*1048578≤18*1048578:=Nat.mul_le_mul_right _ h2
    omega
   have hs1:=HF.out.tname i hi
   have hs2:=star_size (L.on i)
   have hs4:(⟨#[32]⟩:ByteArray).size=1:=rfl
   clear ei
   generalize namesK L (q.take k)=A at *
   go_wp2_with fail
   go_region_with (go_at_call 202; refine (star_any _ _).mono ?_; rintro e x2 ⟨rfl,hx2⟩; rw [hx2]; clear hx2 x2)
   all_goals go_wp2
   all_goals go_roundw
   all_goals first | exact ⟨k+1,by omega,by go_num,by rw [HT.out],m+1,rfl⟩ | (simp [intOf]; omega)
  ·have hkn:k=n:=by omega
   subst hkn
   have hall:q.take k=q:=by rw [← HNn.out]; exact List.take_length
   rw [hall]
   have hs0:(namesK L q).size≤20000000:=by
    have:=names_size HF.out q HQ.out
    have:q.length*1048578≤18*1048578:=Nat.mul_le_mul_right _ (by rw [HNn.out]; exact hlen)
    omega
   by_cases h0:q=[]
   ·have HV:=hide (show listedT L q=⟨#[32,110,111,116,104,105,110,103]⟩++⟨#[46]⟩ by unfold listedT; rw [if_pos h0]; rfl)
    have he:(namesK L q).toList.isEmpty=true:=by subst h0; rw [Lib.toList_data]; rfl
    clear h0 hall
    generalize namesK L q=A at *
    go_wp2
    go_ret
    exact ⟨ret_str HV.out.symm,below_drewN (Below.refl _ _) _⟩
   ·have HV:=hide (show listedT L q=namesK L q++⟨#[46]⟩ by unfold listedT; rw [if_neg h0]; rfl)
    have he:=names_some L h0
    clear h0 hall
    generalize namesK L q=A at *
    go_wp2
    go_ret
    exact ⟨ret_str HV.out.symm,below_drewN (Below.refl _ _) _⟩
open Go.RowKit
def groom (e:Nat→Int) (s:Nat→Bool):Bool:=(List.range 6).all fun d=>(if e d=0 then !s d else amg (e d - 1) 6)
theorem Tryz.info4:(Tryz.prog.info? 4).map (fun i=>(i.zero,i.size,i.bytes))=some (some (.bool false),1,1):=by kernel_rfl
theorem Tryz.sizeBools:(Tryz.prog.info? 32).map (·.size)=some 6:=by kernel_rfl
theorem Tryz.sizeInts:(Tryz.prog.info? 31).map (·.size)=some 6:=by kernel_rfl
theorem part4 (i:Nat) (x:Bool) (xs:Array Value) (h:xs[i]?=some (.bool x)) (w:World):(part 4 xs i).run Tryz.prog w=.ok (.bool x) w:=by
 have ha:(isAgg 4).run Tryz.prog w=.ok false w:=by unfold isAgg; rw [Sem.run_bind,run_underlying Tryz.underlying4 w]; rfl
 simp [part,ha,h]
theorem part3 (i:Nat) (x:Int) (xs:Array Value) (h:xs[i]?=some (.int .i64 x)) (w:World):(part 3 xs i).run Tryz.prog w=.ok (.int .i64 x) w:=by
 have ha:(isAgg 3).run Tryz.prog w=.ok false w:=by unfold isAgg; rw [Sem.run_bind,run_underlying Tryz.underlying3 w]; rfl
 simp [part,ha,h]
theorem eq_bools (d:Nat) (f g:Nat→Bool) (xs ys:Array Value) (w:World):∀ (is:List Nat),(∀ j ∈ is,xs[j]?=some (.bool (f j)))→(∀ j ∈ is,ys[j]?=some (.bool (g j))) →
 (Op.eqItems (d+1) 4 1 xs ys is).run Tryz.prog w=.ok (is.all fun j=>f j==g j) w:=by
 intro is
 induction is with
 | nil=>intro _ _; simp [Op.eqItems]
 | cons j is ih =>
  intro hx hy
  have ih:=ih (fun k hk=>hx k (List.mem_cons_of_mem _ hk)) (fun k hk=>hy k (List.mem_cons_of_mem _ hk))
  simp only [Op.eqItems,Sem.run_bind,Nat.mul_one,part4 j _ xs (hx j (List.mem_cons_self ..)),part4 j _ ys (hy j (List.mem_cons_self ..)),Result.andThen_ok,run_equalIn_bool _ d 4 _ _ Tryz.underlying4]
  cases hb:(f j==g j)
  ·simp [hb]
  ·simp [hb,ih]
def bools (f:Nat→Bool):Array Value:=#[.bool (f 0),.bool (f 1),.bool (f 2),.bool (f 3),.bool (f 4),.bool (f 5)]
def ints (f:Nat→Int):Array Value:=#[.int .i64 (f 0),.int .i64 (f 1),.int .i64 (f 2),.int .i64 (f 3),.int .i64 (f 4),.int .i64 (f 5)]
theorem bools_get (f:Nat→Bool) (j:Nat) (hj:j < 6):(bools f)[j]?=some (.bool (f j)):=by
 match j,hj with
 | 0,_=>rfl
 | 1,_=>rfl
 | 2,_=>rfl
 | 3,_=>rfl
 | 4,_=>rfl
 | 5,_=>rfl
theorem ints_get (f:Nat→Int) (j:Nat) (hj:j < 6):(ints f)[j]?=some (.int .i64 (f j)):=by
 match j,hj with
 | 0,_=>rfl
 | 1,_=>rfl
 | 2,_=>rfl
 | 3,_=>rfl
 | 4,_=>rfl
 | 5,_=>rfl
theorem eq38 (f g:Nat→Bool) (w:World):(Op.equalIn 10000 32 (.agg (bools f)) (.agg (bools g))).run Tryz.prog w=.ok ((List.range 6).all fun j=>f j==g j) w:=by
 obtain ⟨i0,hi,_,_,_⟩:=info_parts Tryz.info4
 rw [run_equalIn_array (P:=Tryz.prog) w 9999 _ _ Tryz.underlying32 hi,Tryz.cells4]
 exact eq_bools 9998 f g _ _ w _ (fun j hj=>bools_get f j (by simpa using hj)) (fun j hj=>bools_get g j (by simpa using hj))
theorem index37 (f:Nat→Int) (k:Nat) (hk:k < 6) (w:World):(Instr.index 31 (.agg (ints f)) (.int .i64 (k:Int))).run Tryz.prog w=.ok (.int .i64 (f k)) w:=by
 have hk':(k:Int) < ((6:Nat):Int):=by omega
 have h0:(0:Int)≤(k:Int):=by omega
 obtain ⟨i0,hi,_,hs,_⟩:=info_parts Tryz.info3
 have hsz:(sizeOf 3).run Tryz.prog w=.ok 1 w:=by simp [sizeOf,typeInfo,hi,hs]
 simp only [Instr.index,asIntOf,Sem.run_bind,Sem.run_pure,Result.andThen_ok,run_underlying Tryz.underlying31,hk',h0,and_self,if_true,hsz,Int.toNat_natCast,Nat.mul_one]
 exact part3 k _ _ (ints_get f k hk) w
def mayK (e:Nat→Int) (s:Nat→Bool) (k d:Nat):Bool:=if d < k∧e d=0 then false else s d
theorem bools_set (f:Nat→Bool) (k:Nat) (hk:k < 6):(bools f).setIfInBounds k (.bool false)=bools (fun d=>if d=k then false else f d):=by
 match k,hk with
 | 0,_=>rfl
 | 1,_=>rfl
 | 2,_=>rfl
 | 3,_=>rfl
 | 4,_=>rfl
 | 5,_=>rfl
theorem may_zero {e:Nat→Int} {s:Nat→Bool} {k:Nat} (h:e k=0):(fun d=>if d=k then false else mayK e s k d)=mayK e s (k+1):=by
 funext d
 unfold mayK
 by_cases hd:d=k
 ·subst hd; rw [if_pos rfl,if_pos ⟨by omega,h⟩]
 ·rw [if_neg hd]
  by_cases hc:d < k∧e d=0
  ·rw [if_pos hc,if_pos ⟨by omega,hc.2⟩]
  ·rw [if_neg hc,if_neg (fun h=>hc ⟨by omega,h.2⟩)]
theorem may_not {e:Nat→Int} {s:Nat→Bool} {k:Nat} (h:e k ≠ 0):mayK e s k=mayK e s (k+1):=by
 funext d
 unfold mayK
 by_cases hc:d < k∧e d=0
 ·rw [if_pos hc,if_pos ⟨by omega,hc.2⟩]
 ·rw [if_neg hc,if_neg]
  rintro ⟨h1,h2⟩
  rcases Nat.lt_or_ge d k with h3 | h3
  ·exact hc ⟨h3,h2⟩
  ·exact h (by rw [← show d=k by omega]; exact h2)
theorem groom_end {e:Nat→Int} {s:Nat→Bool} (h:∀ d,d < 6→e d=0∨amg (e d - 1) 6=true):groom e s=(List.range 6).all fun j=>s j==mayK e s 6 j:=by
 unfold groom
 rw [Bool.eq_iff_iff]
 simp only [List.all_eq_true,List.mem_range]
 refine forall_congr' fun d=>?_
 refine forall_congr' fun hd=>?_
 rcases h d hd with h0 | h0
 ·rw [if_pos h0]; unfold mayK; rw [if_pos ⟨hd,h0⟩]; cases s d <;> simp
 ·have hne:e d ≠ 0:=by intro e0; rw [e0] at h0; simp [amg] at h0
  rw [if_neg hne]; unfold mayK; rw [if_neg (fun h=>hne h.2)]; simp [h0]
theorem groom_bad {e:Nat→Int} {s:Nat→Bool} {d:Nat} (hd:d < 6) (h0:e d ≠ 0) (h:amg (e d - 1) 6=false):groom e s=false:=by
 unfold groom
 rw [Bool.eq_false_iff]
 intro hall
 have:=List.all_eq_true.1 hall d (by simp [hd])
 rw [if_neg h0,h] at this
 simp at this
def rmc (nm:ByteArray) (dk:Bool) (e:Nat→Int) (s:Nat→Bool):Array Value:=#[.string nm,.bool dk,.int .i64 (e 0),.int .i64 (e 1),.int .i64 (e 2),.int .i64 (e 3),.int .i64 (e 4),.int .i64 (e 5),
 .bool (s 0),.bool (s 1),.bool (s 2),.bool (s 3),.bool (s 4),.bool (s 5)]
structure GRel (nm:ByteArray) (dk:Bool) (e:Nat→Int) (s:Nat→Bool) (w:World) (k:Nat) (wr:World):Prop where
 le:k≤6
 room:wr.heap[w.heap.size]?=some (.cells (rmc nm dk e s) 34 (0,0))
 may:wr.heap[w.heap.size+1]?=some (.cells (bools (mayK e s k)) 32 (0,0))
 low:Below w.heap.size w wr
 ok:∀ d,d < k→e d=0∨amg (e d - 1) 6=true
theorem GRel.start {nm:ByteArray} {dk:Bool} {e:Nat→Int} {s:Nat→Bool} {w:World} :
 GRel nm dk e s w 0 ((w.alloc (.cells (rmc nm dk e s) 34)).alloc (.cells (bools s) 32)):=by
 refine ⟨by omega,?_,?_,((Below.refl _ _).alloc (Nat.le_refl _) _).alloc (by simp) _,fun d h=>by omega⟩
 ·rw [Below.heap_alloc _ _ _ (by simp)]; exact heap_alloc_new w _
 ·have:=heap_alloc_new (w.alloc (.cells (rmc nm dk e s) 34)) (.cells (bools s) 32)
  rw [World.size_alloc] at this
  have e0:mayK e s 0=s:=by funext d; unfold mayK; rw [if_neg (fun h=>by omega)]
  rw [e0]; exact this
section
variable {nm:ByteArray} {dk:Bool} {e:Nat→Int} {s:Nat→Bool} {w wr:World} {k:Nat}
theorem GRel.zero (h:GRel nm dk e s w k wr) (hk:k < 6) (h0:e k=0):GRel nm dk e s w (k+1) (wr.setCell ⟨w.heap.size+1,k,none⟩ (.bool false)):=by
 refine ⟨by omega,?_,?_,h.low.setCell (by simp) _,fun d hd=>?_⟩
 ·rw [Below.heap_setCell _ _ _ _ (by simp)]; exact h.room
 ·rw [heap_setCell_same wr (w.heap.size+1) k _ _ _ h.may,bools_set _ k hk,may_zero h0]
 ·rcases Nat.lt_or_ge d k with h1 | h1
  ·exact h.ok d h1
  ·rw [show d=k by omega]; exact .inl h0
theorem GRel.more (h:GRel nm dk e s w k wr) (hk:k < 6) (h0:e k ≠ 0) (ha:amg (e k - 1) 6=true):GRel nm dk e s w (k+1) wr:=by
 refine ⟨by omega,h.room,?_,h.low,fun d hd=>?_⟩
 ·rw [← may_not h0]; exact h.may
 ·rcases Nat.lt_or_ge d k with h1 | h1
  ·exact h.ok d h1
  ·rw [show d=k by omega]; exact .inr ha
end
theorem room_good_any (nm:ByteArray) (dk:Bool) (e:Nat→Int) (s:Nat→Bool) (w:World) (hb:∀ d,d < 6→-9223372036854775808≤e d∧e d≤9223372036854775807) :
 Calls Tryz.prog 61 #[.agg (rmc nm dk e s)] w fun r w'=>r=.returned (.bool (groom e s))∧Below w.heap.size w w':=by
 have HB:=hide hb
 clear hb
 have S:=hide (GRel.start (nm:=nm) (dk:=dk) (e:=e) (s:=s) (w:=w))
 unfold rmc
 go_enter Tryz.func61,Tryz.ntmps61
 go_wp2_with (refine wl_new 32 (.tmp 3) (.tmp 7) rfl rfl _ _ rfl rfl rfl Tryz.sizeBools rfl rfl ?_)
 go_loopw [10] (fun c wr=>∃ k:Nat,c=.int .i64 k∧GRel nm dk e s w k wr) (fun c _=>6 - (intOf c).toNat)
 case atStart=>exact ⟨0,rfl,S.out⟩
 case round =>
  obtain ⟨k,rfl,R⟩:=hrel
  have hle:=R.le
  by_cases hk:k < 6
  ·have hix:=index37 e k hk
   unfold ints at hix
   by_cases h0:e k=0
   ·have RN:=hide (R.zero hk h0)
    have cm:wr.cell? ⟨w.heap.size+1,k,none⟩=some (.bool (mayK e s k k)):=by rw [cell_of_row _ _ _ _ _ _ R.may,bools_get _ k hk]
    have cf:wr.frozen? ⟨w.heap.size+1,k,none⟩=false:=by simp [World.frozen?,R.may]
    have hb0:(e k==0)=true:=by simp [h0]
    clear h0 R
    go_wp2
    go_roundw
    case rel=>exact ⟨k+1,by go_num,RN.out⟩
    case measure=>simp [intOf]; omega
   ·have hb0:(e k==0)=false:=by simp [h0]
    have H0:=hide h0
    have HR:=hide R
    clear R h0
    have HW:=hide (amg_wrap (e k) 6 (by omega) (HB.out k hk).1 (HB.out k hk).2)
    go_wp2_with fail
    refine (among_any _ 6 _).mono ?_
    rintro r w1 ⟨rfl,hw⟩
    rw [hw,HW.out]
    clear hw w1
    cases ha:amg (e k - 1) 6 with
    | false =>
     have HG:=hide (groom_bad (s:=s) hk H0.out ha)
     clear ha
     go_wp2
     go_ret
     exact ⟨ret_bool HG.out.symm,HR.out.low⟩
    | true =>
     have RN:=hide (HR.out.more hk H0.out ha)
     clear ha
     go_wp2
     go_roundw
     case rel=>exact ⟨k+1,by go_num,RN.out⟩
     case measure=>simp [intOf]; omega
  ·have hk6:k=6:=by omega
   subst hk6
   have HG:=hide (groom_end (s:=s) R.ok)
   have hlow:=hide R.low
   have q:=fun o=>cell_of_row wr w.heap.size o _ _ _ R.room
   have q8:wr.cell? ⟨w.heap.size,8,none⟩=some (.bool (s 0)):=q 8
   have q9:wr.cell? ⟨w.heap.size,9,none⟩=some (.bool (s 1)):=q 9
   have q10:wr.cell? ⟨w.heap.size,10,none⟩=some (.bool (s 2)):=q 10
   have q11:wr.cell? ⟨w.heap.size,11,none⟩=some (.bool (s 3)):=q 11
   have q12:wr.cell? ⟨w.heap.size,12,none⟩=some (.bool (s 4)):=q 12
   have q13:wr.cell? ⟨w.heap.size,13,none⟩=some (.bool (s 5)):=q 13
   have m:=fun o=>cell_of_row wr (w.heap.size+1) o _ _ _ R.may
   have m0:wr.cell? ⟨w.heap.size+1,0,none⟩=some (.bool (mayK e s 6 0)):=m 0
   have m1:wr.cell? ⟨w.heap.size+1,1,none⟩=some (.bool (mayK e s 6 1)):=m 1
   have m2:wr.cell? ⟨w.heap.size+1,2,none⟩=some (.bool (mayK e s 6 2)):=m 2
   have m3:wr.cell? ⟨w.heap.size+1,3,none⟩=some (.bool (mayK e s 6 3)):=m 3
   have m4:wr.cell? ⟨w.heap.size+1,4,none⟩=some (.bool (mayK e s 6 4)):=m 4
   have m5:wr.cell? ⟨w.heap.size+1,5,none⟩=some (.bool (mayK e s 6 5)):=m 5
   have hq:=eq38 s (mayK e s 6)
   unfold bools at hq
   rw [← HG.out] at hq
   clear q m R
   go_wp2
   go_ret
   exact ⟨rfl,hlow.out⟩
open Go.RowKit
theorem ways_size (L:Ld) (r k:Nat) (hk:k≤6):(waysK L r k).size≤k*10:=by
 induction k with
 | zero=>exact Nat.le_refl 0
 | succ k ih =>
  have:=ih (by omega)
  simp only [waysK]
  split
  ·omega
  ·have h1:=star_size (L.shut r k)
   have h2:(bs (calledI (k:Int))).size≤5:=by
    rw [bs_size,calledI_nat]
    match k,hk with
    | 0,_ | 1,_ | 2,_ | 3,_ | 4,_ | 5,_=>decide
   have h3:(⟨#[32]⟩:ByteArray).size=1:=rfl
   simp only [ByteArray.size_append,h3]
   omega
theorem ways_any (L:Ld) (r:Nat) (w:World) (hv:Vb w) :
 Calls Tryz.prog 191 #[.agg (L.rcells r)] w fun e w'=>e=.returned (.string (waysK L r 6))∧Below w.heap.size w w':=by
 have HV:=hide hv
 clear hv
 unfold Ld.rcells
 go_enter Tryz.func191,Tryz.ntmps191
 go_wp2
 go_loopw [3,8] (fun t c wr=>∃ k:Nat,k≤6∧c=.int .i64 k∧t=.string (waysK L r k)∧wr.heap[w.heap.size]?=some (.cells (L.rcells r) 34 (0,0))∧Below w.heap.size w wr) (fun _ c _=>6 - (intOf c).toNat)
 case atStart=>exact ⟨0,by omega,rfl,rfl,heap_alloc_new w _,below_box w _⟩
 case round =>
  obtain ⟨k,hle,rfl,rfl,hg,hlow⟩:=hrel
  have HG:=hide hg
  have HL:=hide hlow
  clear hg hlow
  by_cases hk:k < 6
  ·have hix:=index37 (L.exit r) k hk
   unfold ints at hix
   by_cases h0:L.exit r k=0
   ·have hb0:(L.exit r k != 0)=false:=by simp [h0]
    have HN:=hide (show waysK L r (k+1)=waysK L r k by simp only [waysK]; rw [if_pos h0])
    clear h0
    go_wp2
    go_roundw
    case rel=>exact ⟨k+1,by omega,by go_num,by rw [HN.out],HG.out,HL.out⟩
    case measure=>simp [intOf]; omega
   ·have hb0:(L.exit r k != 0)=true:=by simp [h0]
    have HN:=hide (show waysK L r (k+1)=waysK L r k++(⟨#[32]⟩++bs (calledI (k:Int))++starT (L.shut r k)) by simp only [waysK]; rw [if_neg h0])
    have hcell:wr.cell? ⟨w.heap.size,8+k,none⟩=some (.bool (L.shut r k)):=by
     rw [cell_of_row wr _ _ _ _ _ HG.out,L.rcells_get r _ (by omega)]
     match k,hk with
     | 0,_ | 1,_ | 2,_ | 3,_ | 4,_ | 5,_=>rfl
    have hki:(k:Int) < 6:=by omega
    have hs1:(waysK L r k).size≤60:=by have:=ways_size L r k (by omega); omega
    have hs2:(bs (calledI (k:Int))).size≤5:=by
     rw [bs_size,calledI_nat]
     match k,hk with
     | 0,_ | 1,_ | 2,_ | 3,_ | 4,_ | 5,_=>decide
    have hs3:=star_size (L.shut r k)
    have hs4:(⟨#[32]⟩:ByteArray).size=1:=rfl
    have VV:=hide (HV.out.below HL.out (Nat.le_refl _))
    clear h0
    generalize waysK L r k=A at *
    go_wp2_with fail
    have HL2:=hide HL.out.drew
    have HG2:Hid (wr.drew.heap[w.heap.size]?=some (.cells (L.rcells r) 34 (0,0))):=HG.out
    have VD:=hide (VV.out.drewN 1)
    go_region_with (first | (go_at_call 91; refine (called_any (k:Int) _ VD.out).mono ?_; rintro e x1 ⟨rfl,hx1⟩; rw [hx1]; clear hx1 x1) | (go_at_call 202; refine (star_any _ _).mono ?_; rintro e x2 ⟨rfl,hx2⟩; rw [hx2]; clear hx2 x2))
    all_goals go_wp2
    all_goals go_roundw
    all_goals first | exact ⟨k+1,by omega,by go_num,by rw [HN.out],HG2.out,HL2.out⟩ | (simp [intOf]; omega)
  ·have hk6:k=6:=by omega
   subst hk6
   go_wp2
   go_ret
   exact ⟨rfl,HL.out⟩
end Go.Proofs.YtncgcejlkmoliaaGreatDoor
