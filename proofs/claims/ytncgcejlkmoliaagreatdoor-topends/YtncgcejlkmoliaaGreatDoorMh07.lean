import Derived.Test.YtncgcejlkmoliaaGreatDoorMh06
set_option linter.unusedVariables false
set_option maxRecDepth 100000
set_option maxHeartbeats 16000000
namespace Go.Proofs.YtncgcejlkmoliaaGreatDoor
open Go.RowKit
theorem Sn.roomR {T:TypeId} {pre:List Value} {w0 w:World} {L:Ld} {Es:List Ev} (h:Sn T pre w0 L Es w) (k:Nat) (hk:k < 6):w.rangeAt w0.heap.size (k*14) (L.rcells k).toList:=by
 intro j v hv
 have hj:j < 14:=by
  have:=(List.getElem?_eq_some_iff.1 hv).1; simpa [Ld.rcells] using this
 rw [h.room k j hk hj,← hv]
 have:=L.rcells_get k j hj
 simpa using this.symm
theorem wl_sroom {ops:Array Oper} {rest:List Oper} {op:Oper} {a:Act} {w:World} {Q:Exit→Act→World→Prop} (x:Operand) (ho:op.op=.load 34 x) (hw:Region.wanted op (yielded ops a.tmps)=true) {T:TypeId} {pre:List Value} {w0:World} {L:Ld} {Es:List Ev} (k:Nat)
 (hx:a.eval x=.pointer (some ⟨w0.heap.size,k*14,none⟩)) (hc:Sn T pre w0 L Es w) (hk:k < 6) (h:wpList Tryz.prog ops Q rest (a.put op.dst (.agg (L.rcells k))) w):wpList Tryz.prog ops Q (op::rest) a w :=
 wl_mid 34 x ho hw w0.heap.size (k*14) (L.rcells k).toList _ hx (hc.roomR k hk) Tryz.underlying34 rfl Tryz.sizeRoom h
theorem rlook_any {w0:World} {L:Ld} {Es:List Ev} {w:World} (hS:Sn 172 [] w0 L Es w) (hf:Fine L) (hv:Vb w0) (b:Nat) (hb:b < 6) (hlen:Es.length≤900000) :
 Calls Tryz.prog 152 #[.pointer (some ⟨w0.heap.size,0,none⟩),.int .i64 (b:Int)] w fun e w'=>e=.returned (.tuple #[])∧Sn 172 [] w0 L (Es++lookE L b) w'∧Stp w0.heap.size 165 w w':=by
 obtain ⟨r,hr,er⟩:=hf.room b hb
 have HS:=hide hS
 have c3:=hS.being b 3 hb (by omega)
 simp only [Ld.beingCell] at c3
 rw [er] at c3
 have HF:=hide hf
 have HV:=hide hv
 have hbi:(b:Int) < 6:=by omega
 have hri:(r:Int) < 6:=by omega
 have HER:=hide er
 clear hS hf hv er
 go_enter Tryz.func152,Tryz.ntmps152
 go_wp2_with (refine wl_scene (.tmp 17) rfl rfl rfl HS.out ?_)
 refine (bright_any L (r:Int) _).mono ?_
 rintro e w1 ⟨rfl,hb1⟩
 have S1:=hide (HS.out.below hb1)
 have T1:=hide (HS.out.stp hb1 165)
 clear hb1 c3 HS
 cases hx:brightL L (r:Int) with
 | false =>
  have HE:=hide (show lookE L b=[tellE L b darkS] by unfold lookE; rw [HER.out,if_neg (by simp [hx])])
  clear hx
  go_wp2_with fail
  refine (rtell_any S1.out b hb _ (by omega)).mono ?_
  rintro e w2 ⟨rfl,S2,T2⟩
  have A:=hide S2
  have B:=hide (T1.out.trans T2)
  clear S2 T2
  go_wp2
  exact bodyPost_ret (v:=.tuple #[]) (results_none rfl _ _ _) rfl ⟨rfl,by rw [HE.out]; exact A.out,B.out⟩
 | true =>
  have HE:=hide (show lookE L b=[tellE L b (theS++L.rname r++dotT),tellE L b (waysS++waysK L r 6)]++(if sightL L b=[] then [] else [tellE L b (hereS++listedT L (sightL L b))])++othersK L b 6 by
   unfold lookE; rw [HER.out,if_pos hx]; rfl)
  clear hx
  have c0:=S1.out.room r 0 hr (by omega)
  simp only [Nat.add_zero,Ld.roomCell] at c0
  have hs0:=HF.out.rname r hr
  have hs4:(⟨#[84,104,101,32]⟩:ByteArray).size=4:=rfl
  go_wp2_with fail
  refine (rtell_any S1.out b hb _ (by omega)).mono ?_
  rintro e w2 ⟨rfl,S2h,T2h⟩
  have S2:=hide S2h
  have T2:=hide (T1.out.trans T2h)
  clear S2h T2h S1 T1 c0 hs0 hs4
  go_wp2_with (refine wl_sroom (.tmp 45) rfl rfl r rfl S2.out hr ?_)
  refine (ways_any L r _ (HV.out.below S2.out.low (Nat.le_refl _))).mono ?_
  rintro e w3 ⟨rfl,hb3⟩
  have S3:=hide (S2.out.below hb3)
  have T3:=hide (T2.out.trans (S2.out.stp hb3 165))
  clear hb3 S2 T2
  have hs5:=ways_size L r 6 (Nat.le_refl _)
  have hs6:(⟨#[87,97,121,115,58]⟩:ByteArray).size=5:=rfl
  have HW:Hid (waysK L r 6=waysK L r 6):=rfl
  generalize hA:waysK L r 6=A at *
  have HA:=hide hA
  clear hA
  go_wp2_with fail
  refine (rtell_any S3.out b hb _ (by simp; omega)).mono ?_
  rintro e w4 ⟨rfl,S4h,T4h⟩
  have S4:=hide S4h
  have T4:=hide (T3.out.trans T4h)
  clear S4h T4h S3 T3 hs5 hs6
  go_wp2_with fail
  refine (sight_any S4.out b hb).mono ?_
  rintro e w5 ⟨v,rfl,ho,hb5⟩
  have S5:=hide (S4.out.below hb5)
  have T5:=hide (T4.out.trans (S4.out.stp hb5 165))
  have N5:=hide (numk_own S4.out hb5 ho)
  obtain ⟨av,cap,rfl⟩:=ho.shape
  clear ho hb5 S4 T4
  by_cases h0:sightL L b=[]
  ·have hz:(sightL L b).length=0:=by rw [h0]; rfl
   have HE2:=hide (show lookE L b=([tellE L b (theS++L.rname r++dotT),tellE L b (waysS++A)]++[])++othersK L b 6 by rw [HE.out,if_pos h0])
   rw [hz]
   clear h0 hz HE N5
   have HE:=HE2
   clear HE2
   go_wp2_with fail
   go_loopw [63] (fun c wr=>∃ k:Nat,k≤6∧c=.int .i64 k∧Sn 172 [] w0 L (((Es++[tellE L b (theS++L.rname r++dotT)])++[tellE L b (waysS++A)])++othersK L b k) wr∧Stp w0.heap.size 165 w wr) (fun c _=>6 - (intOf c).toNat)
   case atStart=>exact ⟨0,by omega,rfl,by simp only [othersK,List.range_zero,List.filter_nil,List.map_nil,List.append_nil]; exact S5.out,T5.out⟩
   case round =>
    obtain ⟨k,hle,rfl,Rh,Th⟩:=hrel
    have R:=hide Rh
    have TT:=hide Th
    clear Rh Th S5 T5
    by_cases hk:k < 6
    ·have hki:(k:Int) < 6:=by omega
     go_wp2_with fail
     refine (seesOther_any R.out b k).mono ?_
     rintro e wa ⟨rfl,hba⟩
     have R1:=hide (R.out.below hba)
     have T1:=hide (TT.out.trans (R.out.stp hba 165))
     clear hba R TT
     cases hx:seesO L b k with
     | false =>
      have HN:=hide (others_no hx)
      clear hx
      go_wp2
      go_roundw
      case rel=>exact ⟨k+1,by omega,by go_num,by rw [HN.out]; exact R1.out,T1.out⟩
      case measure=>simp [intOf]; omega
     | true =>
      have HN:=hide (others_yes hx)
      clear hx
      have c0:=R1.out.being k 0 hk (by omega)
      simp only [Nat.add_zero,Ld.beingCell] at c0
      have hs0:=HF.out.bname k hk
      have hol:=others_len L b k
      go_wp2_with fail
      refine (rtell_any R1.out b hb _ (by simp only [List.length_append,List.length_cons,List.length_nil]; omega)).mono ?_
      rintro e wb ⟨rfl,Sb,Tb⟩
      have R2:=hide Sb
      have T2:=hide (T1.out.trans Tb)
      clear Sb Tb R1 T1 c0 hs0 hol
      go_wp2
      go_roundw
      case rel=>exact ⟨k+1,by omega,by go_num,by rw [HN.out,← List.append_assoc]; exact R2.out,T2.out⟩
      case measure=>simp [intOf]; omega
    ·have hk6:k=6:=by omega
     subst hk6
     go_wp2
     go_end0
     exact ⟨rfl,by rw [HE.out]; simpa only [List.append_assoc,List.append_nil,List.cons_append,List.nil_append] using R.out,TT.out⟩
  ·have hz:0 < (sightL L b).length:=List.length_pos_iff.2 h0
   have hz2:=sight_len L b
   have HE2:=hide (show lookE L b=([tellE L b (theS++L.rname r++dotT),tellE L b (waysS++A)]++[tellE L b (hereS++listedT L (sightL L b))])++othersK L b 6 by rw [HE.out,if_neg h0])
   clear h0 HE
   have HE:=HE2
   clear HE2
   have hzi:decide ((0:Int) < ((sightL L b).length:Int))=true:=by simp; omega
   go_wp2_with fail
   refine (listed_any S5.out HF.out N5.out (fun x hx=>sight_lt hx) (by omega)).mono ?_
   rintro e w6 ⟨rfl,hb6⟩
   have S6:=hide (S5.out.below hb6)
   have T6:=hide (T5.out.trans (S5.out.stp hb6 165))
   clear hb6 S5 T5 N5
   have hs7:(listedT L (sightL L b)).size≤30000000:=by
    unfold listedT
    have h1:dotT.size=1:=rfl
    have h2:nothingT.size=8:=rfl
    have h3:=names_size HF.out (sightL L b) (fun x hx=>sight_lt hx)
    have h4:(sightL L b).length*1048578≤9*1048578:=Nat.mul_le_mul_right _ hz2
    split <;> simp only [ByteArray.size_append] <;> omega
   have hs8:(⟨#[72,101,114,101,32,105,115]⟩:ByteArray).size=7:=rfl
   generalize listedT L (sightL L b)=B at *
   go_wp2_with fail
   refine (rtell_any S6.out b hb _ (by simp only [List.length_append,List.length_cons,List.length_nil]; omega)).mono ?_
   rintro e w7 ⟨rfl,S7h,T7h⟩
   have S7:=hide S7h
   have T7:=hide (T6.out.trans T7h)
   clear S7h T7h S6 T6 hs7 hs8 hz hz2 hzi
   go_wp2_with fail
   go_loopw [63] (fun c wr=>∃ k:Nat,k≤6∧c=.int .i64 k∧Sn 172 [] w0 L ((((Es++[tellE L b (theS++L.rname r++dotT)])++[tellE L b (waysS++A)])++[tellE L b (hereS++B)])++othersK L b k) wr∧Stp w0.heap.size 165 w wr) (fun c _=>6 - (intOf c).toNat)
   case atStart=>exact ⟨0,by omega,rfl,by simp only [othersK,List.range_zero,List.filter_nil,List.map_nil,List.append_nil]; exact S7.out,T7.out⟩
   case round =>
    obtain ⟨k,hle,rfl,Rh,Th⟩:=hrel
    have R:=hide Rh
    have TT:=hide Th
    clear Rh Th S7 T7
    by_cases hk:k < 6
    ·have hki:(k:Int) < 6:=by omega
     go_wp2_with fail
     refine (seesOther_any R.out b k).mono ?_
     rintro e wa ⟨rfl,hba⟩
     have R1:=hide (R.out.below hba)
     have T1:=hide (TT.out.trans (R.out.stp hba 165))
     clear hba R TT
     cases hx:seesO L b k with
     | false =>
      have HN:=hide (others_no hx)
      clear hx
      go_wp2
      go_roundw
      case rel=>exact ⟨k+1,by omega,by go_num,by rw [HN.out]; exact R1.out,T1.out⟩
      case measure=>simp [intOf]; omega
     | true =>
      have HN:=hide (others_yes hx)
      clear hx
      have c0:=R1.out.being k 0 hk (by omega)
      simp only [Nat.add_zero,Ld.beingCell] at c0
      have hs0:=HF.out.bname k hk
      have hol:=others_len L b k
      go_wp2_with fail
      refine (rtell_any R1.out b hb _ (by simp only [List.length_append,List.length_cons,List.length_nil]; omega)).mono ?_
      rintro e wb ⟨rfl,Sb,Tb⟩
      have R2:=hide Sb
      have T2:=hide (T1.out.trans Tb)
      clear Sb Tb R1 T1 c0 hs0 hol
      go_wp2
      go_roundw
      case rel=>exact ⟨k+1,by omega,by go_num,by rw [HN.out,← List.append_assoc]; exact R2.out,T2.out⟩
      case measure=>simp [intOf]; omega
    ·have hk6:k=6:=by omega
     subst hk6
     go_wp2
     go_end0
     exact ⟨rfl,by rw [HE.out]; simpa only [List.append_assoc,List.append_nil,List.cons_append,List.nil_append] using R.out,TT.out⟩
open Go.RowKit
structure Od where
 verb:Int
 nth:Int
 all:Bool
 name:ByteArray
 second:ByteArray
 text:ByteArray
def Od.cells (O:Od):Array Value:=#[.int .i64 O.verb,.int .i64 O.nth,.bool O.all,.string O.name,.string O.second,.string O.text]
theorem Tryz.sizeOrder:(Tryz.prog.info? 149).map (·.size)=some 6:=by kernel_rfl
def nthL (q:List Int) (n:Int):List Int:=if n < 1∨(q.length:Int) < n then [] else [q.getD (n - 1).toNat 0]
def fits (L:Ld) (name:ByteArray) (i:Int):Bool:=decide (name=⟨#[]⟩) || decide (L.tname i.toNat=name)
def meantL (L:Ld) (q:List Int) (nth:Int) (all:Bool) (name:ByteArray):List Int:=if all=true then q.filter (fits L name) else nthL (q.filter (fits L name)) nth
theorem nth_mem {q:List Int} {n x:Int} (h:x ∈ nthL q n):x ∈ q:=by
 unfold nthL at h
 split at h
 ·simp at h
 ·rename_i hn
  rw [List.mem_singleton.1 h]
  exact getD_mem (by omega)
theorem meant_mem {L:Ld} {q:List Int} {n:Int} {all:Bool} {name:ByteArray} {x:Int} (h:x ∈ meantL L q n all name):x ∈ q:=by
 unfold meantL at h
 split at h
 ·exact (List.mem_filter.1 h).1
 ·exact (List.mem_filter.1 (nth_mem h)).1
theorem toList_eq {a b:ByteArray}:(a.toList==b.toList)=decide (a=b):=by
 rw [Bool.eq_iff_iff]
 simp only [beq_iff_eq,decide_eq_true_eq,Lib.toList_data]
 constructor
 ·intro h; rw [← bs_of a,h,bs_of]
 ·intro h; rw [h]
theorem empty_iff {a:ByteArray}:a.toList.isEmpty=decide (a=⟨#[]⟩):=by
 rw [Bool.eq_iff_iff]
 simp only [List.isEmpty_iff,decide_eq_true_eq,Lib.toList_data]
 constructor
 ·intro h; rw [← bs_of a,h]; rfl
 ·intro h; rw [h]
theorem NumK.part {g o:Nat} {w:World} {b off cap:Nat} {q:List Int} {k:Nat} (h:NumK g o w (.slice (some ⟨b,off,none⟩) q.length cap) q) (hk:k < q.length) :
 NumK g o w (.slice (some ⟨b,off+k,none⟩) 1 (cap - k)) [q.getD k 0]:=by
 obtain ⟨av,cap',e,hl,hm,hc⟩:=h.nums
 injection e with e1 e2 e3
 subst e1 e3
 obtain ⟨b',off',e,hcell⟩:=hc (by omega)
 injection e with e; injection e with e1 e2
 subst e1 e2
 refine ⟨⟨_,cap - k,rfl,by simp; omega,by omega,fun _=>⟨b,off+k,rfl,fun i hi=>?_⟩⟩,fun b' off' n c _ e=>?_⟩
 ·have:i=0:=by simp at hi; omega
  subst this
  have:=hcell k hk
  simpa using this
 ·injection e with e; injection e with e; injection e with e1
  subst e1
  exact h.kept b off _ _ (by omega) rfl
theorem numk_nil (g o:Nat) (w:World):NumK g o w (.slice none 0 0) []:=⟨⟨none,0,rfl,Nat.le_refl _,Nat.zero_le _,fun h=>by simp at h⟩,fun _ _ _ _ h=>by simp at h⟩
theorem rnth_any {g o:Nat} {w:World} {v:Value} {q:List Int} (hN:NumK g o w v q) (hlen:q.length≤18) (n:Int) (hn0:-9223372036854775808≤n) (hn1:n≤9223372036854775807) :
 Calls Tryz.prog 217 #[v,.int .i64 n] w fun e w'=>∃ v',e=.returned v'∧NumK g o w v' (nthL q n)∧w'=w:=by
 by_cases h1:n < 1
 ·obtain ⟨av,cap,rfl⟩:=hN.shape
  have HV:=hide (show nthL q n=[] by unfold nthL; rw [if_pos (.inl h1)])
  clear hN
  go_enter Tryz.func217,Tryz.ntmps217
  go_wp2
  go_ret
  exact ⟨_,rfl,by rw [HV.out]; exact numk_nil _ _ _,rfl⟩
 ·by_cases h2:(q.length:Int) < n
  ·obtain ⟨av,cap,rfl⟩:=hN.shape
   have HV:=hide (show nthL q n=[] by unfold nthL; rw [if_pos (.inr h2)])
   clear hN
   go_enter Tryz.func217,Tryz.ntmps217
   go_wp2
   go_ret
   exact ⟨_,rfl,by rw [HV.out]; exact numk_nil _ _ _,rfl⟩
  ·obtain ⟨k,rfl⟩:∃ k:Nat,n=(k:Int)+1:=⟨(n - 1).toNat,by omega⟩
   have hk:k < q.length:=by omega
   obtain ⟨b,off,cap,e,hl,hm,_⟩:=hN.nums.some (by omega)
   subst e
   have HV:=hide (show nthL q ((k:Int)+1)=[q.getD k 0] by unfold nthL; rw [if_neg (by omega)]; congr 2; omega)
   have HP:=hide (hN.part hk)
   generalize hq:q.length=m at *
   have hw:wrap64 ((k:Int)+1 - 1)=(k:Int):=by rw [show (k:Int)+1 - 1=(k:Int) by omega]; simp only [wrap64]; omega
   clear hN hn0 hn1 h1 h2
   go_enter Tryz.func217,Tryz.ntmps217
   go_wp2
   go_ret
   exact ⟨_,rfl,by rw [HV.out]; exact HP.out,rfl⟩
structure MtRel (L:Ld) (O:Od) (q:List Int) (w:World) (u:Value) (k:Nat) (wr:World):Prop where
 ord:wr.heap[w.heap.size]?=some (.cells O.cells 149 (0,0))
 own:OwnI (w.heap.size+1) wr u ((q.take k).filter (fits L O.name))
 low:Below w.heap.size w wr
section
variable {L:Ld} {O:Od} {q:List Int} {w:World} {u u':Value} {k:Nat} {wr wr':World}
theorem MtRel.lt (h:MtRel L O q w u k wr):w.heap.size < wr.heap.size:=(Array.getElem?_eq_some_iff.1 h.ord).1
theorem MtRel.call (h:MtRel L O q w u k wr) (hb:Below wr.heap.size wr wr'):MtRel L O q w u k wr' :=
 ⟨by rw [hb.block _ h.lt]; exact h.ord,h.own.below hb,h.low.trans (hb.mono h.low.size)⟩
theorem MtRel.drewN (h:MtRel L O q w u k wr) (n:Nat):MtRel L O q w u k (wr.drewN n):=h.call (below_drewN (Below.refl _ _) n)
theorem MtRel.cell (h:MtRel L O q w u k wr) :
 wr.cell? ⟨w.heap.size,1,none⟩=some (.int .i64 O.nth)∧wr.cell? ⟨w.heap.size,2,none⟩=some (.bool O.all)∧wr.cell? ⟨w.heap.size,3,none⟩=some (.string O.name) :=
 ⟨by rw [cell_of_row wr _ _ _ _ _ h.ord]; rfl,by rw [cell_of_row wr _ _ _ _ _ h.ord]; rfl,by rw [cell_of_row wr _ _ _ _ _ h.ord]; rfl⟩
theorem MtRel.skip (h:MtRel L O q w u k wr) (hk:k < q.length) (hf:fits L O.name (q.getD k 0)=false):MtRel L O q w u (k+1) wr:=by
 refine ⟨h.ord,?_,h.low⟩
 rw [take_snoc hk,List.filter_append]
 simp only [List.filter_cons,hf,List.filter_nil,if_false,Bool.false_eq_true,List.append_nil]
 exact h.own
theorem MtRel.grow (h:MtRel L O q w u k wr) (hk:k < q.length) (hf:fits L O.name (q.getD k 0)=true)
 (ho:wr'.ownsRow (w.heap.size+1) 3 1 u' (((q.take k).filter (fits L O.name)).length+1) (icells ((q.take k).filter (fits L O.name))++[.int .i64 (q.getD k 0)])) (hg:wr.grownBy wr' u.ownBlock):MtRel L O q w u' (k+1) wr':=by
 have hlt:=h.lt
 have hb:Below (w.heap.size+1) wr wr':=(Below.refl _ _:Below (w.heap.size+1) wr wr).grown hg (by omega) (fun j hj=>(h.own.lt j (by simpa using hj)).1)
 refine ⟨by rw [hb.block _ (by omega)]; exact h.ord,?_,h.low.trans (hb.mono (by omega))⟩
 rw [take_snoc hk,List.filter_append]
 simp only [List.filter_cons,hf,List.filter_nil,if_true]
 unfold OwnI
 simpa [icells] using ho
theorem filter_len (q:List Int) (k:Nat) (f:Int→Bool) (h:q.length≤18):((q.take k).filter f).length≤18:=by
 have:=List.length_filter_le f (q.take k)
 have h2:(q.take k).length≤q.length:=by simp; omega
 omega
end
theorem meant_any {w0:World} {L:Ld} {Es:List Ev} {w:World} (hS:Sn 172 [] w0 L Es w) {v:Value} {q:List Int} (hN:NumK w0.heap.size 165 w v q) (hq:∀ x ∈ q,∃ i:Nat,x=(i:Int)∧i < 9) (hlen:q.length≤18)
 (O:Od) (hn0:-9223372036854775808≤O.nth) (hn1:O.nth≤9223372036854775807) :
 Calls Tryz.prog 196 #[.pointer (some ⟨w0.heap.size,0,none⟩),v,.agg O.cells] w fun e w'=>∃ v',e=.returned v'∧NumK w0.heap.size 165 w' v' (meantL L q O.nth O.all O.name)∧Below w.heap.size w w':=by
 obtain ⟨i0,hi0,hz0,hz1,hz2⟩:=info_parts Tryz.info3
 have HS:=hide hS
 have HN:=hide hN
 have HQ:=hide hq
 obtain ⟨av,cap,rfl⟩:=hN.shape
 clear hS hN hq
 generalize hn:q.length=n at *
 have HNn:=hide hn
 clear hn
 unfold Od.cells
 go_enter Tryz.func196,Tryz.ntmps196
 go_wp2
 go_loopw [7,12] (fun u c wr=>∃ k:Nat,k≤n∧c=.int .i64 k∧MtRel L O q w u k wr) (fun _ c _=>n - (intOf c).toNat)
 case atStart=>exact ⟨0,by omega,rfl,⟨heap_alloc_new w _,ownI_nil _ _,below_box w _⟩⟩
 case round =>
  obtain ⟨k,hle,rfl,R⟩:=hrel
  obtain ⟨av2,cap2,rfl⟩:=R.own.shape
  have HR:=hide R
  obtain ⟨o1,o2,o3⟩:=R.cell
  have hlt:=R.lt
  clear R
  by_cases hk:k < n
  ·have hkq:k < q.length:=by rw [HNn.out]; exact hk
   obtain ⟨b,off,cap',e,hcell⟩:=(HN.out.step (Stp.below (o:=165) HR.out.low HS.out.lt)).cell hkq
   rw [HNn.out] at e
   injection e with e1 e2 e3
   subst e1 e3
   obtain ⟨i,ei,hi⟩:=HQ.out _ (getD_mem hkq)
   have hfl:=filter_len q k (fits L O.name) (by rw [HNn.out]; exact hlen)
   have c0:=(HS.out.below HR.out.low).thing i 0 hi (by omega)
   simp only [Nat.add_zero,Ld.thingCell] at c0
   have hci:(i:Int) < 9:=by omega
   have HEI:=hide ei
   rw [ei] at hcell
   clear ei
   cases hx:decide (O.name=⟨#[]⟩) with
   | true =>
    have he:O.name.toList.isEmpty=true:=by rw [empty_iff]; exact hx
    have HF:=hide (show fits L O.name (q.getD k 0)=true by unfold fits; rw [hx]; rfl)
    clear hx
    go_wp2_with fail
    go_quiet (fail)
    have HR2:=hide (HR.out.drewN nq)
    have ho:=(HR2.out.own.below (below_box _ (.cells #[.int .i64 (i:Int)] 3)))
    have HO:=hide ho
    have hsz:=HR2.out.low.size
    have hsz2:=HR2.out.lt
    have HG:Hid (∀ (u':Value) (wr':World),wr'.ownsRow (w.heap.size+1) 3 1 u' (((q.take k).filter (fits L O.name)).length+1) (icells ((q.take k).filter (fits L O.name))++[.int .i64 (q.getD k 0)])→World.grownBy ((wr.drewN nq).alloc (.cells #[.int .i64 (i:Int)] 3)) wr' (Value.slice av2 ((q.take k).filter (fits L O.name)).length cap2).ownBlock→MtRel L O q w u' (k+1) wr'):=fun u' wr' hh hg=>(HR2.out.call (below_box _ (.cells #[.int .i64 (i:Int)] 3))).grow hkq HF.out hh hg
    rw [HEI.out] at HG
    clear ho HR c0 o1 o2 o3 hcell
    generalize (q.take k).filter (fits L O.name)=Z at *
    go_wp2_with (at_builtin; refine wpList_append_own_at _ rfl (.tmp 32) (.tmp 34) 116 rfl (w.heap.size+1) 3 i0 (.int .i64 0) 1 8 Tryz.underlying116 hi0 hz0 hz1 hz2 rfl (by decide) _ Z.length (icells Z) rfl HO.out ⟨_,0,none⟩ 1 1 [.int .i64 (i:Int)] rfl ?a1 ?a2 ?a3 ?a4 ?a5 ?a6 ?_)
    case a1=>rfl
    case a2=>exact cell_one_new _ _ _
    case a3=>intro u hu; simp at hu; subst hu; rfl
    case a4=>unfold maxLen; omega
    case a5=>omega
    case a6=>simp at hsz2 ⊢; omega
    intro v' w1 hoo hg _ _
    have N:=hide (HG.out _ _ hoo hg)
    obtain ⟨av',cap',rfl⟩:=own_shapeN hoo
    clear hoo hg HG HO
    go_wp2
    go_roundw
    case rel=>exact ⟨k+1,by omega,by go_num,N.out⟩
    case measure=>simp [intOf]; omega
   | false =>
    have he:O.name.toList.isEmpty=false:=by rw [empty_iff]; exact hx
    cases hy:decide (L.tname i=O.name) with
    | true =>
     have hyl:((L.tname i).toList==O.name.toList)=true:=by rw [toList_eq]; exact hy
     have HF:=hide (show fits L O.name (q.getD k 0)=true by unfold fits; rw [hx,HEI.out,Int.toNat_natCast,hy]; rfl)
     clear hx hy
     go_wp2_with fail
     go_quiet (fail)
     have HR2:=hide (HR.out.drewN nq)
     have ho:=(HR2.out.own.below (below_box _ (.cells #[.int .i64 (i:Int)] 3)))
     have HO:=hide ho
     have hsz:=HR2.out.low.size
     have hsz2:=HR2.out.lt
     have HG:Hid (∀ (u':Value) (wr':World),wr'.ownsRow (w.heap.size+1) 3 1 u' (((q.take k).filter (fits L O.name)).length+1) (icells ((q.take k).filter (fits L O.name))++[.int .i64 (q.getD k 0)])→World.grownBy ((wr.drewN nq).alloc (.cells #[.int .i64 (i:Int)] 3)) wr' (Value.slice av2 ((q.take k).filter (fits L O.name)).length cap2).ownBlock→MtRel L O q w u' (k+1) wr'):=fun u' wr' hh hg=>(HR2.out.call (below_box _ (.cells #[.int .i64 (i:Int)] 3))).grow hkq HF.out hh hg
     rw [HEI.out] at HG
     clear ho HR c0 o1 o2 o3 hcell
     generalize (q.take k).filter (fits L O.name)=Z at *
     go_wp2_with (at_builtin; refine wpList_append_own_at _ rfl (.tmp 32) (.tmp 34) 116 rfl (w.heap.size+1) 3 i0 (.int .i64 0) 1 8 Tryz.underlying116 hi0 hz0 hz1 hz2 rfl (by decide) _ Z.length (icells Z) rfl HO.out ⟨_,0,none⟩ 1 1 [.int .i64 (i:Int)] rfl ?a1 ?a2 ?a3 ?a4 ?a5 ?a6 ?_)
     case a1=>rfl
     case a2=>exact cell_one_new _ _ _
     case a3=>intro u hu; simp at hu; subst hu; rfl
     case a4=>unfold maxLen; omega
     case a5=>omega
     case a6=>simp at hsz2 ⊢; omega
     intro v' w1 hoo hg _ _
     have N:=hide (HG.out _ _ hoo hg)
     obtain ⟨av',cap',rfl⟩:=own_shapeN hoo
     clear hoo hg HG HO
     go_wp2
     go_roundw
     case rel=>exact ⟨k+1,by omega,by go_num,N.out⟩
     case measure=>simp [intOf]; omega
    | false =>
     have hyl:((L.tname i).toList==O.name.toList)=false:=by rw [toList_eq]; exact hy
     have HF:=hide (show fits L O.name (q.getD k 0)=false by unfold fits; rw [hx,HEI.out,Int.toNat_natCast,hy]; rfl)
     clear hx hy
     go_wp2_with fail
     go_quiet (fail)
     have N:=hide ((HR.out.drewN nq).skip hkq HF.out)
     clear HR
     go_wp2
     go_roundw
     case rel=>exact ⟨k+1,by omega,by go_num,N.out⟩
     case measure=>simp [intOf]; omega
  ·have hkn:k=n:=by omega
   subst hkn
   have hall:q.take k=q:=by rw [← HNn.out]; exact List.take_length
   have hfl:=filter_len q k (fits L O.name) (by rw [HNn.out]; exact hlen)
   have HK:=hide (numk_own HS.out HR.out.low (HR.out.own.base (Nat.le_succ _)))
   rw [hall] at HK
   rw [hall] at hfl
   rw [hall]
   rw [hall] at HR
   cases ha:O.all with
   | true =>
    have HV:=hide (show meantL L q O.nth O.all O.name=q.filter (fits L O.name) by unfold meantL; rw [if_pos ha])
    rw [ha] at o2
    clear hall
    have HA:=hide ha
    clear ha
    go_wp2
    go_ret
    exact ⟨_,rfl,by rw [HV.out]; exact HK.out,HR.out.low⟩
   | false =>
    have HV:=hide (show meantL L q O.nth O.all O.name=nthL (q.filter (fits L O.name)) O.nth by unfold meantL; rw [if_neg (by simp [ha])])
    rw [ha] at o2
    clear hall
    have HA:=hide ha
    clear ha
    go_wp2_with fail
    refine (rnth_any HK.out hfl O.nth hn0 hn1).mono ?_
    rintro e w1 ⟨v',rfl,hK,hw⟩
    have HK2:=hide hK
    rw [hw]
    obtain ⟨av3,cap3,rfl⟩:=hK.shape
    clear hK hw w1
    go_wp2
    go_ret
    exact ⟨_,rfl,by rw [HV.out]; exact HK2.out,HR.out.low⟩
open Go.RowKit
theorem Stp.fresh {g o k n:Nat} {w W:World} {x:Value} (h:Stp g o w W) (hk:w.heap.size≤k) (hg:g < w.heap.size):Stp g o w (W.setCell ⟨k,n,none⟩ x):=by
 refine ⟨h.os,h.tape,h.output,by simp [World.setCell]; exact h.size,fun j hj h1 h2=>?_,?_⟩
 ·rw [Below.heap_setCell _ _ _ _ (by simp; omega)]; exact h.block j hj h1 h2
 ·rw [show rowB (W.setCell ⟨k,n,none⟩ x) g o=rowB W g o from rowB_same (Below.heap_setCell _ _ _ _ (by simp; omega))]
  exact h.row
theorem Sn.other {T:TypeId} {pre:List Value} {w0 w:World} {L:Ld} {Es:List Ev} (h:Sn T pre w0 L Es w) {k n:Nat} {x:Value} (hk:Kept w0.heap.size (165+pre.length) w k) (hlt:w0.heap.size≤k):Sn T pre w0 L Es (w.setCell ⟨k,n,none⟩ x):=by
 obtain ⟨v,hv,ho⟩:=h.ex
 have hc:w.cell? ⟨w0.heap.size,165+pre.length,none⟩=some v:=by rw [cell_of_row w _ _ _ _ _ hv,more_row]
 have hof:v.ownBlock ≠ some k:=by
  have:=hk.off
  simp only [rowB,hc] at this
  exact this
 exact ⟨⟨v,by rw [Below.heap_setCell _ _ _ _ (by simpa using hk.ne.symm)]; exact hv,ownsRow_setCell_other ho (by simpa using hof) x⟩,h.low.setCell (by simpa using hlt) _⟩
theorem Cev.putThing {w:World} {b:Nat} {E:Ev} (h:Cev w b E) (x:ByteArray):Cev (w.setCell ⟨b,8,none⟩ (.string x)) b { E with thing:=x }:=by
 unfold Cev at h ⊢
 rw [setCell_eq_setRow w b 8 _ _ _ _ h,setRow_heap w b _ _ _ _ h]; rfl
def moveL (L:Ld) (i:Nat) (wh loc:Int):Ld:=(L.setWh i wh).setLoc i loc
theorem rmove_any {w0:World} {L:Ld} {Es:List Ev} {w:World} (hS:Sn 172 [] w0 L Es w) (i:Nat) (hi:i < 9) (wh loc:Int) (E:Ev) (hlen:Es.length≤1000000) :
 Calls Tryz.prog 197 #[.pointer (some ⟨w0.heap.size,0,none⟩),.int .i64 (i:Int),.int .i64 wh,.int .i64 loc,.agg E.cells] w fun e w'=>e=.returned (.tuple #[])∧Sn 172 [] w0 (moveL L i wh loc) (Es++[allE (moveL L i wh loc) { E with thing:=L.tname i }]) w'∧Stp w0.heap.size 165 w w':=by
 have hii:(i:Int) < 9:=by omega
 have hl:=hS.lt
 have hb:=below_box w (.cells E.cells 71)
 have K0:=hS.kept hb (Nat.le_refl _) (by simp)
 have X0:=hS.alloc (.cells E.cells 71)
 have C0:=cev_new w E
 have T0:=Stp.below (o:=165) hb hl
 clear hS hb
 go_enter Tryz.func197,Tryz.ntmps197
 go_upto_region 1 with fail
 generalize w.alloc (.cells E.cells 71)=wa at *
 generalize hkk:w.heap.size=k at *
 have c0:=X0.thing i 0 hi (by omega)
 have c2:=X0.thing i 2 hi (by omega)
 have c3:=X0.thing i 3 hi (by omega)
 have f2:=X0.soft (84+i*5+2)
 have f3:=X0.soft (84+i*5+3)
 simp only [Nat.add_zero,Ld.thingCell] at c0 c2 c3
 have X1:=X0.set (by omega) (L.up_wh i hi wh)
 have X2:=X1.set (by omega) ((L.setWh i wh).up_loc i hi loc)
 have Y1:Stp w0.heap.size 165 wa (wa.setCell ⟨w0.heap.size,84+i*5+2,none⟩ (.int .i64 wh)):=Stp.put (by omega)
 have Y2:Stp w0.heap.size 165 (wa.setCell ⟨w0.heap.size,84+i*5+2,none⟩ (.int .i64 wh)) ((wa.setCell ⟨w0.heap.size,84+i*5+2,none⟩ (.int .i64 wh)).setCell ⟨w0.heap.size,84+i*5+3,none⟩ (.int .i64 loc)):=Stp.put (by omega)
 have K2:=(Y2.kept (Y1.kept K0).1).1
 have X3:=hide (X2.other (n:=8) (x:=.string (L.tname i)) K2 (by omega))
 have T3:=hide ((T0.trans (Y1.trans Y2)).fresh (k:=k) (n:=8) (x:=.string (L.tname i)) (by omega) (by omega))
 have C2:=(C0.other (c:=w0.heap.size) (by omega) (84+i*5+2) (.int .i64 wh)).other (c:=w0.heap.size) (by omega) (84+i*5+3) (.int .i64 loc)
 have E3:=hide (C2.putThing (L.tname i))
 have k8:=C0.thing
 have kf:=C0.frozen 8
 have hne:k ≠ w0.heap.size:=by omega
 have hne2:w0.heap.size ≠ k:=by omega
 clear K0 X0 X1 X2 Y1 Y2 K2 C0 C2 T0
 go_wp2_with (refine wl_event (.tmp 9) rfl rfl _ { E with thing:=L.tname i } rfl E3.out ?_)
 refine (happens_any (L:=moveL L i wh loc) X3.out { E with thing:=L.tname i } hlen).mono ?_
 rintro e w2 ⟨rfl,S2,T2⟩
 have A:=hide S2
 have B:=hide (T3.out.trans T2)
 clear S2 T2 X3 T3
 go_wp2
 go_end0
 exact ⟨rfl,A.out,B.out⟩
open Go.RowKit
def gstep (b:Nat) (s:Ld × List Ev) (i:Int):Ld × List Ev:=(moveL s.1 i.toNat 1 (b:Int),s.2++[allE (moveL s.1 i.toNat 1 (b:Int)) { evN s.1 3 b with thing:=s.1.tname i.toNat }])
def takeS (L:Ld) (b:Nat) (q:List Int):Ld × List Ev:=q.foldl (gstep b) (L,[])
theorem take_len (L:Ld) (b:Nat) (q:List Int):(takeS L b q).2.length=q.length:=by
 unfold takeS
 have:∀ (q:List Int) (s:Ld × List Ev),(q.foldl (gstep b) s).2.length=s.2.length+q.length:=by
  intro q
  induction q with
  | nil=>intro s; simp
  | cons a q ih=>intro s; rw [List.foldl_cons,ih]; simp [gstep]; omega
 rw [this]; simp
theorem take_next (L:Ld) (b:Nat) {q:List Int} {k:Nat} (hk:k < q.length):takeS L b (q.take (k+1))=gstep b (takeS L b (q.take k)) (q.getD k 0):=by
 unfold takeS; rw [take_snoc hk,List.foldl_append]; rfl
def sigE (L:Ld) (b:Nat) (q:List Int) (s:ByteArray):List Ev:=if q=[] then [tellE L b s] else []
def getL (L:Ld) (b:Nat) (O:Od):Ld:=(takeS L b (meantL L (sightL L b) O.nth O.all O.name)).1
def getE (L:Ld) (b:Nat) (O:Od):List Ev:=sigE L b (meantL L (sightL L b) O.nth O.all O.name) noThingS++(takeS L b (meantL L (sightL L b) O.nth O.all O.name)).2
theorem rget_any {w0:World} {L:Ld} {Es:List Ev} {w:World} (hS:Sn 172 [] w0 L Es w) (b:Nat) (hb:b < 6) (O:Od) (h2:O.second=⟨#[]⟩) (hn0:-9223372036854775808≤O.nth) (hn1:O.nth≤9223372036854775807) (hlen:Es.length≤900000) :
 Calls Tryz.prog 153 #[.pointer (some ⟨w0.heap.size,0,none⟩),.int .i64 (b:Int),.agg O.cells] w fun e w'=>e=.returned (.tuple #[])∧Sn 172 [] w0 (getL L b O) (Es++getE L b O) w'∧Stp w0.heap.size 165 w w':=by
 have hsn:O.second.toList.isEmpty=true:=by rw [empty_iff]; simpa using h2
 have X0:=hide (hS.alloc (.cells O.cells 149))
 have T0:=hide (Stp.below (o:=165) (below_box w (.cells O.cells 149)) hS.lt)
 have L0:=hide (below_box w (.cells O.cells 149))
 have G0:=hide (heap_alloc_new w (.cells O.cells 149))
 clear hS h2
 go_enter Tryz.func153,Tryz.ntmps153
 go_wp2_with fail
 refine (sight_any X0.out b hb).mono ?_
 rintro e w1 ⟨v,rfl,ho,hb1⟩
 have S1:=hide (X0.out.below hb1)
 have T1:=hide (T0.out.trans (X0.out.stp hb1 165))
 have N1:=hide (numk_own X0.out hb1 ho)
 have G1:=hide (show w1.heap[w.heap.size]?=some (.cells O.cells 149 (0,0)) by rw [hb1.block _ (by simp)]; exact G0.out)
 have o4:w1.cell? ⟨w.heap.size,4,none⟩=some (.string O.second):=by rw [cell_of_row _ _ _ _ _ _ G1.out]; rfl
 obtain ⟨av,cap,rfl⟩:=ho.shape
 clear ho hb1 X0 T0 L0 G0
 have hsl:=sight_len L b
 go_wp2_with (refine wl_wanted rfl (wp_load_row 149 (.tmp 5) rfl w.heap.size rfl 149 O.cells (0,0) _ G1.out Tryz.underlying149 rfl Tryz.sizeOrder ?_))
 refine (meant_any S1.out N1.out (fun x hx=>sight_lt hx) (by omega) O hn0 hn1).mono ?_
 rintro e w2 ⟨v',rfl,hK,hb2⟩
 have S2:=hide (S1.out.below hb2)
 have T2:=hide (T1.out.trans (S1.out.stp hb2 165))
 have N2:=hide hK
 obtain ⟨av2,cap2,rfl⟩:=hK.shape
 have HM:=hide (fun x (hx:x ∈ meantL L (sightL L b) O.nth O.all O.name)=>sight_lt (meant_mem hx))
 have hml:(meantL L (sightL L b) O.nth O.all O.name).length≤9:=by
  have h1:=List.length_filter_le (fits L O.name) (sightL L b)
  unfold meantL nthL
  split
  ·omega
  ·split <;> simp
 have HL:=hide (show getL L b O=(takeS L b (meantL L (sightL L b) O.nth O.all O.name)).1 from rfl)
 have HE:=hide (show getE L b O=sigE L b (meantL L (sightL L b) O.nth O.all O.name) noThingS++(takeS L b (meantL L (sightL L b) O.nth O.all O.name)).2 from rfl)
 clear hK hb2 S1 T1 N1 G1 o4 hsl hsn
 generalize meantL L (sightL L b) O.nth O.all O.name=q at *
 generalize hn:q.length=n at *
 have HNn:=hide hn
 clear hn
 cases hz:decide (n=0) with
 | true =>
  have hz0:n=0:=by simpa using hz
  subst hz0
  have hq0:q=[]:=List.eq_nil_of_length_eq_zero HNn.out
  have HE2:=hide (show getE L b O=[tellE L b noThingS] by rw [HE.out,hq0]; rfl)
  have HL2:=hide (show getL L b O=L by rw [HL.out,hq0]; rfl)
  clear hz hq0
  go_wp2_with fail
  refine (rtell_any S2.out b hb _ (by omega)).mono ?_
  rintro e w3 ⟨rfl,S3h,T3h⟩
  have S3:=hide S3h
  have T3:=hide (T2.out.trans T3h)
  clear S3h T3h S2 T2 N2
  go_wp2_with fail
  go_loopw [45] (fun c wr=>c=.int .i64 0∧wr=w3) (fun _ _=>0)
  case atStart=>exact ⟨rfl,rfl⟩
  case round =>
   obtain ⟨rfl,rfl⟩:=hrel
   go_wp2
   go_end0
   exact ⟨rfl,by rw [HL2.out,HE2.out]; exact S3.out,T3.out⟩
 | false =>
  have hz0:n ≠ 0:=by simpa using hz
  have hzi:((n:Int)==0)=false:=by simp; omega
  have hq0:q ≠ []:=fun e=>by have:=HNn.out; rw [e] at this; simp at this; omega
  have HE2:=hide (show getE L b O=(takeS L b q).2 by rw [HE.out]; unfold sigE; rw [if_neg hq0]; rfl)
  clear hz hq0
  go_wp2_with fail
  go_loopw [45] (fun c wr=>∃ k:Nat,k≤n∧c=.int .i64 k∧Sn 172 [] w0 (takeS L b (q.take k)).1 (Es++(takeS L b (q.take k)).2) wr∧Stp w0.heap.size 165 w wr∧NumK w0.heap.size 165 wr (.slice av2 n cap2) q) (fun c _=>n - (intOf c).toNat)
  case atStart=>exact ⟨0,by omega,rfl,by simpa [takeS] using S2.out,T2.out,N2.out⟩
  case round =>
   obtain ⟨k,hle,rfl,Rh,Th,Nh⟩:=hrel
   have R:=hide Rh
   have TT:=hide Th
   have N:=hide Nh
   clear Rh Th Nh S2 T2 N2
   by_cases hk:k < n
   ·have hkq:k < q.length:=by rw [HNn.out]; exact hk
    obtain ⟨bq,off,cap',e,hcell⟩:=N.out.cell hkq
    rw [HNn.out] at e
    injection e with e1 e2 e3
    subst e1 e3
    obtain ⟨i,ei,hi⟩:=HM.out _ (getD_mem hkq)
    have HT:=hide (show takeS L b (q.take (k+1))=gstep b (takeS L b (q.take k)) (i:Int) by rw [take_next L b hkq,ei])
    rw [ei] at hcell
    have htl:(takeS L b (q.take k)).2.length≤9:=by rw [take_len]; simp; omega
    clear ei
    go_wp2_with fail
    refine (revent_any R.out 3 b hb).mono ?_
    rintro e w3 ⟨rfl,hb3⟩
    have R3:=hide (R.out.below hb3)
    have T3:=hide (TT.out.trans (R.out.stp hb3 165))
    have N3:=hide (N.out.step (R.out.stp hb3 165))
    clear hb3 R TT N
    go_wp2_with fail
    refine (rmove_any R3.out i hi 1 (b:Int) (evN (takeS L b (q.take k)).1 3 b) (by simp only [List.length_append]; omega)).mono ?_
    rintro e w4 ⟨rfl,S4h,T4h⟩
    have S4:=hide S4h
    have T4:=hide (T3.out.trans T4h)
    have N4:=hide (N3.out.step T4h)
    clear S4h T4h R3 T3 N3
    go_wp2
    go_roundw
    case rel=>exact ⟨k+1,by omega,by go_num,by rw [HT.out]; simpa only [gstep,Int.toNat_natCast,List.append_assoc] using S4.out,T4.out,N4.out⟩
    case measure=>simp [intOf]; omega
   ·have hkn:k=n:=by omega
    subst hkn
    have hall:q.take k=q:=by rw [← HNn.out]; exact List.take_length
    rw [hall] at R
    clear hall
    go_wp2
    go_end0
    exact ⟨rfl,by rw [HL.out,HE2.out]; exact R.out,TT.out⟩
end Go.Proofs.YtncgcejlkmoliaaGreatDoor
