import Derived.Test.YtncgcejlkmoliaaGreatDoorMh01
import Derived.Test.YtncgcejlkmoliaaGreatDoorMh00
set_option linter.unusedVariables false
set_option maxRecDepth 100000
set_option maxHeartbeats 16000000
namespace Go.Proofs.YtncgcejlkmoliaaGreatDoor
open Go.RowKit
theorem sbeing_any (i:Int) (w:World):Calls Tryz.prog 73 #[.int .i64 i] w fun e w'=>e=.returned (.bool (amg i 6))∧w'=w:=by
 by_cases h0:0≤i
 ·go_enter Tryz.func73,Tryz.ntmps73
  go_wp2
  go_ret
  exact ⟨ret_bool (by simp [amg,h0]),rfl⟩
 ·go_enter Tryz.func73,Tryz.ntmps73
  go_wp2
  go_ret
  exact ⟨ret_bool (by simp only [amg]; rw [decide_eq_false (by omega)]; rfl),rfl⟩
theorem unseen_any (k:Int) (w:World):Calls Tryz.prog 226 #[.int .i64 k] w fun e w'=>e=.returned (.bool (loud k))∧w'=w:=by
 have HV:Hid (∀ b:Bool,(b=true ↔ (k=7∨k=14∨k=15))→b=loud k):=by
  intro b hb
  rw [Bool.eq_iff_iff,hb]
  simp [loud,or_assoc]
 by_cases h7:k=7
 ·subst h7
  go_enter Tryz.func226,Tryz.ntmps226
  go_wp2
  go_ret
  exact ⟨rfl,rfl⟩
 ·by_cases h14:k=14
  ·subst h14
   go_enter Tryz.func226,Tryz.ntmps226
   go_wp2
   go_ret
   exact ⟨rfl,rfl⟩
  ·have e7:(k==7)=false:=by simp [h7]
   have e14:(k==14)=false:=by simp [h14]
   have H7:=hide h7
   have H14:=hide h14
   clear h7 h14
   go_enter Tryz.func226,Tryz.ntmps226
   go_wp2
   go_ret
   exact ⟨ret_bool (HV.out _ (by have h7:=H7.out; have h14:=H14.out; simp [h7,h14])),rfl⟩
theorem shere_any (L:Ld) (b:Int) (w:World) :
 Calls Tryz.prog 225 #[.agg L.cells,.int .i64 b] w fun e w'=>e=.returned (.bool (abtL L b))∧Below w.heap.size w w':=by
 have hb:Hid (Below w.heap.size w (w.alloc (.cells L.cells 43))):=(Below.refl _ _).alloc (Nat.le_refl _) _
 cases ha:amg b 6 with
 | false =>
  have HV:=hide (show abtL L b=false by simp [abtL,ha])
  go_enter Tryz.func225,Tryz.ntmps225
  go_wp2_with fail
  refine (sbeing_any b _).mono ?_
  rintro e w1 ⟨rfl,hw⟩
  rw [hw,ha]
  clear hw w1 ha
  go_wp2
  go_ret
  exact ⟨ret_bool HV.out.symm,hb.out⟩
 | true =>
  obtain ⟨h0,h6⟩:=amg_pos ha
  obtain ⟨k,rfl⟩:=Int.eq_ofNat_of_zero_le h0
  have HV:=hide (show abtL L (k:Int)=L.here k by simp [abtL,ha])
  have c1:(w.alloc (.cells L.cells 43)).cell? ⟨w.heap.size,129+k*6+1,none⟩=some (.bool (L.here k)):=(cod_new w L).being k 1 (by omega) (by omega)
  have HA:=hide ha
  clear ha
  go_enter Tryz.func225,Tryz.ntmps225
  go_wp2_with fail
  refine (sbeing_any (k:Int) _).mono ?_
  rintro e w1 ⟨rfl,hw⟩
  rw [hw,HA.out]
  clear hw w1
  go_wp2
  go_ret
  exact ⟨ret_bool HV.out.symm,hb.out⟩
def isAt (L:Ld) (wh loc:Int) (i:Nat):Bool:=decide (L.wh i=wh)&&decide (L.loc i=loc)
def hasK (L:Ld) (wh loc:Int) (k:Nat):List Int:=((List.range k).filter (isAt L wh loc)).map Int.ofNat
theorem hasK_yes {L:Ld} {wh loc:Int} {k:Nat} (h:isAt L wh loc k=true):hasK L wh loc (k+1)=hasK L wh loc k++[(k:Int)]:=by
 simp [hasK,List.range_succ,List.filter_append,h]
theorem hasK_no {L:Ld} {wh loc:Int} {k:Nat} (h:isAt L wh loc k=false):hasK L wh loc (k+1)=hasK L wh loc k:=by
 simp [hasK,List.range_succ,List.filter_append,h]
theorem hasK_len (L:Ld) (wh loc:Int) (k:Nat):(hasK L wh loc k).length≤k:=by
 unfold hasK
 rw [List.length_map]
 exact Nat.le_trans (List.length_filter_le ..) (by simp)
theorem hasK_mem {L:Ld} {wh loc x:Int} {k:Nat} (h:x ∈ hasK L wh loc k):∃ i:Nat,x=(i:Int)∧i < k∧isAt L wh loc i=true:=by
 unfold hasK at h
 rw [List.mem_map] at h
 obtain ⟨i,hi,rfl⟩:=h
 rw [List.mem_filter] at hi
 exact ⟨i,rfl,by simpa using hi.1,hi.2⟩
theorem hasK_of {L:Ld} {wh loc:Int} {i k:Nat} (hi:i < k) (h:isAt L wh loc i=true):(i:Int) ∈ hasK L wh loc k:=by
 unfold hasK
 rw [List.mem_map]
 exact ⟨i,List.mem_filter.2 ⟨by simpa using hi,h⟩,rfl⟩
structure HRel (L:Ld) (w:World) (v:Value) (S:List Int) (wr:World):Prop where
 own:wr.ownsRow (w.heap.size+1) 3 1 v S.length (icells S)
 gd:GdRel L w wr
 size:w.heap.size+1≤wr.heap.size
theorem HRel.box {L:Ld} {w wr:World} {v:Value} {S:List Int} (h:HRel L w v S wr) (o:Obj):HRel L w v S (wr.alloc o) :=
 ⟨h.own.alloc o,h.gd.box o,by have:=h.size; simp; omega⟩
theorem HRel.next {L:Ld} {w wr wr':World} {v v':Value} {S:List Int} {i:Int} (h:HRel L w v S wr)
 (ho:wr'.ownsRow (w.heap.size+1) 3 1 v' (S.length+1) (icells S++[.int .i64 i])) (hg:wr.grownBy wr' v.ownBlock):HRel L w v' (S++[i]) wr':=by
 have hb:Below (w.heap.size+1) wr wr':=(Below.refl _ _:Below (w.heap.size+1) wr wr).grown hg (by have:=h.size; omega) (fun k hk=>(h.own.lt k (by simpa using hk)).1)
 refine ⟨?_,⟨?_,h.gd.low.trans (hb.mono (by omega))⟩,by have:=hb.size; have:=h.size; omega⟩
 ·have e1:(S++[i]).length=S.length+1:=by simp
  have e2:icells (S++[i])=icells S++[.int .i64 i]:=by simp [icells]
  rw [e1,e2]; exact ho
 ·have:=h.gd.cod
  unfold Cod at this ⊢
  rw [hb.block _ (by omega)]; exact this
theorem wl_ithingT {ops:Array Oper} {rest:List Oper} {op:Oper} {a:Act} {w:World} {Q:Exit→Act→World→Prop} (x y:Operand) (ho:op.op=.index 38 x y) (hw:Region.wanted op (yielded ops a.tmps)=true) (k:Nat) (L:Ld) (hx:a.eval x=.agg L.thingsA) (hy:a.eval y=.int .i64 (k:Int)) (hk:k < 9)
 (h:wpList Tryz.prog ops Q rest (a.put op.dst (.agg #[.string (L.tname k),.int .i64 (L.kind k),.int .i64 (L.wh k),.int .i64 (L.loc k),.bool (L.on k)])) w):wpList Tryz.prog ops Q (op::rest) a w :=
 wl_ithing x y ho hw k L hx hy hk h
theorem has_own (L:Ld) (wh loc:Int) (w:World) :
 Calls Tryz.prog 195 #[.agg L.cells,.int .i64 wh,.int .i64 loc] w fun e w'=>∃ v,e=.returned v∧w'.ownsRow (w.heap.size+1) 3 1 v (hasK L wh loc 9).length (icells (hasK L wh loc 9))∧Below w.heap.size w w':=by
 obtain ⟨i0,hi0,hz0,hz1,hz2⟩:=info_parts Tryz.info3
 go_enter Tryz.func195,Tryz.ntmps195
 go_wp2_with (refine wl_things (.tmp 10) rfl rfl _ L rfl (cod_new w L) ?_)
 go_loopw [7,12] (fun v c wr=>∃ k:Nat,k≤9∧c=.int .i64 k∧HRel L w v (hasK L wh loc k) wr) (fun _ c _=>9 - (intOf c).toNat)
 case atStart=>exact ⟨0,by omega,rfl,World.ownsRow_nil _ _ _ _,gd_start L w,by simp⟩
 case round =>
  obtain ⟨k,hle,rfl,R⟩:=hrel
  obtain ⟨av,cap,rfl⟩:=own_shapeN R.own
  have HR:=hide R
  clear R
  by_cases hk:k < 9
  ·cases h1:decide (L.wh k=wh) with
   | false =>
    have e1:(L.wh k==wh)=false:=by simpa using h1
    have HN:=hide (hasK_no (L:=L) (wh:=wh) (loc:=loc) (k:=k) (by simp [isAt,h1]))
    clear h1
    go_wp2_with (first | (refine wl_ithingT (.tmp 11) (.tmp 12) rfl rfl k L rfl rfl hk ?_) | (refine wl_new 37 (.tmp 9) (.tmp 15) rfl rfl _ _ rfl rfl rfl Tryz.sizeThing rfl rfl ?_))
    go_roundw
    case rel=>exact ⟨k+1,by omega,by go_num,by rw [HN.out]; exact HR.out.box _⟩
    case measure=>simp [intOf]; omega
   | true =>
    have e1:(L.wh k==wh)=true:=by simpa using h1
    cases h2:decide (L.loc k=loc) with
    | false =>
     have e2:(L.loc k==loc)=false:=by simpa using h2
     have HN:=hide (hasK_no (L:=L) (wh:=wh) (loc:=loc) (k:=k) (by simp [isAt,h2]))
     clear h1 h2
     go_wp2_with (first | (refine wl_ithingT (.tmp 11) (.tmp 12) rfl rfl k L rfl rfl hk ?_) | (refine wl_new 37 (.tmp 9) (.tmp 15) rfl rfl _ _ rfl rfl rfl Tryz.sizeThing rfl rfl ?_))
     go_roundw
     case rel=>exact ⟨k+1,by omega,by go_num,by rw [HN.out]; exact HR.out.box _⟩
     case measure=>simp [intOf]; omega
    | true =>
     have e2:(L.loc k==loc)=true:=by simpa using h2
     have HN:=hide (hasK_yes (L:=L) (wh:=wh) (loc:=loc) (k:=k) (by simp [isAt,h1,h2]))
     have hlen:=hasK_len L wh loc k
     have hsz:=HR.out.size
     clear h1 h2
     generalize hasK L wh loc k=S at *
     go_wp2_with (first | (refine wl_ithingT (.tmp 11) (.tmp 12) rfl rfl k L rfl rfl hk ?_) | (refine wl_new 37 (.tmp 9) (.tmp 15) rfl rfl _ _ rfl rfl rfl Tryz.sizeThing rfl rfl ?_) | (at_builtin; refine wpList_append_own_at _ rfl (.tmp 26) (.tmp 28) 116 rfl (w.heap.size+1) 3 i0 (.int .i64 0) 1 8 Tryz.underlying116 hi0 hz0 hz1 hz2 rfl (by decide) _ S.length (icells S) rfl ((HR.out.own.alloc _).alloc _) ⟨wr.heap.size+1,0,none⟩ 1 1 [.int .i64 (k:Int)] rfl ?a1 ?a2 ?a3 ?a4 ?a5 ?a6 ?_))
     case a1=>rfl
     case a2 =>
      intro j u hj
      match j,hj with
      | 0,hj=>simp at hj; subst hj; simp [Addr.add]
     case a3=>intro u hu; simp at hu; subst hu; rfl
     case a4=>unfold maxLen; omega
     case a5=>omega
     case a6=>simp; omega
     intro v' w1 ho hg _ _
     have N:=hide (((HR.out.box _).box _).next ho hg)
     obtain ⟨av',cap',rfl⟩:=own_shapeN ho
     clear ho hg
     go_wp2
     go_roundw
     case rel=>exact ⟨k+1,by omega,by go_num,by rw [HN.out]; exact N.out⟩
     case measure=>simp [intOf]; omega
  ·have hk9:k=9:=by omega
   subst hk9
   go_wp2
   go_ret
   exact ⟨_,rfl,HR.out.own,HR.out.gd.low⟩
theorem has_any (L:Ld) (wh loc:Int) (w:World) :
 Calls Tryz.prog 195 #[.agg L.cells,.int .i64 wh,.int .i64 loc] w fun e w'=>∃ v,e=.returned v∧Nums w' v (hasK L wh loc 9)∧Below w.heap.size w w' :=
 (has_own L wh loc w).mono fun e w' ⟨v,he,ho,hb⟩=>⟨v,he,nums_own ho,hb⟩
open Go.RowKit
theorem any_no {n:Nat} {f:Nat→Bool} (h:∀ k,k < n→f k=false):(List.range n).any f=false:=by
 rw [Bool.eq_false_iff]
 intro hc
 obtain ⟨k,hk,hf⟩:=List.any_eq_true.1 hc
 rw [h k (by simpa using hk)] at hf; simp at hf
theorem any_yes {n k:Nat} {f:Nat→Bool} (hk:k < n) (h:f k=true):(List.range n).any f=true :=
 List.any_eq_true.2 ⟨k,by simpa using hk,h⟩
theorem Cod.dark {w:World} {b:Nat} {L:Ld} (h:Cod w b L) (r:Nat) (hr:r < 6):w.cell? ⟨b,r*14+1,none⟩=some (.bool (L.dark r)):=by
 rw [h.cell _ (by omega),L.at_room r 1 hr (by omega)]; rfl
theorem bright_any (L:Ld) (r:Int) (w:World) :
 Calls Tryz.prog 190 #[.agg L.cells,.int .i64 r] w fun e w'=>e=.returned (.bool (brightL L r))∧Below w.heap.size w w':=by
 by_cases h0:0≤r
 ·obtain ⟨x,rfl⟩:=Int.eq_ofNat_of_zero_le h0
  by_cases h6:x < 6
  ·cases hd:L.dark x with
   | false =>
    have HV:=hide (show brightL L (x:Int)=true by simp [brightL,hd,amg]; omega)
    have c1:=(cod_new w L).dark x h6
    rw [hd] at c1
    clear hd
    go_enter Tryz.func190,Tryz.ntmps190
    go_wp2
    go_ret
    exact ⟨ret_bool HV.out.symm,(gd_start L w).low⟩
   | true =>
    have HV:=hide (show brightL L (x:Int)=(List.range 9).any (shines L (x:Int)) by
     have:amg (x:Int) 6=true:=amg_mk (by omega) (by omega)
     simp [brightL,hd,this])
    have c1:=(cod_new w L).dark x h6
    rw [hd] at c1
    clear hd
    go_enter Tryz.func190,Tryz.ntmps190
    go_wp2_with (refine wl_things (.tmp 21) rfl rfl _ L rfl (cod_new w L) ?_)
    clear c1
    go_loopw [23] (fun c wr=>∃ k:Nat,k≤9∧c=.int .i64 k∧GdRel L w wr∧∀ j,j < k→shines L (x:Int) j=false) (fun c _=>9 - (intOf c).toNat)
    case atStart=>exact ⟨0,by omega,rfl,gd_start L w,fun j h=>by omega⟩
    case round =>
     obtain ⟨k,hle,rfl,R,hall⟩:=hrel
     have HR:=hide R
     have HA:=hide hall
     clear R hall
     have NX:Hid (shines L (x:Int) k=false→∀ j,j < k+1→shines L (x:Int) j=false):=fun h j hj=>by
      rcases Nat.lt_or_ge j k with h' | h'
      ·exact HA.out j h'
      ·rw [show j=k by omega]; exact h
     by_cases hk:k < 9
     ·cases h1:(L.kind k != 1) with
      | true =>
       have HN:=hide (NX.out (by have:L.kind k ≠ 1:=by simpa using h1
                                 simp [shines,this]))
       go_wp2_with (first | (refine wl_ithingT (.tmp 22) (.tmp 23) rfl rfl k L rfl rfl hk ?_) | (refine wl_new 37 (.tmp 6) (.tmp 26) rfl rfl _ _ rfl rfl rfl Tryz.sizeThing rfl rfl ?_))
       go_roundw
       case rel=>exact ⟨k+1,by omega,by go_num,HR.out.box _,HN.out⟩
       case measure=>simp [intOf]; omega
      | false =>
       have HK:=hide (show L.kind k=1 by simpa using h1)
       cases h2:L.on k with
       | false =>
        have HN:=hide (NX.out (by simp [shines,h2]))
        go_wp2_with (first | (refine wl_ithingT (.tmp 22) (.tmp 23) rfl rfl k L rfl rfl hk ?_) | (refine wl_new 37 (.tmp 6) (.tmp 26) rfl rfl _ _ rfl rfl rfl Tryz.sizeThing rfl rfl ?_))
        go_roundw
        case rel=>exact ⟨k+1,by omega,by go_num,HR.out.box _,HN.out⟩
        case measure=>simp [intOf]; omega
       | true =>
        have HO:=hide h2
        go_wp2_with (first | (refine wl_ithingT (.tmp 22) (.tmp 23) rfl rfl k L rfl rfl hk ?_) | (refine wl_new 37 (.tmp 6) (.tmp 26) rfl rfl _ _ rfl rfl rfl Tryz.sizeThing rfl rfl ?_) | (refine wl_land (.tmp 2) rfl rfl _ L rfl (HR.out.box _).cod ?_))
        clear h1 h2
        refine (room_any L (k:Int) _).mono ?_
        rintro e w1 ⟨rfl,hb⟩
        have R1:=hide ((HR.out.box _).call hb)
        clear hb
        have HS:=hide (show shines L (x:Int) k=((roomL L (k:Int)).2&&decide ((roomL L (k:Int)).1=(x:Int))) by simp [shines,HK.out,HO.out])
        generalize roomL L (k:Int)=rr at *
        obtain ⟨rm,op⟩:=rr
        cases h3:(rm==(x:Int)) with
        | false =>
         have HN:=hide (NX.out (by rw [HS.out]; have:¬ rm=(x:Int):=by simpa using h3
                                   simp [this]))
         go_wp2
         go_roundw
         case rel=>exact ⟨k+1,by omega,by go_num,R1.out,HN.out⟩
         case measure=>simp [intOf]; omega
        | true =>
         cases op with
         | false =>
          have HN:=hide (NX.out (by rw [HS.out]; rfl))
          go_wp2
          go_roundw
          case rel=>exact ⟨k+1,by omega,by go_num,R1.out,HN.out⟩
          case measure=>simp [intOf]; omega
         | true =>
          have HN:=hide (show brightL L (x:Int)=true by
           rw [HV.out]; refine any_yes hk ?_
           rw [HS.out]; have:rm=(x:Int):=by simpa using h3
           simp [this])
          go_wp2
          go_ret
          exact ⟨ret_bool HN.out.symm,R1.out.low⟩
     ·have HN:=hide (show brightL L (x:Int)=false by rw [HV.out]; exact any_no fun j hj=>HA.out j (by omega))
      go_wp2
      go_ret
      exact ⟨ret_bool HN.out.symm,HR.out.low⟩
  ·have HV:=hide (show brightL L (x:Int)=false by
    have:amg (x:Int) 6=false:=amg_no (by omega)
    simp [brightL,this])
   go_enter Tryz.func190,Tryz.ntmps190
   go_wp2
   go_ret
   exact ⟨ret_bool HV.out.symm,(gd_start L w).low⟩
 ·have HV:=hide (show brightL L r=false by
   have:amg r 6=false:=amg_no (by omega)
   simp [brightL,this])
  go_enter Tryz.func190,Tryz.ntmps190
  go_wp2
  go_ret
  exact ⟨ret_bool HV.out.symm,(gd_start L w).low⟩
theorem has_hidden (L:Ld) (b:Int):(∀ x ∈ hasK L 1 b 9,(decide (L.kind x.toNat=2)&&L.on x.toNat)=false)→hiddenL L b=false:=by
 intro h
 refine any_no fun k hk=>?_
 unfold cloaks
 cases h1:isAt L 1 b k with
 | false=>unfold isAt at h1; rw [h1]; rfl
 | true =>
  have:=h _ (hasK_of hk h1)
  simp only [Int.toNat_natCast] at this
  unfold isAt at h1
  rw [h1,Bool.true_and,this]
theorem hidden_any (L:Ld) (b:Int) (w:World) :
 Calls Tryz.prog 227 #[.agg L.cells,.int .i64 b] w fun e w'=>e=.returned (.bool (hiddenL L b))∧Below w.heap.size w w':=by
 have HH:=hide (has_hidden L b)
 have HM:Hid (∀ x ∈ hasK L 1 b 9,∃ i:Nat,x=(i:Int)∧i < 9∧isAt L 1 b i=true):=fun x hx=>hasK_mem hx
 have HL:=hide (hasK_len L 1 b 9)
 go_enter Tryz.func227,Tryz.ntmps227
 go_wp2_with (refine wl_land (.tmp 2) rfl rfl _ L rfl (cod_new w L) ?_)
 refine (has_any L 1 b _).mono ?_
 rintro e w1 ⟨v,rfl,hn,hb⟩
 have G1:=hide ((gd_start L w).call hb)
 clear hb
 generalize hasK L 1 b 9=q at *
 obtain ⟨av,cap,rfl,hl,hm,hc⟩:=hn
 have HC:=hide hc
 clear hc
 generalize hqn:q.length=n at *
 have HQ:=hide hqn
 clear hqn
 unfold maxLen at hm
 have h9:=HL.out
 go_wp2
 go_loopw [12] (fun c wr=>∃ k:Nat,k≤n∧c=.int .i64 k∧GdRel L w wr∧Below w1.heap.size w1 wr∧∀ x ∈ q.take k,(decide (L.kind x.toNat=2)&&L.on x.toNat)=false) (fun c _=>n - (intOf c).toNat)
 case atStart=>exact ⟨0,by omega,rfl,G1.out,Below.refl _ _,fun x h=>by simp at h⟩
 case round =>
  obtain ⟨k,hle,rfl,R,hb,hall⟩:=hrel
  by_cases hk:k < n
  ·obtain ⟨bb,off,rfl,hcell⟩:=HC.out (by omega)
   have hkq:k < q.length:=by rw [HQ.out]; exact hk
   have hmem:=getD_mem hkq
   obtain ⟨i,hi,hi9,hat⟩:=HM.out _ hmem
   have c0:=hcell k hk
   rw [hi] at c0
   have c1:wr.cell? ⟨bb,off+k,none⟩=some (.int .i64 (i:Int)):=by
    rw [hb.cell (p:=⟨bb,off+k,none⟩) (cell_lt c0)]; exact c0
   have NX:Hid ((decide (L.kind i=2)&&L.on i)=false→∀ x ∈ q.take (k+1),(decide (L.kind x.toNat=2)&&L.on x.toNat)=false):=fun h x hx=>by
    by_cases hx':x ∈ q.take k
    ·exact hall x hx'
    ·have:=mem_take_succ hkq hx hx'
     rw [hi] at this
     rw [← this]; simpa using h
   have HY:Hid ((decide (L.kind i=2)&&L.on i)=true→hiddenL L b=true):=fun h=>any_yes (f:=cloaks L b) hi9 (by
    unfold isAt at hat
    unfold cloaks
    rw [hat,Bool.true_and]; exact h)
   have HR:=hide R
   have HB:=hide hb
   clear R hb hall hcell hmem hi hat c0 HC
   cases h1:(L.kind i==2) with
   | false =>
    have HN:=hide (NX.out (by have:¬ L.kind i=2:=by simpa using h1
                              simp [this]))
    go_wp2_with (first | (refine wl_thing (.tmp 18) rfl rfl _ i L rfl HR.out.cod hi9 ?_) | (refine wl_new 37 (.tmp 7) (.tmp 19) rfl rfl _ _ rfl rfl rfl Tryz.sizeThing rfl rfl ?_))
    go_roundw
    case rel=>exact ⟨k+1,by omega,by go_num,HR.out.box _,HB.out.alloc HB.out.size _,HN.out⟩
    case measure=>simp [intOf]; omega
   | true =>
    have HK:=hide (show L.kind i=2 by simpa using h1)
    cases h2:L.on i with
    | false =>
     have HN:=hide (NX.out (by simp [h2]))
     go_wp2_with (first | (refine wl_thing (.tmp 18) rfl rfl _ i L rfl HR.out.cod hi9 ?_) | (refine wl_new 37 (.tmp 7) (.tmp 19) rfl rfl _ _ rfl rfl rfl Tryz.sizeThing rfl rfl ?_))
     go_roundw
     case rel=>exact ⟨k+1,by omega,by go_num,HR.out.box _,HB.out.alloc HB.out.size _,HN.out⟩
     case measure=>simp [intOf]; omega
    | true =>
     have HN:=hide (HY.out (by simp [h2,HK.out]))
     go_wp2_with (first | (refine wl_thing (.tmp 18) rfl rfl _ i L rfl HR.out.cod hi9 ?_) | (refine wl_new 37 (.tmp 7) (.tmp 19) rfl rfl _ _ rfl rfl rfl Tryz.sizeThing rfl rfl ?_))
     go_ret
     exact ⟨ret_bool HN.out.symm,(HR.out.box _).low⟩
  ·have HN:=hide (HH.out (by rw [List.take_of_length_le (by rw [HQ.out]; omega)] at hall; exact hall))
   have HR:=hide R
   clear R hb hall
   go_wp2
   go_ret
   exact ⟨ret_bool HN.out.symm,HR.out.low⟩
open Go.RowKit
theorem GdRel.drew {L:Ld} {w wr:World} (h:GdRel L w wr):GdRel L w wr.drew:=⟨h.cod,⟨h.low.os,h.low.tape,h.low.output,h.low.size,h.low.block⟩⟩
theorem sees_not {L:Ld} {a b:Int} (h:abtL L a=false∨abtL L b=false):seesL L a b=false:=by
 unfold seesL
 rcases h with h | h
 ·rw [h]; rfl
 ·rw [h,Bool.and_false]; rfl
theorem sees_if {L:Ld} {a b:Int} (ha:abtL L a=true) (hb:abtL L b=true) (hne:a ≠ b) :
 seesL L a b=(decide (L.room a.toNat=L.room b.toNat)&&brightL L (L.room b.toNat)&&(!hiddenL L b || L.keen a.toNat)):=by
 unfold seesL
 rw [ha,hb,decide_eq_false hne]; rfl
theorem sees_any (L:Ld) (a b:Int) (w:World) :
 Calls Tryz.prog 216 #[.agg L.cells,.int .i64 a,.int .i64 b] w fun e w'=>e=.returned (.bool (seesL L a b))∧Below w.heap.size w w':=by
 cases ha:abtL L a with
 | false =>
  have HV:=hide (sees_not (b:=b) (.inl ha))
  have HA:=hide ha
  clear ha
  go_enter Tryz.func216,Tryz.ntmps216
  go_wp2_with (refine wl_land (.tmp 3) rfl rfl _ L rfl (cod_new w L) ?_)
  refine (shere_any L a _).mono ?_
  rintro e w1 ⟨rfl,hb⟩
  have G1:=hide ((gd_start L w).call hb)
  rw [HA.out]
  clear hb
  go_wp2
  go_ret
  exact ⟨ret_bool HV.out.symm,G1.out.low⟩
 | true =>
  cases hB:abtL L b with
  | false =>
   have HV:=hide (sees_not (a:=a) (.inr hB))
   have HA:=hide ha
   have HB:=hide hB
   clear ha hB
   go_enter Tryz.func216,Tryz.ntmps216
   go_wp2_with (refine wl_land (.tmp 3) rfl rfl _ L rfl (cod_new w L) ?_)
   refine (shere_any L a _).mono ?_
   rintro e w1 ⟨rfl,hb⟩
   have G1:=hide ((gd_start L w).call hb)
   rw [HA.out]
   clear hb
   go_wp2_with (refine wl_land (.tmp 3) rfl rfl _ L rfl G1.out.cod ?_)
   refine (shere_any L b _).mono ?_
   rintro e w2 ⟨rfl,hb⟩
   have G2:=hide (G1.out.call hb)
   rw [HB.out]
   clear hb
   go_wp2
   go_ret
   exact ⟨ret_bool HV.out.symm,G2.out.low⟩
  | true =>
   by_cases hab:a=b
   ·subst hab
    have HV:=hide (show seesL L a a=true by rw [sees_self,ha])
    have HA:=hide ha
    clear ha hB
    go_enter Tryz.func216,Tryz.ntmps216
    go_wp2_with (refine wl_land (.tmp 3) rfl rfl _ L rfl (cod_new w L) ?_)
    refine (shere_any L a _).mono ?_
    rintro e w1 ⟨rfl,hb⟩
    have G1:=hide ((gd_start L w).call hb)
    rw [HA.out]
    clear hb
    go_wp2_with (refine wl_land (.tmp 3) rfl rfl _ L rfl G1.out.cod ?_)
    refine (shere_any L a _).mono ?_
    rintro e w2 ⟨rfl,hb⟩
    have G2:=hide (G1.out.call hb)
    rw [HA.out]
    clear hb
    go_wp2
    go_ret
    exact ⟨ret_bool HV.out.symm,G2.out.low⟩
   ·have HV:=hide (sees_if ha hB hab)
    have hne:(a==b)=false:=by simp [hab]
    have HA:=hide ha
    have HB:=hide hB
    have pa:amg a 6=true:=by simp only [abtL,Bool.and_eq_true] at ha; exact ha.1
    have pb:amg b 6=true:=by simp only [abtL,Bool.and_eq_true] at hB; exact hB.1
    obtain ⟨a0,a6⟩:=amg_pos pa
    obtain ⟨b0,b6⟩:=amg_pos pb
    obtain ⟨x,rfl⟩:=Int.eq_ofNat_of_zero_le a0
    obtain ⟨y,rfl⟩:=Int.eq_ofNat_of_zero_le b0
    clear ha hB hab pa pb
    go_enter Tryz.func216,Tryz.ntmps216
    go_wp2_with (refine wl_land (.tmp 3) rfl rfl _ L rfl (cod_new w L) ?_)
    refine (shere_any L (x:Int) _).mono ?_
    rintro e w1 ⟨rfl,hb⟩
    have G1:=hide ((gd_start L w).call hb)
    rw [HA.out]
    clear hb
    go_wp2_with (refine wl_land (.tmp 3) rfl rfl _ L rfl G1.out.cod ?_)
    refine (shere_any L (y:Int) _).mono ?_
    rintro e w2 ⟨rfl,hb⟩
    have G2:=hide (G1.out.call hb)
    rw [HB.out]
    clear hb
    have cx0:w2.cell? ⟨w.heap.size,129+x*6,none⟩=some (.string (L.bname x)):=G2.out.cod.being x 0 (by omega) (by omega)
    have cx1:w2.cell? ⟨w.heap.size,129+x*6+1,none⟩=some (.bool (L.here x)):=G2.out.cod.being x 1 (by omega) (by omega)
    have cx2:w2.cell? ⟨w.heap.size,129+x*6+2,none⟩=some (.bool (L.keen x)):=G2.out.cod.being x 2 (by omega) (by omega)
    have cx3:w2.cell? ⟨w.heap.size,129+x*6+3,none⟩=some (.int .i64 (L.room x)):=G2.out.cod.being x 3 (by omega) (by omega)
    have cx4:w2.cell? ⟨w.heap.size,129+x*6+4,none⟩=some (.int .i64 (L.health x)):=G2.out.cod.being x 4 (by omega) (by omega)
    have cx5:w2.cell? ⟨w.heap.size,129+x*6+5,none⟩=some (.int .i64 (L.foe x)):=G2.out.cod.being x 5 (by omega) (by omega)
    have cy0:w2.cell? ⟨w.heap.size,129+y*6,none⟩=some (.string (L.bname y)):=G2.out.cod.being y 0 (by omega) (by omega)
    have cy1:w2.cell? ⟨w.heap.size,129+y*6+1,none⟩=some (.bool (L.here y)):=G2.out.cod.being y 1 (by omega) (by omega)
    have cy2:w2.cell? ⟨w.heap.size,129+y*6+2,none⟩=some (.bool (L.keen y)):=G2.out.cod.being y 2 (by omega) (by omega)
    have cy3:w2.cell? ⟨w.heap.size,129+y*6+3,none⟩=some (.int .i64 (L.room y)):=G2.out.cod.being y 3 (by omega) (by omega)
    have cy4:w2.cell? ⟨w.heap.size,129+y*6+4,none⟩=some (.int .i64 (L.health y)):=G2.out.cod.being y 4 (by omega) (by omega)
    have cy5:w2.cell? ⟨w.heap.size,129+y*6+5,none⟩=some (.int .i64 (L.foe y)):=G2.out.cod.being y 5 (by omega) (by omega)
    have hlt:w.heap.size < w2.heap.size:=G2.out.cod.lt
    go_wp2
    go_cut [7,8] (fun p q wc=>∃ i j:Nat,p=.pointer (some ⟨i,0,none⟩)∧q=.pointer (some ⟨j,0,none⟩)∧GdRel L w wc∧wc.cell? ⟨i,2,none⟩=some (.bool (L.keen x))∧wc.cell? ⟨i,3,none⟩=some (.int .i64 (L.room x))∧wc.cell? ⟨j,3,none⟩=some (.int .i64 (L.room y)))
    case first =>
     go_region
     ·go_wp2
      go_meet
      exact ⟨_,_,rfl,rfl,((G2.out.box _).box _).drew,by go_simp,by go_simp,by go_simp⟩
     ·go_wp2
      go_meet
      exact ⟨_,_,rfl,rfl,((G2.out.box _).box _).drew,by go_simp,by go_simp,by go_simp⟩
    case rest =>
     obtain ⟨i,j,rfl,rfl,g,k2,k3,k4⟩:=hcut
     clear cx0 cx1 cx2 cx3 cx4 cx5 cy0 cy1 cy2 cy3 cy4 cy5 hlt
     have G3:=hide g
     clear g G1 G2 HA HB
     by_cases hr:L.room x=L.room y
     ·have e1:(L.room x==L.room y)=true:=by simp [hr]
      have HE:=hide hr
      clear hr
      go_wp2_with (refine wl_land (.tmp 3) rfl rfl _ L rfl G3.out.cod ?_)
      refine (bright_any L (L.room x) _).mono ?_
      rintro e w3 ⟨rfl,hb⟩
      have c2:w3.cell? ⟨i,2,none⟩=some (.bool (L.keen x)):=by rw [hb.cell (cell_lt k2)]; exact k2
      have G4:=hide (G3.out.call hb)
      clear hb k2 k3 k4
      have HV2:=hide (show seesL L (x:Int) (y:Int)=(brightL L (L.room x)&&(!hiddenL L (y:Int) || L.keen x)) by rw [HV.out,Int.toNat_natCast,Int.toNat_natCast,← HE.out]; simp)
      cases hbr:brightL L (L.room x) with
      | false =>
       have HN:=hide (show seesL L (x:Int) (y:Int)=false by rw [HV2.out,hbr]; simp)
       go_wp2
       go_ret
       exact ⟨ret_bool HN.out.symm,G4.out.low⟩
      | true =>
       cases hkn:L.keen x with
       | true =>
        have HN:=hide (show seesL L (x:Int) (y:Int)=true by rw [HV2.out,hbr,hkn]; simp)
        go_wp2
        go_ret
        exact ⟨ret_bool HN.out.symm,G4.out.low⟩
       | false =>
        have HN:=hide (show seesL L (x:Int) (y:Int)=!hiddenL L (y:Int) by rw [HV2.out,hbr,hkn]; simp)
        go_wp2_with (refine wl_land (.tmp 3) rfl rfl _ L rfl G4.out.cod ?_)
        refine (hidden_any L (y:Int) _).mono ?_
        rintro e w4 ⟨rfl,hb⟩
        have G5:=hide (G4.out.call hb)
        clear hb c2
        go_wp2
        go_ret
        exact ⟨ret_bool HN.out.symm,G5.out.low⟩
     ·have e1:(L.room x==L.room y)=false:=by simp [hr]
      have HN:=hide (show seesL L (x:Int) (y:Int)=false by rw [HV.out,Int.toNat_natCast,Int.toNat_natCast,decide_eq_false hr]; simp)
      clear hr
      go_wp2
      go_ret
      exact ⟨ret_bool HN.out.symm,G3.out.low⟩
theorem or12:bits .or .i64 1 2=3:=by decide
theorem or14:bits .or .i64 1 4=5:=by decide
theorem or34:bits .or .i64 3 4=7:=by decide
end Go.Proofs.YtncgcejlkmoliaaGreatDoor
