import Derived.Test.YtncgcejlkmoliaaGreatDoorMh00
import Derived.Deep.WholeRow
set_option linter.unusedVariables false
set_option maxRecDepth 100000
set_option maxHeartbeats 16000000
namespace Go.Proofs.YtncgcejlkmoliaaGreatDoor
open Go.RowKit
section
variable {P:Program} {ops:Array Oper} {rest:List Oper} {op:Oper} {a:Act} {w:World} {Q:Exit→Act→World→Prop}
theorem wl_land (x:Operand) (ho:op.op=.load 43 x) (hw:Region.wanted op (yielded ops a.tmps)=true) (b:Nat) (L:Ld)
 (hx:a.eval x=.pointer (some ⟨b,0,none⟩)) (hc:Cod w b L) (h:wpList Tryz.prog ops Q rest (a.put op.dst (.agg L.cells)) w):wpList Tryz.prog ops Q (op::rest) a w :=
 wl_wanted hw (wp_load_row 43 x ho b hx 43 L.cells (0,0) _ hc Tryz.underlying43 rfl (by rw [L.size]; exact Tryz.sizeLand) h)
theorem wl_mid (ty:TypeId) (x:Operand) (ho:op.op=.load ty x) (hw:Region.wanted op (yielded ops a.tmps)=true) (b o:Nat) (cs:List Value) (d:TypeDesc)
 (hx:a.eval x=.pointer (some ⟨b,o,none⟩)) (hc:w.rangeAt b o cs) (hu:P.underlying ty=some d) (hd:d.isRow=true) (hi:(P.info? ty).map (·.size)=some cs.length)
 (h:wpList P ops Q rest (a.put op.dst (.agg cs.toArray)) w):wpList P ops Q (op::rest) a w :=
 wl_wanted hw (wp_load_mid ty x ho b o hx cs d hc hu hd hi h)
theorem wl_new (t:TypeId) (x y:Operand) (ho:op.op=.store t x y) (hw:Region.wanted op (yielded ops a.tmps)=true) {W:World} (c c':Array Value) (hW:W=w.alloc (.cells c t))
 (hx:a.eval x=.pointer (some ⟨w.heap.size,0,none⟩)) (hy:a.eval y=.agg c') (hi:(P.info? t).map (·.size)=some c'.size) (hs:c.size=c'.size) (h1:c'.all (·.oneCell')=true)
 (h:wpList P ops Q rest (a.put op.dst undef) (w.alloc (.cells c' t))):wpList P ops Q (op::rest) a W:=by
 subst hW
 refine wl_wanted hw ?_
 unfold Oper.wp execOp
 simp only [ho,hx,hy,Instr.storeAt,Instr.sureAddr,Sem.run_bind,Sem.run_pure,Result.andThen_ok,run_storeVar_new w t c c' hi hs h1]
 exact h
theorem wl_index (t e:TypeId) (x y:Operand) (ho:op.op=.index t x y) (hw:Region.wanted op (yielded ops a.tmps)=true) (n s k:Nat) (cs:Array Value) (d:TypeDesc)
 (hx:a.eval x=.agg cs) (hy:a.eval y=.int .i64 (k:Int)) (hu:P.underlying t=some (.array n e)) (he:P.underlying e=some d) (hd:d.isRow=true) (hi:(P.info? e).map (·.size)=some s) (hk:k < n)
 (h:wpList P ops Q rest (a.put op.dst (.agg (cs.extract (k*s) (k*s+s)))) w):wpList P ops Q (op::rest) a w:=by
 refine wl_wanted hw ?_
 have hagg:(isAgg e).run P w=.ok true w:=by
  unfold isAgg
  rw [Sem.run_bind,run_underlying he w]
  cases d <;> simp_all
 have hsz:(sizeOf e).run P w=.ok s w:=by
  cases hq:P.info? e with
  | none=>simp [hq] at hi
  | some i =>
   have:i.size=s:=by simpa [hq] using hi
   simp [sizeOf,typeInfo,hq,this]
 unfold Oper.wp execOp
 have hk':(k:Int) < (n:Int):=by omega
 have h0:(0:Int)≤(k:Int):=by omega
 simp only [ho,hx,hy,Instr.index,asIntOf,Sem.run_bind,Sem.run_pure,Result.andThen_ok,run_underlying hu,hk',h0,and_self,if_true,hsz,part,hagg,Int.toNat_natCast]
 exact h
end
namespace Ld
variable (L:Ld)
def tcells (i:Nat):Array Value:=#[.string (L.tname i),.int .i64 (L.kind i),.int .i64 (L.wh i),.int .i64 (L.loc i),.bool (L.on i)]
def bcells (b:Nat):Array Value:=#[.string (L.bname b),.bool (L.here b),.bool (L.keen b),.int .i64 (L.room b),.int .i64 (L.health b),.int .i64 (L.foe b)]
def scells (r:Nat):Array Value:=#[.bool (L.shut r 0),.bool (L.shut r 1),.bool (L.shut r 2),.bool (L.shut r 3),.bool (L.shut r 4),.bool (L.shut r 5)]
def rcells (r:Nat):Array Value:=#[.string (L.rname r),.bool (L.dark r),.int .i64 (L.exit r 0),.int .i64 (L.exit r 1),.int .i64 (L.exit r 2),.int .i64 (L.exit r 3),.int .i64 (L.exit r 4),.int .i64 (L.exit r 5),
 .bool (L.shut r 0),.bool (L.shut r 1),.bool (L.shut r 2),.bool (L.shut r 3),.bool (L.shut r 4),.bool (L.shut r 5)]
def roomsA:Array Value:=L.cells.extract 0 84
def thingsA:Array Value:=L.cells.extract 84 129
def beingsA:Array Value:=L.cells.extract 129 165
theorem tcells_get (i j:Nat) (hj:j < 5):(L.tcells i)[j]?=some (L.thingCell i j):=by
 match j,hj with
 | 0,_=>rfl
 | 1,_=>rfl
 | 2,_=>rfl
 | 3,_=>rfl
 | 4,_=>rfl
theorem bcells_get (i j:Nat) (hj:j < 6):(L.bcells i)[j]?=some (L.beingCell i j):=by
 match j,hj with
 | 0,_=>rfl
 | 1,_=>rfl
 | 2,_=>rfl
 | 3,_=>rfl
 | 4,_=>rfl
 | 5,_=>rfl
theorem rcells_get (i j:Nat) (hj:j < 14):(L.rcells i)[j]?=some (L.roomCell i j):=by
 match j,hj with
 | 0,_=>rfl
 | 1,_=>rfl
 | 2,_=>rfl
 | 3,_=>rfl
 | 4,_=>rfl
 | 5,_=>rfl
 | 6,_=>rfl
 | 7,_=>rfl
 | 8,_=>rfl
 | 9,_=>rfl
 | 10,_=>rfl
 | 11,_=>rfl
 | 12,_=>rfl
 | 13,_=>rfl
theorem things_at (k:Nat) (hk:k < 9):L.thingsA.extract (k*5) (k*5+5)=L.tcells k:=by
 apply Array.ext_getElem?
 intro j
 unfold thingsA
 simp only [Array.getElem?_extract,Array.size_extract,size]
 by_cases hj:j < 5
 ·rw [if_pos (by omega),if_pos (by omega),L.tcells_get k j hj,L.get _ (by omega),← L.at_thing k j hk hj]
  congr 2; omega
 ·rw [if_neg (by omega),Array.getElem?_eq_none (by simp [tcells]; omega)]
theorem beings_at (k:Nat) (hk:k < 6):L.beingsA.extract (k*6) (k*6+6)=L.bcells k:=by
 apply Array.ext_getElem?
 intro j
 unfold beingsA
 simp only [Array.getElem?_extract,Array.size_extract,size]
 by_cases hj:j < 6
 ·rw [if_pos (by omega),if_pos (by omega),L.bcells_get k j hj,L.get _ (by omega),← L.at_being k j hk hj]
  congr 2; omega
 ·rw [if_neg (by omega),Array.getElem?_eq_none (by simp [bcells]; omega)]
theorem rooms_at (k:Nat) (hk:k < 6):L.roomsA.extract (k*14) (k*14+14)=L.rcells k:=by
 apply Array.ext_getElem?
 intro j
 unfold roomsA
 simp only [Array.getElem?_extract,Array.size_extract,size]
 by_cases hj:j < 14
 ·rw [if_pos (by omega),if_pos (by omega),L.rcells_get k j hj,L.get _ (by omega),← L.at_room k j hk hj]
  congr 2; omega
 ·rw [if_neg (by omega),Array.getElem?_eq_none (by simp [rcells]; omega)]
end Ld
section
variable {w:World} {b:Nat} {L:Ld}
theorem Cod.thingR (h:Cod w b L) (k:Nat) (hk:k < 9):w.rangeAt b (84+k*5) (L.tcells k).toList:=by
 intro j v hv
 have hj:j < 5:=by
  have:=(List.getElem?_eq_some_iff.1 hv).1; simpa [Ld.tcells] using this
 rw [h.thing k j hk hj,← hv]
 have:=L.tcells_get k j hj
 simpa using this.symm
theorem Cod.roomsR (h:Cod w b L):w.rangeAt b 0 L.roomsA.toList:=World.rangeAt_of_block h 0 84
theorem Cod.thingsR (h:Cod w b L):w.rangeAt b 84 L.thingsA.toList:=World.rangeAt_of_block h 84 45
theorem Cod.beingsR (h:Cod w b L):w.rangeAt b 129 L.beingsA.toList:=World.rangeAt_of_block h 129 36
end
theorem Tryz.sizeThing:(Tryz.prog.info? 37).map (·.size)=some 5:=by kernel_rfl
theorem Tryz.sizeBeing:(Tryz.prog.info? 40).map (·.size)=some 6:=by kernel_rfl
theorem Tryz.sizeRoom:(Tryz.prog.info? 34).map (·.size)=some 14:=by kernel_rfl
theorem Tryz.sizeThings:(Tryz.prog.info? 38).map (·.size)=some 45:=by kernel_rfl
theorem Tryz.sizeBeings:(Tryz.prog.info? 41).map (·.size)=some 36:=by kernel_rfl
theorem Tryz.sizeRooms:(Tryz.prog.info? 35).map (·.size)=some 84:=by kernel_rfl
theorem wl_thing {ops:Array Oper} {rest:List Oper} {op:Oper} {a:Act} {w:World} {Q:Exit→Act→World→Prop} (x:Operand) (ho:op.op=.load 37 x) (hw:Region.wanted op (yielded ops a.tmps)=true) (b k:Nat) (L:Ld)
 (hx:a.eval x=.pointer (some ⟨b,84+k*5,none⟩)) (hc:Cod w b L) (hk:k < 9)
 (h:wpList Tryz.prog ops Q rest (a.put op.dst (.agg #[.string (L.tname k),.int .i64 (L.kind k),.int .i64 (L.wh k),.int .i64 (L.loc k),.bool (L.on k)])) w):wpList Tryz.prog ops Q (op::rest) a w :=
 wl_mid 37 x ho hw b (84+k*5) (L.tcells k).toList _ hx (hc.thingR k hk) Tryz.underlying37 rfl Tryz.sizeThing h
open Go.RowKit
theorem wayFrom_win (L:Ld):∀ (n:Nat) (S:List Int) (i:Int),WIn S→WIn (wayFrom L n S i)∧(S ≠ []→wayFrom L n S i ≠ []):=by
 intro n
 induction n with
 | zero=>intro S i h; exact ⟨h,fun h=>h⟩
 | succ n ih =>
  intro S i h
  simp only [wayFrom]
  by_cases hc:amg i 9=true∧i ∉ S
  ·rw [if_pos hc]
   have hs:=(h.snoc hc.1 hc.2).1
   by_cases h2:L.wh i.toNat=2
   ·rw [if_pos h2]
    have:=ih _ (L.loc i.toNat) hs
    exact ⟨this.1,fun _=>this.2 (by simp)⟩
   ·rw [if_neg h2]; exact ⟨hs,fun _=>by simp⟩
  ·rw [if_neg hc]; exact ⟨h,fun h=>h⟩
theorem way_win (L:Ld) (i:Int):WIn (wayL L i):=(wayFrom_win L 10 [] i ⟨List.nodup_nil,fun s h=>by simp at h⟩).1
theorem way_pos (L:Ld) {i:Int} (h:amg i 9=true):wayL L i ≠ []:=by
 unfold wayL
 simp only [wayFrom]
 rw [if_pos ⟨h,by simp⟩]
 have hs:=(WIn.snoc (S:=[]) ⟨List.nodup_nil,fun s h=>by simp at h⟩ h (by simp)).1
 by_cases h2:L.wh i.toNat=2
 ·rw [if_pos h2]; exact (wayFrom_win L 9 _ _ hs).2 (by simp)
 ·rw [if_neg h2]; simp
theorem wayL_nil (L:Ld) {i:Int} (h:amg i 9=false):wayL L i=[]:=by
 unfold wayL
 simp only [wayFrom]
 rw [if_neg (by simp [h])]
theorem way_len (L:Ld) (i:Int):(wayL L i).length≤9:=pigeon 9 _ (way_win L i).nodup (way_win L i).inn
def lastW (L:Ld) (i:Int):Nat:=((wayL L i).getD ((wayL L i).length - 1) 0).toNat
theorem getD_mem {q:List Int} {k:Nat} (h:k < q.length):q.getD k 0 ∈ q:=by simp [h]
theorem last_lt (L:Ld) {i:Int} (h:wayL L i ≠ []):lastW L i < 9∧(wayL L i).getD ((wayL L i).length - 1) 0=(lastW L i:Int):=by
 have hl:0 < (wayL L i).length:=List.length_pos_iff.2 h
 have:=(way_win L i).inn _ (getD_mem (q:=wayL L i) (k:=(wayL L i).length - 1) (by omega))
 unfold lastW
 omega
theorem Nums.some {w:World} {v:Value} {q:List Int} (h:Nums w v q) (h0:0 < q.length):∃ b off cap,v=.slice (some ⟨b,off,none⟩) q.length cap∧q.length≤cap∧cap≤maxLen∧∀ i,i < q.length→w.cell? ⟨b,off+i,none⟩=some (.int .i64 (q.getD i 0)):=by
 obtain ⟨av,cap,rfl,hl,hm,hc⟩:=h
 obtain ⟨b,off,rfl,hcc⟩:=hc h0
 exact ⟨b,off,cap,rfl,hl,hm,hcc⟩
open Go.RowKit
def openW (L:Ld) (i:Int):Bool:=((wayL L i).drop 1).all fun b=>L.on b.toNat
def roomL (L:Ld) (i:Int):Int × Bool :=
 if wayL L i=[] then (-1,false)
 else if L.wh (lastW L i)=0 then (L.loc (lastW L i),openW L i)
 else if L.wh (lastW L i)=1∧amg (L.loc (lastW L i)) 6=true then (L.room (L.loc (lastW L i)).toNat,openW L i)
 else (-1,false)
theorem room_none (L:Ld) (i:Int) (w:World) (hi:amg i 9=false) :
 Calls Tryz.prog 33 #[.agg L.cells,.int .i64 i] w fun e w'=>e=.returned (.tuple #[.int .i64 (roomL L i).1,.bool (roomL L i).2])∧Below w.heap.size w w':=by
 have hq:wayL L i=[]:=wayL_nil L hi
 have hr:roomL L i=(-1,false):=by unfold roomL; rw [if_pos hq]
 rw [hr]
 have HQ:=hide hq
 clear hi hq hr
 go_enter Tryz.func33,Tryz.ntmps33
 go_wp2_with (refine wl_land (.tmp 2) rfl rfl _ L rfl (cod_new w L) ?_)
 refine (way_any L i _).mono ?_
 rintro e w1 ⟨v,rfl,hn,hb⟩
 have hb':Below w.heap.size w w1:=((Below.refl _ _).alloc (Nat.le_refl _) _).trans (hb.mono (by simp))
 rw [HQ.out] at hn
 obtain ⟨av,cap,rfl,_,_,_⟩:=hn
 simp only [List.length_nil]
 clear hb
 go_wp2
 go_ret2
 exact ⟨rfl,hb'⟩
theorem all_step {q:List Int} {m j:Nat} (hw:WIn q) (hq:q.length=m+1) (hj:j < m) :
 ∃ x:Nat,x < 9∧(q.getD (j+1) 0=(x:Int)∧∀ f:Int→Bool,((q.drop 1).take (j+1)).all f=(((q.drop 1).take j).all f&&f (x:Int))):=by
 have h:=hw.inn _ (getD_mem (q:=q) (k:=j+1) (by omega))
 refine ⟨(q.getD (j+1) 0).toNat,by omega,by omega,fun f=>?_⟩
 have e:((q.getD (j+1) 0).toNat:Int)=q.getD (j+1) 0:=by omega
 rw [e]
 rw [List.take_succ_eq_append_getElem (by simp; omega),List.all_append]
 have e2:q.getD (j+1) 0=q[j+1]:=by simp [hq,hj]
 rw [e2]
 simp
theorem room_some (L:Ld) (i:Int) (w:World) (hi:amg i 9=true) :
 Calls Tryz.prog 33 #[.agg L.cells,.int .i64 i] w fun e w'=>e=.returned (.tuple #[.int .i64 (roomL L i).1,.bool (roomL L i).2])∧Below w.heap.size w w':=by
 have hne:=way_pos L hi
 have hll:=last_lt L hne
 have hlen:=way_len L i
 have hpos:0 < (wayL L i).length:=List.length_pos_iff.2 hne
 have hwin:=way_win L i
 have HR:=hide (show roomL L i=(if L.wh (lastW L i)=0 then (L.loc (lastW L i),openW L i)
  else if L.wh (lastW L i)=1∧amg (L.loc (lastW L i)) 6=true then (L.room (L.loc (lastW L i)).toNat,openW L i) else (-1,false)) by unfold roomL; rw [if_neg hne])
 have HL:=hide hll
 have HP:=hide hpos
 have HN:=hide hlen
 have HW:=hide hwin
 have HO:=hide (show openW L i=((wayL L i).drop 1).all (fun b=>L.on b.toNat) from rfl)
 clear hi hne hll hlen hpos hwin
 generalize hrr:roomL L i=R at *
 clear hrr
 generalize hoo:openW L i=O at *
 clear hoo
 go_enter Tryz.func33,Tryz.ntmps33
 go_wp2_with (refine wl_land (.tmp 2) rfl rfl _ L rfl (cod_new w L) ?_)
 refine (way_any L i _).mono ?_
 rintro e w1 ⟨v,rfl,hn,hb⟩
 have hb':Below w.heap.size w w1:=((Below.refl _ _).alloc (Nat.le_refl _) _).trans (hb.mono (by simp))
 have hc:Cod w1 w.heap.size L:=(cod_new w L).behind hb (Nat.le_refl _)
 obtain ⟨b,off,cap,rfl,hcap,hmax,hcell⟩:=hn.some HP.out
 generalize lastW L i=k at *
 generalize wayL L i=q at *
 have h0:=HP.out
 have h9:=HN.out
 have HQ:=hide hcell
 generalize hqn:q.length=n at *
 have HQN:=hide hqn
 obtain ⟨m,rfl⟩:∃ m,n=m+1:=⟨n - 1,by omega⟩
 clear hcell hn hb HP HN hqn
 have HB:=hide hb'
 have HC:=hide hc
 clear hb' hc
 unfold maxLen at hmax
 have h16:((m:Int)+1==0)=false:=by simp; omega
 have hk:=HL.out.1
 have cm:w1.cell? ⟨b,off+m,none⟩=some (.int .i64 (k:Int)):=by
  have:=HQ.out m (by omega)
  have e:=HL.out.2
  rw [Nat.add_sub_cancel] at e
  rw [e] at this; exact this
 go_wp2
 all_goals
  go_loop [7,20] (fun o c=>∃ j:Nat,j≤m∧c=.int .i64 j∧o=.bool (((q.drop 1).take j).all fun b=>L.on b.toNat)) (fun _ c=>m - (intOf c).toNat)
  case atStart=>exact ⟨0,Nat.zero_le _,rfl,rfl⟩
  case round =>
   obtain ⟨j,hj,rfl,rfl⟩:=hrel
   by_cases hlt:j < m
   ·first
    | (exfalso; omega)
    | (obtain ⟨x,hx,hxe⟩:=all_step HW.out HQN.out hlt
       have HX:=hide hxe
       clear hxe
       have cj:w1.cell? ⟨b,off+1+j,none⟩=some (.int .i64 (x:Int)):=by
        have:=HQ.out (j+1) (by omega)
        rw [HX.out.1] at this
        rw [show off+1+j=off+(j+1) by omega]; exact this
       have c4:w1.cell? ⟨w.heap.size,84+x*5+4,none⟩=some (.bool (L.on x)):=HC.out.thing x 4 hx (by omega)
       have HS:=hide (HX.out.2 (fun b=>L.on b.toNat))
       generalize ((q.drop 1).take j).all (fun b=>L.on b.toNat)=acc at *
       cases acc
       ·go_wp2
        go_round
        case rel=>exact ⟨j+1,by omega,by go_num,by rw [HS.out]; rfl⟩
        case measure=>simp [intOf]; omega
       ·go_wp2
        go_round
        case rel=>exact ⟨j+1,by omega,by go_num,by rw [HS.out]; rfl⟩
        case measure=>simp [intOf]; omega)
   ·have hjm:j=m:=by omega
    subst hjm
    have HA:=hide (show (((q.drop 1).take j).all fun b=>L.on b.toNat)=O by
     rw [HO.out,List.take_of_length_le (by have:=HQN.out; simp; omega)])
    rw [HA.out]
    by_cases hw0:L.wh k=0
    ·have hb0:(L.wh k==0)=true:=by simp [hw0]
     have H0:=hide hw0
     clear hw0
     go_wp2_with (first | (refine wl_thing (.tmp 40) rfl rfl _ k L rfl HC.out hk ?_) | (refine wl_new 37 (.tmp 10) (.tmp 41) rfl rfl _ _ rfl rfl rfl Tryz.sizeThing rfl rfl ?_))
     go_ret2
     refine ⟨?_,(HB.out.alloc HB.out.size _)⟩
     rw [HR.out,if_pos H0.out]
     rfl
    ·have hb0:(L.wh k==0)=false:=by simp [hw0]
     have H0:=hide hw0
     clear hw0
     by_cases hw1:L.wh k=1
     ·have hb1:(L.wh k==1)=true:=by simp [hw1]
      have H1:=hide hw1
      clear hw1
      go_wp2_with (first | (refine wl_thing (.tmp 40) rfl rfl _ k L rfl HC.out hk ?_) | (refine wl_new 37 (.tmp 10) (.tmp 41) rfl rfl _ _ rfl rfl rfl Tryz.sizeThing rfl rfl ?_))
      refine (among_any (L.loc k) 6 _).mono ?_
      rintro e w2 ⟨rfl,hw2⟩
      rw [hw2]
      clear hw2 w2
      cases ha:amg (L.loc k) 6 with
      | false =>
       have HA6:=hide ha
       clear ha
       go_wp2
       go_ret2
       refine ⟨?_,(HB.out.alloc HB.out.size _)⟩
       rw [HR.out,if_neg H0.out,if_neg (by rw [HA6.out]; simp)]
       rfl
      | true =>
       have HA6:=hide ha
       obtain ⟨g0,g6⟩:=amg_pos ha
       clear ha
       obtain ⟨x,hx⟩:=Int.eq_ofNat_of_zero_le g0
       rw [hx] at g6
       have cr:(w1.alloc (.cells #[.string (L.tname k),.int .i64 (L.kind k),.int .i64 (L.wh k),.int .i64 (x:Int),.bool (L.on k)] 37)).cell? ⟨w.heap.size,129+x*6+3,none⟩=some (.int .i64 (L.room x)) :=
        (HC.out.alloc _).being x 3 (by omega) (by omega)
       have HX:=hide hx
       rw [hx]
       clear hx g0
       go_wp2
       go_ret2
       refine ⟨?_,(HB.out.alloc HB.out.size _)⟩
       rw [HR.out,if_neg H0.out,if_pos ⟨H1.out,HA6.out⟩,HX.out]
       rfl
     ·have hb1:(L.wh k==1)=false:=by simp [hw1]
      have H1:=hide hw1
      clear hw1
      go_wp2_with (first | (refine wl_thing (.tmp 40) rfl rfl _ k L rfl HC.out hk ?_) | (refine wl_new 37 (.tmp 10) (.tmp 41) rfl rfl _ _ rfl rfl rfl Tryz.sizeThing rfl rfl ?_))
      go_ret2
      refine ⟨?_,(HB.out.alloc HB.out.size _)⟩
      rw [HR.out,if_neg H0.out,if_neg (fun h=>H1.out h.1)]
      rfl
theorem room_any (L:Ld) (i:Int) (w:World) :
 Calls Tryz.prog 33 #[.agg L.cells,.int .i64 i] w fun e w'=>e=.returned (.tuple #[.int .i64 (roomL L i).1,.bool (roomL L i).2])∧Below w.heap.size w w':=by
 cases h:amg i 9 with
 | false=>exact room_none L i w h
 | true=>exact room_some L i w h
open Go.RowKit
section
variable {L:Ld} {i0 i:Int} {S:List Int} {o:Bool}
end
def shines (L:Ld) (r:Int) (i:Nat):Bool:=decide (L.kind i=1)&&L.on i&&(roomL L i).2&&decide ((roomL L i).1=r)
def brightL (L:Ld) (r:Int):Bool:=amg r 6&&(!L.dark r.toNat || (List.range 9).any (shines L r))
def cloaks (L:Ld) (b:Int) (i:Nat):Bool:=decide (L.wh i=1)&&decide (L.loc i=b)&&decide (L.kind i=2)&&L.on i
def hiddenL (L:Ld) (b:Int):Bool:=(List.range 9).any (cloaks L b)
def abtL (L:Ld) (b:Int):Bool:=amg b 6&&L.here b.toNat
def seesL (L:Ld) (a b:Int):Bool :=
 abtL L a&&abtL L b&&(decide (a=b) || (decide (L.room a.toNat=L.room b.toNat)&&brightL L (L.room b.toNat)&&(!hiddenL L b || L.keen a.toNat)))
def loud (k:Int):Bool:=decide (k=7) || decide (k=14) || decide (k=15)
def percL (L:Ld) (b kind room actor other:Int):Int :=
 if abtL L b=false then 0
 else if b ≠ actor∧(kind=16∨L.room b.toNat ≠ room) then 0
 else if b ≠ actor∧seesL L b actor=false∧loud kind=false then 0
 else (if b ≠ actor∧seesL L b actor=false then 3 else 1)+(if amg other 6=true∧seesL L b other=false then 4 else 0)
theorem sees_self (L:Ld) (a:Int):seesL L a a=abtL L a:=by simp [seesL]
open Go.RowKit
structure Ev where
 kind:Int
 room:Int
 actor:Int
 other:Int
 dir:Int
 num:Int
 who:ByteArray
 whom:ByteArray
 thing:ByteArray
 text:ByteArray
 by':Nat→Int
namespace Ev
variable (E:Ev)
def cells:Array Value:=#[.int .i64 E.kind,.int .i64 E.room,.int .i64 E.actor,.int .i64 E.other,.int .i64 E.dir,.int .i64 E.num,.string E.who,.string E.whom,.string E.thing,.string E.text,
 .int .i64 (E.by' 0),.int .i64 (E.by' 1),.int .i64 (E.by' 2),.int .i64 (E.by' 3),.int .i64 (E.by' 4),.int .i64 (E.by' 5)]
theorem size:E.cells.size=16:=rfl
theorem get_by (k:Nat) (hk:k < 6):E.cells[10+k]?=some (.int .i64 (E.by' k)):=by
 match k,hk with
 | 0,_=>rfl
 | 1,_=>rfl
 | 2,_=>rfl
 | 3,_=>rfl
 | 4,_=>rfl
 | 5,_=>rfl
theorem one:E.cells.all (·.oneCell')=true:=by simp [cells,Value.oneCell']
def setBy (k:Nat) (x:Int):Ev:={ E with by':=fun j=>if j=k then x else E.by' j }
theorem set_by (k:Nat) (hk:k < 6) (x:Int):E.cells.setIfInBounds (10+k) (.int .i64 x)=(E.setBy k x).cells:=by
 match k,hk with
 | 0,_=>rfl
 | 1,_=>rfl
 | 2,_=>rfl
 | 3,_=>rfl
 | 4,_=>rfl
 | 5,_=>rfl
theorem ext_by {F:Ev} (h:∀ j,j < 6→E.by' j=F.by' j) (h1:E.kind=F.kind) (h2:E.room=F.room) (h3:E.actor=F.actor) (h4:E.other=F.other) (h5:E.dir=F.dir) (h6:E.num=F.num)
 (h7:E.who=F.who) (h8:E.whom=F.whom) (h9:E.thing=F.thing) (h10:E.text=F.text):E.cells=F.cells:=by
 unfold cells
 rw [h 0 (by omega),h 1 (by omega),h 2 (by omega),h 3 (by omega),h 4 (by omega),h 5 (by omega),h1,h2,h3,h4,h5,h6,h7,h8,h9,h10]
end Ev
def Cev (w:World) (b:Nat) (E:Ev):Prop:=w.heap[b]?=some (.cells E.cells 71 (0,0))
theorem Tryz.sizeEvent:(Tryz.prog.info? 71).map (·.size)=some 16:=by kernel_rfl
section
variable {w w':World} {b:Nat} {E:Ev}
theorem Cev.lt (h:Cev w b E):b < w.heap.size:=(Array.getElem?_eq_some_iff.1 h).1
theorem Cev.cell (h:Cev w b E) {n:Nat} {v:Value} (hv:E.cells[n]?=some v):w.cell? ⟨b,n,none⟩=some v:=by
 unfold Cev at h; rw [cell_of_row w b n _ _ _ h,hv]
theorem Cev.by' (h:Cev w b E) (k:Nat) (hk:k < 6):w.cell? ⟨b,10+k,none⟩=some (.int .i64 (E.by' k)):=h.cell (E.get_by k hk)
theorem Cev.kind (h:Cev w b E):w.cell? ⟨b,0,none⟩=some (.int .i64 E.kind):=h.cell rfl
theorem Cev.room (h:Cev w b E):w.cell? ⟨b,1,none⟩=some (.int .i64 E.room):=h.cell rfl
theorem Cev.actor (h:Cev w b E):w.cell? ⟨b,2,none⟩=some (.int .i64 E.actor):=h.cell rfl
theorem Cev.othr (h:Cev w b E):w.cell? ⟨b,3,none⟩=some (.int .i64 E.other):=h.cell rfl
theorem Cev.dir (h:Cev w b E):w.cell? ⟨b,4,none⟩=some (.int .i64 E.dir):=h.cell rfl
theorem Cev.num (h:Cev w b E):w.cell? ⟨b,5,none⟩=some (.int .i64 E.num):=h.cell rfl
theorem Cev.who (h:Cev w b E):w.cell? ⟨b,6,none⟩=some (.string E.who):=h.cell rfl
theorem Cev.whom (h:Cev w b E):w.cell? ⟨b,7,none⟩=some (.string E.whom):=h.cell rfl
theorem Cev.thing (h:Cev w b E):w.cell? ⟨b,8,none⟩=some (.string E.thing):=h.cell rfl
theorem Cev.text (h:Cev w b E):w.cell? ⟨b,9,none⟩=some (.string E.text):=h.cell rfl
theorem Cev.behind {B:Nat} (h:Cev w b E) (hb:Below B w w') (hB:w.heap.size≤B):Cev w' b E:=by
 have:=h.lt
 unfold Cev; rw [hb.block _ (by omega)]; exact h
theorem Cev.alloc (h:Cev w b E) (o:Obj):Cev (w.alloc o) b E:=by
 unfold Cev; rw [Below.heap_alloc _ _ _ h.lt]; exact h
theorem Cev.put (h:Cev w b E) (k:Nat) (hk:k < 6) (x:Int):Cev (w.setCell ⟨b,10+k,none⟩ (.int .i64 x)) b (E.setBy k x):=by
 unfold Cev at h ⊢
 rw [setCell_eq_setRow w b (10+k) _ _ _ _ h,setRow_heap w b _ _ _ _ h,E.set_by k hk]
theorem Cev.other (h:Cev w b E) {c:Nat} (hc:b ≠ c) (o:Nat) (x:Value):Cev (w.setCell ⟨c,o,none⟩ x) b E:=by
 unfold Cev; rw [Below.heap_setCell _ _ _ _ hc]; exact h
theorem cev_new (w:World) (E:Ev):Cev (w.alloc (.cells E.cells 71)) w.heap.size E:=heap_alloc_new w _
end
section
variable {ops:Array Oper} {rest:List Oper} {op:Oper} {a:Act} {w:World} {Q:Exit→Act→World→Prop}
theorem wl_event (x:Operand) (ho:op.op=.load 71 x) (hw:Region.wanted op (yielded ops a.tmps)=true) (b:Nat) (E:Ev)
 (hx:a.eval x=.pointer (some ⟨b,0,none⟩)) (hc:Cev w b E) (h:wpList Tryz.prog ops Q rest (a.put op.dst (.agg E.cells)) w):wpList Tryz.prog ops Q (op::rest) a w :=
 wl_wanted hw (wp_load_row 71 x ho b hx 71 E.cells (0,0) _ hc Tryz.underlying71 rfl (by rw [E.size]; exact Tryz.sizeEvent) h)
end
open Go.RowKit
structure Wf (L:Ld):Prop where
 exit:∀ r d,r < 6→d < 6→-9223372036854775808≤L.exit r d∧L.exit r d≤9223372036854775807
 foe:∀ b,b < 6→-9223372036854775808≤L.foe b∧L.foe b≤9223372036854775807
theorem all_bad {n k:Nat} {f:Nat→Bool} (hk:k < n) (h:f k=false):(List.range n).all f=false:=by
 rw [Bool.eq_false_iff]
 intro hall
 have:=List.all_eq_true.1 hall k (by simp [hk])
 rw [h] at this; simp at this
theorem all_ok {n:Nat} {f:Nat→Bool} (h:∀ k,k < n→f k=true):(List.range n).all f=true :=
 List.all_eq_true.2 fun k hk=>h k (by simpa using hk)
section
variable {P:Program} {ops:Array Oper} {rest:List Oper} {op:Oper} {a:Act} {w:World} {Q:Exit→Act→World→Prop}
theorem wl_rooms (x:Operand) (ho:op.op=.load 35 x) (hw:Region.wanted op (yielded ops a.tmps)=true) (b:Nat) (L:Ld) (hx:a.eval x=.pointer (some ⟨b,0,none⟩)) (hc:Cod w b L)
 (h:wpList Tryz.prog ops Q rest (a.put op.dst (.agg L.roomsA)) w):wpList Tryz.prog ops Q (op::rest) a w :=
 wl_mid 35 x ho hw b 0 L.roomsA.toList _ hx hc.roomsR Tryz.underlying35 rfl (by rw [Array.length_toList]; unfold Ld.roomsA; rw [Array.size_extract,L.size]; exact Tryz.sizeRooms) (by rw [Array.toArray_toList]; exact h)
theorem wl_beings (x:Operand) (ho:op.op=.load 41 x) (hw:Region.wanted op (yielded ops a.tmps)=true) (b:Nat) (L:Ld) (hx:a.eval x=.pointer (some ⟨b,129,none⟩)) (hc:Cod w b L)
 (h:wpList Tryz.prog ops Q rest (a.put op.dst (.agg L.beingsA)) w):wpList Tryz.prog ops Q (op::rest) a w :=
 wl_mid 41 x ho hw b 129 L.beingsA.toList _ hx hc.beingsR Tryz.underlying41 rfl (by rw [Array.length_toList]; unfold Ld.beingsA; rw [Array.size_extract,L.size]; exact Tryz.sizeBeings) (by rw [Array.toArray_toList]; exact h)
theorem wl_things (x:Operand) (ho:op.op=.load 38 x) (hw:Region.wanted op (yielded ops a.tmps)=true) (b:Nat) (L:Ld) (hx:a.eval x=.pointer (some ⟨b,84,none⟩)) (hc:Cod w b L)
 (h:wpList Tryz.prog ops Q rest (a.put op.dst (.agg L.thingsA)) w):wpList Tryz.prog ops Q (op::rest) a w :=
 wl_mid 38 x ho hw b 84 L.thingsA.toList _ hx hc.thingsR Tryz.underlying38 rfl (by rw [Array.length_toList]; unfold Ld.thingsA; rw [Array.size_extract,L.size]; exact Tryz.sizeThings) (by rw [Array.toArray_toList]; exact h)
theorem wl_iroom (x y:Operand) (ho:op.op=.index 35 x y) (hw:Region.wanted op (yielded ops a.tmps)=true) (k:Nat) (L:Ld) (hx:a.eval x=.agg L.roomsA) (hy:a.eval y=.int .i64 (k:Int)) (hk:k < 6)
 (h:wpList Tryz.prog ops Q rest (a.put op.dst (.agg (L.rcells k))) w):wpList Tryz.prog ops Q (op::rest) a w :=
 wl_index 35 34 x y ho hw 6 14 k L.roomsA _ hx hy Tryz.underlying35 Tryz.underlying34 rfl Tryz.sizeRoom hk (by rw [L.rooms_at k hk]; exact h)
theorem wl_ibeing (x y:Operand) (ho:op.op=.index 41 x y) (hw:Region.wanted op (yielded ops a.tmps)=true) (k:Nat) (L:Ld) (hx:a.eval x=.agg L.beingsA) (hy:a.eval y=.int .i64 (k:Int)) (hk:k < 6)
 (h:wpList Tryz.prog ops Q rest (a.put op.dst (.agg (L.bcells k))) w):wpList Tryz.prog ops Q (op::rest) a w :=
 wl_index 41 40 x y ho hw 6 6 k L.beingsA _ hx hy Tryz.underlying41 Tryz.underlying40 rfl Tryz.sizeBeing hk (by rw [L.beings_at k hk]; exact h)
theorem wl_ithing (x y:Operand) (ho:op.op=.index 38 x y) (hw:Region.wanted op (yielded ops a.tmps)=true) (k:Nat) (L:Ld) (hx:a.eval x=.agg L.thingsA) (hy:a.eval y=.int .i64 (k:Int)) (hk:k < 9)
 (h:wpList Tryz.prog ops Q rest (a.put op.dst (.agg (L.tcells k))) w):wpList Tryz.prog ops Q (op::rest) a w :=
 wl_index 38 37 x y ho hw 9 5 k L.thingsA _ hx hy Tryz.underlying38 Tryz.underlying37 rfl Tryz.sizeThing hk (by rw [L.things_at k hk]; exact h)
theorem wl_newR (x y:Operand) (ho:op.op=.store 34 x y) (hw:Region.wanted op (yielded ops a.tmps)=true) {W:World} (c:Array Value) (k:Nat) (L:Ld) (hW:W=w.alloc (.cells c 34))
 (hx:a.eval x=.pointer (some ⟨w.heap.size,0,none⟩)) (hy:a.eval y=.agg (L.rcells k)) (hs:c.size=14)
 (h:wpList Tryz.prog ops Q rest (a.put op.dst undef) (w.alloc (.cells (L.rcells k) 34))):wpList Tryz.prog ops Q (op::rest) a W :=
 wl_new 34 x y ho hw c (L.rcells k) hW hx hy Tryz.sizeRoom hs (by simp [Ld.rcells,Value.oneCell']) h
theorem wl_allR (x:Operand) (ho:op.op=.load 34 x) (hw:Region.wanted op (yielded ops a.tmps)=true) (g k:Nat) (L:Ld) (hx:a.eval x=.pointer (some ⟨g,0,none⟩))
 (hg:w.heap[g]?=some (.cells (L.rcells k) 34 (0,0))) (h:wpList Tryz.prog ops Q rest (a.put op.dst (.agg (L.rcells k))) w):wpList Tryz.prog ops Q (op::rest) a w :=
 wl_wanted hw (wp_load_row 34 x ho g hx 34 (L.rcells k) (0,0) _ hg Tryz.underlying34 rfl Tryz.sizeRoom h)
theorem wl_newB (x y:Operand) (ho:op.op=.store 40 x y) (hw:Region.wanted op (yielded ops a.tmps)=true) {W:World} (c:Array Value) (k:Nat) (L:Ld) (hW:W=w.alloc (.cells c 40))
 (hx:a.eval x=.pointer (some ⟨w.heap.size,0,none⟩)) (hy:a.eval y=.agg (L.bcells k)) (hs:c.size=6)
 (h:wpList Tryz.prog ops Q rest (a.put op.dst undef) (w.alloc (.cells (L.bcells k) 40))):wpList Tryz.prog ops Q (op::rest) a W :=
 wl_new 40 x y ho hw c (L.bcells k) hW hx hy Tryz.sizeBeing hs (by simp [Ld.bcells,Value.oneCell']) h
theorem wl_allB (x:Operand) (ho:op.op=.load 40 x) (hw:Region.wanted op (yielded ops a.tmps)=true) (g k:Nat) (L:Ld) (hx:a.eval x=.pointer (some ⟨g,0,none⟩))
 (hg:w.heap[g]?=some (.cells (L.bcells k) 40 (0,0))) (h:wpList Tryz.prog ops Q rest (a.put op.dst (.agg (L.bcells k))) w):wpList Tryz.prog ops Q (op::rest) a w :=
 wl_wanted hw (wp_load_row 40 x ho g hx 40 (L.bcells k) (0,0) _ hg Tryz.underlying40 rfl Tryz.sizeBeing h)
theorem wl_newT (x y:Operand) (ho:op.op=.store 37 x y) (hw:Region.wanted op (yielded ops a.tmps)=true) {W:World} (c:Array Value) (k:Nat) (L:Ld) (hW:W=w.alloc (.cells c 37))
 (hx:a.eval x=.pointer (some ⟨w.heap.size,0,none⟩)) (hy:a.eval y=.agg (L.tcells k)) (hs:c.size=5)
 (h:wpList Tryz.prog ops Q rest (a.put op.dst undef) (w.alloc (.cells (L.tcells k) 37))):wpList Tryz.prog ops Q (op::rest) a W :=
 wl_new 37 x y ho hw c (L.tcells k) hW hx hy Tryz.sizeThing hs (by simp [Ld.tcells,Value.oneCell']) h
theorem wl_allT (x:Operand) (ho:op.op=.load 37 x) (hw:Region.wanted op (yielded ops a.tmps)=true) (g k:Nat) (L:Ld) (hx:a.eval x=.pointer (some ⟨g,0,none⟩))
 (hg:w.heap[g]?=some (.cells (L.tcells k) 37 (0,0))) (h:wpList Tryz.prog ops Q rest (a.put op.dst (.agg (L.tcells k))) w):wpList Tryz.prog ops Q (op::rest) a w :=
 wl_wanted hw (wp_load_row 37 x ho g hx 37 (L.tcells k) (0,0) _ hg Tryz.underlying37 rfl Tryz.sizeThing h)
end
structure GdRel (L:Ld) (w wr:World):Prop where
 cod:Cod wr w.heap.size L
 low:Below w.heap.size w wr
theorem GdRel.box {L:Ld} {w wr:World} (h:GdRel L w wr) (o:Obj):GdRel L w (wr.alloc o):=⟨h.cod.alloc o,h.low.alloc h.low.size o⟩
theorem GdRel.call {L:Ld} {w wr w1:World} (h:GdRel L w wr) (hb:Below wr.heap.size wr w1):GdRel L w w1:=⟨h.cod.behind hb (Nat.le_refl _),h.low.trans (hb.mono h.low.size)⟩
theorem gd_start (L:Ld) (w:World):GdRel L w (w.alloc (.cells L.cells 43)):=⟨cod_new w L,(Below.refl _ _).alloc (Nat.le_refl _) _⟩
end Go.Proofs.YtncgcejlkmoliaaGreatDoor
