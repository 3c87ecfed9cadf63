import Derived.Test.YtncgcejlkmoliaaGreatDoorMh04
import Derived.Great.BuildSlice
import Derived.Test.YtncgcejlkmoliaaGreatDoorMh01
set_option linter.unusedVariables false
set_option maxRecDepth 100000
set_option maxHeartbeats 16000000
namespace Go.Proofs.YtncgcejlkmoliaaGreatDoor
open Go.RowKit
theorem run_at {P:Program} {ops:Array Oper} {Q:Exit→Act→World→Prop} {i:Nat} {d:Option Tmp} {oi:Oper} {a:Act} {w w':World} {v:Value} {K:Act→World→Prop} (hi:ops[i]?=some oi) (hd:oi.dst=d) (hw:Region.wanted oi (yielded ops a.tmps)=true)
 (hrun:(execOp a.eval oi).run P w=.ok (.value v) w') (h:K (a.put d v) w'):wpOp P ops Q i K a w:=by
 subst hd
 unfold wpOp
 rw [hi]
 simp only
 rw [if_pos hw]
 refine .inl ?_
 unfold Oper.wp
 rw [hrun]
 exact h
theorem skip_at {P:Program} {ops:Array Oper} {Q:Exit→Act→World→Prop} {i:Nat} {d:Option Tmp} {oi:Oper} {a:Act} {w w':World} {K:Act→World→Prop} (hi:ops[i]?=some oi) (hd:oi.dst=d) (hw:Region.wanted oi (yielded ops a.tmps)=true)
 (hrun:(execOp a.eval oi).run P w=.ok .skip w') (h:K (a.put d undef) w'):wpOp P ops Q i K a w:=by
 subst hd
 unfold wpOp
 rw [hi]
 simp only
 rw [if_pos hw]
 refine .inl ?_
 unfold Oper.wp
 rw [hrun]
 exact h
def zeroEv:Ev:={ kind:=0,room:=0,actor:=0,other:=0,dir:=0,num:=0,who:=⟨#[]⟩,whom:=⟨#[]⟩,thing:=⟨#[]⟩,text:=⟨#[]⟩,by':=fun _=>0 }
theorem Tryz.infoEv:(Tryz.prog.info? 71).map (fun i=>(i.zero,i.size,i.bytes))=some (some (.agg zeroEv.cells),16,160):=by kernel_rfl
theorem fill_event (E:Ev):Instr.fill (fun i=>some (i*16,16)) ((Array.range (1*16)).map ((Value.agg zeroEv.cells).cells[· % (Value.agg zeroEv.cells).cells.size]!)) [(0,.agg E.cells)]=some E.cells:=by kernel_rfl
theorem shapeE {w:World} {base n:Nat} {v:Value} {xs:List Value} (h:w.ownsRow base 71 16 v n xs):∃ (av:Option Addr) (cap:Nat),v=.slice av n cap:=by
 rcases h.2 with ⟨rfl,rfl⟩ | ⟨g,cap,cur,rfl,_⟩
 ·exact ⟨_,_,rfl⟩
 ·exact ⟨_,_,rfl⟩
theorem exec_row {a:Act} {op:Oper} {w:World} (x:Operand) (ho:op.op=.buildSlice 45 1 #[(0,x)]) {E:Ev} (hx:a.eval x=.agg E.cells) :
 (execOp a.eval op).run Tryz.prog w=.ok (.value (.slice (some ⟨w.heap.size,0,none⟩) 1 1)) (w.alloc (.cells E.cells 71)):=by
 obtain ⟨i,hi,hz,hs,hb⟩:=info_parts Tryz.infoEv
 have:=run_buildSlice (P:=Tryz.prog) w 45 71 1 #[(0,.agg E.cells)] E.cells i _ Tryz.underlying45 hi hz (by rw [hs]; decide) (by rw [hs]; decide) (by rw [hs]; exact fill_event E)
 unfold execOp
 simp only [ho,Sem.run_bind,List.map_toArray,List.map_cons,List.map_nil,hx,this,Result.andThen_ok,Sem.run_pure]
theorem exec_append {w:World} (ty:TypeId) {base:Nat} {v:Value} {Es:List Ev} {E:Ev} {k:Nat}
 (hown:w.ownsRow base 71 16 v Es.length (evc Es)) (hk:w.heap[k]?=some (.cells E.cells 71 (0,0))) (hlen:Es.length≤1000000) (hbase:base≤w.heap.size) :
 ∃ u w',(∀ (a:Act) (op:Oper) (s x:Operand),op.op=.call { callee:=.builtin .append,args:=#[s,x],argTypes:=#[45,45] }→op.type=ty→a.eval s=v→a.eval x=.slice (some ⟨k,0,none⟩) 1 1→(execOp a.eval op).run Tryz.prog w=.ok (.value u) w') ∧
  w'.ownsRow base 71 16 u (Es.length+1) (evc Es++E.cells.toList)∧w.grownBy w' v.ownBlock∧(u.ownBlock=v.ownBlock∨u.ownBlock=some w.heap.size):=by
 obtain ⟨i,hi,hz,hsz,hb⟩:=info_parts Tryz.infoEv
 obtain ⟨u,w',hr,h1,h2,h3,h4⟩:=run_append_own_at (P:=Tryz.prog) (w:=w) base 45 ty 71 i _ 16 160 Tryz.underlying45 hi hz hsz hb rfl (by decide) v Es.length (evc Es) hown ⟨k,0,none⟩ 1 1 E.cells.toList (by rw [Array.length_toList,Ev.size])
  (fun j y hj=>by
   rw [Addr.add_mid,Nat.zero_add,cell_of_row w k j _ _ _ hk]
   simpa using hj)
  (fun y hy=>(Array.all_eq_true_iff_forall_mem.1 (Ev.one E)) y (by simpa using hy)) (by unfold maxLen; omega) (by omega) hbase
 refine ⟨u,w',fun a op s x ho hty hs hx=>?_,h1,h2,h4⟩
 subst hty
 unfold execOp
 simp only [ho,resolve,invoke,builtin,Sem.run_bind,Sem.run_pure,Result.andThen_ok,List.map_toArray,List.map_cons,List.map_nil,hs,hx,hr]
theorem exec_land' {a:Act} {op:Oper} {w:World} (x:Operand) (ho:op.op=.load 43 x) {g:Nat} {L:Ld} (hx:a.eval x=.pointer (some ⟨g,0,none⟩)) (hc:w.rangeAt g 0 L.cells.toList) :
 (execOp a.eval op).run Tryz.prog w=.ok (.value (.agg L.cells)) w:=by
 have hl:(Instr.loadAt 43 (.pointer (some ⟨g,0,none⟩))).run Tryz.prog w=.ok (.agg L.cells) w:=by
  simp only [Instr.loadAt,Instr.sureAddr,Sem.run_bind,Sem.run_pure,Result.andThen_ok]
  have:=run_loadVar_mid (P:=Tryz.prog) w g 0 43 L.cells.toList _ hc Tryz.underlying43 rfl (by rw [Array.length_toList,L.size]; exact Tryz.sizeLand)
  rw [Array.toArray_toList] at this; exact this
 unfold execOp
 simp only [ho,hx,Sem.run_bind,hl,Result.andThen_ok,Sem.run_pure]
structure Hp (g:Nat) (L:Ld) (k:Nat) (E:Ev) (W:World):Prop where
 land:W.rangeAt g 0 L.cells.toList
 cev:Cev W k E
structure Hq (T:TypeId) (pre:List Value) (w0:World) (L:Ld) (Es:List Ev) (v:Value) (E:Ev) (w W:World):Prop where
 blk:W.heap[w0.heap.size]?=some (.cells (L.more pre v) T (0,0))
 own:W.ownsRow (w0.heap.size+1) 71 16 v Es.length (evc Es)
 cev:Cev W w.heap.size E
 low:Below w0.heap.size w0 W
 bel:Below w.heap.size w W
section
variable {T:TypeId} {pre:List Value} {w0 w W W':World} {L:Ld} {Es:List Ev} {v u:Value} {E F:Ev}
theorem Hq.sn (h:Hq T pre w0 L Es v E w W):Sn T pre w0 L Es W:=⟨⟨v,h.blk,h.own⟩,h.low⟩
theorem Hq.hp (h:Hq T pre w0 L Es v E w W):Hp w0.heap.size L w.heap.size E W:=⟨h.sn.land,h.cev⟩
theorem Hq.call (h:Hq T pre w0 L Es v E w W) (hb:Below W.heap.size W W'):Hq T pre w0 L Es v E w W' :=
 ⟨by rw [hb.block _ h.sn.lt]; exact h.blk,own_below h.own hb,h.cev.behind hb (Nat.le_refl _),h.low.trans (hb.mono h.low.size),h.bel.trans (hb.mono h.bel.size)⟩
theorem Hq.row (h:Hq T pre w0 L Es v E w W):W.cell? ⟨w0.heap.size,165+pre.length,none⟩=some v:=by rw [cell_of_row W _ _ _ _ _ h.blk,more_row]
theorem hq_start (h:Sn T pre w0 L Es w) (E:Ev):∃ v,Hq T pre w0 L Es v E w (w.alloc (.cells E.cells 71)).drew∧(v.ownBlock=none∨∃ k,v.ownBlock=some k∧k < w.heap.size):=by
 obtain ⟨v,hv,ho⟩:=h.ex
 have hb:Below w.heap.size w (w.alloc (.cells E.cells 71)).drew:=((Below.refl _ _).alloc (Nat.le_refl _) _).drew
 refine ⟨v,⟨by rw [hb.block _ h.lt]; exact hv,own_below ho hb,cev_new w E,h.low.trans (hb.mono h.low.size),hb⟩,?_⟩
 cases hx:v.ownBlock with
 | none=>exact .inl rfl
 | some k=>exact .inr ⟨k,rfl,(ho.lt k hx).2⟩
theorem Hq.grown (h:Hq T pre w0 L Es v E w W) (hv:v.ownBlock=none∨∃ k,v.ownBlock=some k∧k < w.heap.size) (hg:W.grownBy W' v.ownBlock) :
 Hp w0.heap.size L w.heap.size E W'∧W'.heap[w0.heap.size]?=some (.cells (L.more pre v) T (0,0)):=by
 have hlt:=h.sn.lt
 have e1:W'.heap[w0.heap.size]?=W.heap[w0.heap.size]?:=hg.block _ hlt (fun e=>by have:=h.own.lt _ e.symm; omega)
 have e2:W'.heap[w.heap.size]?=W.heap[w.heap.size]?:=hg.block _ h.cev.lt (fun e=>by
  rcases hv with hv | ⟨k,hk,hl⟩
  ·rw [hv] at e; simp at e
  ·rw [hk] at e; injection e with e; omega)
 have h1:W'.heap[w0.heap.size]?=some (.cells (L.more pre v) T (0,0)):=by rw [e1]; exact h.blk
 refine ⟨⟨?_,by unfold Cev; rw [e2]; exact h.cev⟩,h1⟩
 intro j x hx
 have:=h.sn.land j x hx
 rw [← this]
 simp only [World.cell?,e1]
theorem Hp.put {g k o:Nat} (h:Hp g L k E W) (ho:165≤o) (hk:k ≠ g) (x:Value):Hp g L k E (W.setCell ⟨g,o,none⟩ x):=by
 refine ⟨fun j y hy=>?_,h.cev.other hk _ _⟩
 have hj:j < 165:=by
  have:=(List.getElem?_eq_some_iff.1 hy).1; rw [Array.length_toList,L.size] at this; exact this
 rw [World.cell?_setCell_other _ _ _ _ (by intro e; injection e with e1 e2; omega)]
 exact h.land j y hy
end
open Go.RowKit
def gkind (kind wh:Int) (on:Bool):Bool:=if kind=0 then !on else if kind=2 then (!on || wh==1) else (kind==1 || kind==3)
theorem below_box (w:World) (o:Obj):Below w.heap.size w (w.alloc o):=(Below.refl _ _).alloc (Nat.le_refl _) _
theorem kind_any (s:ByteArray) (kind wh loc:Int) (on:Bool) (w:World) :
 Calls Tryz.prog 63 #[.agg #[.string s,.int .i64 kind,.int .i64 wh,.int .i64 loc,.bool on]] w fun e w'=>e=.returned (.bool (gkind kind wh on))∧Below w.heap.size w w':=by
 by_cases h0:kind=0
 ·subst h0
  go_enter Tryz.func63,Tryz.ntmps63
  go_wp2
  go_ret
  exact ⟨rfl,below_box _ _⟩
 ·have b0:(kind==0)=false:=by simp [h0]
  by_cases h2:kind=2
  ·subst h2
   cases on
   all_goals
    go_enter Tryz.func63,Tryz.ntmps63
    go_wp2
    go_ret
    exact ⟨ret_bool (by simp [gkind]),below_box _ _⟩
  ·have b2:(kind==2)=false:=by simp [h2]
   have HG:=hide (show gkind kind wh on=(kind==1 || kind==3) by unfold gkind; rw [if_neg h0,if_neg h2])
   clear h0 h2
   by_cases h1:kind=1
   ·have b1:(kind==1)=true:=by simp [h1]
    have H1:=hide h1
    clear h1
    go_enter Tryz.func63,Tryz.ntmps63
    go_wp2
    go_ret
    exact ⟨ret_bool (by rw [HG.out,H1.out]; rfl),below_box _ _⟩
   ·have b1:(kind==1)=false:=by simp [h1]
    clear h1
    go_enter Tryz.func63,Tryz.ntmps63
    go_wp2
    go_ret
    exact ⟨ret_bool (by rw [HG.out,b1]; rfl),below_box _ _⟩
def gbeing (here:Bool) (room health foe:Int):Bool :=
 if amg room 6=false∨health < 0∨10 < health∨here ≠ decide (0 < health) then false
 else (foe==0) || (here&&amg (foe - 1) 6)
theorem amg_wrap (n:Int) (k:Int) (hk:k≤100) (hn:-9223372036854775808≤n) (hn':n≤9223372036854775807):amg (wrap64 (n - 1)) k=amg (n - 1) k:=by
 by_cases h:n=-9223372036854775808
 ·subst h
  have e:wrap64 (-9223372036854775808 - 1)=9223372036854775807:=by unfold wrap64; omega
  rw [e,amg_no (by omega),amg_no (by omega)]
 ·congr 1
  unfold wrap64
  omega
theorem gb_no {here:Bool} {room health foe:Int} (h:amg room 6=false∨health < 0∨10 < health∨here ≠ decide (0 < health)):gbeing here room health foe=false:=by
 unfold gbeing; rw [if_pos h]
theorem gb_yes {here:Bool} {room health foe:Int} (h1:amg room 6=true) (h2:¬ health < 0) (h3:¬ 10 < health) (h4:here=decide (0 < health)):gbeing here room health foe=((foe==0) || (here&&amg (foe - 1) 6)):=by
 unfold gbeing; rw [if_neg]
 rintro (h | h | h | h)
 ·rw [h1] at h; simp at h
 ·exact h2 h
 ·exact h3 h
 ·exact h h4
theorem being_any (s:ByteArray) (here keen:Bool) (room health foe:Int) (w:World) (hn:-9223372036854775808≤foe) (hn':foe≤9223372036854775807) :
 Calls Tryz.prog 62 #[.agg #[.string s,.bool here,.bool keen,.int .i64 room,.int .i64 health,.int .i64 foe]] w fun e w'=>e=.returned (.bool (gbeing here room health foe))∧Below w.heap.size w w':=by
 cases ha:amg room 6 with
 | false =>
  have HG:=hide (gb_no (here:=here) (room:=room) (health:=health) (foe:=foe) (.inl ha))
  go_enter Tryz.func62,Tryz.ntmps62
  go_wp2_with fail
  refine (among_any room 6 _).mono ?_
  rintro e w1 ⟨rfl,hw⟩
  rw [hw,ha]
  clear hw w1 ha
  go_wp2
  go_ret
  exact ⟨ret_bool HG.out.symm,below_box _ _⟩
 | true =>
  by_cases h2:health < 0
  ·have HG:=hide (gb_no (here:=here) (room:=room) (health:=health) (foe:=foe) (.inr (.inl h2)))
   go_enter Tryz.func62,Tryz.ntmps62
   go_wp2_with fail
   refine (among_any room 6 _).mono ?_
   rintro e w1 ⟨rfl,hw⟩
   rw [hw,ha]
   clear hw w1 ha
   go_wp2
   go_ret
   exact ⟨ret_bool HG.out.symm,below_box _ _⟩
  ·by_cases h3:10 < health
   ·have HG:=hide (gb_no (here:=here) (room:=room) (health:=health) (foe:=foe) (.inr (.inr (.inl h3))))
    go_enter Tryz.func62,Tryz.ntmps62
    go_wp2_with fail
    refine (among_any room 6 _).mono ?_
    rintro e w1 ⟨rfl,hw⟩
    rw [hw,ha]
    clear hw w1 ha
    go_wp2
    go_ret
    exact ⟨ret_bool HG.out.symm,below_box _ _⟩
   ·by_cases h4:here=decide (0 < health)
    ·have HG:=hide (gb_yes (foe:=foe) ha h2 h3 h4)
     have H4:=hide h4
     by_cases hp:0 < health
     ·have e4:here=true:=by rw [h4]; simp [hp]
      subst e4
      clear h4
      by_cases hf:foe=0
      ·have hb:(foe==0)=true:=by simp [hf]
       have HF:=hide hf
       clear hf
       go_enter Tryz.func62,Tryz.ntmps62
       go_wp2_with fail
       refine (among_any room 6 _).mono ?_
       rintro e w1 ⟨rfl,hw⟩
       rw [hw,ha]
       clear hw w1 ha
       go_wp2
       go_ret
       exact ⟨ret_bool (by rw [HG.out,hb]; rfl),below_box _ _⟩
      ·have hb:(foe==0)=false:=by simp [hf]
       clear hf
       have HW:=hide (amg_wrap foe 6 (by omega) hn hn')
       go_enter Tryz.func62,Tryz.ntmps62
       go_wp2_with fail
       refine (among_any room 6 _).mono ?_
       rintro e w1 ⟨rfl,hw⟩
       rw [hw,ha]
       clear hw w1 ha
       go_wp2_with fail
       refine (among_any _ 6 _).mono ?_
       rintro e w1 ⟨rfl,hw⟩
       rw [hw]
       clear hw w1
       go_wp2
       go_ret
       exact ⟨ret_bool (by rw [HG.out,hb]; first | (rw [← HW.out]; rfl) | rfl),below_box _ _⟩
     ·have e4:here=false:=by rw [h4]; simp [hp]
      subst e4
      clear h4
      by_cases hf:foe=0
      ·have hb:(foe==0)=true:=by simp [hf]
       have HF:=hide hf
       clear hf
       go_enter Tryz.func62,Tryz.ntmps62
       go_wp2_with fail
       refine (among_any room 6 _).mono ?_
       rintro e w1 ⟨rfl,hw⟩
       rw [hw,ha]
       clear hw w1 ha
       go_wp2
       go_ret
       exact ⟨ret_bool (by rw [HG.out,hb]; rfl),below_box _ _⟩
      ·have hb:(foe==0)=false:=by simp [hf]
       clear hf
       go_enter Tryz.func62,Tryz.ntmps62
       go_wp2_with fail
       refine (among_any room 6 _).mono ?_
       rintro e w1 ⟨rfl,hw⟩
       rw [hw,ha]
       clear hw w1 ha
       go_wp2
       go_ret
       exact ⟨ret_bool (by rw [HG.out,hb]; rfl),below_box _ _⟩
    ·have HG:=hide (gb_no (here:=here) (room:=room) (health:=health) (foe:=foe) (.inr (.inr (.inr h4))))
     have H4:=hide h4
     by_cases hp:0 < health
     ·have e4:here=false:=by
       cases here with
       | false=>rfl
       | true=>exact absurd (by simp [hp]) h4
      subst e4
      clear h4
      go_enter Tryz.func62,Tryz.ntmps62
      go_wp2_with fail
      refine (among_any room 6 _).mono ?_
      rintro e w1 ⟨rfl,hw⟩
      rw [hw,ha]
      clear hw w1 ha
      go_wp2
      go_ret
      exact ⟨ret_bool HG.out.symm,below_box _ _⟩
     ·have e4:here=true:=by
       cases here with
       | true=>rfl
       | false=>exact absurd (by simp [hp]) h4
      have hz:decide (0 < health)=false:=by simp; omega
      have hy:decide (health < 0)=false:=by simp; omega
      have hx:decide (10 < health)=false:=by simp; omega
      subst e4
      clear h4
      go_enter Tryz.func62,Tryz.ntmps62
      go_wp2_with fail
      refine (among_any room 6 _).mono ?_
      rintro e w1 ⟨rfl,hw⟩
      rw [hw,ha]
      clear hw w1 ha
      go_wp2
      go_ret
      exact ⟨ret_bool HG.out.symm,below_box _ _⟩
open Go.RowKit
theorem happens_any {w0:World} {L:Ld} {Es:List Ev} {w:World} (hS:Sn 172 [] w0 L Es w) (E:Ev) (hlen:Es.length≤1000000) :
 Calls Tryz.prog 144 #[.pointer (some ⟨w0.heap.size,0,none⟩),.agg E.cells] w fun e w'=>e=.returned (.tuple #[])∧Sn 172 [] w0 L (Es++[allE L E]) w'∧Stp w0.heap.size 165 w w':=by
 obtain ⟨v,HQ,hv⟩:=hq_start hS E
 obtain ⟨av,cap,rfl⟩:=shapeE HQ.own
 go_enter Tryz.func144,Tryz.ntmps144
 go_wp2_with fail
 refine wp_region_held (S:=Hp w0.heap.size L w.heap.size E) (by kernel_rfl) ?_
 change wpAnyH _ _ _ _ _ _ _ _ (w.alloc (.cells E.cells 71)).drew
 generalize (w.alloc (.cells E.cells 71)).drew=W0 at HQ ⊢
 refine tw (i:=0) (d:=some 4) (fuel:=15) (v:=?_) rfl rfl ?_ HQ.hp ?_
 rotate_left
 ·intro W hW; go_simp; try with_reducible rfl
 simp only [Act.put,sT,List.set]
 refine tw (i:=1) (d:=some 5) (fuel:=14) (v:=?_) rfl rfl ?_ HQ.hp ?_
 rotate_left
 ·intro W hW; go_simp; try with_reducible rfl
 simp only [Act.put,sT,List.set]
 refine tw (i:=2) (d:=some 6) (fuel:=13) (v:=?_) rfl rfl ?_ HQ.hp ?_
 rotate_left
 ·intro W hW; go_simp; try with_reducible rfl
 simp only [Act.put,sT,List.set]
 refine tw (i:=3) (d:=some 7) (fuel:=12) (v:=?_) rfl rfl ?_ HQ.hp ?_
 rotate_left
 ·intro W hW; go_simp; try with_reducible rfl
 simp only [Act.put,sT,List.set]
 refine tw (i:=5) (d:=some 9) (fuel:=11) (v:=?_) rfl rfl ?_ HQ.hp ?_
 rotate_left
 ·intro W hW; go_simp; try with_reducible rfl
 simp only [Act.put,sT,List.set]
 refine tw (i:=6) (d:=some 10) (fuel:=10) (v:=?_) rfl rfl ?_ HQ.hp ?_
 rotate_left
 ·intro W hW; go_simp; try with_reducible rfl
 simp only [Act.put,sT,List.set]
 refine tw (i:=7) (d:=some 11) (fuel:=9) (v:=?_) rfl rfl ?_ HQ.hp ?_
 rotate_left
 ·intro W hW; go_simp; try with_reducible rfl
 simp only [Act.put,sT,List.set]
 refine tk (i:=8) (d:=some 12) (fuel:=8) (v:=.agg L.cells) rfl rfl (Or.inl ⟨by rfl,fun W hW=>exec_land' (.tmp 11) rfl rfl hW.land⟩) HQ.hp ?_
 simp only [Act.put,sT,List.set]
 refine tk (i:=9) (d:=some 13) (fuel:=7) (v:=.agg E.cells) rfl rfl (Or.inl ⟨by rfl,fun W hW=>exec_event (.tmp 3) rfl _ rfl hW.cev⟩) HQ.hp ?_
 simp only [Act.put,sT,List.set]
 refine wpAnyH_all (fuel:=6) (rs:=[4,10]) (by kernel_rfl) (by simp) ?_
 intro i hi
 have hi2:i=4∨i=10:=by simpa using hi
 clear hi
 rcases hi2 with rfl | rfl
 ·refine run_at (d:=some 8) (v:=.slice av Es.length cap) (w':=W0) rfl rfl (by rfl) ?_ ?_
  ·have hc:=HQ.row
   revert hc
   generalize W0=W
   intro hc
   simp only [List.length_nil,Nat.add_zero] at hc
   go_simp
   try with_reducible rfl
  refine ⟨HQ.hp,?_⟩
  simp only [Act.put,sT,List.set]
  refine wpAnyH_all (fuel:=5) (rs:=[10]) (by kernel_rfl) (by simp) ?_
  intro i hi
  obtain rfl:i=10:=by simpa using hi
  clear hi
  refine call_at (d:=some 14) rfl rfl (by rfl) 183 #[.agg L.cells,.agg E.cells] (by kernel_rfl) ?_
  refine (all_any L E _).mono ?_
  rintro e x1 ⟨rfl,hb⟩
  have H1:=HQ.call hb
  clear hb
  refine ⟨_,rfl,H1.hp,?_⟩
  simp only [Act.put,sT,List.set]
  refine wpAnyH_all (fuel:=4) (rs:=[11]) (by kernel_rfl) (by simp) ?_
  intro i hi
  obtain rfl:i=11:=by simpa using hi
  clear hi
  refine run_at (d:=some 15) rfl rfl (by rfl) (exec_row (.tmp 14) rfl (E:=allE L E) rfl) ?_
  have H2:=H1.call (below_box x1 (.cells (allE L E).cells 71))
  refine ⟨H2.hp,?_⟩
  simp only [Act.put,sT,List.set]
  refine wpAnyH_all (fuel:=3) (rs:=[12]) (by kernel_rfl) (by simp) ?_
  intro i hi
  obtain rfl:i=12:=by simpa using hi
  clear hi
  obtain ⟨u,y1,hr,o1,o2,o3⟩:=exec_append (w:=x1.alloc (.cells (allE L E).cells 71)) 45 (base:=w0.heap.size+1) (E:=allE L E) H2.own (heap_alloc_new x1 _) hlen (by have:=H2.sn.lt; omega)
  refine run_at (d:=some 16) rfl rfl (by rfl) (hr _ _ (.tmp 8) (.tmp 15) rfl rfl rfl rfl) ?_
  have G:=H2.grown hv o2
  refine ⟨G.1,?_⟩
  simp only [Act.put,sT,List.set]
  refine tw (i:=13) (d:=some 17) (fuel:=2) (v:=?_) rfl rfl ?_ G.1 ?_
  rotate_left
  ·intro W hW; go_simp; try with_reducible rfl
  simp only [Act.put,sT,List.set]
  refine tw (i:=14) (d:=some 18) (fuel:=1) (v:=?_) rfl rfl ?_ G.1 ?_
  rotate_left
  ·intro W hW; go_simp; try with_reducible rfl
  simp only [Act.put,sT,List.set]
  refine wpAnyH_all (fuel:=0) (rs:=[15]) (by kernel_rfl) (by simp) ?_
  intro i hi
  obtain rfl:i=15:=by simpa using hi
  clear hi
  obtain ⟨av',cap',rfl⟩:=shapeE o1
  refine skip_at (d:=none) (w':=y1.setCell ⟨w0.heap.size,165+([]:List Value).length,none⟩ (.slice av' (Es.length+1) cap')) rfl rfl (by rfl) ?_ ?_
  ·have hc:y1.cell? ⟨w0.heap.size,165+([]:List Value).length,none⟩=some (.slice av Es.length cap):=by rw [cell_of_row _ _ _ _ _ _ G.2,more_row]
   have hf:y1.frozen? ⟨w0.heap.size,165+([]:List Value).length,none⟩=false:=by simp only [World.frozen?,G.2]; simp
   simp only [List.length_nil,Nat.add_zero] at hc hf
   go_simp
   try with_reducible rfl
  have hk:w.heap.size ≠ w0.heap.size:=by have:=hS.lt; omega
  refine ⟨G.1.put (by omega) hk _,?_⟩
  simp only [Act.put]
  have A:=Sn.append H2.sn H2.blk o1 H2.own o2 o3
  have A2:=(Stp.below H2.bel hS.lt).trans A.2
  refine wpAnyH_done (by kernel_rfl) ?_ _
  go_end0
  exact ⟨rfl,A.1,A2⟩
 ·refine call_at (d:=some 14) rfl rfl (by rfl) 183 #[.agg L.cells,.agg E.cells] (by kernel_rfl) ?_
  refine (all_any L E _).mono ?_
  rintro e x1 ⟨rfl,hb⟩
  have H1:=HQ.call hb
  clear hb
  refine ⟨_,rfl,H1.hp,?_⟩
  simp only [Act.put,sT,List.set]
  refine wpAnyH_all (fuel:=5) (rs:=[4,11]) (by kernel_rfl) (by simp) ?_
  intro i hi
  have hi2:i=4∨i=11:=by simpa using hi
  clear hi
  rcases hi2 with rfl | rfl
  ·refine run_at (d:=some 8) (v:=.slice av Es.length cap) (w':=x1) rfl rfl (by rfl) ?_ ?_
   ·have hc:=H1.row
    revert hc
    generalize x1=W
    intro hc
    simp only [List.length_nil,Nat.add_zero] at hc
    go_simp
    try with_reducible rfl
   refine ⟨H1.hp,?_⟩
   simp only [Act.put,sT,List.set]
   refine wpAnyH_all (fuel:=4) (rs:=[11]) (by kernel_rfl) (by simp) ?_
   intro i hi
   obtain rfl:i=11:=by simpa using hi
   clear hi
   refine run_at (d:=some 15) rfl rfl (by rfl) (exec_row (.tmp 14) rfl (E:=allE L E) rfl) ?_
   have H2:=H1.call (below_box x1 (.cells (allE L E).cells 71))
   refine ⟨H2.hp,?_⟩
   simp only [Act.put,sT,List.set]
   refine wpAnyH_all (fuel:=3) (rs:=[12]) (by kernel_rfl) (by simp) ?_
   intro i hi
   obtain rfl:i=12:=by simpa using hi
   clear hi
   obtain ⟨u,y1,hr,o1,o2,o3⟩:=exec_append (w:=x1.alloc (.cells (allE L E).cells 71)) 45 (base:=w0.heap.size+1) (E:=allE L E) H2.own (heap_alloc_new x1 _) hlen (by have:=H2.sn.lt; omega)
   refine run_at (d:=some 16) rfl rfl (by rfl) (hr _ _ (.tmp 8) (.tmp 15) rfl rfl rfl rfl) ?_
   have G:=H2.grown hv o2
   refine ⟨G.1,?_⟩
   simp only [Act.put,sT,List.set]
   refine tw (i:=13) (d:=some 17) (fuel:=2) (v:=?_) rfl rfl ?_ G.1 ?_
   rotate_left
   ·intro W hW; go_simp; try with_reducible rfl
   simp only [Act.put,sT,List.set]
   refine tw (i:=14) (d:=some 18) (fuel:=1) (v:=?_) rfl rfl ?_ G.1 ?_
   rotate_left
   ·intro W hW; go_simp; try with_reducible rfl
   simp only [Act.put,sT,List.set]
   refine wpAnyH_all (fuel:=0) (rs:=[15]) (by kernel_rfl) (by simp) ?_
   intro i hi
   obtain rfl:i=15:=by simpa using hi
   clear hi
   obtain ⟨av',cap',rfl⟩:=shapeE o1
   refine skip_at (d:=none) (w':=y1.setCell ⟨w0.heap.size,165+([]:List Value).length,none⟩ (.slice av' (Es.length+1) cap')) rfl rfl (by rfl) ?_ ?_
   ·have hc:y1.cell? ⟨w0.heap.size,165+([]:List Value).length,none⟩=some (.slice av Es.length cap):=by rw [cell_of_row _ _ _ _ _ _ G.2,more_row]
    have hf:y1.frozen? ⟨w0.heap.size,165+([]:List Value).length,none⟩=false:=by simp only [World.frozen?,G.2]; simp
    simp only [List.length_nil,Nat.add_zero] at hc hf
    go_simp
    try with_reducible rfl
   have hk:w.heap.size ≠ w0.heap.size:=by have:=hS.lt; omega
   refine ⟨G.1.put (by omega) hk _,?_⟩
   simp only [Act.put]
   have A:=Sn.append H2.sn H2.blk o1 H2.own o2 o3
   have A2:=(Stp.below H2.bel hS.lt).trans A.2
   refine wpAnyH_done (by kernel_rfl) ?_ _
   go_end0
   exact ⟨rfl,A.1,A2⟩
  ·refine run_at (d:=some 15) rfl rfl (by rfl) (exec_row (.tmp 14) rfl (E:=allE L E) rfl) ?_
   have H2:=H1.call (below_box x1 (.cells (allE L E).cells 71))
   refine ⟨H2.hp,?_⟩
   simp only [Act.put,sT,List.set]
   refine wpAnyH_all (fuel:=4) (rs:=[4]) (by kernel_rfl) (by simp) ?_
   intro i hi
   obtain rfl:i=4:=by simpa using hi
   clear hi
   refine run_at (d:=some 8) (v:=.slice av Es.length cap) (w':=(x1.alloc (.cells (allE L E).cells 71))) rfl rfl (by rfl) ?_ ?_
   ·have hc:=H2.row
    revert hc
    generalize (x1.alloc (.cells (allE L E).cells 71))=W
    intro hc
    simp only [List.length_nil,Nat.add_zero] at hc
    go_simp
    try with_reducible rfl
   refine ⟨H2.hp,?_⟩
   simp only [Act.put,sT,List.set]
   refine wpAnyH_all (fuel:=3) (rs:=[12]) (by kernel_rfl) (by simp) ?_
   intro i hi
   obtain rfl:i=12:=by simpa using hi
   clear hi
   obtain ⟨u,y1,hr,o1,o2,o3⟩:=exec_append (w:=x1.alloc (.cells (allE L E).cells 71)) 45 (base:=w0.heap.size+1) (E:=allE L E) H2.own (heap_alloc_new x1 _) hlen (by have:=H2.sn.lt; omega)
   refine run_at (d:=some 16) rfl rfl (by rfl) (hr _ _ (.tmp 8) (.tmp 15) rfl rfl rfl rfl) ?_
   have G:=H2.grown hv o2
   refine ⟨G.1,?_⟩
   simp only [Act.put,sT,List.set]
   refine tw (i:=13) (d:=some 17) (fuel:=2) (v:=?_) rfl rfl ?_ G.1 ?_
   rotate_left
   ·intro W hW; go_simp; try with_reducible rfl
   simp only [Act.put,sT,List.set]
   refine tw (i:=14) (d:=some 18) (fuel:=1) (v:=?_) rfl rfl ?_ G.1 ?_
   rotate_left
   ·intro W hW; go_simp; try with_reducible rfl
   simp only [Act.put,sT,List.set]
   refine wpAnyH_all (fuel:=0) (rs:=[15]) (by kernel_rfl) (by simp) ?_
   intro i hi
   obtain rfl:i=15:=by simpa using hi
   clear hi
   obtain ⟨av',cap',rfl⟩:=shapeE o1
   refine skip_at (d:=none) (w':=y1.setCell ⟨w0.heap.size,165+([]:List Value).length,none⟩ (.slice av' (Es.length+1) cap')) rfl rfl (by rfl) ?_ ?_
   ·have hc:y1.cell? ⟨w0.heap.size,165+([]:List Value).length,none⟩=some (.slice av Es.length cap):=by rw [cell_of_row _ _ _ _ _ _ G.2,more_row]
    have hf:y1.frozen? ⟨w0.heap.size,165+([]:List Value).length,none⟩=false:=by simp only [World.frozen?,G.2]; simp
    simp only [List.length_nil,Nat.add_zero] at hc hf
    go_simp
    try with_reducible rfl
   have hk:w.heap.size ≠ w0.heap.size:=by have:=hS.lt; omega
   refine ⟨G.1.put (by omega) hk _,?_⟩
   simp only [Act.put]
   have A:=Sn.append H2.sn H2.blk o1 H2.own o2 o3
   have A2:=(Stp.below H2.bel hS.lt).trans A.2
   refine wpAnyH_done (by kernel_rfl) ?_ _
   go_end0
   exact ⟨rfl,A.1,A2⟩
open Go.RowKit
theorem revent_any {w0:World} {L:Ld} {Es:List Ev} {w:World} (hS:Sn 172 [] w0 L Es w) (kind:Int) (b:Nat) (hb:b < 6) :
 Calls Tryz.prog 155 #[.pointer (some ⟨w0.heap.size,0,none⟩),.int .i64 kind,.int .i64 (b:Int)] w fun e w'=>e=.returned (.agg (evN L kind b).cells)∧Below w.heap.size w w':=by
 have c0:=hS.being b 0 hb (by omega)
 have c3:=hS.being b 3 hb (by omega)
 have hl:=hS.lt
 simp only [Nat.add_zero,Ld.beingCell] at c0 c3
 clear hS
 go_enter Tryz.func155,Tryz.ntmps155
 go_wp2_with fail
 go_region
 go_wp2
 refine bodyPost_ret (v:=.agg (evN L kind b).cells) (results_cell_row rfl _ _ w.heap.size 71 (evN L kind b).cells (0,0) _ rfl (heap_alloc_new w _) Tryz.underlying71 rfl (by rw [Ev.size]; exact Tryz.sizeEvent)) rfl ⟨rfl,((Below.refl _ _).alloc (Nat.le_refl _) _).drew⟩
theorem revent_lit {w0:World} {L:Ld} {Es:List Ev} {w:World} (hS:Sn 172 [] w0 L Es w) (kind:Int) (b:Nat) (hb:b < 6) :
 Calls Tryz.prog 155 #[.pointer (some ⟨w0.heap.size,0,none⟩),.int .i64 kind,.int .i64 (b:Int)] w fun e w'=>e=.returned (.agg #[.int .i64 kind,.int .i64 (L.room b),.int .i64 (b:Int),.int .i64 (-1),.int .i64 0,.int .i64 0,.string (L.bname b),.string ⟨#[]⟩,.string ⟨#[]⟩,.string ⟨#[]⟩,.int .i64 0,.int .i64 0,.int .i64 0,.int .i64 0,.int .i64 0,.int .i64 0])∧Below w.heap.size w w':=revent_any hS kind b hb
theorem rtell_any {w0:World} {L:Ld} {Es:List Ev} {w:World} (hS:Sn 172 [] w0 L Es w) (b:Nat) (hb:b < 6) (text:ByteArray) (hlen:Es.length≤1000000) :
 Calls Tryz.prog 163 #[.pointer (some ⟨w0.heap.size,0,none⟩),.int .i64 (b:Int),.string text] w fun e w'=>e=.returned (.tuple #[])∧Sn 172 [] w0 L (Es++[tellE L b text]) w'∧Stp w0.heap.size 165 w w':=by
 go_enter Tryz.func163,Tryz.ntmps163
 go_wp2_with fail
 refine (revent_lit hS 16 b hb).mono ?_
 rintro e w1 ⟨rfl,hb1⟩
 have S1:=hide (hS.below hb1)
 have T1:=hide (hS.stp hb1 165)
 clear hS hb1
 go_wp2_with (first | (refine wl_new 71 (.tmp 6) (.tmp 9) rfl rfl _ _ rfl rfl rfl Tryz.sizeEvent rfl (by simp [Value.oneCell']) ?_) | (refine wl_event (.tmp 6) rfl rfl _ { evN L 16 b with text:=text } rfl (heap_alloc_new w1 _) ?_))
 refine (happens_any (S1.out.alloc _) { evN L 16 b with text:=text } hlen).mono ?_
 rintro e w2 ⟨rfl,S2,T2⟩
 have A:=hide S2
 have B:=hide (T1.out.trans ((S1.out.stp (below_box w1 _) 165).trans T2))
 clear S2 T2 S1 T1
 go_wp2
 go_end0
 exact ⟨rfl,A.out,B.out⟩
theorem rwith_any {w0:World} {L:Ld} {Es:List Ev} {w:World} (hS:Sn 172 [] w0 L Es w) (kind:Int) (b c:Nat) (hb:b < 6) (hc:c < 6) :
 Calls Tryz.prog 143 #[.pointer (some ⟨w0.heap.size,0,none⟩),.int .i64 kind,.int .i64 (b:Int),.int .i64 (c:Int)] w fun e w'=>e=.returned (.agg (evW L kind b c).cells)∧Below w.heap.size w w':=by
 go_enter Tryz.func143,Tryz.ntmps143
 go_wp2_with fail
 refine (revent_lit (hS.alloc _) kind b hb).mono ?_
 rintro e w1 ⟨rfl,hb1⟩
 have S1:=(hS.alloc (.cells zeroEv.cells 71)).below hb1
 have hg1:w1.heap[w.heap.size]?=some (.cells zeroEv.cells 71 (0,0)):=by
  rw [hb1.block _ (by simp)]; exact heap_alloc_new w _
 have L1:=hide ((below_box w (.cells zeroEv.cells 71)).trans (hb1.mono (by simp)))
 have c0:=S1.being c 0 hc (by omega)
 have hl:=S1.lt
 have hl2:w.heap.size < w1.heap.size:=(Array.getElem?_eq_some_iff.1 hg1).1
 have HG:=hide hg1
 have hci:(c:Int) < 6:=by omega
 simp only [Nat.add_zero,Ld.beingCell] at c0
 clear hS hb1 S1 hg1
 go_wp2_with (refine wl_new 71 (.tmp 9) (.tmp 13) rfl rfl _ _ rfl rfl rfl Tryz.sizeEvent rfl (by simp [Value.oneCell']) ?_)
 simp only [Act.put]
 go_region
 have HG2:Hid ((w1.alloc (.cells (evW L kind b c).cells 71)).drew.heap[w.heap.size]?=some (.cells zeroEv.cells 71 (0,0))):=by
  show (w1.alloc _).heap[w.heap.size]?=_
  rw [Below.heap_alloc _ _ _ hl2]; exact HG.out
 have HE:Hid (Cev (w1.alloc (.cells (evW L kind b c).cells 71)).drew w1.heap.size (evW L kind b c)):=heap_alloc_new w1 _
 have LL:Hid (Below w.heap.size w (w1.alloc (.cells (evW L kind b c).cells 71)).drew):=(L1.out.alloc L1.out.size _).drew
 go_wp2_with (first | (refine wl_event (.tmp 9) rfl rfl _ (evW L kind b c) rfl HE.out ?_) | (refine wl_row 71 (.tmp 8) (.tmp 25) rfl rfl w.heap.size (evW L kind b c).cells rfl rfl 71 zeroEv.cells HG2.out ?s1 ?s2 (Ev.one _) ?_))
 case s1=>rw [Ev.size]; exact Tryz.sizeEvent
 case s2=>rfl
 refine bodyPost_ret (v:=.agg (evW L kind b c).cells) (results_cell_row rfl _ _ w.heap.size 71 (evW L kind b c).cells (0,0) _ rfl (setRow_heap _ w.heap.size _ _ _ _ HG2.out) Tryz.underlying71 rfl (by rw [Ev.size]; exact Tryz.sizeEvent)) rfl ⟨rfl,below_setRow LL.out (Nat.le_refl _) _⟩
end Go.Proofs.YtncgcejlkmoliaaGreatDoor
