import Derived.Test.YtncgcejlkmoliaaGreatDoorMh13
set_option linter.unusedVariables false
set_option maxRecDepth 100000
set_option maxHeartbeats 16000000
namespace Go.Proofs.YtncgcejlkmoliaaGreatDoor
open Go.RowKit
theorem Sn.whole {T:TypeId} {pre:List Value} {w0 w:World} {L:Ld} {Es:List Ev} (h:Sn T pre w0 L Es w) (b:Nat) (hb:b < 6) (nm:ByteArray) (here keen:Bool) (room health foe:Int) :
 Sn T pre w0 (L.setBeing b nm here keen room health foe) Es (w.setCells w0.heap.size (129+b*6) [.string nm,.bool here,.bool keen,.int .i64 room,.int .i64 health,.int .i64 foe]) ∧
  Stp w0.heap.size (165+pre.length) w (w.setCells w0.heap.size (129+b*6) [.string nm,.bool here,.bool keen,.int .i64 room,.int .i64 health,.int .i64 foe]):=by
 have h0:=h.set (by omega) (L.up_name b hb nm)
 have h1:=h0.set (by omega) ((L.setName b nm).up_here b hb here)
 have h2:=h1.set (by omega) (((L.setName b nm).setHere b here).up_keen b hb keen)
 have h3:=h2.set (by omega) ((((L.setName b nm).setHere b here).setKeen b keen).up_room b hb room)
 have h4:=h3.set (by omega) (((((L.setName b nm).setHere b here).setKeen b keen).setRoom b room).up_health b hb health)
 have h5:=h4.set (by omega) ((((((L.setName b nm).setHere b here).setKeen b keen).setRoom b room).setHealth b health).up_foe b hb foe)
 have e1:∀ k,129+b*6+k+1=129+b*6+(k+1):=fun k=>by omega
 simp only [World.setCells,Nat.add_assoc,Nat.reduceAdd] at h5 ⊢
 rw [Ld.setBeing_eq]
 refine ⟨h5,?_⟩
 exact (((((Stp.put (by omega)).trans (Stp.put (by omega))).trans (Stp.put (by omega))).trans (Stp.put (by omega))).trans (Stp.put (by omega))).trans (Stp.put (by omega))
theorem Sn.there {T:TypeId} {pre:List Value} {w0 w:World} {L:Ld} {Es:List Ev} (h:Sn T pre w0 L Es w) (b:Nat) (hb:b < 6):w.there w0.heap.size (129+b*6) 6:=fun j hj=>by
 refine ⟨?_,h.soft _⟩
 rw [h.being b j hb hj]; rfl
theorem wl_whole {ops:Array Oper} {rest:List Oper} {op:Oper} {a:Act} {w:World} {Q:Exit→Act→World→Prop} (x y:Operand) (ho:op.op=.store 40 x y) (hw:Region.wanted op (yielded ops a.tmps)=true) {T:TypeId} {pre:List Value} {w0:World} {L:Ld} {Es:List Ev} (b:Nat) (hb:b < 6)
 (nm:ByteArray) (here keen:Bool) (room health foe:Int)
 (hx:a.eval x=.pointer (some ⟨w0.heap.size,129+b*6,none⟩)) (hy:a.eval y=.agg #[.string nm,.bool here,.bool keen,.int .i64 room,.int .i64 health,.int .i64 foe]) (hc:Sn T pre w0 L Es w)
 (h:wpList Tryz.prog ops Q rest (a.put op.dst undef) (w.setCells w0.heap.size (129+b*6) [.string nm,.bool here,.bool keen,.int .i64 room,.int .i64 health,.int .i64 foe])):wpList Tryz.prog ops Q (op::rest) a w :=
 wl_wanted hw (wp_store_mid 40 x y ho w0.heap.size (129+b*6) #[.string nm,.bool here,.bool keen,.int .i64 room,.int .i64 health,.int .i64 foe] hx hy (hc.there b hb) Tryz.sizeBeing (by simp [Value.oneCell']) h)
end Go.Proofs.YtncgcejlkmoliaaGreatDoor
