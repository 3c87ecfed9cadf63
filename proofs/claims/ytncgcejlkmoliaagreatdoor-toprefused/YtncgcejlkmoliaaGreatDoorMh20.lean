import Derived.Test.YtncgcejlkmoliaaGreatDoorMh19
import Derived.Test.YtncgcejlkmoliaaGreatDoorMh08
import Derived.Test.YtncgcejlkmoliaaGreatDoorMh00
import Derived.Deep.DeepCutAuto
set_option linter.unusedVariables false
set_option maxRecDepth 100000
set_option maxHeartbeats 16000000
namespace Go.Proofs.YtncgcejlkmoliaaGreatDoor
open Go.RowKit
structure Fit (E:Ev):Prop where
 n0:-9223372036854775808≤E.num
 n1:E.num≤9223372036854775807
 who:E.who.size≤1048576
 whom:E.whom.size≤1048576
 thing:E.thing.size≤1048576
 text:E.text.size≤1048576
theorem called_len (d:Int):(calledI d).length≤5:=by
 unfold calledI
 split
 ·unfold calledL
  split
  ·rename_i h
   rcases (show d.toNat=0∨d.toNat=1∨d.toNat=2∨d.toNat=3∨d.toNat=4∨d.toNat=5 by omega) with e | e | e | e | e | e <;> rw [e] <;> decide
  ·simp
 ·simp
theorem mark_bound {E:Ev} (h:Fit E) (c:UInt8):(markL E c).length≤1048576:=by
 unfold markL
 have h1:=size_len E.who
 have h2:=size_len E.whom
 have h3:=size_len E.thing
 have h4:=size_len E.text
 have h5:=called_len E.dir
 have h6:=Lib.itoa_length_le E.num h.n0 h.n1
 have:=h.who
 have:=h.whom
 have:=h.thing
 have:=h.text
 repeat' split
 all_goals first | omega | simp
theorem fill_bound {E:Ev} (h:Fit E):∀ f:List UInt8,(fillL E f).length≤f.length*1048576:=by
 intro f
 induction f with
 | nil=>simp [fillL]
 | cons c f ih =>
  have:=mark_bound h c
  have e:fillL E (c::f)=markL E c++fillL E f:=rfl
  rw [e,List.length_append,List.length_cons]
  omega
theorem fit_known {E:Ev} (h:Fit E) (k:Nat):Fit (asKnown E k):=by
 refine ⟨h.n0,h.n1,?_,?_,h.thing,h.text⟩
 ·show (if bitB (E.by' k) 2=true then bs someoneL else E.who).size≤_
  split
  ·decide
  ·exact h.who
 ·show (if (k:Int)=E.other then bs youL else if bitB (E.by' k) 4=true then bs someoneL else E.whom).size≤_
  split
  ·decide
  ·split
   ·decide
   ·exact h.whom
theorem form_of_len (E:Ev) (k:Nat):(formOf E k).length≤25:=by
 have:=form_len E.kind
 unfold formOf
 split
 ·exact this.1
 ·exact this.2
theorem tell_fit (E:Ev) (b:Int) (w:World) (hv:Vb w) (hai:Ai w) (h:Fit E) :
 Calls Tryz.prog 35 #[.agg E.cells,.int .i64 b] w fun e w'=>e=.returned (tellA (tellL E b))∧Below w.heap.size w w' :=
 tell_any E b w hv hai h.n0 h.n1 (fun k hk=>by
  have h1:=fill_bound (fit_known h k) (formOf E k)
  have h2:=form_of_len E k
  omega)
end Go.Proofs.YtncgcejlkmoliaaGreatDoor
namespace Go.Proofs.YtncgcejlkmoliaaGreatDoor.Pa
open Go.RowKit
structure Pg where
 wait:List ByteArray
 shown:Int
 asking:Bool
 ring:ByteArray
 cut:Bool
def Pg.cells (P:Pg) (v:Value):Array Value:=#[v,.int .i64 P.shown,.bool P.asking,.string P.ring,.bool P.cut]
def zp:Pg:={ wait:=[],shown:=0,asking:=false,ring:=⟨#[]⟩,cut:=false }
def gheight (n:Int):Bool:=decide (0≤n)&&decide (n≤200)
def goodP (P:Pg):Bool:=decide (P.wait.length≤60)&&decide (P.ring.size≤700)&&gheight P.shown
structure Small (P:Pg):Prop where
 ring:P.ring.size≤140737488355328
 lo:-9223372036854775808≤P.shown
 hi:P.shown≤9223372036854775807
 len:P.wait.length*16≤140737488355328
def sentP (P:Pg) (s:ByteArray):Pg:=if 700 < P.ring.size+s.size then { P with cut:=true } else { P with ring:=P.ring++s }
def PCod (w:World) (b:Nat) (P:Pg) (v:Value):Prop:=w.heap[b]?=some (.cells (P.cells v) 51 (0,0))
section
variable {w w':World} {b:Nat} {P:Pg} {v:Value}
theorem PCod.cell (h:PCod w b P v) (o:Nat):w.cell? ⟨b,o,none⟩=(P.cells v)[o]?:=by
 unfold PCod at h; simp [World.cell?,h]
theorem PCod.frozen (h:PCod w b P v) (o:Nat):w.frozen? ⟨b,o,none⟩=false:=by
 unfold PCod at h; simp [World.frozen?,h]
theorem PCod.lt (h:PCod w b P v):b < w.heap.size:=(Array.getElem?_eq_some_iff.1 h).1
theorem PCod.all (h:PCod w b P v) :
 w.cell? ⟨b,0,none⟩=some v∧w.cell? ⟨b,1,none⟩=some (.int .i64 P.shown)∧w.cell? ⟨b,2,none⟩=some (.bool P.asking)∧w.cell? ⟨b,3,none⟩=some (.string P.ring)∧w.cell? ⟨b,4,none⟩=some (.bool P.cut)∧∀ o,w.frozen? ⟨b,o,none⟩=false :=
 ⟨h.cell 0,h.cell 1,h.cell 2,h.cell 3,h.cell 4,h.frozen⟩
theorem pcod_mk {cs:Array Value} (h:w.heap[b]?=some (.cells cs 51 (0,0))) (e:cs=P.cells v):PCod w b P v:=by
 subst e; exact h
theorem pcod_set {cs:Array Value} (h:w.heap[b]?=some (.cells cs 51 (0,0))) (o:Nat) (u:Value) :
 (w.setCell ⟨b,o,none⟩ u).heap[b]?=some (.cells (cs.setIfInBounds o u) 51 (0,0)):=heap_setCell_same w b o cs 51 u h
theorem pcod_ne {c:Nat} {x:Option Obj} (h:w.heap[c]?=x) (hne:c ≠ b) (o:Nat) (u:Value):(w.setCell ⟨b,o,none⟩ u).heap[c]?=x:=by
 rw [Below.heap_setCell _ _ _ _ hne]; exact h
theorem pcod_alloc {c:Nat} {x:Obj} (h:w.heap[c]?=some x) (o:Obj):(w.alloc o).heap[c]?=some x:=by
 rw [Below.heap_alloc _ _ _ (Array.getElem?_eq_some_iff.1 h).1]; exact h
theorem pcod_behind {B:Nat} (h:PCod w b P v) (hb:Below B w w') (hB:w.heap.size≤B):PCod w' b P v:=by
 have:=h.lt
 unfold PCod; rw [hb.block _ (by omega)]; exact h
theorem pcod_new {B:Nat} (hB:Below B (w.alloc (.cells (P.cells v) 51)) w') (hlt:w.heap.size < B):PCod w' w.heap.size P v:=by
 unfold PCod; rw [hB.block _ hlt]; exact heap_alloc_new w _
theorem pcod_two:PCod ((w.alloc (.cells (P.cells v) 51)).alloc (.cells (zp.cells (.slice none 0 0)) 51)) w.heap.size P v ∧
 PCod ((w.alloc (.cells (P.cells v) 51)).alloc (.cells (zp.cells (.slice none 0 0)) 51)) (w.heap.size+1) zp (.slice none 0 0):=by
 refine ⟨pcod_alloc (heap_alloc_new w _) _,?_⟩
 have:=heap_alloc_new (w.alloc (.cells (P.cells v) 51)) (.cells (zp.cells (.slice none 0 0)) 51)
 rw [World.size_alloc] at this
 exact this
end
theorem below_two {w:World} {o o':Obj}:Below w.heap.size w ((w.alloc o).alloc o'):=((Below.refl _ _).alloc (Nat.le_refl _) _).alloc (by simp) _
theorem Tryz.size25:(Tryz.prog.info? 51).map (·.size)=some 5:=by kernel_rfl
theorem load25 (w:World) (b:Nat) (P:Pg) (v:Value) (h:PCod w b P v):(loadVar 51 ⟨b,0,none⟩).run Tryz.prog w=.ok (.agg (P.cells v)) w :=
 run_loadVar_row w b 51 51 (P.cells v) (0,0) _ h Tryz.underlying51 rfl Tryz.size25
theorem res1 {fn:Func} {p:Tmp} (hf:fn.results=#[.cell p 51]) {tmps:Array Value} {w:World} {b:Nat} {P:Pg} {v:Value}
 (h4:tmps.getD p undef=.pointer (some ⟨b,0,none⟩)) (hc:PCod w b P v) :
 (results fn tmps).run Tryz.prog w=.ok (.agg (P.cells v)) w:=by
 simp only [Array.getD_eq_getD_getElem?] at h4
 simp only [results,hf]
 simp [h4,asAddr,load25 w b P v hc]
theorem res2 {fn:Func} {p a1:Tmp} (hf:fn.results=#[.cell p 51,.tmp a1]) {tmps:Array Value} {w:World} {b:Nat} {P:Pg} {v x:Value}
 (h4:tmps.getD p undef=.pointer (some ⟨b,0,none⟩)) (h5:tmps.getD a1 undef=x) (hc:PCod w b P v) :
 (results fn tmps).run Tryz.prog w=.ok (.tuple #[.agg (P.cells v),x]) w:=by
 simp only [Array.getD_eq_getD_getElem?] at h4 h5
 simp only [results,hf]
 simp [Result.andThen,h4,h5,asAddr,load25 w b P v hc]
section
variable {w w0:World} {b:Nat} {P M:Pg} {v u:Value} {x0 x1 x2 x3 x4:Value}
theorem pcod_five (h:PCod w b M u) :
 PCod (((((w.setCell ⟨b,0,none⟩ v).setCell ⟨b,1,none⟩ (.int .i64 P.shown)).setCell ⟨b,2,none⟩ (.bool P.asking)).setCell ⟨b,3,none⟩ (.string P.ring)).setCell ⟨b,4,none⟩ (.bool P.cut)) b P v :=
 pcod_mk (pcod_set (pcod_set (pcod_set (pcod_set (pcod_set h _ _) _ _) _ _) _ _) _ _) (by simp [Pg.cells])
theorem pcod_five_ne {c:Nat} (h:PCod w c P v) (hne:c ≠ b) :
 PCod (((((w.setCell ⟨b,0,none⟩ x0).setCell ⟨b,1,none⟩ x1).setCell ⟨b,2,none⟩ x2).setCell ⟨b,3,none⟩ x3).setCell ⟨b,4,none⟩ x4) c P v :=
 pcod_ne (pcod_ne (pcod_ne (pcod_ne (pcod_ne h hne _ _) hne _ _) hne _ _) hne _ _) hne _ _
theorem below_five {a:World} {B:Nat} (h:Below B a w) (hB:B≤b) :
 Below B a (((((w.setCell ⟨b,0,none⟩ x0).setCell ⟨b,1,none⟩ x1).setCell ⟨b,2,none⟩ x2).setCell ⟨b,3,none⟩ x3).setCell ⟨b,4,none⟩ x4) :=
 ((((h.setCell hB _).setCell hB _).setCell hB _).setCell hB _).setCell hB _
theorem reads_five {q:List ByteArray} (h:Reads w v q) (ho:Off v q b) :
 Reads (((((w.setCell ⟨b,0,none⟩ x0).setCell ⟨b,1,none⟩ x1).setCell ⟨b,2,none⟩ x2).setCell ⟨b,3,none⟩ x3).setCell ⟨b,4,none⟩ x4) v q :=
 ((((h.put ho _ _).put ho _ _).put ho _ _).put ho _ _).put ho _ _
end
open Go.RowKit
theorem gh_any (n:Int) (w:World):Calls Tryz.prog 66 #[.int .i64 n] w fun e w'=>e=.returned (.bool (gheight n))∧w'=w:=by
 by_cases h:0≤n
 ·have HV:=hide (by simp [gheight,h]:gheight n=decide (n≤200))
  go_enter Tryz.func66,Tryz.ntmps66
  go_wp2
  all_goals go_ret
  all_goals refine ⟨ret_bool ?_,rfl⟩
  all_goals rw [HV.out]
  all_goals first | (simp_all; done) | (simp_all; omega)
 ·have HV:=hide (by simp [gheight,h]:gheight n=false)
  go_enter Tryz.func66,Tryz.ntmps66
  go_wp2
  all_goals go_ret
  all_goals refine ⟨ret_bool ?_,rfl⟩
  all_goals rw [HV.out]
  all_goals first | (simp_all; done) | (simp_all; omega)
theorem pgood_any (P:Pg) (v:Value) (w:World) (hv:Reads w v P.wait) (hs:Small P):Calls Tryz.prog 28 #[.agg (P.cells v)] w fun e w'=>e=.returned (.bool (goodP P))∧Below w.heap.size w w':=by
 have C1:=hide (gh_any P.shown)
 have hr:=hs.ring
 have hl:=hv.max
 obtain ⟨av,cap,rfl⟩:=hv.shape
 unfold maxLen at hl
 clear hv hs
 unfold Pg.cells
 by_cases h1:P.wait.length≤60
 ·by_cases h2:P.ring.size≤700
  ·have HV:=hide (by simp [goodP,h1,h2]:goodP P=gheight P.shown)
   go_enter Tryz.func28,Tryz.ntmps28
   go_wp2_with (go_at_call 66; refine (C1.out _).mono ?_; rintro e w1 ⟨rfl,rfl⟩)
   go_ret
   exact ⟨ret_bool HV.out.symm,(Below.refl _ _).alloc (Nat.le_refl _) _⟩
  ·have HV:=hide (by simp [goodP,h2]:goodP P=false)
   go_enter Tryz.func28,Tryz.ntmps28
   go_wp2
   go_ret
   exact ⟨ret_bool HV.out.symm,(Below.refl _ _).alloc (Nat.le_refl _) _⟩
 ·have HV:=hide (by simp [goodP,h1]:goodP P=false)
  go_enter Tryz.func28,Tryz.ntmps28
  go_wp2
  go_ret
  exact ⟨ret_bool HV.out.symm,(Below.refl _ _).alloc (Nat.le_refl _) _⟩
def refusal (P:Pg):Int:=if goodP P=false then 2 else if P.cut=true then 6 else 0
theorem refused_any (P:Pg) (v:Value) (w:World) (hv:Reads w v P.wait) (hs:Small P):Calls Tryz.prog 135 #[.agg (P.cells v)] w fun e w'=>e=.returned (.int .i64 (refusal P))∧Below w.heap.size w w':=by
 have C1:=hide (fun w' h=>pgood_any P v w' h hs)
 have hv1:=hide hv
 obtain ⟨av,cap,rfl⟩:=hv.shape
 clear hv hs
 unfold Pg.cells at C1 ⊢
 cases hg:goodP P
 ·have HV:=hide (by simp [refusal,hg]:refusal P=2)
  replace hg:=hide hg
  go_enter Tryz.func135,Tryz.ntmps135
  go_wp2_with fail
  refine (C1.out _ (hv1.out.alloc _)).mono ?_
  rintro e w1 ⟨rfl,hb1⟩
  rw [hg.out]
  go_wp2
  go_ret
  exact ⟨by rw [HV.out]; rfl,((Below.refl _ _).alloc (Nat.le_refl _) _).trans (hb1.mono (by simp))⟩
 ·have HC:Hid (∀ w1,Below (w.heap.size+1) (w.alloc (.cells (P.cells (.slice av P.wait.length cap)) 51)) w1→w1.cell? ⟨w.heap.size,4,none⟩=some (.bool P.cut)):=by
   intro w1 hb
   exact (pcod_new hb (Nat.lt_succ_self _)).cell 4
  cases hc:P.cut
  ·have HV:=hide (by simp [refusal,hg,hc]:refusal P=0)
   replace hg:=hide hg
   rw [hc] at HC C1
   replace hc:=hide hc
   go_enter Tryz.func135,Tryz.ntmps135
   go_wp2_with fail
   refine (C1.out _ (hv1.out.alloc _)).mono ?_
   rintro e w1 ⟨rfl,hb1⟩
   rw [hg.out]
   have hc4:=HC.out w1 (by rw [World.size_alloc] at hb1; unfold Pg.cells; rw [hc.out]; exact hb1)
   go_wp2
   go_ret
   exact ⟨by rw [HV.out]; rfl,((Below.refl _ _).alloc (Nat.le_refl _) _).trans (hb1.mono (by simp))⟩
  ·have HV:=hide (by simp [refusal,hg,hc]:refusal P=6)
   replace hg:=hide hg
   rw [hc] at HC C1
   replace hc:=hide hc
   go_enter Tryz.func135,Tryz.ntmps135
   go_wp2_with fail
   refine (C1.out _ (hv1.out.alloc _)).mono ?_
   rintro e w1 ⟨rfl,hb1⟩
   rw [hg.out]
   have hc4:=HC.out w1 (by rw [World.size_alloc] at hb1; unfold Pg.cells; rw [hc.out]; exact hb1)
   go_wp2
   go_ret
   exact ⟨by rw [HV.out]; rfl,((Below.refl _ _).alloc (Nat.le_refl _) _).trans (hb1.mono (by simp))⟩
theorem clone_any (q:List ByteArray) (v:Value) (w:World) (hv:Reads w v q) (hq:q.length*16≤140737488355328):Calls Tryz.prog 59 #[v] w fun e w'=>∃ v',e=.returned v'∧w'.ownsRow w.heap.size 9 1 v' q.length (scells q)∧Below w.heap.size w w':=by
 obtain ⟨av,cap,rfl,hl,hm,hn,hc⟩:=hv
 obtain ⟨i0,hi,hz0,hz1,hz2⟩:=info_parts Tryz.info9
 have hnil:∀ (w:World) (a:Option Addr) (n c:Nat),(binOp .eql 47 (.slice a n c) (.slice none 0 0)).run Tryz.prog w=.ok (.bool a.isNone) w:=fun w a n c=>by
  rw [Lib.run_eql_slice_nil w 47 9 a n c 0 0 Tryz.underlying47]
 cases av with
 | none =>
  have:=hn rfl
  have hq0:q=[]:=List.eq_nil_of_length_eq_zero (by omega)
  subst this hq0
  clear hn hc
  go_enter Tryz.func59,Tryz.ntmps59
  go_wp2
  go_ret
  exact ⟨_,rfl,World.ownsRow_nil _ _ _ _,Below.refl _ _⟩
 | some a =>
  have hlist:=Reads.list (cap:=cap) hc
  replace hlist:=hide hlist
  clear hc hn
  go_enter Tryz.func59,Tryz.ntmps59
  go_wp2_with (at_builtin; go_loud (refine wpList_append_own_at _ rfl (.tmp 5) (.tmp 6) 47 rfl w.heap.size 9 i0 (.string ⟨#[]⟩) 1 16 Tryz.underlying47 hi hz0 hz1 hz2 rfl (by decide) _ 0 [] rfl (own_empty w) a q.length cap (scells q) rfl ?c1 ?c2 (scells_one q) ?c3 ?c4 ?c5 ?_))
  case c1=>simp [scells]
  case c2 =>
   intro j u hj
   have h:=hlist.out j u hj
   have hlt:=cell_lt h
   rw [((Below.refl w.heap.size w).alloc (Nat.le_refl _) _).cell (p:=a.add j) hlt]; exact h
  case c3=>unfold maxLen; omega
  case c4=>omega
  case c5=>simp
  intro v' w' ho hg _ _
  go_wp2
  go_ret
  refine ⟨v',rfl,by simpa using ho,?_⟩
  exact ((Below.refl _ _).alloc (Nat.le_refl _) _).grown hg (by simp) (fun k e=>by simp [Value.ownBlock] at e; omega)
structure Inv (w0:World) (b:Nat) (P:Pg) (v:Value) (wr:World):Prop where
 lo:w0.heap.size≤b
 below:Below w0.heap.size w0 wr
 cod:PCod wr b P v
 other:PCod wr (b+1) zp (.slice none 0 0)
 reads:Reads wr v P.wait
 far:Far (b+2) v
section
variable {w0 wr w':World} {b:Nat} {P P':Pg} {v v':Value}
theorem Inv.room (h:Inv w0 b P v wr):b+1 < wr.heap.size:=h.other.lt
theorem Inv.put (h:Inv w0 b P v wr) (f:Nat) (u:Value) (hc:(P.cells v).setIfInBounds f u=P'.cells v') (hq:Reads wr v' P'.wait) (hf:Far (b+2) v'):Inv w0 b P' v' (wr.setCell ⟨b,f,none⟩ u) :=
 ⟨h.lo,h.below.setCell h.lo _,pcod_mk (pcod_set h.cod f u) hc,pcod_ne h.other (by omega) _ _,hq.put (off_far hf (by omega)) _ _,hf⟩
theorem Inv.behind {B:Nat} (h:Inv w0 b P v wr) (hb:Below B wr w') (hB:wr.heap.size≤B):Inv w0 b P v w' :=
 ⟨h.lo,h.below.trans (hb.mono (by have:=h.below.size; omega)),pcod_behind h.cod hb hB,pcod_behind h.other hb hB,h.reads.below hb hB,h.far⟩
theorem Inv.lay (h:Inv w0 b P v wr) (hq:Reads wr v' P'.wait) (hf:Far (b+2) v') :
 Inv w0 b P' v' (((((wr.setCell ⟨b,0,none⟩ v').setCell ⟨b,1,none⟩ (.int .i64 P'.shown)).setCell ⟨b,2,none⟩ (.bool P'.asking)).setCell ⟨b,3,none⟩ (.string P'.ring)).setCell ⟨b,4,none⟩ (.bool P'.cut)) :=
 ⟨h.lo,below_five h.below h.lo,pcod_five h.cod,pcod_five_ne h.other (by omega),reads_five hq (off_far hf (by omega)),hf⟩
theorem Inv.done (h:Inv w0 b P v wr) :
 PCod (((((wr.setCell ⟨b+1,0,none⟩ v).setCell ⟨b+1,1,none⟩ (.int .i64 P.shown)).setCell ⟨b+1,2,none⟩ (.bool P.asking)).setCell ⟨b+1,3,none⟩ (.string P.ring)).setCell ⟨b+1,4,none⟩ (.bool P.cut)) (b+1) P v ∧
 Reads (((((wr.setCell ⟨b+1,0,none⟩ v).setCell ⟨b+1,1,none⟩ (.int .i64 P.shown)).setCell ⟨b+1,2,none⟩ (.bool P.asking)).setCell ⟨b+1,3,none⟩ (.string P.ring)).setCell ⟨b+1,4,none⟩ (.bool P.cut)) v P.wait ∧
 Below w0.heap.size w0 (((((wr.setCell ⟨b+1,0,none⟩ v).setCell ⟨b+1,1,none⟩ (.int .i64 P.shown)).setCell ⟨b+1,2,none⟩ (.bool P.asking)).setCell ⟨b+1,3,none⟩ (.string P.ring)).setCell ⟨b+1,4,none⟩ (.bool P.cut)) :=
 ⟨pcod_five h.other,reads_five h.reads (off_far h.far (by omega)),below_five h.below (by have:=h.lo; omega)⟩
end
theorem inv_clone {w w2:World} {P:Pg} {v v2:Value} (hb:Below (w.heap.size+2) ((w.alloc (.cells (P.cells v) 51)).alloc (.cells (zp.cells (.slice none 0 0)) 51)) w2)
 (ho:Reads w2 v2 P.wait) (hf:Far (w.heap.size+2) v2):Inv w w.heap.size P v2 (w2.setCell ⟨w.heap.size,0,none⟩ v2):=by
 obtain ⟨k1,k2⟩:=pcod_two (w:=w) (P:=P) (v:=v)
 have k1':=pcod_behind k1 hb (by simp)
 have k2':=pcod_behind k2 hb (by simp)
 exact ⟨Nat.le_refl _,(below_two.trans (hb.mono (by omega))).setCell (Nat.le_refl _) _,pcod_mk (pcod_set k1' 0 v2) (by simp [Pg.cells]),pcod_ne k2' (by omega) _ _,ho.put (off_far hf (by omega)) _ _,hf⟩
theorem own_base {w:World} {B B':Nat} {v:Value} {n:Nat} {xs:List Value} (h:w.ownsRow B 9 1 v n xs) (hB:B'≤B):w.ownsRow B' 9 1 v n xs:=by
 refine ⟨h.1,?_⟩
 rcases h.2 with h | ⟨g,cap,cur,h1,h2,h3⟩
 ·exact .inl h
 ·exact .inr ⟨g,cap,cur,h1,by omega,h3⟩
theorem own_put {w:World} {B b:Nat} {v:Value} {n:Nat} {xs:List Value} (h:w.ownsRow B 9 1 v n xs) (hb:b < B) (f:Nat) (u:Value):(w.setCell ⟨b,f,none⟩ u).ownsRow B 9 1 v n xs :=
 h.kept (grown_set w b f u) (by right; intro e; have:=h.lt _ e; omega)
theorem own_five {w:World} {B b:Nat} {v:Value} {n:Nat} {xs:List Value} {x0 x1 x2 x3 x4:Value} (h:w.ownsRow B 9 1 v n xs) (hb:b < B) :
 (((((w.setCell ⟨b,0,none⟩ x0).setCell ⟨b,1,none⟩ x1).setCell ⟨b,2,none⟩ x2).setCell ⟨b,3,none⟩ x3).setCell ⟨b,4,none⟩ x4).ownsRow B 9 1 v n xs :=
 own_put (own_put (own_put (own_put (own_put h hb _ _) hb _ _) hb _ _) hb _ _) hb _ _
theorem own_all (P:Pg) (v:Value) (w:World) (hv:Reads w v P.wait) (hs:Small P):Calls Tryz.prog 124 #[.agg (P.cells v)] w fun e w'=>∃ v',e=.returned (.agg (P.cells v'))∧w'.ownsRow (w.heap.size+2) 9 1 v' P.wait.length (scells P.wait)∧Below w.heap.size w w':=by
 have C1:=hide (fun w' h=>clone_any P.wait v w' h hs.len)
 have hv1:=hide hv
 obtain ⟨av,cap,rfl⟩:=hv.shape
 clear hv hs
 unfold Pg.cells
 go_enter Tryz.func124,Tryz.ntmps124
 go_wp2_with fail
 refine (C1.out _ ((hv1.out.alloc _).alloc _)).mono ?_
 rintro e w2 ⟨v2,rfl,ho,hb2⟩
 have hf:=far_own ho
 rw [World.size_alloc,World.size_alloc] at hf hb2
 have hi:=inv_clone (P:=P) (v:=.slice av P.wait.length cap) hb2 (reads_own ho) hf
 obtain ⟨av2,cap2,rfl⟩:=own_shape ho
 obtain ⟨k1,k2⟩:=pcod_two (w:=w) (P:=P) (v:=.slice av P.wait.length cap)
 obtain ⟨c0,c1,c2,c3,c4,hfz⟩:=(pcod_behind k1 hb2 (by simp)).all
 obtain ⟨d0,d1,d2,d3,d4,hfd⟩:=(pcod_behind k2 hb2 (by simp)).all
 have hz2:=(pcod_behind k2 hb2 (by simp)).lt
 have HO:=hide (own_put (own_base ho (by simp):w2.ownsRow (w.heap.size+2) 9 1 _ _ _) (b:=w.heap.size) (by omega) 0 (.slice av2 P.wait.length cap2))
 replace hi:=hide hi
 clear k1 k2 hb2 ho hf
 go_wp2
 obtain ⟨f1,f2,f3⟩:=hi.out.done
 exact bodyPost_ret (res1 Tryz.results124 rfl f1) rfl ⟨_,rfl,own_five HO.out (by omega),f3⟩
theorem own_any (P:Pg) (v:Value) (w:World) (hv:Reads w v P.wait) (hs:Small P):Calls Tryz.prog 124 #[.agg (P.cells v)] w fun e w'=>∃ v',e=.returned (.agg (P.cells v'))∧Reads w' v' P.wait∧Far (w.heap.size+2) v'∧Below w.heap.size w w' :=
 (own_all P v w hv hs).mono fun e w' ⟨v',h1,h2,h3⟩=>⟨v',h1,reads_own h2,far_own h2,h3⟩
open Go.RowKit
theorem inv_own {w w2:World} {P:Pg} {v v2:Value} (hb:Below (w.heap.size+2) ((w.alloc (.cells (P.cells v) 51)).alloc (.cells (zp.cells (.slice none 0 0)) 51)) w2)
 (ho:Reads w2 v2 P.wait) (hf:Far (w.heap.size+2) v2):Inv w w.heap.size P v2 (((((w2.setCell ⟨w.heap.size,0,none⟩ v2).setCell ⟨w.heap.size,1,none⟩ (.int .i64 P.shown)).setCell ⟨w.heap.size,2,none⟩ (.bool P.asking)).setCell ⟨w.heap.size,3,none⟩ (.string P.ring)).setCell ⟨w.heap.size,4,none⟩ (.bool P.cut)):=by
 obtain ⟨k1,k2⟩:=pcod_two (w:=w) (P:=P) (v:=v)
 have k1':=pcod_behind k1 hb (by simp)
 have k2':=pcod_behind k2 hb (by simp)
 exact ⟨Nat.le_refl _,below_five (below_two.trans (hb.mono (by omega))) (Nat.le_refl _),pcod_five k1',pcod_five_ne k2' (by omega),reads_five ho (off_far hf (by omega)),hf⟩
def turnP (P:Pg):Pg:={ P with asking:=false,shown:=0 }
theorem turn_any (P:Pg) (v:Value) (w:World) (hv:Reads w v P.wait) (hs:Small P):Calls Tryz.prog 139 #[.agg (P.cells v)] w fun e w'=>∃ v',e=.returned (.agg ((turnP P).cells v'))∧Reads w' v' P.wait∧Far (w.heap.size+2) v'∧Below w.heap.size w w':=by
 have C1:=hide (fun w' h=>own_any P v w' h hs)
 have hv1:=hide hv
 obtain ⟨av,cap,rfl⟩:=hv.shape
 clear hv hs
 unfold Pg.cells at C1 ⊢
 go_enter Tryz.func139,Tryz.ntmps139
 go_upto_region 1 with fail
 go_cut [] (fun wc=>∃ v2,Inv w w.heap.size P v2 wc)
 case first =>
  go_wp2_with fail
  refine (C1.out _ ((hv1.out.alloc _).alloc _)).mono ?_
  rintro e w2 ⟨v2,rfl,ho,hf,hb2⟩
  rw [World.size_alloc,World.size_alloc] at hf hb2
  have hi:=inv_own (P:=P) (v:=.slice av P.wait.length cap) hb2 ho (hf.mono (by omega))
  obtain ⟨av2,cap2,rfl⟩:=ho.shape
  obtain ⟨k1,k2⟩:=pcod_two (w:=w) (P:=P) (v:=.slice av P.wait.length cap)
  obtain ⟨c0,c1,c2,c3,c4,hfz⟩:=(pcod_behind k1 hb2 (by simp)).all
  have hz2:=(pcod_behind k2 hb2 (by simp)).lt
  replace hi:=hide hi
  clear k1 k2 hb2 ho hf
  go_wp2_with fail
  go_meet
  exact ⟨_,hi.out⟩
 case rest =>
  obtain ⟨v2,hi⟩:=hcut
  obtain ⟨av2,cap2,rfl⟩:=hi.reads.shape
  have hi2:=hi.put (P':={ P with asking:=false }) 2 (.bool false) (by simp [Pg.cells]) hi.reads hi.far
  have hi3:=hi2.put (P':=turnP P) 1 (.int .i64 0) (by simp [Pg.cells,turnP]) hi2.reads hi2.far
  obtain ⟨c0,c1,c2,c3,c4,hfz⟩:=hi.cod.all
  obtain ⟨d0,d1,d2,d3,d4,hfd⟩:=hi.other.all
  have hz2:=hi.room
  replace hi3:=hide hi3
  clear hi hi2
  go_wp2
  obtain ⟨f1,f2,f3⟩:=hi3.out.done
  exact bodyPost_ret (res1 Tryz.results139 rfl f1) rfl ⟨_,rfl,f2,hi3.out.far,f3⟩
def kOf (P:Pg) (n:Int):Nat:=(min (max n 0) P.ring.size).toNat
def takeP (P:Pg) (n:Int):Pg:={ P with ring:=P.ring.extract (kOf P n) P.ring.size }
theorem minmax (P:Pg) (n:Int):∃ (k:Nat) (m:Int),(∀ (w:World) ts t,(Builtin.max_ ts t #[.int .i64 n,.int .i64 0]).run Tryz.prog w=.ok (.int .i64 m) w) ∧
 (∀ (w:World) ts t,(Builtin.min_ ts t #[.int .i64 m,.int .i64 (P.ring.size:Int)]).run Tryz.prog w=.ok (.int .i64 (k:Int)) w)∧k≤P.ring.size∧Hid (kOf P n=k):=by
 refine ⟨kOf P n,max n 0,fun w ts t=>?_,fun w ts t=>?_,by unfold kOf; omega,hide rfl⟩
 ·rw [run_max_int2]; congr 2; split <;> omega
 ·rw [run_min_int2]; congr 2; unfold kOf; split <;> omega
theorem take_any (P:Pg) (n:Int) (v:Value) (w:World) (hv:Reads w v P.wait) (hs:Small P):Calls Tryz.prog 105 #[.agg (P.cells v),.int .i64 n] w fun e w'=>∃ v',e=.returned (.tuple #[.agg ((takeP P n).cells v'),.string (P.ring.extract 0 (kOf P n))])∧Reads w' v' P.wait∧Far (w.heap.size+2) v'∧Below w.heap.size w w':=by
 have C1:=hide (fun w' h=>own_any P v w' h hs)
 have hv1:=hide hv
 have hr:=hs.ring
 obtain ⟨k,m,hmx,hmn,hkk,HK⟩:=minmax P n
 have HT:=hide (show takeP P n={ P with ring:=P.ring.extract k P.ring.size } by unfold takeP; rw [HK.out])
 rw [HK.out,HT.out]
 obtain ⟨av,cap,rfl⟩:=hv.shape
 clear hv hs
 unfold Pg.cells at C1 ⊢
 go_enter Tryz.func105,Tryz.ntmps105
 go_upto_region 1 with fail
 go_cut [] (fun wc=>∃ v2,Inv w w.heap.size P v2 wc)
 case first =>
  go_wp2_with fail
  refine (C1.out _ ((hv1.out.alloc _).alloc _)).mono ?_
  rintro e w2 ⟨v2,rfl,ho,hf,hb2⟩
  rw [World.size_alloc,World.size_alloc] at hf hb2
  have hi:=inv_own (P:=P) (v:=.slice av P.wait.length cap) hb2 ho (hf.mono (by omega))
  obtain ⟨av2,cap2,rfl⟩:=ho.shape
  obtain ⟨k1,k2⟩:=pcod_two (w:=w) (P:=P) (v:=.slice av P.wait.length cap)
  obtain ⟨c0,c1,c2,c3,c4,hfz⟩:=(pcod_behind k1 hb2 (by simp)).all
  have hz2:=(pcod_behind k2 hb2 (by simp)).lt
  replace hi:=hide hi
  clear k1 k2 hb2 ho hf
  go_wp2_with fail
  go_meet
  exact ⟨_,hi.out⟩
 case rest =>
  obtain ⟨v2,hi⟩:=hcut
  obtain ⟨av2,cap2,rfl⟩:=hi.reads.shape
  have hi3:=hi.put (P':={ P with ring:=P.ring.extract k P.ring.size }) 3 (.string (P.ring.extract k P.ring.size)) (by simp [Pg.cells]) hi.reads hi.far
  obtain ⟨c0,c1,c2,c3,c4,hfz⟩:=hi.cod.all
  obtain ⟨d0,d1,d2,d3,d4,hfd⟩:=hi.other.all
  have hz2:=hi.room
  replace hi3:=hide hi3
  clear hi
  go_wp2
  obtain ⟨f1,f2,f3⟩:=hi3.out.done
  exact bodyPost_ret (res2 Tryz.results105 rfl rfl f1) rfl ⟨_,rfl,f2,hi3.out.far,f3⟩
structure Two (w:World) (P:Pg) (v:Value) (wr:World):Prop where
 below:Below w.heap.size w wr
 cod:PCod wr w.heap.size P v
 other:PCod wr (w.heap.size+1) zp (.slice none 0 0)
theorem two_new {w:World} {P:Pg} {v:Value}:Two w P v ((w.alloc (.cells (P.cells v) 51)).alloc (.cells (zp.cells (.slice none 0 0)) 51)):=⟨below_two,pcod_two.1,pcod_two.2⟩
section
variable {w wr w':World} {P P':Pg} {v v':Value}
theorem Two.room (h:Two w P v wr):w.heap.size+1 < wr.heap.size:=h.other.lt
theorem Two.put (h:Two w P v wr) (f:Nat) (u:Value) (hc:(P.cells v).setIfInBounds f u=P'.cells v'):Two w P' v' (wr.setCell ⟨w.heap.size,f,none⟩ u) :=
 ⟨h.below.setCell (Nat.le_refl _) _,pcod_mk (pcod_set h.cod f u) hc,pcod_ne h.other (by omega) _ _⟩
theorem Two.behind {B:Nat} (h:Two w P v wr) (hb:Below B wr w') (hB:wr.heap.size≤B):Two w P v w' :=
 ⟨h.below.trans (hb.mono (by have:=h.below.size; omega)),pcod_behind h.cod hb hB,pcod_behind h.other hb hB⟩
theorem Two.done (h:Two w P v wr) :
 PCod (((((wr.setCell ⟨w.heap.size+1,0,none⟩ v').setCell ⟨w.heap.size+1,1,none⟩ (.int .i64 P'.shown)).setCell ⟨w.heap.size+1,2,none⟩ (.bool P'.asking)).setCell ⟨w.heap.size+1,3,none⟩ (.string P'.ring)).setCell ⟨w.heap.size+1,4,none⟩ (.bool P'.cut)) (w.heap.size+1) P' v' ∧
 Below w.heap.size w (((((wr.setCell ⟨w.heap.size+1,0,none⟩ v').setCell ⟨w.heap.size+1,1,none⟩ (.int .i64 P'.shown)).setCell ⟨w.heap.size+1,2,none⟩ (.bool P'.asking)).setCell ⟨w.heap.size+1,3,none⟩ (.string P'.ring)).setCell ⟨w.heap.size+1,4,none⟩ (.bool P'.cut)) :=
 ⟨pcod_five h.other,below_five h.below (by omega)⟩
end
theorem sent_any (P:Pg) (s:ByteArray) (av:Option Addr) (n cap:Nat) (w:World) (hs:P.ring.size≤140737488355328) (hs':s.size≤maxLen):Calls Tryz.prog 136 #[.agg (P.cells (.slice av n cap)),.string s] w fun e w'=>e=.returned (.agg ((sentP P s).cells (.slice av n cap)))∧Below w.heap.size w w':=by
 unfold maxLen at hs'
 by_cases h:700 < P.ring.size+s.size
 ·have HV:=hide (by simp [sentP,h]:sentP P s={ P with cut:=true })
  rw [HV.out]
  have hT:=hide (two_new (w:=w) (P:=P) (v:=.slice av n cap))
  unfold Pg.cells
  go_enter Tryz.func136,Tryz.ntmps136
  go_upto_region 1 with fail
  go_cut [11] (fun c wc=>c=.bool true∧Two w P (.slice av n cap) wc)
  case first =>
   go_wp2_with fail
   go_meet
   exact ⟨by simp; omega,hT.out⟩
  case rest =>
   obtain ⟨rfl,hi⟩:=hcut
   have hi3:=hi.put (P':={ P with cut:=true }) (v':=.slice av n cap) 4 (.bool true) (by simp [Pg.cells])
   obtain ⟨c0,c1,c2,c3,c4,hfz⟩:=hi.cod.all
   obtain ⟨d0,d1,d2,d3,d4,hfd⟩:=hi.other.all
   have hz2:=hi.room
   replace hi3:=hide hi3
   clear hi hT
   go_wp2
   obtain ⟨f1,f3⟩:=hi3.out.done (P':={ P with cut:=true }) (v':=.slice av n cap)
   exact bodyPost_ret (res1 Tryz.results136 rfl f1) rfl ⟨rfl,f3⟩
 ·have HV:=hide (by simp [sentP,h]:sentP P s={ P with ring:=P.ring++s })
  rw [HV.out]
  have hT:=hide (two_new (w:=w) (P:=P) (v:=.slice av n cap))
  unfold Pg.cells
  go_enter Tryz.func136,Tryz.ntmps136
  go_upto_region 1 with fail
  go_cut [11] (fun c wc=>c=.bool false∧Two w P (.slice av n cap) wc)
  case first =>
   go_wp2_with fail
   go_meet
   exact ⟨by simp; omega,hT.out⟩
  case rest =>
   obtain ⟨rfl,hi⟩:=hcut
   have hi3:=hi.put (P':={ P with ring:=P.ring++s }) (v':=.slice av n cap) 3 (.string (P.ring++s)) (by simp [Pg.cells])
   obtain ⟨c0,c1,c2,c3,c4,hfz⟩:=hi.cod.all
   obtain ⟨d0,d1,d2,d3,d4,hfd⟩:=hi.other.all
   have hz2:=hi.room
   replace hi3:=hide hi3
   clear hi hT
   go_wp2
   obtain ⟨f1,f3⟩:=hi3.out.done (P':={ P with ring:=P.ring++s }) (v':=.slice av n cap)
   exact bodyPost_ret (res1 Tryz.results136 rfl f1) rfl ⟨rfl,f3⟩
def moreB:ByteArray:=⟨#[45,45,32,109,111,114,101,32,45,45,13,10]⟩
def askedP (P:Pg):Pg:=sentP { P with asking:=true } moreB
theorem asked_any (P:Pg) (av:Option Addr) (n cap:Nat) (w:World) (hs:P.ring.size≤140737488355328):Calls Tryz.prog 146 #[.agg (P.cells (.slice av n cap))] w fun e w'=>e=.returned (.agg ((askedP P).cells (.slice av n cap)))∧Below w.heap.size w w':=by
 have C1:Hid (∀ w',Calls Tryz.prog 136 #[.agg (({ P with asking:=true }:Pg).cells (.slice av n cap)),.string moreB] w' fun e w''=>e=.returned (.agg ((askedP P).cells (.slice av n cap)))∧Below w'.heap.size w' w''):=hide (fun w'=>sent_any { P with asking:=true } moreB av n cap w' hs (by decide))
 have hT:=hide (two_new (w:=w) (P:=P) (v:=.slice av n cap))
 generalize askedP P=R at C1 ⊢
 unfold Pg.cells moreB at C1
 unfold Pg.cells
 go_enter Tryz.func146,Tryz.ntmps146
 go_upto_region 1 with fail
 go_cut [] (fun wc=>Two w { P with asking:=true } (.slice av n cap) wc)
 case first =>
  go_wp2_with fail
  go_meet
  exact two_new (P:={ P with asking:=true })
 case rest =>
  obtain ⟨c0,c1,c2,c3,c4,hfz⟩:=hcut.cod.all
  have hi:=hide hcut
  clear hcut hT
  simp only at c0 c1 c2 c3 c4
  go_wp2_with fail
  refine (C1.out _).mono ?_
  rintro e w2 ⟨rfl,hb2⟩
  have hi2:=hi.out.behind hb2 (Nat.le_refl _)
  clear c0 c1 c2 c3 c4 hfz
  obtain ⟨d0,d1,d2,d3,d4,hfd⟩:=hi2.other.all
  have hz2:=hi2.room
  replace hi2:=hide hi2
  clear hi hb2
  go_wp2
  obtain ⟨f1,f3⟩:=hi2.out.done (P':=R) (v':=.slice av n cap)
  exact bodyPost_ret (res1 Tryz.results146 rfl f1) rfl ⟨rfl,f3⟩
end Go.Proofs.YtncgcejlkmoliaaGreatDoor.Pa
