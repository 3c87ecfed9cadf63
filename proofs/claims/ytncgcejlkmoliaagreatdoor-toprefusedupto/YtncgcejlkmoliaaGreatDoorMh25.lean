import Derived.Test.YtncgcejlkmoliaaGreatDoorMh24
import Derived.WalkKit
import Derived.Test.YtncgcejlkmoliaaGreatDoorRows
import Derived.ProofKit
import Derived.OpenShut
import Derived.ShutString
import Derived.WalkSpells
import Derived.WalkLawsBesides
import Derived.Deep.QuietTactic
import Derived.BigQuiet
import Derived.Deep.RegionWith
import Derived.Maps.AppendAt
set_option linter.unusedVariables false
set_option maxRecDepth 100000
set_option maxHeartbeats 16000000
namespace Go.Proofs.YtncgcejlkmoliaaGreatDoor.Te
open Go.RowKit
def step (t:Tel) (c:UInt8):Tel × List UInt8 × List UInt8 :=
 if t.pos=0 then (if c=255 then ({ t with pos:=1 },[],[]) else (t,[c],[]))
 else if t.pos=1 then (cmd t c.toNat,if c=255 then [c] else [],[])
 else if t.pos=2 then ((setl t c.toNat).1,[],(setl t c.toNat).2)
 else if t.pos=3 then (if c=255 then { t with pos:=4 } else kp t c,[],[])
 else (if c=255 then kp { t with pos:=3 } c else fin t c,[],[])
def feedL:Tel→List UInt8→Tel × List UInt8 × List UInt8
 | t,[]=>(t,[],[])
 | t,c::l=>((feedL (step t c).1 l).1,(step t c).2.1++(feedL (step t c).1 l).2.1,(step t c).2.2++(feedL (step t c).1 l).2.2)
theorem feedL_append (t:Tel) (a b:List UInt8):feedL t (a++b)=((feedL (feedL t a).1 b).1,(feedL t a).2.1++(feedL (feedL t a).1 b).2.1,(feedL t a).2.2++(feedL (feedL t a).1 b).2.2):=by
 induction a generalizing t with
 | nil=>simp [feedL]
 | cons c a ih=>simp only [List.cons_append,feedL,ih,List.append_assoc]
theorem feedL_snoc (t:Tel) (a:List UInt8) (c:UInt8) {T:Tel} {X Y:List UInt8} (h:feedL t a=(T,X,Y)) :
 feedL t (a++[c])=((step T c).1,X++(step T c).2.1,Y++(step T c).2.2):=by
 rw [feedL_append,h]; simp [feedL]
structure Fine (t:Tel):Prop where
 pos0:0≤t.pos
 pos4:t.pos≤4
 sub16:t.sub.size≤16
 sub0:t.pos < 3→t.sub=⟨#[]⟩
 verb2:t.pos=2→251≤t.verb∧t.verb≤254
 verb0:t.pos ≠ 2→t.verb=0
 u0:0≤t.u0∧t.u0≤2
 u1:0≤t.u1∧t.u1≤2
 u2:t.u2=0
 t0:t.t0=0
 t1:0≤t.t1∧t.t1≤2
 t2:0≤t.t2∧t.t2≤2
 h0:0≤t.height
 h200:t.height≤200
theorem empty_iff (s:ByteArray):s.toList.isEmpty=false ↔ ¬ s=⟨#[]⟩:=by
 obtain ⟨⟨l⟩⟩:=s
 have e:(ByteArray.mk ⟨l⟩).toList=l:=by simp
 rw [e]
 cases l <;> simp
theorem gs_true (s:Int):gs s true=true ↔ 0≤s∧s≤2:=by simp [gs]; omega
theorem gs_false (s:Int):gs s false=true ↔ s=0:=by simp [gs]
theorem fine_iff (t:Tel):good t=true ↔ Fine t:=by
 unfold good gopt gplace
 simp only [Bool.and_eq_true,gs_true,gs_false,decide_eq_true_eq]
 constructor
 ·rintro ⟨⟨⟨hp,⟨⟨⟨⟨h1,h2⟩,h3⟩,h4⟩,h5⟩,h6⟩,h7⟩,h8⟩
  split at hp
  ·simp at hp
  ·rename_i g1
   split at hp
   ·simp at hp
   ·rename_i g2
    rw [empty_iff] at g2
    have g1':0≤t.pos∧t.pos≤4∧t.sub.size≤16:=by omega
    refine ⟨g1'.1,g1'.2.1,g1'.2.2,fun h=>Classical.byContradiction fun hn=>g2 ⟨h,hn⟩,?_,?_,h1,h3,h5,h2,h4,h6,h7,h8⟩
    ·intro h; rw [if_pos h] at hp; simpa using hp
    ·intro h; rw [if_neg h] at hp; simpa using hp
 ·intro f
  refine ⟨⟨⟨?_,⟨⟨⟨⟨f.u0,f.t0⟩,f.u1⟩,f.t1⟩,f.u2⟩,f.t2⟩,f.h0⟩,f.h200⟩
  have a:=f.pos0; have b:=f.pos4; have c:=f.sub16
  rw [if_neg (by omega),if_neg (by rw [empty_iff]; exact fun h=>h.2 (f.sub0 h.1))]
  split
  ·rename_i h; simpa using f.verb2 h
  ·rename_i h; simpa using f.verb0 h
theorem fine_cmd {t:Tel} (f:Fine t) (hp:t.pos=1) (c:Int):Fine (cmd t c):=by
 have hs:=f.sub0 (by omega)
 have hv:=f.verb0 (by omega)
 unfold cmd
 split
 ·exact ⟨by simp,by simp,by show (ByteArray.mk #[]).size≤16; decide,by simp,by simp,by simp [hv],f.u0,f.u1,f.u2,f.t0,f.t1,f.t2,f.h0,f.h200⟩
 ·split
  ·rename_i h; exact ⟨by simp,by simp,f.sub16,fun _=>hs,fun _=>h,by simp,f.u0,f.u1,f.u2,f.t0,f.t1,f.t2,f.h0,f.h200⟩
  ·exact ⟨by simp,by simp,f.sub16,fun _=>hs,by simp,by simp [hv],f.u0,f.u1,f.u2,f.t0,f.t1,f.t2,f.h0,f.h200⟩
theorem fine_set {t:Tel} (f:Fine t) (hs:t.sub=⟨#[]⟩) (a b c d:Int) (ha:0≤a∧a≤2) (hb:0≤b∧b≤2) (hc:0≤c∧c≤2) (hd:0≤d∧d≤2) :
 Fine { t with pos:=0,verb:=0,u0:=a,u1:=b,t1:=c,t2:=d } :=
 ⟨by simp,by simp,f.sub16,fun _=>hs,by simp,by simp,ha,hb,f.u2,f.t0,hc,hd,f.h0,f.h200⟩
theorem fine_setl {t:Tel} (f:Fine t) (hp:t.pos=2) (o:Int):Fine (setl t o).1:=by
 have hs:=f.sub0 (by omega)
 unfold setl
 repeat' split
 all_goals refine fine_set f hs _ _ _ _ ?_ ?_ ?_ ?_
 all_goals first | exact f.u0 | exact f.u1 | exact f.t1 | exact f.t2 | decide
theorem fine_kp {t:Tel} (f:Fine t) (hp:t.pos=3) (c:UInt8):Fine (kp t c):=by
 unfold kp
 split
 ·rename_i h
  exact ⟨f.pos0,f.pos4,by show (t.sub++_).size≤16; rw [ByteArray.size_append]; have h1:(ByteArray.mk #[c]).size=1:=rfl; omega,fun h=>absurd h (by show ¬ t.pos < 3; omega),f.verb2,f.verb0,f.u0,f.u1,f.u2,f.t0,f.t1,f.t2,f.h0,f.h200⟩
 ·exact f
theorem fine_pos {t:Tel} (f:Fine t) (p:Int) (hp:3≤t.pos) (h3:3≤p) (h4:p≤4):Fine { t with pos:=p }:=by
 have hv:=f.verb0 (by omega)
 exact ⟨by show 0≤p; omega,h4,f.sub16,fun h=>absurd h (by show ¬ p < 3; omega),fun h=>absurd h (by show ¬ p=2; omega),fun _=>hv,f.u0,f.u1,f.u2,f.t0,f.t1,f.t2,f.h0,f.h200⟩
theorem fine_fin {t:Tel} (f:Fine t) (hp:t.pos=4) (c:UInt8):Fine (fin t c):=by
 have hv:=f.verb0 (by omega)
 have a:=f.h0; have b:=f.h200
 refine ⟨by simp [fin],by simp [fin],by show (ByteArray.mk #[]).size≤16; decide,by simp [fin],by simp [fin],fun _=>hv,f.u0,f.u1,f.u2,f.t0,f.t1,f.t2,?_,?_⟩
 ·simp only [fin]; split <;> omega
 ·simp only [fin]; split <;> omega
theorem fine_step {t:Tel} (f:Fine t) (c:UInt8):Fine (step t c).1:=by
 unfold step
 split
 ·rename_i hp
  have hs:=f.sub0 (by omega)
  have hv:=f.verb0 (by omega)
  split
  ·exact ⟨by simp,by simp,f.sub16,fun _=>hs,by simp,fun _=>hv,f.u0,f.u1,f.u2,f.t0,f.t1,f.t2,f.h0,f.h200⟩
  ·exact f
 ·split
  ·exact fine_cmd f (by assumption) _
  ·split
   ·exact fine_setl f (by assumption) _
   ·split
    ·rename_i hp
     split
     ·exact fine_pos f 4 (by omega) (by omega) (by omega)
     ·exact fine_kp f hp _
    ·rename_i h0 h1 h2 h3
     have:=f.pos0; have:=f.pos4
     have hp:t.pos=4:=by omega
     split
     ·exact fine_kp (fine_pos f 3 (by omega) (by omega) (by omega)) rfl _
     ·exact fine_fin f hp _
theorem fine_feed {t:Tel} (f:Fine t) (l:List UInt8):Fine (feedL t l).1:=by
 induction l generalizing t with
 | nil=>exact f
 | cons c l ih=>exact ih (fine_step f c)
theorem setl_len (t:Tel) (o:Int):(setl t o).2.length≤3:=by
 unfold setl
 repeat' split
 all_goals simp [sayL]
theorem step_len (t:Tel) (c:UInt8):(step t c).2.1.length≤1∧(step t c).2.2.length≤3:=by
 unfold step
 repeat' split
 all_goals simp [setl_len]
theorem feed_len (t:Tel) (l:List UInt8):(feedL t l).2.1.length≤l.length∧(feedL t l).2.2.length≤3*l.length:=by
 induction l generalizing t with
 | nil=>simp [feedL]
 | cons c l ih =>
  have h1:=step_len t c
  have h2:=ih (step t c).1
  simp only [feedL,List.length_append,List.length_cons]
  omega
open Go.RowKit
def zt:Tel:={ pos:=0,verb:=0,sub:=⟨#[]⟩,u0:=0,u1:=0,u2:=0,t0:=0,t1:=0,t2:=0,height:=0 }
structure FInv (w0:World) (t:Tel) (vt va:Value) (x y:List UInt8) (wr:World):Prop where
 below:Below w0.heap.size w0 wr
 cod:Cod wr w0.heap.size t
 res:Cod wr (w0.heap.size+1) zt
 own1:wr.ownsRow (w0.heap.size+2) 5 1 vt x.length (bcells x)
 own2:wr.ownsRow (w0.heap.size+2) 5 1 va y.length (bcells y)
 sep:∀ k,vt.ownBlock=some k→va.ownBlock ≠ some k
variable {w0 wr w':World} {t t':Tel} {vt va v':Value} {x y z:List UInt8}
theorem FInv.room (h:FInv w0 t vt va x y wr):w0.heap.size+2≤wr.heap.size:=h.res.lt
theorem FInv.turn (h:FInv w0 t vt va x y wr) (hc:Cod w' w0.heap.size t') (hg:wr.grownBy w' (some w0.heap.size)):FInv w0 t' vt va x y w':=by
 have hr:=h.room
 refine ⟨h.below.grown hg (by omega) (fun k e=>by simp at e; omega),hc,?_,h.own1.kept hg ?_,h.own2.kept hg ?_,h.sep⟩
 ·unfold Cod; rw [hg.block _ (by omega) (by simp)]; exact h.res
 ·right; intro e; have:=h.own1.lt _ e; omega
 ·right; intro e; have:=h.own2.lt _ e; omega
theorem FInv.alloc (h:FInv w0 t vt va x y wr) (o:Obj):FInv w0 t vt va x y (wr.alloc o) :=
 ⟨h.below.alloc (by have:=h.room; omega) o,cod_alloc h.cod o,cod_alloc h.res o,h.own1.alloc o,h.own2.alloc o,h.sep⟩
theorem FInv.app1 (h:FInv w0 t vt va x y wr) (ho:w'.ownsRow (w0.heap.size+2) 5 1 v' z.length (bcells z)) (hg:wr.grownBy w' vt.ownBlock)
 (hb:v'.ownBlock=vt.ownBlock∨v'.ownBlock=some wr.heap.size):FInv w0 t v' va z y w':=by
 have hr:=h.room
 have hk:∀ k,vt.ownBlock=some k→w0.heap.size+2≤k:=fun k e=>(h.own1.lt k e).1
 refine ⟨h.below.grown hg (by omega) (fun k e=>by have:=hk k e; omega),?_,?_,ho,h.own2.kept hg ?_,?_⟩
 ·unfold Cod; rw [hg.block _ (by omega) (fun e=>by have:=hk _ e.symm; omega)]; exact h.cod
 ·unfold Cod; rw [hg.block _ (by omega) (fun e=>by have:=hk _ e.symm; omega)]; exact h.res
 ·cases e:vt.ownBlock with
  | none=>cases e2:va.ownBlock <;> simp
  | some k=>right; exact h.sep k e
 ·intro k e
  rcases hb with hb | hb
  ·exact h.sep k (hb ▸ e)
  ·intro e2
   have:=(h.own2.lt k e2).2
   rw [hb] at e; simp at e; omega
theorem FInv.app2 (h:FInv w0 t vt va x y wr) (ho:w'.ownsRow (w0.heap.size+2) 5 1 v' z.length (bcells z)) (hg:wr.grownBy w' va.ownBlock)
 (hb:v'.ownBlock=va.ownBlock∨v'.ownBlock=some wr.heap.size):FInv w0 t vt v' x z w':=by
 have hr:=h.room
 have hk:∀ k,va.ownBlock=some k→w0.heap.size+2≤k:=fun k e=>(h.own2.lt k e).1
 refine ⟨h.below.grown hg (by omega) (fun k e=>by have:=hk k e; omega),?_,?_,h.own1.kept hg ?_,ho,?_⟩
 ·unfold Cod; rw [hg.block _ (by omega) (fun e=>by have:=hk _ e.symm; omega)]; exact h.cod
 ·unfold Cod; rw [hg.block _ (by omega) (fun e=>by have:=hk _ e.symm; omega)]; exact h.res
 ·cases e:vt.ownBlock with
  | none=>left; rfl
  | some k=>right; exact fun e2=>h.sep k e e2.symm
 ·intro k e e2
  rcases hb with hb | hb
  ·exact h.sep k e (hb ▸ e2)
  ·have:=(h.own1.lt k e).2
   rw [hb] at e2; simp at e2; omega
theorem take_snoc (s:ByteArray) (k:Nat) (h:k < s.size):s.data.toList.take (k+1)=s.data.toList.take k++[s[k]]:=by
 rw [List.take_succ_eq_append_getElem (by simpa using h)]; rfl
structure Rel (w0:World) (t0:Tel) (s:ByteArray) (k:Nat) (T:Tel) (vt va:Value) (X Y:List UInt8) (wr:World):Prop where
 le:k≤s.size
 eq:feedL t0 (s.data.toList.take k)=(T,X,Y)
 fine:Fine T
 inv:FInv w0 T vt va X Y wr
theorem Rel.next {k:Nat} {T T':Tel} {s:ByteArray} {t0:Tel} {X Y:List UInt8} {vt' va':Value} (h:Rel w0 t0 s k T vt va X Y wr) (hk:k < s.size) {a b:List UInt8} (hs:step T s[k]=(T',a,b)) (hi:FInv w0 T' vt' va' (X++a) (Y++b) w') :
 Rel w0 t0 s (k+1) T' vt' va' (X++a) (Y++b) w':=by
 have hf:=fine_step h.fine s[k]
 rw [hs] at hf
 refine ⟨hk,?_,hf,hi⟩
 rw [take_snoc s k hk,feedL_snoc _ _ _ h.eq,hs]
theorem Rel.small {k:Nat} {T:Tel} {s:ByteArray} {t0:Tel} {X Y:List UInt8} (h:Rel w0 t0 s k T vt va X Y wr):X.length≤k∧Y.length≤3*k:=by
 have:=feed_len t0 (s.data.toList.take k)
 rw [h.eq] at this
 have hl:(s.data.toList.take k).length≤k:=List.length_take_le _ _
 simp only at this
 omega
theorem Tryz.size25:(Tryz.prog.info? 79).map (·.size)=some 10:=by kernel_rfl
theorem load25 (w:World) (b:Nat) (t:Tel) (h:Cod w b t):(loadVar 79 ⟨b,0,none⟩).run Tryz.prog w=.ok t.val w :=
 run_loadVar_row w b 79 79 t.cells (0,0) _ h Tryz.underlying79 rfl Tryz.size25
theorem res4 {fn:Func} {p a1 a2 a3:Tmp} (hf:fn.results=#[.cell p 79,.tmp a1,.tmp a2,.tmp a3]) {tmps:Array Value} {w:World} {b:Nat} {t:Tel} {x y e:Value}
 (h4:tmps.getD p undef=.pointer (some ⟨b,0,none⟩)) (h5:tmps.getD a1 undef=x) (h6:tmps.getD a2 undef=y) (h7:tmps.getD a3 undef=e) (hc:Cod w b t) :
 (results fn tmps).run Tryz.prog w=.ok (.tuple #[t.val,x,y,e]) w:=by
 simp only [Array.getD_eq_getD_getElem?] at h4 h5 h6 h7
 simp only [results,hf]
 simp [Result.andThen,h4,h5,h6,h7,asAddr,load25 w b t hc]
theorem res3 {fn:Func} {p a1 a2:Tmp} (hf:fn.results=#[.cell p 79,.tmp a1,.tmp a2]) {tmps:Array Value} {w:World} {b:Nat} {t:Tel} {x y:Value}
 (h4:tmps.getD p undef=.pointer (some ⟨b,0,none⟩)) (h5:tmps.getD a1 undef=x) (h6:tmps.getD a2 undef=y) (hc:Cod w b t) :
 (results fn tmps).run Tryz.prog w=.ok (.tuple #[t.val,x,y]) w:=by
 simp only [Array.getD_eq_getD_getElem?] at h4 h5 h6
 simp only [results,hf]
 simp [Result.andThen,h4,h5,h6,asAddr,load25 w b t hc]
theorem cod_ten {w:World} {b:Nat} {t u:Tel} (h:Cod w b u) :
 Cod ((((((((((w.setCell ⟨b,0,none⟩ (.int .i64 t.pos)).setCell ⟨b,1,none⟩ (.int .i64 t.verb)).setCell ⟨b,2,none⟩ (.string t.sub)).setCell ⟨b,3,none⟩ (.int .i64 t.u0)).setCell ⟨b,4,none⟩ (.int .i64 t.u1)).setCell ⟨b,5,none⟩ (.int .i64 t.u2)).setCell ⟨b,6,none⟩ (.int .i64 t.t0)).setCell ⟨b,7,none⟩ (.int .i64 t.t1)).setCell ⟨b,8,none⟩ (.int .i64 t.t2)).setCell ⟨b,9,none⟩ (.int .i64 t.height)) b t :=
 cod_mk (cod_set (cod_set (cod_set (cod_set (cod_set (cod_set (cod_set (cod_set (cod_set (cod_set h _ _) _ _) _ _) _ _) _ _) _ _) _ _) _ _) _ _) _ _) (by simp [Tel.cells])
theorem below_ten {a w:World} {b B:Nat} {t:Tel} (h:Below B a w) (hB:B≤b) :
 Below B a ((((((((((w.setCell ⟨b,0,none⟩ (.int .i64 t.pos)).setCell ⟨b,1,none⟩ (.int .i64 t.verb)).setCell ⟨b,2,none⟩ (.string t.sub)).setCell ⟨b,3,none⟩ (.int .i64 t.u0)).setCell ⟨b,4,none⟩ (.int .i64 t.u1)).setCell ⟨b,5,none⟩ (.int .i64 t.u2)).setCell ⟨b,6,none⟩ (.int .i64 t.t0)).setCell ⟨b,7,none⟩ (.int .i64 t.t1)).setCell ⟨b,8,none⟩ (.int .i64 t.t2)).setCell ⟨b,9,none⟩ (.int .i64 t.height)) :=
 (((((((((h.setCell hB _).setCell hB _).setCell hB _).setCell hB _).setCell hB _).setCell hB _).setCell hB _).setCell hB _).setCell hB _).setCell hB _
theorem grown_ten {a w:World} {b:Nat} {t:Tel} (h:a.grownBy w (some b)) :
 a.grownBy ((((((((((w.setCell ⟨b,0,none⟩ (.int .i64 t.pos)).setCell ⟨b,1,none⟩ (.int .i64 t.verb)).setCell ⟨b,2,none⟩ (.string t.sub)).setCell ⟨b,3,none⟩ (.int .i64 t.u0)).setCell ⟨b,4,none⟩ (.int .i64 t.u1)).setCell ⟨b,5,none⟩ (.int .i64 t.u2)).setCell ⟨b,6,none⟩ (.int .i64 t.t0)).setCell ⟨b,7,none⟩ (.int .i64 t.t1)).setCell ⟨b,8,none⟩ (.int .i64 t.t2)).setCell ⟨b,9,none⟩ (.int .i64 t.height)) (some b) :=
 grown_set (grown_set (grown_set (grown_set (grown_set (grown_set (grown_set (grown_set (grown_set (grown_set h _ _) _ _) _ _) _ _) _ _) _ _) _ _) _ _) _ _) _ _
theorem FInv.convs (h:FInv w0 t vt va x y wr) (hg:wr.grownBy w' (some (w0.heap.size+1))) :
 (convert 123 9 vt).run Tryz.prog w'.drew=.ok (.string ⟨x.toArray⟩) w'.drew∧(convert 123 9 va).run Tryz.prog w'.drew=.ok (.string ⟨y.toArray⟩) w'.drew:=by
 refine ⟨conv_own w' _ _ x (h.own1.kept hg ?_) _ rfl,conv_own w' _ _ y (h.own2.kept hg ?_) _ rfl⟩
 ·right; intro e; have:=h.own1.lt _ e; omega
 ·right; intro e; have:=h.own2.lt _ e; omega
end Go.Proofs.YtncgcejlkmoliaaGreatDoor.Te
namespace Go.Proofs.YtncgcejlkmoliaaGreatDoor.Li
structure Lin where
 now:ByteArray
 long:Bool
 ret:Bool
 q:List ByteArray
def Lin.cells (L:Lin) (v:Value):Array Value:=#[.string L.now,.bool L.long,.bool L.ret,v]
def vis (b:UInt8):Bool:=decide (32≤b.toNat)&&decide (b.toNat≤126)
def gtext (s:ByteArray):Bool:=decide (s.size≤60)&&s.data.toList.all vis
def good (L:Lin):Bool:=!(L.ret&&(L.now.size != 0 || L.long))&&decide (L.q.length≤6)&&gtext L.now&&L.q.all gtext
def endL (L:Lin):Lin:={ L with now:=⟨#[]⟩,long:=false,q:=if 6≤L.q.length then L.q else L.q++[L.now] }
def step (L:Lin) (b:UInt8):Lin × Nat :=
 if L.ret=true∧(b=10∨b=0) then ({ L with ret:=false },0)
 else if b=13∨b=10 then ({ endL L with ret:=b==13 },if 6≤L.q.length then 1 else 0)
 else if b=8∨b=127 then ({ L with ret:=false,now:=L.now.extract 0 (L.now.size - 1) },0)
 else if vis b=false then ({ L with ret:=false },0)
 else if L.now.size=60 then ({ L with ret:=false,long:=true },0)
 else ({ L with ret:=false,now:=L.now++⟨#[b]⟩ },0)
def feedL (L:Lin):List UInt8→Lin × Nat
 | []=>(L,0)
 | b::bs=>((feedL (step L b).1 bs).1,(step L b).2+(feedL (step L b).1 bs).2)
theorem feedL_append (L:Lin) (a b:List UInt8):feedL L (a++b)=((feedL (feedL L a).1 b).1,(feedL L a).2+(feedL (feedL L a).1 b).2):=by
 induction a generalizing L with
 | nil=>simp [feedL]
 | cons c a ih=>simp only [List.cons_append,feedL,ih]; ext1 <;> simp [Nat.add_assoc]
theorem step_le (L:Lin) (b:UInt8):(step L b).2≤1:=by
 unfold step; repeat' split
 all_goals simp
theorem feed_le (L:Lin) (a:List UInt8):(feedL L a).2≤a.length:=by
 induction a generalizing L with
 | nil=>simp [feedL]
 | cons c a ih=>have h1:=step_le L c; have h2:=ih (step L c).1; simp only [feedL,List.length_cons]; omega
structure Fine (L:Lin):Prop where
 ret:L.ret=true→L.now.size=0∧L.long=false
 len:L.q.length≤6
 now:gtext L.now=true
 all:∀ s ∈ L.q,gtext s=true
theorem fine_iff (L:Lin):good L=true ↔ Fine L:=by
 unfold good
 simp only [Bool.and_eq_true,decide_eq_true_eq,List.all_eq_true,Bool.not_eq_true',Bool.and_eq_false_imp,Bool.or_eq_false_iff,bne_eq_false_iff_eq]
 constructor
 ·rintro ⟨⟨⟨h1,h2⟩,h3⟩,h4⟩; exact ⟨h1,h2,h3,h4⟩
 ·rintro ⟨h1,h2,h3,h4⟩; exact ⟨⟨⟨h1,h2⟩,h3⟩,h4⟩
theorem gtext_iff (s:ByteArray):gtext s=true ↔ s.size≤60∧∀ c ∈ s.data.toList,vis c=true:=by
 unfold gtext; simp only [Bool.and_eq_true,decide_eq_true_eq,List.all_eq_true]
theorem gtext_nil:gtext ⟨#[]⟩=true:=by decide
theorem gtext_cut {s:ByteArray} (h:gtext s=true) (n:Nat):gtext (s.extract 0 n)=true:=by
 rw [gtext_iff] at h ⊢
 refine ⟨by rw [ByteArray.size_extract]; omega,fun c hc=>h.2 c ?_⟩
 have e:(s.extract 0 n).data.toList=s.data.toList.take n:=by simp
 rw [e] at hc
 exact List.mem_of_mem_take hc
theorem gtext_put {s:ByteArray} (h:gtext s=true) {b:UInt8} (hb:vis b=true) (hn:s.size ≠ 60):gtext (s++⟨#[b]⟩)=true:=by
 rw [gtext_iff] at h ⊢
 refine ⟨by rw [ByteArray.size_append]; have:(ByteArray.mk #[b]).size=1:=rfl; omega,fun c hc=>?_⟩
 have e:(s++⟨#[b]⟩).data.toList=s.data.toList++[b]:=by simp
 rw [e,List.mem_append] at hc
 rcases hc with hc | hc
 ·exact h.2 c hc
 ·simp at hc; subst hc; exact hb
theorem fine_step {L:Lin} (h:Fine L) (b:UInt8):Fine (step L b).1:=by
 unfold step
 split
 ·exact ⟨fun e=>by simp at e,h.len,h.now,h.all⟩
 split
 ·refine ⟨fun _=>⟨rfl,rfl⟩,?_,gtext_nil,?_⟩
  ·simp only [endL]; split
   ·exact h.len
   ·simp; omega
  ·simp only [endL]; split
   ·exact h.all
   ·intro s hs; rw [List.mem_append] at hs
    rcases hs with hs | hs
    ·exact h.all s hs
    ·simp at hs; subst hs; exact h.now
 split
 ·exact ⟨fun e=>by simp at e,h.len,gtext_cut h.now _,h.all⟩
 split
 ·exact ⟨fun e=>by simp at e,h.len,h.now,h.all⟩
 split
 ·exact ⟨fun e=>by simp at e,h.len,h.now,h.all⟩
 ·exact ⟨fun e=>by simp at e,h.len,gtext_put h.now (by simp_all) (by assumption),h.all⟩
theorem fine_feed {L:Lin} (h:Fine L) (a:List UInt8):Fine (feedL L a).1:=by
 induction a generalizing L with
 | nil=>exact h
 | cons c a ih=>exact ih (fine_step h c)
open Go.RowKit
theorem hide {p:Prop} (h:p):Hid p:=h
theorem ret_bool {a b:Bool} (h:a=b):Ending.returned (.bool a)=.returned (.bool b):=by rw [h]
theorem Tryz.info9:(Tryz.prog.info? 9).map (fun i=>(i.zero,i.size,i.bytes))=some (some (.string ⟨#[]⟩),1,16):=by kernel_rfl
theorem byte_beq (c:UInt8) (n:Nat) (hn:n < 256):(((c.toNat:Nat):Int)==(n:Int))=decide (c=UInt8.ofNat n):=by
 rw [Bool.eq_iff_iff]
 simp only [beq_iff_eq,decide_eq_true_eq]
 constructor
 ·intro h; apply UInt8.toNat.inj; rw [UInt8.toNat_ofNat']; omega
 ·intro h; subst h; rw [UInt8.toNat_ofNat']; omega
def Reads (w:World) (v:Value) (q:List ByteArray):Prop :=
 ∃ (av:Option Addr) (cap:Nat),v=.slice av q.length cap∧q.length≤cap∧cap≤maxLen∧(av=none→cap=0) ∧
  (0 < q.length→∃ b off,av=some ⟨b,off,none⟩∧∀ i (h:i < q.length),w.cell? ⟨b,off+i,none⟩=some (.string q[i]))
theorem cell_lt {w:World} {p:Addr} {v:Value} (h:w.cell? p=some v):p.block < w.heap.size:=by
 simp only [World.cell?] at h
 by_cases hx:p.block < w.heap.size
 ·exact hx
 ·rw [Array.getElem?_eq_none (by omega)] at h; simp at h
theorem Reads.below {w w':World} {v:Value} {q:List ByteArray} {B:Nat} (h:Reads w v q) (hb:Below B w w') (hB:w.heap.size≤B):Reads w' v q:=by
 obtain ⟨av,cap,e,hl,hm,hn,h⟩:=h
 refine ⟨av,cap,e,hl,hm,hn,fun h0=>?_⟩
 obtain ⟨b,off,ea,hc⟩:=h h0
 refine ⟨b,off,ea,fun i hi=>?_⟩
 have hlt:=cell_lt (hc i hi)
 rw [hb.cell (p:=⟨b,off+i,none⟩) (by simp at hlt ⊢; omega)]; exact hc i hi
theorem Reads.alloc {w:World} {v:Value} {q:List ByteArray} (h:Reads w v q) (o:Obj):Reads (w.alloc o) v q :=
 h.below ((Below.refl w.heap.size w).alloc (Nat.le_refl _) o) (Nat.le_refl _)
theorem reads_nil (w:World):Reads w (.slice none 0 0) []:=⟨none,0,rfl,Nat.le_refl _,Nat.zero_le _,fun _=>rfl,fun h=>by simp at h⟩
def scells (q:List ByteArray):List Value:=q.map .string
theorem scells_append (q r:List ByteArray):scells (q++r)=scells q++scells r:=by simp [scells]
theorem reads_own {w:World} {base:Nat} {v:Value} {q:List ByteArray} (h:w.ownsRow base 9 1 v q.length (scells q)):Reads w v q:=by
 rcases h.2 with ⟨rfl,h0⟩ | ⟨g,cap,cur,rfl,hbg,hgg,hnc,hcm,hcs,htake⟩
 ·rw [List.eq_nil_of_length_eq_zero h0]; exact reads_nil w
 ·refine ⟨some ⟨g,0,none⟩,cap,rfl,hnc,hcm,fun e=>by simp at e,fun _=>⟨g,0,rfl,fun i hi=>?_⟩⟩
  have:=h.cells (g:=g) rfl i (.string q[i]) (by simp [scells,hi])
  by_cases h0:i=0
  ·subst h0; simpa [Addr.add] using this
  ·simpa [Addr.add,h0] using this
theorem shown_any (b:UInt8) (w:World):Calls Tryz.prog 89 #[.int .u8 b.toNat] w fun e w'=>e=.returned (.bool (vis b))∧w'=w:=by
 by_cases h:32≤b.toNat
 ·have HV:Hid (vis b=decide (b.toNat≤126)):=(by simp [vis,h]:vis b=decide (b.toNat≤126))
  go_enter Tryz.func89,Tryz.ntmps89
  go_wp2
  all_goals go_ret
  all_goals refine ⟨ret_bool ?_,rfl⟩
  all_goals rw [HV.out]
  all_goals first | (simp_all; done) | (simp_all; omega)
 ·have HV:Hid (vis b=false):=(by simp [vis,h]:vis b=false)
  go_enter Tryz.func89,Tryz.ntmps89
  go_wp2
  all_goals go_ret
  all_goals refine ⟨ret_bool ?_,rfl⟩
  all_goals rw [HV.out]
  all_goals first | (simp_all; done) | (simp_all; omega)
open Go.RowKit
theorem gtext_long {s:ByteArray} (h:¬ s.size≤60):gtext s=false:=by simp [gtext,h]
theorem gtext_at {s:ByteArray} {k:Nat} (hk:k < s.size) (h:vis s[k]=false):gtext s=false:=by
 cases hg:gtext s with
 | false=>rfl
 | true =>
  have:=((gtext_iff s).1 hg).2 s[k] (by have:s[k] ∈ s.data:=Array.getElem_mem (xs:=s.data) (i:=k) hk; simpa using this)
  rw [this] at h; simp at h
theorem gtext_all {s:ByteArray} (h:s.size≤60) (ha:∀ j (hj:j < s.size),vis s[j]=true):gtext s=true:=by
 rw [gtext_iff]
 refine ⟨h,fun c hc=>?_⟩
 obtain ⟨j,hj,rfl⟩:=List.getElem_of_mem hc
 exact ha j (by simpa using hj)
theorem gtext_any (s:ByteArray) (w:World) (hs:s.size≤maxLen):Calls Tryz.prog 67 #[.string s] w fun e w'=>e=.returned (.bool (gtext s))∧w'=w:=by
 unfold maxLen at hs
 by_cases h60:s.size≤60
 ·go_enter Tryz.func67,Tryz.ntmps67
  go_wp2
  go_loopw [3] (fun i wr=>∃ k:Nat,k≤s.size∧i=.int .i64 k∧wr=w∧Hid (∀ j (hj:j < s.size),j < k→vis s[j]=true)) (fun i _=>s.size - (intOf i).toNat)
  case atStart=>exact ⟨0,Nat.zero_le _,rfl,rfl,fun j hj h=>by omega⟩
  case round =>
   obtain ⟨k,hk,rfl,rfl,hH⟩:=hrel
   by_cases hlt:k < s.size
   ·cases hv:vis s[k]
    ·have HV:=hide hv
     go_wp2_with (go_at_call 89; refine (shown_any s[k] _).mono ?_; rintro e w1 ⟨rfl,rfl⟩; rw [HV.out])
     go_ret
     exact ⟨ret_bool (gtext_at hlt HV.out).symm,rfl⟩
    ·have HV:=hide hv
     go_wp2_with (go_at_call 89; refine (shown_any s[k] _).mono ?_; rintro e w1 ⟨rfl,rfl⟩; rw [HV.out])
     refine ⟨⟨k+1,hlt,by go_num,trivial,fun j hj h=>?_⟩,by simp [intOf]; omega⟩
     by_cases e:j=k
     ·subst e; exact HV.out
     ·exact hH.out j hj (by omega)
   ·have hkk:k=s.size:=by omega
    have HG:=hide (gtext_all h60 (fun j hj=>hH.out j hj (by omega)))
    go_wp2
    go_ret
    exact ⟨ret_bool HG.out.symm,rfl⟩
 ·have HG:=hide (gtext_long h60)
  go_enter Tryz.func67,Tryz.ntmps67
  go_wp2
  go_ret
  exact ⟨ret_bool HG.out.symm,rfl⟩
theorem good_ret {L:Lin} (hr:L.ret=true) (h:L.now.size ≠ 0∨L.long=true):good L=false:=by
 unfold good; rw [hr]; rcases h with h | h
 ·simp [h]
 ·simp [h]
theorem good_eq {L:Lin} (h:L.ret=true→L.now.size=0∧L.long=false):good L=(decide (L.q.length≤6)&&gtext L.now&&L.q.all gtext):=by
 unfold good
 cases hr:L.ret
 ·simp
 ·obtain ⟨h1,h2⟩:=h hr; simp [h1,h2]
theorem all_at {q:List ByteArray} {k:Nat} (hk:k < q.length) (h:gtext q[k]=false):q.all gtext=false:=by
 rw [List.all_eq_false]; exact ⟨q[k],List.getElem_mem hk,by simp [h]⟩
theorem all_all {q:List ByteArray} (h:∀ j (hj:j < q.length),gtext q[j]=true):q.all gtext=true:=by
 rw [List.all_eq_true]; intro s hs; obtain ⟨j,hj,rfl⟩:=List.getElem_of_mem hs; exact h j hj
end Go.Proofs.YtncgcejlkmoliaaGreatDoor.Li
