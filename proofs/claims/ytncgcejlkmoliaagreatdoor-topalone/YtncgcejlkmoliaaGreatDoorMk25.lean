import Derived.Test.YtncgcejlkmoliaaGreatDoorMk24
set_option linter.unusedVariables false
set_option maxRecDepth 100000
set_option maxHeartbeats 16000000
namespace Go.Proofs.YtncgcejlkmoliaaGreatDoor.Te
open Go.RowKit
def step (t:Tel) (c:UInt8):Tel × List UInt8 × List UInt8 :=
 if t.pos=0 then (if c=255 then ({ t with pos:=1 },[],[]) else (t,[c],[]))
 else if t.pos=1 then (cmd t c.toNat,if c=255 then [c] else [],[])
 else if t.pos=2 then ((setl t c.toNat).1,[],(setl t c.toNat).2)
 else if t.pos=3 then (if c=255 then { t with pos:=4 } else kp t c,[],[])
 else (if c=255 then kp { t with pos:=3 } c else fin t c,[],[])
def feedL:Tel→List UInt8→Tel × List UInt8 × List UInt8
 | t,[]=>(t,[],[])
 | t,c::l=>((feedL (step t c).1 l).1,(step t c).2.1++(feedL (step t c).1 l).2.1,(step t c).2.2++(feedL (step t c).1 l).2.2)
theorem feedL_append (t:Tel) (a b:List UInt8):feedL t (a++b)=((feedL (feedL t a).1 b).1,(feedL t a).2.1++(feedL (feedL t a).1 b).2.1,(feedL t a).2.2++(feedL (feedL t a).1 b).2.2):=by
 induction a generalizing t with
 | nil=>simp [feedL]
 | cons c a ih=>simp only [List.cons_append,feedL,ih,List.append_assoc]
theorem feedL_snoc (t:Tel) (a:List UInt8) (c:UInt8) {T:Tel} {X Y:List UInt8} (h:feedL t a=(T,X,Y)) :
 feedL t (a++[c])=((step T c).1,X++(step T c).2.1,Y++(step T c).2.2):=by
 rw [feedL_append,h]; simp [feedL]
structure Fine (t:Tel):Prop where
 pos0:0≤t.pos
 pos4:t.pos≤4
 sub16:t.sub.size≤16
 sub0:t.pos < 3→t.sub=⟨#[]⟩
 verb2:t.pos=2→251≤t.verb∧t.verb≤254
 verb0:t.pos ≠ 2→t.verb=0
 u0:0≤t.u0∧t.u0≤2
 u1:0≤t.u1∧t.u1≤2
 u2:t.u2=0
 t0:t.t0=0
 t1:0≤t.t1∧t.t1≤2
 t2:0≤t.t2∧t.t2≤2
 h0:0≤t.height
 h200:t.height≤200
theorem empty_iff (s:ByteArray):s.toList.isEmpty=false ↔ ¬ s=⟨#[]⟩:=by
 obtain ⟨⟨l⟩⟩:=s
 have e:(ByteArray.mk ⟨l⟩).toList=l:=by simp
 rw [e]
 cases l <;> simp
theorem gs_true (s:Int):gs s true=true ↔ 0≤s∧s≤2:=by simp [gs]; omega
theorem gs_false (s:Int):gs s false=true ↔ s=0:=by simp [gs]
theorem fine_iff (t:Tel):good t=true ↔ Fine t:=by
 unfold good gopt gplace
 simp only [Bool.and_eq_true,gs_true,gs_false,decide_eq_true_eq]
 constructor
 ·rintro ⟨⟨⟨hp,⟨⟨⟨⟨h1,h2⟩,h3⟩,h4⟩,h5⟩,h6⟩,h7⟩,h8⟩
  split at hp
  ·simp at hp
  ·rename_i g1
   split at hp
   ·simp at hp
   ·rename_i g2
    rw [empty_iff] at g2
    have g1':0≤t.pos∧t.pos≤4∧t.sub.size≤16:=by omega
    refine ⟨g1'.1,g1'.2.1,g1'.2.2,fun h=>Classical.byContradiction fun hn=>g2 ⟨h,hn⟩,?_,?_,h1,h3,h5,h2,h4,h6,h7,h8⟩
    ·intro h; rw [if_pos h] at hp; simpa using hp
    ·intro h; rw [if_neg h] at hp; simpa using hp
 ·intro f
  refine ⟨⟨⟨?_,⟨⟨⟨⟨f.u0,f.t0⟩,f.u1⟩,f.t1⟩,f.u2⟩,f.t2⟩,f.h0⟩,f.h200⟩
  have a:=f.pos0; have b:=f.pos4; have c:=f.sub16
  rw [if_neg (by omega),if_neg (by rw [empty_iff]; exact fun h=>h.2 (f.sub0 h.1))]
  split
  ·rename_i h; simpa using f.verb2 h
  ·rename_i h; simpa using f.verb0 h
theorem fine_cmd {t:Tel} (f:Fine t) (hp:t.pos=1) (c:Int):Fine (cmd t c):=by
 have hs:=f.sub0 (by omega)
 have hv:=f.verb0 (by omega)
 unfold cmd
 split
 ·exact ⟨by simp,by simp,by show (ByteArray.mk #[]).size≤16; decide,by simp,by simp,by simp [hv],f.u0,f.u1,f.u2,f.t0,f.t1,f.t2,f.h0,f.h200⟩
 ·split
  ·rename_i h; exact ⟨by simp,by simp,f.sub16,fun _=>hs,fun _=>h,by simp,f.u0,f.u1,f.u2,f.t0,f.t1,f.t2,f.h0,f.h200⟩
  ·exact ⟨by simp,by simp,f.sub16,fun _=>hs,by simp,by simp [hv],f.u0,f.u1,f.u2,f.t0,f.t1,f.t2,f.h0,f.h200⟩
theorem fine_set {t:Tel} (f:Fine t) (hs:t.sub=⟨#[]⟩) (a b c d:Int) (ha:0≤a∧a≤2) (hb:0≤b∧b≤2) (hc:0≤c∧c≤2) (hd:0≤d∧d≤2) :
 Fine { t with pos:=0,verb:=0,u0:=a,u1:=b,t1:=c,t2:=d } :=
 ⟨by simp,by simp,f.sub16,fun _=>hs,by simp,by simp,ha,hb,f.u2,f.t0,hc,hd,f.h0,f.h200⟩
theorem fine_setl {t:Tel} (f:Fine t) (hp:t.pos=2) (o:Int):Fine (setl t o).1:=by
 have hs:=f.sub0 (by omega)
 unfold setl
 repeat' split
 all_goals refine fine_set f hs _ _ _ _ ?_ ?_ ?_ ?_
 all_goals first | exact f.u0 | exact f.u1 | exact f.t1 | exact f.t2 | decide
theorem fine_kp {t:Tel} (f:Fine t) (hp:t.pos=3) (c:UInt8):Fine (kp t c):=by
 unfold kp
 split
 ·rename_i h
  exact ⟨f.pos0,f.pos4,by show (t.sub++_).size≤16; rw [ByteArray.size_append]; have h1:(ByteArray.mk #[c]).size=1:=rfl; omega,fun h=>absurd h (by show ¬ t.pos < 3; omega),f.verb2,f.verb0,f.u0,f.u1,f.u2,f.t0,f.t1,f.t2,f.h0,f.h200⟩
 ·exact f
theorem fine_pos {t:Tel} (f:Fine t) (p:Int) (hp:3≤t.pos) (h3:3≤p) (h4:p≤4):Fine { t with pos:=p }:=by
 have hv:=f.verb0 (by omega)
 exact ⟨by show 0≤p; omega,h4,f.sub16,fun h=>absurd h (by show ¬ p < 3; omega),fun h=>absurd h (by show ¬ p=2; omega),fun _=>hv,f.u0,f.u1,f.u2,f.t0,f.t1,f.t2,f.h0,f.h200⟩
theorem fine_fin {t:Tel} (f:Fine t) (hp:t.pos=4) (c:UInt8):Fine (fin t c):=by
 have hv:=f.verb0 (by omega)
 have a:=f.h0; have b:=f.h200
 refine ⟨by simp [fin],by simp [fin],by show (ByteArray.mk #[]).size≤16; decide,by simp [fin],by simp [fin],fun _=>hv,f.u0,f.u1,f.u2,f.t0,f.t1,f.t2,?_,?_⟩
 ·simp only [fin]; split <;> omega
 ·simp only [fin]; split <;> omega
theorem fine_step {t:Tel} (f:Fine t) (c:UInt8):Fine (step t c).1:=by
 unfold step
 split
 ·rename_i hp
  have hs:=f.sub0 (by omega)
  have hv:=f.verb0 (by omega)
  split
  ·exact ⟨by simp,by simp,f.sub16,fun _=>hs,by simp,fun _=>hv,f.u0,f.u1,f.u2,f.t0,f.t1,f.t2,f.h0,f.h200⟩
  ·exact f
 ·split
  ·exact fine_cmd f (by assumption) _
  ·split
   ·exact fine_setl f (by assumption) _
   ·split
    ·rename_i hp
     split
     ·exact fine_pos f 4 (by omega) (by omega) (by omega)
     ·exact fine_kp f hp _
    ·rename_i h0 h1 h2 h3
     have:=f.pos0; have:=f.pos4
     have hp:t.pos=4:=by omega
     split
     ·exact fine_kp (fine_pos f 3 (by omega) (by omega) (by omega)) rfl _
     ·exact fine_fin f hp _
theorem fine_feed {t:Tel} (f:Fine t) (l:List UInt8):Fine (feedL t l).1:=by
 induction l generalizing t with
 | nil=>exact f
 | cons c l ih=>exact ih (fine_step f c)
theorem setl_len (t:Tel) (o:Int):(setl t o).2.length≤3:=by
 unfold setl
 repeat' split
 all_goals simp [sayL]
theorem step_len (t:Tel) (c:UInt8):(step t c).2.1.length≤1∧(step t c).2.2.length≤3:=by
 unfold step
 repeat' split
 all_goals simp [setl_len]
def wt (t : Tel) : Nat := if t.pos = 1 then 1 else if t.pos = 2 then 2 else 0
theorem wt_zero {t : Tel} (h1 : t.pos ≠ 1) (h2 : t.pos ≠ 2) : wt t = 0 := by unfold wt; rw [if_neg h1, if_neg h2]
theorem setl_zero (t : Tel) (o : Int) : wt (setl t o).1 = 0 := by
  have h : (setl t o).1.pos = 0 := by
    unfold setl
    repeat' split
    all_goals rfl
  exact wt_zero (by rw [h]; decide) (by rw [h]; decide)
theorem wt_le (t : Tel) : wt t ≤ 2 := by
  unfold wt
  repeat' split
  all_goals omega
theorem step_wt (t : Tel) (c : UInt8) : (step t c).2.2.length + wt (step t c).1 ≤ 1 + wt t := by
  unfold step
  by_cases h0 : t.pos = 0
  · rw [if_pos h0]
    split
    · show 0 + wt { t with pos := 1 } ≤ _
      have : wt { t with pos := 1 } = 1 := rfl
      omega
    · show 0 + wt t ≤ _
      omega
  rw [if_neg h0]
  by_cases h1 : t.pos = 1
  · rw [if_pos h1]
    have e : wt t = 1 := by unfold wt; rw [if_pos h1]
    show 0 + wt (cmd t c.toNat) ≤ _
    have := wt_le (cmd t c.toNat)
    omega
  rw [if_neg h1]
  by_cases h2 : t.pos = 2
  · rw [if_pos h2]
    have e : wt t = 2 := by unfold wt; rw [if_neg h1, if_pos h2]
    show (setl t c.toNat).2.length + wt (setl t c.toNat).1 ≤ _
    have h3 := setl_len t c.toNat
    have h4 := setl_zero t c.toNat
    omega
  rw [if_neg h2]
  by_cases h3 : t.pos = 3
  · rw [if_pos h3]
    have e : wt (if c = 255 then { t with pos := 4 } else kp t c) = 0 := by
      split
      · exact wt_zero (show (4 : Int) ≠ 1 by decide) (show (4 : Int) ≠ 2 by decide)
      · have hk : (kp t c).pos = t.pos := by
          unfold kp
          split <;> rfl
        exact wt_zero (by rw [hk, h3]; decide) (by rw [hk, h3]; decide)
    show 0 + wt (if c = 255 then { t with pos := 4 } else kp t c) ≤ _
    omega
  · rw [if_neg h3]
    have e : wt (if c = 255 then kp { t with pos := 3 } c else fin t c) = 0 := by
      split
      · have hk : (kp { t with pos := 3 } c).pos = 3 := by
          unfold kp
          split <;> rfl
        exact wt_zero (by rw [hk]; decide) (by rw [hk]; decide)
      · exact wt_zero (show (0 : Int) ≠ 1 by decide) (show (0 : Int) ≠ 2 by decide)
    show 0 + wt (if c = 255 then kp { t with pos := 3 } c else fin t c) ≤ _
    omega
theorem feed_wt (l : List UInt8) : ∀ t : Tel, (feedL t l).2.2.length ≤ l.length + wt t := by
  induction l with
  | nil => intro t; exact Nat.zero_le _
  | cons c l ih =>
    intro t
    have h1 := step_wt t c
    have h2 := ih (step t c).1
    simp only [feedL, List.length_append, List.length_cons]
    omega
theorem feed_len (t : Tel) (l : List UInt8) : (feedL t l).2.1.length ≤ l.length ∧ (feedL t l).2.2.length ≤ l.length + 2 := by
  refine ⟨?_, by have := feed_wt l t; have := wt_le t; omega⟩
  induction l generalizing t with
  | nil => exact Nat.le_refl _
  | cons c l ih =>
    have h1 := (step_len t c).1
    have h2 := ih (step t c).1
    simp only [feedL, List.length_append, List.length_cons]
    omega
open Go.RowKit
def zt:Tel:={ pos:=0,verb:=0,sub:=⟨#[]⟩,u0:=0,u1:=0,u2:=0,t0:=0,t1:=0,t2:=0,height:=0 }
structure FInv (w0:World) (t:Tel) (vt va:Value) (x y:List UInt8) (wr:World):Prop where
 below:Below w0.heap.size w0 wr
 cod:Cod wr w0.heap.size t
 res:Cod wr (w0.heap.size+1) zt
 own1:wr.ownsRow (w0.heap.size+2) 5 1 vt x.length (bcells x)
 own2:wr.ownsRow (w0.heap.size+2) 5 1 va y.length (bcells y)
 sep:∀ k,vt.ownBlock=some k→va.ownBlock ≠ some k
variable {w0 wr w':World} {t t':Tel} {vt va v':Value} {x y z:List UInt8}
theorem FInv.room (h:FInv w0 t vt va x y wr):w0.heap.size+2≤wr.heap.size:=h.res.lt
theorem FInv.turn (h:FInv w0 t vt va x y wr) (hc:Cod w' w0.heap.size t') (hg:wr.grownBy w' (some w0.heap.size)):FInv w0 t' vt va x y w':=by
 have hr:=h.room
 refine ⟨h.below.grown hg (by omega) (fun k e=>by simp at e; omega),hc,?_,h.own1.kept hg ?_,h.own2.kept hg ?_,h.sep⟩
 ·unfold Cod; rw [hg.block _ (by omega) (by simp)]; exact h.res
 ·right; intro e; have:=h.own1.lt _ e; omega
 ·right; intro e; have:=h.own2.lt _ e; omega
theorem FInv.alloc (h:FInv w0 t vt va x y wr) (o:Obj):FInv w0 t vt va x y (wr.alloc o) :=
 ⟨h.below.alloc (by have:=h.room; omega) o,cod_alloc h.cod o,cod_alloc h.res o,h.own1.alloc o,h.own2.alloc o,h.sep⟩
theorem FInv.app1 (h:FInv w0 t vt va x y wr) (ho:w'.ownsRow (w0.heap.size+2) 5 1 v' z.length (bcells z)) (hg:wr.grownBy w' vt.ownBlock)
 (hb:v'.ownBlock=vt.ownBlock∨v'.ownBlock=some wr.heap.size):FInv w0 t v' va z y w':=by
 have hr:=h.room
 have hk:∀ k,vt.ownBlock=some k→w0.heap.size+2≤k:=fun k e=>(h.own1.lt k e).1
 refine ⟨h.below.grown hg (by omega) (fun k e=>by have:=hk k e; omega),?_,?_,ho,h.own2.kept hg ?_,?_⟩
 ·unfold Cod; rw [hg.block _ (by omega) (fun e=>by have:=hk _ e.symm; omega)]; exact h.cod
 ·unfold Cod; rw [hg.block _ (by omega) (fun e=>by have:=hk _ e.symm; omega)]; exact h.res
 ·cases e:vt.ownBlock with
  | none=>cases e2:va.ownBlock <;> simp
  | some k=>right; exact h.sep k e
 ·intro k e
  rcases hb with hb | hb
  ·exact h.sep k (hb ▸ e)
  ·intro e2
   have:=(h.own2.lt k e2).2
   rw [hb] at e; simp at e; omega
theorem FInv.app2 (h:FInv w0 t vt va x y wr) (ho:w'.ownsRow (w0.heap.size+2) 5 1 v' z.length (bcells z)) (hg:wr.grownBy w' va.ownBlock)
 (hb:v'.ownBlock=va.ownBlock∨v'.ownBlock=some wr.heap.size):FInv w0 t vt v' x z w':=by
 have hr:=h.room
 have hk:∀ k,va.ownBlock=some k→w0.heap.size+2≤k:=fun k e=>(h.own2.lt k e).1
 refine ⟨h.below.grown hg (by omega) (fun k e=>by have:=hk k e; omega),?_,?_,h.own1.kept hg ?_,ho,?_⟩
 ·unfold Cod; rw [hg.block _ (by omega) (fun e=>by have:=hk _ e.symm; omega)]; exact h.cod
 ·unfold Cod; rw [hg.block _ (by omega) (fun e=>by have:=hk _ e.symm; omega)]; exact h.res
 ·cases e:vt.ownBlock with
  | none=>left; rfl
  | some k=>right; exact fun e2=>h.sep k e e2.symm
 ·intro k e e2
  rcases hb with hb | hb
  ·exact h.sep k e (hb ▸ e2)
  ·have:=(h.own1.lt k e).2
   rw [hb] at e2; simp at e2; omega
theorem take_snoc (s:ByteArray) (k:Nat) (h:k < s.size):s.data.toList.take (k+1)=s.data.toList.take k++[s[k]]:=by
 rw [List.take_succ_eq_append_getElem (by simpa using h)]; rfl
structure Rel (w0:World) (t0:Tel) (s:ByteArray) (k:Nat) (T:Tel) (vt va:Value) (X Y:List UInt8) (wr:World):Prop where
 le:k≤s.size
 eq:feedL t0 (s.data.toList.take k)=(T,X,Y)
 fine:Fine T
 inv:FInv w0 T vt va X Y wr
theorem Rel.next {k:Nat} {T T':Tel} {s:ByteArray} {t0:Tel} {X Y:List UInt8} {vt' va':Value} (h:Rel w0 t0 s k T vt va X Y wr) (hk:k < s.size) {a b:List UInt8} (hs:step T s[k]=(T',a,b)) (hi:FInv w0 T' vt' va' (X++a) (Y++b) w') :
 Rel w0 t0 s (k+1) T' vt' va' (X++a) (Y++b) w':=by
 have hf:=fine_step h.fine s[k]
 rw [hs] at hf
 refine ⟨hk,?_,hf,hi⟩
 rw [take_snoc s k hk,feedL_snoc _ _ _ h.eq,hs]
theorem Rel.small {k:Nat} {T:Tel} {s:ByteArray} {t0:Tel} {X Y:List UInt8} (h:Rel w0 t0 s k T vt va X Y wr):X.length≤k∧Y.length≤k+2:=by
 have:=feed_len t0 (s.data.toList.take k)
 rw [h.eq] at this
 have hl:(s.data.toList.take k).length≤k:=List.length_take_le _ _
 simp only at this
 omega
theorem Tryz.size25:(Tryz.prog.info? 79).map (·.size)=some 10:=by kernel_rfl
theorem load25 (w:World) (b:Nat) (t:Tel) (h:Cod w b t):(loadVar 79 ⟨b,0,none⟩).run Tryz.prog w=.ok t.val w :=
 run_loadVar_row w b 79 79 t.cells (0,0) _ h Tryz.underlying79 rfl Tryz.size25
theorem res4 {fn:Func} {p a1 a2 a3:Tmp} (hf:fn.results=#[.cell p 79,.tmp a1,.tmp a2,.tmp a3]) {tmps:Array Value} {w:World} {b:Nat} {t:Tel} {x y e:Value}
 (h4:tmps.getD p undef=.pointer (some ⟨b,0,none⟩)) (h5:tmps.getD a1 undef=x) (h6:tmps.getD a2 undef=y) (h7:tmps.getD a3 undef=e) (hc:Cod w b t) :
 (results fn tmps).run Tryz.prog w=.ok (.tuple #[t.val,x,y,e]) w:=by
 simp only [Array.getD_eq_getD_getElem?] at h4 h5 h6 h7
 simp only [results,hf]
 simp [Result.andThen,h4,h5,h6,h7,asAddr,load25 w b t hc]
theorem res3 {fn:Func} {p a1 a2:Tmp} (hf:fn.results=#[.cell p 79,.tmp a1,.tmp a2]) {tmps:Array Value} {w:World} {b:Nat} {t:Tel} {x y:Value}
 (h4:tmps.getD p undef=.pointer (some ⟨b,0,none⟩)) (h5:tmps.getD a1 undef=x) (h6:tmps.getD a2 undef=y) (hc:Cod w b t) :
 (results fn tmps).run Tryz.prog w=.ok (.tuple #[t.val,x,y]) w:=by
 simp only [Array.getD_eq_getD_getElem?] at h4 h5 h6
 simp only [results,hf]
 simp [Result.andThen,h4,h5,h6,asAddr,load25 w b t hc]
theorem cod_ten {w:World} {b:Nat} {t u:Tel} (h:Cod w b u) :
 Cod ((((((((((w.setCell ⟨b,0,none⟩ (.int .i64 t.pos)).setCell ⟨b,1,none⟩ (.int .i64 t.verb)).setCell ⟨b,2,none⟩ (.string t.sub)).setCell ⟨b,3,none⟩ (.int .i64 t.u0)).setCell ⟨b,4,none⟩ (.int .i64 t.u1)).setCell ⟨b,5,none⟩ (.int .i64 t.u2)).setCell ⟨b,6,none⟩ (.int .i64 t.t0)).setCell ⟨b,7,none⟩ (.int .i64 t.t1)).setCell ⟨b,8,none⟩ (.int .i64 t.t2)).setCell ⟨b,9,none⟩ (.int .i64 t.height)) b t :=
 cod_mk (cod_set (cod_set (cod_set (cod_set (cod_set (cod_set (cod_set (cod_set (cod_set (cod_set h _ _) _ _) _ _) _ _) _ _) _ _) _ _) _ _) _ _) _ _) (by simp [Tel.cells])
theorem below_ten {a w:World} {b B:Nat} {t:Tel} (h:Below B a w) (hB:B≤b) :
 Below B a ((((((((((w.setCell ⟨b,0,none⟩ (.int .i64 t.pos)).setCell ⟨b,1,none⟩ (.int .i64 t.verb)).setCell ⟨b,2,none⟩ (.string t.sub)).setCell ⟨b,3,none⟩ (.int .i64 t.u0)).setCell ⟨b,4,none⟩ (.int .i64 t.u1)).setCell ⟨b,5,none⟩ (.int .i64 t.u2)).setCell ⟨b,6,none⟩ (.int .i64 t.t0)).setCell ⟨b,7,none⟩ (.int .i64 t.t1)).setCell ⟨b,8,none⟩ (.int .i64 t.t2)).setCell ⟨b,9,none⟩ (.int .i64 t.height)) :=
 (((((((((h.setCell hB _).setCell hB _).setCell hB _).setCell hB _).setCell hB _).setCell hB _).setCell hB _).setCell hB _).setCell hB _).setCell hB _
theorem grown_ten {a w:World} {b:Nat} {t:Tel} (h:a.grownBy w (some b)) :
 a.grownBy ((((((((((w.setCell ⟨b,0,none⟩ (.int .i64 t.pos)).setCell ⟨b,1,none⟩ (.int .i64 t.verb)).setCell ⟨b,2,none⟩ (.string t.sub)).setCell ⟨b,3,none⟩ (.int .i64 t.u0)).setCell ⟨b,4,none⟩ (.int .i64 t.u1)).setCell ⟨b,5,none⟩ (.int .i64 t.u2)).setCell ⟨b,6,none⟩ (.int .i64 t.t0)).setCell ⟨b,7,none⟩ (.int .i64 t.t1)).setCell ⟨b,8,none⟩ (.int .i64 t.t2)).setCell ⟨b,9,none⟩ (.int .i64 t.height)) (some b) :=
 grown_set (grown_set (grown_set (grown_set (grown_set (grown_set (grown_set (grown_set (grown_set (grown_set h _ _) _ _) _ _) _ _) _ _) _ _) _ _) _ _) _ _) _ _
theorem FInv.convs (h:FInv w0 t vt va x y wr) (hg:wr.grownBy w' (some (w0.heap.size+1))) :
 (convert 123 9 vt).run Tryz.prog w'.drew=.ok (.string ⟨x.toArray⟩) w'.drew∧(convert 123 9 va).run Tryz.prog w'.drew=.ok (.string ⟨y.toArray⟩) w'.drew:=by
 refine ⟨conv_own w' _ _ x (h.own1.kept hg ?_) _ rfl,conv_own w' _ _ y (h.own2.kept hg ?_) _ rfl⟩
 ·right; intro e; have:=h.own1.lt _ e; omega
 ·right; intro e; have:=h.own2.lt _ e; omega
open Go.RowKit
theorem feed_good (t:Tel) (s:ByteArray) (w:World) (hfine:Fine t) (hs:s.size≤140737488351232) :
 Calls Tryz.prog 39 #[t.val,.string s] w fun e w'=>e=.returned (.tuple #[(feedL t s.data.toList).1.val,.string ⟨(feedL t s.data.toList).2.1.toArray⟩,.string ⟨(feedL t s.data.toList).2.2.toArray⟩,.int .i64 0])∧Below w.heap.size w w':=by
 have hsub:t.sub.size≤maxLen:=by have:=hfine.sub16; unfold maxLen; omega
 have hg:good t=true:=(fine_iff t).2 hfine
 have HF:=hide hfine
 clear hfine
 unfold Tel.val Tel.cells
 go_enter Tryz.func39,Tryz.ntmps39
 go_wp2_with (go_at_call 76; refine (good_any t _ hsub).mono ?_; rintro e w1 ⟨rfl,hb1⟩)
 go_loopw [8,9,10] (fun vt va i wr=>∃ (k:Nat) (T:Tel) (X Y:List UInt8),i=.int .i64 k∧Rel w t s k T vt va X Y wr) (fun _ _ i _=>s.size - (intOf i).toNat)
 case atStart =>
  refine ⟨0,t,[],[],rfl,Nat.zero_le _,rfl,HF.out,?_,?_,?_,World.ownsRow_nil _ _ _ _,World.ownsRow_nil _ _ _ _,?_⟩
  ·exact (((Below.refl _ _).alloc (Nat.le_refl _) _).alloc (by simp) _).trans (hb1.mono (by simp; omega))
  ·show w1.heap[w.heap.size]?=_
   rw [hb1.block _ (by simp; omega),Below.heap_alloc _ _ _ (by simp)]
   exact heap_alloc_new w _
  ·show w1.heap[w.heap.size+1]?=_
   rw [hb1.block _ (by simp)]
   have:=heap_alloc_new (w.alloc (.cells t.cells 79)) (.cells zt.cells 79)
   rw [World.size_alloc] at this
   exact this
  ·intro k e; simp [Value.ownBlock] at e
 case round =>
  obtain ⟨k,T,X,Y,rfl,hR⟩:=hrel
  have hk:=hR.le
  clear hb1
  obtain ⟨c0,c1,c2,c3,c4,c5,c6,c7,c8,c9,hfz⟩:=hR.inv.cod.all
  by_cases hlt:k < s.size
  ·have hf:=hR.fine
   have hsm:=hR.small
   have p0:=hf.pos0
   have p4:=hf.pos4
   have s16:=hf.sub16
   have hroom:=hR.inv.room
   have k255:=byte_beq s[k] 255 (by omega)
   have hw:wrap64 ((s[k].toNat:Nat):Int)=s[k].toNat:=by have:=s[k].toNat_lt; unfold wrap64; omega
   have b255:s[k].toNat < 256:=s[k].toNat_lt
   have hcod:=hR.inv.cod
   by_cases hp0:T.pos=0
   ·rw [hp0] at c0
    by_cases hc:s[k]=255
    ·have hS:step T s[k]=({ T with pos:=1 },[],[]):=by unfold step; rw [if_pos hp0,if_pos hc]
     have HR:=hide (hR.next hlt hS (by simpa using hR.inv.turn (cod_mk (cod_set hR.inv.cod 0 (.int .i64 1)) rfl) (grown_set (grown_refl _ _) _ _)))
     have ec:(((s[k].toNat:Nat):Int)==255)=true:=by simp [hc]
     clear hS hc k255 hf hp0 p0 p4 s16 hg
     go_wp2
     exact ⟨⟨k+1,_,_,_,by go_num,HR.out⟩,by simp [intOf]; omega⟩
    ·have HS:=hide (show step T s[k]=(T,[s[k]],[]) by unfold step; rw [if_pos hp0,if_neg hc])
     have ec:(((s[k].toNat:Nat):Int)==255)=false:=by simpa [hc] using k255
     clear hc k255 hf hp0 p0 p4 s16 hg
     go_wp2_with (at_builtin; refine wp_append1 _ rfl (.tmp 32) (.tmp 34) rfl (w.heap.size+2) _ X rfl (hR.inv.own1.alloc _) s[k] ⟨wr.heap.size,0,none⟩ rfl ?c1 ?c2 ?c3 ?_)
     case c1=>simp
     case c2=>omega
     case c3=>simp; omega
     intro v2 w2 ho2 hg2 hb2
     have hi2:=(hR.inv.alloc (.cells #[.int .u8 ((s[k].toNat:Nat):Int)] 5)).app1 (z:=X++[s[k]]) (by rw [List.length_append]; exact ho2) hg2 (by simpa using hb2)
     clear ho2 hg2 hb2
     go_wp2
     exact ⟨⟨k+1,_,_,_,by go_num,hR.next hlt HS.out (by simpa using hi2)⟩,by simp [intOf]; omega⟩
   by_cases hp1:T.pos=1
   ·rw [hp1] at c0
    by_cases hc:s[k]=255
    ·have HS:=hide (show step T s[k]=(cmd T s[k].toNat,[s[k]],[]) by unfold step; rw [if_neg hp0,if_pos hp1,if_pos hc])
     have ec:(((s[k].toNat:Nat):Int)==255)=true:=by simp [hc]
     clear hc k255 hf hp0 hp1 p0 p4 s16 hg
     go_wp2_with (at_builtin; refine wp_append1 _ rfl (.tmp 40) (.tmp 42) rfl (w.heap.size+2) _ X rfl (hR.inv.own1.alloc _) s[k] ⟨wr.heap.size,0,none⟩ rfl ?c1 ?c2 ?c3 ?_)
     case c1=>simp
     case c2=>omega
     case c3=>simp; omega
     intro v2 w2 ho2 hg2 hb2
     have hi2:=(hR.inv.alloc (.cells #[.int .u8 ((s[k].toNat:Nat):Int)] 5)).app1 (z:=X++[s[k]]) (by rw [List.length_append]; exact ho2) hg2 (by simpa using hb2)
     clear ho2 hg2 hb2
     have hcd2:=hi2.cod
     go_wp2_with (go_at_call 77; refine (command_any T w.heap.size _ _ hcd2).mono ?_; rintro e w3 ⟨rfl,hcd3,hgr3⟩)
     exact ⟨⟨k+1,_,_,_,by go_num,hR.next hlt HS.out (by simpa using hi2.turn hcd3 hgr3)⟩,by simp [intOf]; omega⟩
    ·have HS:=hide (show step T s[k]=(cmd T s[k].toNat,[],[]) by unfold step; rw [if_neg hp0,if_pos hp1,if_neg hc])
     have ec:(((s[k].toNat:Nat):Int)==255)=false:=by simpa [hc] using k255
     clear hc k255 hf hp0 hp1 p0 p4 s16 hg
     go_wp2_with (go_at_call 77; refine (command_any T w.heap.size _ _ hcod).mono ?_; rintro e w3 ⟨rfl,hcd3,hgr3⟩)
     exact ⟨⟨k+1,_,_,_,by go_num,hR.next hlt HS.out (by simpa using hR.inv.turn hcd3 hgr3)⟩,by simp [intOf]; omega⟩
   by_cases hp2:T.pos=2
   ·rw [hp2] at c0
    have hv:=hf.verb2 hp2
    have HS:=hide (show step T s[k]=((setl T s[k].toNat).1,[],(setl T s[k].toNat).2) by unfold step; rw [if_neg hp0,if_neg hp1,if_pos hp2])
    have hl3:=setl_len T s[k].toNat
    clear k255 hf hp0 hp1 hp2 p0 p4 s16 hg
    go_wp2_with fail
    refine (settle_any T w.heap.size _ _ hcod hv.1 hv.2 (by omega) (by omega)).mono ?_
    rintro e w3 ⟨rfl,hcd3,hgr3⟩
    have hi3:=hR.inv.turn hcd3 hgr3
    have hroom3:=hi3.room
    clear hcd3 hgr3 hv
    go_wp2_with (at_builtin; refine wp_appendS _ rfl (.tmp 49) (.tmp 52) rfl (w.heap.size+2) _ Y (setl T s[k].toNat).2 rfl hi3.own2 rfl ?c2 ?c3 ?_)
    case c2=>omega
    case c3=>omega
    intro v4 w4 ho4 hg4 hb4
    have hi4:=hi3.app2 (z:=Y++(setl T s[k].toNat).2) (by rw [List.length_append]; exact ho4) hg4 hb4
    clear ho4 hg4 hb4
    go_wp2
    exact ⟨⟨k+1,_,_,_,by go_num,hR.next hlt HS.out (by simpa using hi4)⟩,by simp [intOf]; omega⟩
   by_cases hp3:T.pos=3
   ·rw [hp3] at c0
    by_cases hc:s[k]=255
    ·have hS:step T s[k]=({ T with pos:=4 },[],[]):=by unfold step; rw [if_neg hp0,if_neg hp1,if_neg hp2,if_pos hp3,if_pos hc]
     have HR:=hide (hR.next hlt hS (by simpa using hR.inv.turn (cod_mk (cod_set hR.inv.cod 0 (.int .i64 4)) rfl) (grown_set (grown_refl _ _) _ _)))
     have ec:(((s[k].toNat:Nat):Int)==255)=true:=by simp [hc]
     clear hS hc k255 hf hp0 hp1 hp2 hp3 p0 p4 s16 hg
     go_wp2
     exact ⟨⟨k+1,_,_,_,by go_num,HR.out⟩,by simp [intOf]; omega⟩
    ·have HS:=hide (show step T s[k]=(kp T s[k],[],[]) by unfold step; rw [if_neg hp0,if_neg hp1,if_neg hp2,if_pos hp3,if_neg hc])
     have ec:(((s[k].toNat:Nat):Int)==255)=false:=by simpa [hc] using k255
     clear hc k255 hf hp0 hp1 hp2 hp3 p0 p4 hg
     go_wp2_with (go_at_call 79; refine (keep_any T w.heap.size s[k] _ hcod s16).mono ?_; rintro e w3 ⟨rfl,hcd3,hgr3⟩)
     exact ⟨⟨k+1,_,_,_,by go_num,hR.next hlt HS.out (by simpa using hR.inv.turn hcd3 hgr3)⟩,by simp [intOf]; omega⟩
   have hp4:T.pos=4:=by omega
   rw [hp4] at c0
   by_cases hc:s[k]=255
   ·have HS:=hide (show step T s[k]=(kp { T with pos:=3 } s[k],[],[]) by unfold step; rw [if_neg hp0,if_neg hp1,if_neg hp2,if_neg hp3,if_pos hc])
    have ec:(((s[k].toNat:Nat):Int)==255)=true:=by simp [hc]
    clear hc k255 hf hp0 hp1 hp2 hp3 hp4 p0 p4 hg
    have hi2:=hR.inv.turn (t':={ T with pos:=3 }) (cod_mk (cod_set hR.inv.cod 0 (.int .i64 3)) rfl) (grown_set (grown_refl _ _) _ _)
    go_wp2_with (go_at_call 79; refine (keep_any { T with pos:=3 } w.heap.size s[k] _ hi2.cod s16).mono ?_; rintro e w3 ⟨rfl,hcd3,hgr3⟩)
    exact ⟨⟨k+1,_,_,_,by go_num,hR.next hlt HS.out (by simpa using hi2.turn hcd3 hgr3)⟩,by simp [intOf]; omega⟩
   ·have HS:=hide (show step T s[k]=(fin T s[k],[],[]) by unfold step; rw [if_neg hp0,if_neg hp1,if_neg hp2,if_neg hp3,if_neg hc])
    have ec:(((s[k].toNat:Nat):Int)==255)=false:=by simpa [hc] using k255
    clear hc k255 hf hp0 hp1 hp2 hp3 hp4 p0 p4 hg
    go_wp2_with (go_at_call 80; refine (finish_any T w.heap.size s[k] _ hcod s16).mono ?_; rintro e w3 ⟨rfl,hcd3,hgr3⟩)
    exact ⟨⟨k+1,_,_,_,by go_num,hR.next hlt HS.out (by simpa using hR.inv.turn hcd3 hgr3)⟩,by simp [intOf]; omega⟩
  ·have hkk:k=s.size:=by omega
   have hT:feedL t s.data.toList=(T,X,Y):=by have:=hR.eq; rwa [hkk,List.take_of_length_le (by simp)] at this
   have HT:=hide hT
   obtain ⟨hX,hY⟩:=hR.inv.convs (grown_refl _ _)
   obtain ⟨hX',hY'⟩:=hR.inv.convs (grown_ten (t:=T) (grown_refl _ _))
   obtain ⟨d0,d1,d2,d3,d4,d5,d6,d7,d8,d9,hfd⟩:=hR.inv.res.all
   clear hT hkk hg
   go_wp2
   go_region
   go_wp2
   refine bodyPost_ret (res4 Tryz.results39 rfl rfl rfl rfl (cod_drew (cod_ten hR.inv.res))) rfl ⟨?_,(below_ten hR.inv.below (by omega)).drew⟩
   rw [HT.out]
   rfl
open Go.RowKit
theorem propose_no (b f:Nat) (v o:Int) (hv:0≤v) (hv':v≤255) (ho:0≤o) (ho':o≤255) (w:World) (hc:w.cell? ⟨b,f,none⟩=some (.int .i64 0)) (hf:w.frozen? ⟨b,f,none⟩=false) :
 Calls Tryz.prog 120 #[.pointer (some ⟨b,f,none⟩),.int .i64 v,.int .i64 o] w fun e w'=>e=.returned (.tuple #[.string (sayB v o),.int .i64 0])∧Below w.heap.size (w.setCell ⟨b,f,none⟩ (.int .i64 2)) w':=by
 go_enter Tryz.func120,Tryz.ntmps120
 go_wp2_with (go_at_call 115; refine (say_any _ _ hv hv' ho ho' _).mono ?_; rintro e w' ⟨rfl,hb⟩)
 go_ret2
 exact ⟨rfl,hb.mono (by simp)⟩
theorem start_world {w w1:World} {t:Tel} {B:Nat} (hb1:Below B ((w.alloc (.cells t.cells 79)).alloc (.cells zt.cells 79)) w1) (hB:w.heap.size+1 < B) :
 Cod w1 w.heap.size t∧Cod w1 (w.heap.size+1) zt∧Below w.heap.size w w1:=by
 refine ⟨?_,?_,(((Below.refl _ _).alloc (Nat.le_refl _) _).alloc (by simp) _).trans (hb1.mono (by omega))⟩
 ·unfold Cod; rw [hb1.block _ (by omega),Below.heap_alloc _ _ _ (by simp)]; exact heap_alloc_new w _
 ·have:=heap_alloc_new (w.alloc (.cells t.cells 79)) (.cells zt.cells 79)
  rw [World.size_alloc] at this
  unfold Cod; rw [hb1.block _ hB]; exact this
theorem cod_ne {w:World} {b c:Nat} {cs:Array Value} (h:w.heap[c]?=some (.cells cs 79 (0,0))) (hne:c ≠ b) (o:Nat) (v:Value) :
 (w.setCell ⟨b,o,none⟩ v).heap[c]?=some (.cells cs 79 (0,0)):=by
 rw [Below.heap_setCell _ _ _ _ hne]; exact h
theorem offer_new1 (t:Tel) (w:World) (hs:t.sub.size≤maxLen) (hg:good t=true) (hn:t.u0=0) :
 Calls Tryz.prog 100 #[t.val,.int .i64 1] w fun e w'=>e=.returned (.tuple #[({ t with u0:=2 }:Tel).val,.string (sayB 251 1),.int .i64 0])∧Below w.heap.size w w':=by
 have HN:=hide hn
 clear hn
 unfold Tel.val Tel.cells
 go_enter Tryz.func100,Tryz.ntmps100
 go_wp2_with fail
 refine (good_any t _ hs).mono ?_
 rintro e w1 ⟨rfl,hb1⟩
 obtain ⟨k1,r1,l1⟩:=start_world hb1 (by simp)
 clear hb1
 have z1:=r1.lt
 obtain ⟨c0,c1,c2,c3,c4,c5,c6,c7,c8,c9,cfz⟩:=k1.all
 obtain ⟨d0,d1,d2,d3,d4,d5,d6,d7,d8,d9,dfz⟩:=r1.all
 rw [HN.out] at c3
 go_wp2_with fail
 refine (ours_1 w.heap.size _).mono ?_
 rintro e w2 ⟨rfl,n,rfl⟩
 go_wp2_with fail
 refine (propose_no w.heap.size 3 251 1 (by omega) (by omega) (by omega) (by omega) _ (by go_simp) (by go_simp)).mono ?_
 rintro e w3 ⟨rfl,hb3⟩
 have k3:Cod w3 w.heap.size { t with u0:=2 }:=cod_mk (cod_below (cod_set (cod_drewN k1 n) _ _) hb3 (by simp; omega)) rfl
 have r3:Cod w3 (w.heap.size+1) zt:=cod_mk (cod_below (cod_ne (cod_drewN r1 n) (by omega) _ _) hb3 (by simp; omega)) rfl
 have l3:Below w.heap.size w w3:=((below_drewN l1 n).setCell (by simp) _).trans (hb3.mono (by simp; omega))
 clear hb3 k1 r1 l1 c0 c1 c2 c3 c4 c5 c6 c7 c8 c9 cfz d0 d1 d2 d3 d4 d5 d6 d7 d8 d9 dfz
 have z3:=r3.lt
 obtain ⟨c0,c1,c2,c3,c4,c5,c6,c7,c8,c9,cfz⟩:=k3.all
 obtain ⟨d0,d1,d2,d3,d4,d5,d6,d7,d8,d9,dfz⟩:=r3.all
 go_wp2
 exact bodyPost_ret (res3 Tryz.results100 rfl rfl rfl (cod_ten (t:={ t with u0:=2 }) r3)) rfl ⟨rfl,below_ten (t:={ t with u0:=2 }) l3 (by omega)⟩
theorem offer_new3 (t:Tel) (w:World) (hs:t.sub.size≤maxLen) (hg:good t=true) (hn:t.u1=0) :
 Calls Tryz.prog 100 #[t.val,.int .i64 3] w fun e w'=>e=.returned (.tuple #[({ t with u1:=2 }:Tel).val,.string (sayB 251 3),.int .i64 0])∧Below w.heap.size w w':=by
 have HN:=hide hn
 clear hn
 unfold Tel.val Tel.cells
 go_enter Tryz.func100,Tryz.ntmps100
 go_wp2_with fail
 refine (good_any t _ hs).mono ?_
 rintro e w1 ⟨rfl,hb1⟩
 obtain ⟨k1,r1,l1⟩:=start_world hb1 (by simp)
 clear hb1
 have z1:=r1.lt
 obtain ⟨c0,c1,c2,c3,c4,c5,c6,c7,c8,c9,cfz⟩:=k1.all
 obtain ⟨d0,d1,d2,d3,d4,d5,d6,d7,d8,d9,dfz⟩:=r1.all
 rw [HN.out] at c4
 go_wp2_with fail
 refine (ours_3 w.heap.size _).mono ?_
 rintro e w2 ⟨rfl,n,rfl⟩
 go_wp2_with fail
 refine (propose_no w.heap.size 4 251 3 (by omega) (by omega) (by omega) (by omega) _ (by go_simp) (by go_simp)).mono ?_
 rintro e w3 ⟨rfl,hb3⟩
 have k3:Cod w3 w.heap.size { t with u1:=2 }:=cod_mk (cod_below (cod_set (cod_drewN k1 n) _ _) hb3 (by simp; omega)) rfl
 have r3:Cod w3 (w.heap.size+1) zt:=cod_mk (cod_below (cod_ne (cod_drewN r1 n) (by omega) _ _) hb3 (by simp; omega)) rfl
 have l3:Below w.heap.size w w3:=((below_drewN l1 n).setCell (by simp) _).trans (hb3.mono (by simp; omega))
 clear hb3 k1 r1 l1 c0 c1 c2 c3 c4 c5 c6 c7 c8 c9 cfz d0 d1 d2 d3 d4 d5 d6 d7 d8 d9 dfz
 have z3:=r3.lt
 obtain ⟨c0,c1,c2,c3,c4,c5,c6,c7,c8,c9,cfz⟩:=k3.all
 obtain ⟨d0,d1,d2,d3,d4,d5,d6,d7,d8,d9,dfz⟩:=r3.all
 go_wp2
 exact bodyPost_ret (res3 Tryz.results100 rfl rfl rfl (cod_ten (t:={ t with u1:=2 }) r3)) rfl ⟨rfl,below_ten (t:={ t with u1:=2 }) l3 (by omega)⟩
theorem ask_new3 (t:Tel) (w:World) (hs:t.sub.size≤maxLen) (hg:good t=true) (hn:t.t1=0) :
 Calls Tryz.prog 101 #[t.val,.int .i64 3] w fun e w'=>e=.returned (.tuple #[({ t with t1:=2 }:Tel).val,.string (sayB 253 3),.int .i64 0])∧Below w.heap.size w w':=by
 have HN:=hide hn
 clear hn
 unfold Tel.val Tel.cells
 go_enter Tryz.func101,Tryz.ntmps101
 go_wp2_with fail
 refine (good_any t _ hs).mono ?_
 rintro e w1 ⟨rfl,hb1⟩
 obtain ⟨k1,r1,l1⟩:=start_world hb1 (by simp)
 clear hb1
 have z1:=r1.lt
 obtain ⟨c0,c1,c2,c3,c4,c5,c6,c7,c8,c9,cfz⟩:=k1.all
 obtain ⟨d0,d1,d2,d3,d4,d5,d6,d7,d8,d9,dfz⟩:=r1.all
 rw [HN.out] at c7
 go_wp2_with fail
 refine (theirs_3 w.heap.size _).mono ?_
 rintro e w2 ⟨rfl,n,rfl⟩
 go_wp2_with fail
 refine (propose_no w.heap.size 7 253 3 (by omega) (by omega) (by omega) (by omega) _ (by go_simp) (by go_simp)).mono ?_
 rintro e w3 ⟨rfl,hb3⟩
 have k3:Cod w3 w.heap.size { t with t1:=2 }:=cod_mk (cod_below (cod_set (cod_drewN k1 n) _ _) hb3 (by simp; omega)) rfl
 have r3:Cod w3 (w.heap.size+1) zt:=cod_mk (cod_below (cod_ne (cod_drewN r1 n) (by omega) _ _) hb3 (by simp; omega)) rfl
 have l3:Below w.heap.size w w3:=((below_drewN l1 n).setCell (by simp) _).trans (hb3.mono (by simp; omega))
 clear hb3 k1 r1 l1 c0 c1 c2 c3 c4 c5 c6 c7 c8 c9 cfz d0 d1 d2 d3 d4 d5 d6 d7 d8 d9 dfz
 have z3:=r3.lt
 obtain ⟨c0,c1,c2,c3,c4,c5,c6,c7,c8,c9,cfz⟩:=k3.all
 obtain ⟨d0,d1,d2,d3,d4,d5,d6,d7,d8,d9,dfz⟩:=r3.all
 go_wp2
 exact bodyPost_ret (res3 Tryz.results101 rfl rfl rfl (cod_ten (t:={ t with t1:=2 }) r3)) rfl ⟨rfl,below_ten (t:={ t with t1:=2 }) l3 (by omega)⟩
theorem ask_new31 (t:Tel) (w:World) (hs:t.sub.size≤maxLen) (hg:good t=true) (hn:t.t2=0) :
 Calls Tryz.prog 101 #[t.val,.int .i64 31] w fun e w'=>e=.returned (.tuple #[({ t with t2:=2 }:Tel).val,.string (sayB 253 31),.int .i64 0])∧Below w.heap.size w w':=by
 have HN:=hide hn
 clear hn
 unfold Tel.val Tel.cells
 go_enter Tryz.func101,Tryz.ntmps101
 go_wp2_with fail
 refine (good_any t _ hs).mono ?_
 rintro e w1 ⟨rfl,hb1⟩
 obtain ⟨k1,r1,l1⟩:=start_world hb1 (by simp)
 clear hb1
 have z1:=r1.lt
 obtain ⟨c0,c1,c2,c3,c4,c5,c6,c7,c8,c9,cfz⟩:=k1.all
 obtain ⟨d0,d1,d2,d3,d4,d5,d6,d7,d8,d9,dfz⟩:=r1.all
 rw [HN.out] at c8
 go_wp2_with fail
 refine (theirs_31 w.heap.size _).mono ?_
 rintro e w2 ⟨rfl,n,rfl⟩
 go_wp2_with fail
 refine (propose_no w.heap.size 8 253 31 (by omega) (by omega) (by omega) (by omega) _ (by go_simp) (by go_simp)).mono ?_
 rintro e w3 ⟨rfl,hb3⟩
 have k3:Cod w3 w.heap.size { t with t2:=2 }:=cod_mk (cod_below (cod_set (cod_drewN k1 n) _ _) hb3 (by simp; omega)) rfl
 have r3:Cod w3 (w.heap.size+1) zt:=cod_mk (cod_below (cod_ne (cod_drewN r1 n) (by omega) _ _) hb3 (by simp; omega)) rfl
 have l3:Below w.heap.size w w3:=((below_drewN l1 n).setCell (by simp) _).trans (hb3.mono (by simp; omega))
 clear hb3 k1 r1 l1 c0 c1 c2 c3 c4 c5 c6 c7 c8 c9 cfz d0 d1 d2 d3 d4 d5 d6 d7 d8 d9 dfz
 have z3:=r3.lt
 obtain ⟨c0,c1,c2,c3,c4,c5,c6,c7,c8,c9,cfz⟩:=k3.all
 obtain ⟨d0,d1,d2,d3,d4,d5,d6,d7,d8,d9,dfz⟩:=r3.all
 go_wp2
 exact bodyPost_ret (res3 Tryz.results101 rfl rfl rfl (cod_ten (t:={ t with t2:=2 }) r3)) rfl ⟨rfl,below_ten (t:={ t with t2:=2 }) l3 (by omega)⟩
end Go.Proofs.YtncgcejlkmoliaaGreatDoor.Te
