import Derived.Lib.Strings
import Derived.Lib.Bytealg
import Derived.Test.YtncgcejlkmoliaaGreatDoorMh00
import Derived.Test.YtncgcejlkmoliaaGreatDoorMh03
import Derived.Test.YtncgcejlkmoliaaGreatDoorMh01
import Derived.Deep.RegionHeld3
set_option linter.unusedVariables false
set_option maxRecDepth 100000
set_option maxHeartbeats 16000000
namespace Go.Proofs.YtncgcejlkmoliaaGreatDoor
def bs (l:List UInt8):ByteArray:=⟨l.toArray⟩
theorem bs_data (l:List UInt8):(bs l).data.toList=l:=by simp [bs]
theorem bs_of (s:ByteArray):bs s.data.toList=s:=by cases s; simp [bs]
theorem bs_size (l:List UInt8):(bs l).size=l.length:=by simp [bs,ByteArray.size]
theorem size_len (s:ByteArray):s.data.toList.length=s.size:=by cases s; simp [ByteArray.size]
def cutL (c:UInt8):List UInt8→List UInt8 × List UInt8 × Bool
 | []=>([],[],false)
 | x::r=>if x=c then ([],r,true) else (x::(cutL c r).1,(cutL c r).2.1,(cutL c r).2.2)
theorem cut_hit (c:UInt8):∀ (l:List UInt8) (i:Nat),Lib.indexByte l c=(i:Int)→cutL c l=(l.take i,l.drop (i+1),true)
 | [],i,h=>by simp [Lib.indexByte] at h
 | x::r,i,h=>by
  unfold Lib.indexByte at h
  by_cases hx:x=c
  ·subst hx
   simp at h
   have:i=0:=by omega
   subst this
   simp [cutL]
  ·rw [if_neg (by simpa using hx)] at h
   by_cases h1:Lib.indexByte r c=-1
   ·rw [if_pos (by simp [h1])] at h; omega
   ·rw [if_neg (by simpa using h1)] at h
    have hge:=Lib.indexByte_ge r c
    obtain ⟨j,hj⟩:∃ j:Nat,i=j+1:=⟨i - 1,by omega⟩
    subst hj
    have:=cut_hit c r j (by omega)
    simp [cutL,hx,this]
theorem cut_miss (c:UInt8):∀ (l:List UInt8),Lib.indexByte l c=-1→cutL c l=(l,[],false)
 | [],_=>rfl
 | x::r,h=>by
  unfold Lib.indexByte at h
  by_cases hx:x=c
  ·subst hx; simp at h
  ·rw [if_neg (by simpa using hx)] at h
   have hge:=Lib.indexByte_ge r c
   have h1:Lib.indexByte r c=-1:=by
    by_cases h1:Lib.indexByte r c=-1
    ·exact h1
    ·rw [if_neg (by simpa using h1)] at h; omega
   have:=cut_miss c r h1
   simp [cutL,hx,this]
theorem cut_bound (c:UInt8):∀ (l:List UInt8) (i:Nat),Lib.indexByte l c=(i:Int)→i < l.length
 | [],i,h=>by simp [Lib.indexByte] at h
 | x::r,i,h=>by
  unfold Lib.indexByte at h
  by_cases hx:x=c
  ·subst hx; simp at h; simp; omega
  ·rw [if_neg (by simpa using hx)] at h
   by_cases h1:Lib.indexByte r c=-1
   ·rw [if_pos (by simp [h1])] at h; omega
   ·rw [if_neg (by simpa using h1)] at h
    have hge:=Lib.indexByte_ge r c
    have:=cut_bound c r (i - 1) (by omega)
    simp; omega
theorem cut_len (c:UInt8):∀ (l:List UInt8),(cutL c l).1.length+(cutL c l).2.1.length≤l.length
 | []=>by simp [cutL]
 | x::r=>by
  have:=cut_len c r
  by_cases hx:x=c
  ·simp [cutL,hx]
  ·simp [cutL,hx]; omega
theorem cut_less (c:UInt8):∀ (l:List UInt8),l ≠ []→(cutL c l).2.1.length < l.length
 | [],h=>absurd rfl h
 | x::r,_=>by
  have:=cut_len c r
  by_cases hx:x=c
  ·simp [cutL,hx]
  ·simp [cutL,hx]; omega
def loB (b:UInt8):UInt8:=if 65≤b.toNat∧b.toNat≤90 then b+32 else b
def lowerL (l:List UInt8):List UInt8:=l.map loB
def one (acc:List UInt8):List (List UInt8):=if acc=[] then [] else [lowerL acc]
def sp:List UInt8→List UInt8→List (List UInt8)
 | acc,[]=>one acc
 | acc,x::r=>if x=32 then one acc++sp [] r else sp (acc++[x]) r
def splitL (l:List UInt8):List (List UInt8):=sp [] l
theorem sp_cut:∀ (l acc:List UInt8),sp acc l=one (acc++(cutL 32 l).1)++sp [] (cutL 32 l).2.1
 | [],acc=>by simp [sp,cutL,one]
 | x::r,acc=>by
  by_cases hx:x=32
  ·simp [sp,cutL,hx]
  ·have:=sp_cut r (acc++[x])
   simp [sp,cutL,hx,this]
theorem split_cut (l:List UInt8):splitL l=one (cutL 32 l).1++splitL (cutL 32 l).2.1:=by
 have:=sp_cut l []
 simpa [splitL] using this
theorem split_nil:splitL []=[]:=by simp [splitL,sp,one]
theorem one_len (l:List UInt8):(one l).length≤l.length:=by
 unfold one
 by_cases h:l=[]
 ·simp [h]
 ·have:0 < l.length:=List.length_pos_iff.2 h
  simp [h]; omega
theorem sp_len:∀ (l acc:List UInt8),(sp acc l).length≤acc.length+l.length
 | [],acc=>by have:=one_len acc; simp [sp]; omega
 | x::r,acc=>by
  by_cases hx:x=32
  ·have:=sp_len r []
   have:=one_len acc
   simp [sp,hx] at *; omega
  ·have:=sp_len r (acc++[x])
   simp [sp,hx] at *; omega
theorem split_len (l:List UInt8):(splitL l).length≤l.length:=by
 have:=sp_len l []
 simpa [splitL] using this
theorem sp_ne:∀ (l acc:List UInt8),∀ x ∈ sp acc l,x ≠ []∧x.length≤acc.length+l.length
 | [],acc,y,h=>by
  unfold sp one at h
  by_cases ha:acc=[]
  ·simp [ha] at h
  ·simp [ha] at h; subst h; simp [lowerL,ha]
 | x::r,acc,y,h=>by
  by_cases hx:x=32
  ·simp [sp,hx] at h
   rcases h with h | h
   ·unfold one at h
    by_cases ha:acc=[]
    ·simp [ha] at h
    ·simp [ha] at h; subst h; simp [lowerL,ha]
   ·have:=sp_ne r [] y h
    simp at this ⊢; exact ⟨this.1,by omega⟩
  ·simp [sp,hx] at h
   have:=sp_ne r (acc++[x]) y h
   simp at this ⊢; exact ⟨this.1,by omega⟩
theorem split_ne {l y:List UInt8} (h:y ∈ splitL l):y ≠ []:=(sp_ne l [] y h).1
theorem split_short {l y:List UInt8} (h:y ∈ splitL l):y.length≤l.length:=by
 have:=(sp_ne l [] y h).2; simpa using this
def verbs:List (List UInt8):=[[110,111,114,116,104],[101,97,115,116],[117,112],[115,111,117,116,104],[119,101,115,116],[100,111,119,110],[108,111,111,107],[103,101,116],[100,114,111,112],[112,117,116],[103,105,118,101],[115,97,121],[111,112,101,110],[99,108,111,115,101],[108,105,103,104,116],[100,111,117,115,101],[119,101,97,114],[100,111,102,102],[104,105,116],[105,110,118,101,110,116,111,114,121],[113,117,105,116]]
theorem verbs_len:verbs.length=21:=rfl
def verbL (w:List UInt8):Option Nat:=if w=[] then none else verbs.findIdx? (fun v=>w.isPrefixOf v)
def verbA (w:List UInt8):Int × Int:=match verbL w with | some v=>(v,0) | none=>(0,3)
theorem verb_lt {w:List UInt8} {v:Nat} (h:verbL w=some v):v < 21:=by
 unfold verbL at h
 by_cases hw:w=[]
 ·simp [hw] at h
 ·rw [if_neg hw] at h
  obtain ⟨hv,_⟩:=List.findIdx?_eq_some_iff_getElem.1 h
  exact hv
def numL:List UInt8→Option Nat
 | [a]=>if 49≤a.toNat∧a.toNat≤57 then some (a.toNat - 48) else none
 | [a,b]=>if 49≤a.toNat∧a.toNat≤57∧48≤b.toNat∧b.toNat≤57 then some ((a.toNat - 48)*10+(b.toNat - 48)) else none
 | _=>none
theorem num_bound {l:List UInt8} {n:Nat} (h:numL l=some n):1≤n∧n≤99:=by
 match l,h with
 | [a],h =>
  by_cases hd:49≤a.toNat∧a.toNat≤57
  ·simp [numL,hd] at h; omega
  ·simp [numL,hd] at h
 | [a,b],h =>
  by_cases hd:49≤a.toNat∧a.toNat≤57∧48≤b.toNat∧b.toNat≤57
  ·simp [numL,hd] at h; omega
  ·simp [numL,hd] at h
 | [],h=>simp [numL] at h
 | a::b::c::r,h=>simp [numL] at h
def allW:List UInt8:=[97,108,108]
def nounT (first name:List UInt8):Option (Nat × List UInt8 × Bool) :=
 if name=[]∨46 ∈ name then none else if first=allW then some (1,name,true) else match numL first with | some n=>some (n,name,false) | none=>none
def nounL (w:List UInt8):Option (Nat × List UInt8 × Bool) :=
 if w=allW then some (1,[],true) else if (cutL 46 w).2.2=true then nounT (cutL 46 w).1 (cutL 46 w).2.1 else nounT [49] w
def joins (x:List UInt8):Bool:=decide (x=[102,114,111,109]) || decide (x=[105,110]) || decide (x=[116,111])
def lone:List (List UInt8)→Option (List UInt8)
 | [x]=>some x
 | _=>none
def secondL (v:Nat) (rest:List (List UInt8)):Option (List UInt8) :=
 if v=7∨v=9∨v=10 then
  match rest with
  | []=>if v=7 then some [] else none
  | x::r=>if joins x=true then lone r else lone (x::r)
 else if rest=[] then some [] else none
structure Ord where
 verb:Nat
 nth:Nat
 all:Bool
 name:List UInt8
 second:List UInt8
 text:List UInt8
def zo:Ord:={ verb:=0,nth:=0,all:=false,name:=[],second:=[],text:=[] }
def deedL (v:Nat) (noun:List UInt8) (rest:List (List UInt8)):Option Ord :=
 match nounL noun with
 | none=>none
 | some (n,name,every) =>
  if every=true∧v ≠ 7∧v ≠ 8∧v ≠ 9 then none
  else match secondL v rest with
   | none=>none
   | some tw=>some { verb:=v,nth:=n,all:=every,name:=name,second:=tw,text:=[] }
def trimL (l:List UInt8):List UInt8:=l.dropWhile (fun b=>decide (b=32))
def trimR (l:List UInt8):List UInt8:=(trimL l.reverse).reverse
def speechL (s:List UInt8):Option Ord :=
 if trimL (trimR (cutL 32 (trimL s)).2.1)=[] then none
 else some { verb:=11,nth:=0,all:=false,name:=[],second:=[],text:=trimL (trimR (cutL 32 (trimL s)).2.1) }
def aloneB (v:Nat):Bool:=decide (v < 6) || decide (v=6) || decide (v=19) || decide (v=20)
def calledL (d:Nat):List UInt8:=if d < 6 then verbs.getD d [] else []
def orderL (s:List UInt8) (v:Nat) (rest:List (List UInt8)):Option Ord :=
 if v=11 then speechL s
 else if aloneB v=true then (if rest=[] then some { zo with verb:=v } else none)
 else match rest with
  | []=>none
  | x::r =>
   if (v=12∨v=13)∧r=[] then
    match verbL x with
    | some d=>if d < 6 then some { zo with verb:=v,nth:=1,name:=calledL d } else deedL v x r
    | none=>deedL v x r
   else deedL v x r
def parseL (s:List UInt8):Ord × Int :=
 match splitL s with
 | []=>(zo,1)
 | x::rest =>
  match verbL x with
  | none=>(zo,3)
  | some v=>match orderL s v rest with
   | some o=>(o,0)
   | none=>(zo,1)
open Go.RowKit
def vcells:Array Value:=(verbs.map (fun v=>Value.string (bs v))).toArray
theorem vcells_get (i:Nat) (h:i < 21):vcells[i]?=some (.string (bs (verbs.getD i []))):=by
 have hl:verbs.length=21:=rfl
 simp [vcells,List.getD,List.getElem?_eq_getElem (show i < verbs.length by omega)]
theorem vcells_size:vcells.size=21:=rfl
def Vb (w:World):Prop:=∃ t fr,w.heap[(0:Nat)]?=some (.cells vcells t fr)
theorem Vb.lt {w:World} (h:Vb w):0 < w.heap.size:=by
 obtain ⟨t,fr,h⟩:=h; exact (Array.getElem?_eq_some_iff.1 h).1
theorem Vb.below {w w':World} {B:Nat} (h:Vb w) (hb:Below B w w') (hB:w.heap.size≤B):Vb w':=by
 have hlt:=h.lt
 obtain ⟨t,fr,h⟩:=h
 exact ⟨t,fr,by rw [hb.block _ (by omega)]; exact h⟩
theorem Vb.alloc {w:World} (h:Vb w) (o:Obj):Vb (w.alloc o):=h.below ((Below.refl w.heap.size w).alloc (Nat.le_refl _) o) (Nat.le_refl _)
theorem Vb.drewN {w:World} (h:Vb w) (n:Nat):Vb (w.drewN n):=h.below (below_drewN (Below.refl w.heap.size w) n) (Nat.le_refl _)
theorem Vb.cell {w:World} (h:Vb w) (i:Nat) (hi:i < 21):w.cell? ⟨0,i,none⟩=some (.string (bs (verbs.getD i []))):=by
 obtain ⟨t,fr,h⟩:=h
 simp only [World.cell?,h]
 exact vcells_get i hi
open Go.RowKit
def calledI (d:Int):List UInt8:=if 0≤d then calledL d.toNat else []
theorem calledI_nat (k:Nat):calledI k=calledL k:=by simp [calledI]
theorem called_any (d:Int) (w:World) (hv:Vb w):Calls Tryz.prog 91 #[.int .i64 d] w fun e w'=>e=.returned (.string (bs (calledI d)))∧w'=w:=by
 by_cases h0:0≤d
 ·obtain ⟨k,rfl⟩:∃ k:Nat,d=k:=⟨d.toNat,by omega⟩
  by_cases h6:k < 6
  ·have hc:=hv.cell k (by omega)
   have HV:=hide (show calledI (k:Int)=verbs.getD k [] by simp [calledI,calledL,h6])
   clear hv
   go_enter Tryz.func91,Tryz.ntmps91
   go_wp2
   go_ret
   exact ⟨ret_str (by rw [HV.out]; simp),rfl⟩
  ·have HV:=hide (show calledI (k:Int)=[] by simp [calledI,calledL,h6])
   clear hv
   go_enter Tryz.func91,Tryz.ntmps91
   go_wp2
   go_ret
   exact ⟨ret_str (by rw [HV.out]; rfl),rfl⟩
 ·have HV:=hide (show calledI d=[] by simp [calledI,h0])
  clear hv
  go_enter Tryz.func91,Tryz.ntmps91
  go_wp2
  go_ret
  exact ⟨ret_str (by rw [HV.out]; rfl),rfl⟩
open Go.RowKit
namespace Ld
variable (L:Ld)
def setRoom (b:Nat) (x:Int):Ld:={ L with room:=fun j=>if j=b then x else L.room j }
def setHealth (b:Nat) (x:Int):Ld:={ L with health:=fun j=>if j=b then x else L.health j }
def setFoe (b:Nat) (x:Int):Ld:={ L with foe:=fun j=>if j=b then x else L.foe j }
def setWh (i:Nat) (x:Int):Ld:={ L with wh:=fun j=>if j=i then x else L.wh j }
def setLoc (i:Nat) (x:Int):Ld:={ L with loc:=fun j=>if j=i then x else L.loc j }
def setOn (i:Nat) (x:Bool):Ld:={ L with on:=fun j=>if j=i then x else L.on j }
def setShut (r d:Nat) (x:Bool):Ld:={ L with shut:=fun r' d'=>if r'=r∧d'=d then x else L.shut r' d' }
def setName (b:Nat) (x:ByteArray):Ld:={ L with bname:=fun j=>if j=b then x else L.bname j }
def setHere (b:Nat) (x:Bool):Ld:={ L with here:=fun j=>if j=b then x else L.here j }
def setKeen (b:Nat) (x:Bool):Ld:={ L with keen:=fun j=>if j=b then x else L.keen j }
def setBeing (b:Nat) (nm:ByteArray) (here keen:Bool) (room health foe:Int):Ld :=
 { L with bname:=fun j=>if j=b then nm else L.bname j,here:=fun j=>if j=b then here else L.here j,keen:=fun j=>if j=b then keen else L.keen j,
          room:=fun j=>if j=b then room else L.room j,health:=fun j=>if j=b then health else L.health j,foe:=fun j=>if j=b then foe else L.foe j }
theorem setBeing_eq (b:Nat) (nm:ByteArray) (here keen:Bool) (room health foe:Int):L.setBeing b nm here keen room health foe=(((((L.setName b nm).setHere b here).setKeen b keen).setRoom b room).setHealth b health).setFoe b foe:=rfl
variable {L}
theorem upd_being {L':Ld} {k j:Nat} {x:Value} (hk:k < 6) (hj:j < 6) (hr:∀ r c,L'.roomCell r c=L.roomCell r c) (ht:∀ i c,L'.thingCell i c=L.thingCell i c)
 (hb:∀ i c,c < 6→L'.beingCell i c=if i=k∧c=j then x else L.beingCell i c):∀ m,m < 165→L'.cellAt m=if m=129+k*6+j then x else L.cellAt m:=by
 intro m hm
 unfold cellAt
 by_cases h1:m < 84
 ·rw [if_pos h1,if_pos h1,if_neg (by omega),hr]
 ·rw [if_neg h1,if_neg h1]
  by_cases h2:m < 129
  ·rw [if_pos h2,if_pos h2,if_neg (by omega),ht]
  ·rw [if_neg h2,if_neg h2,hb _ _ (by omega)]
   by_cases e:m=129+k*6+j
   ·rw [if_pos e,if_pos ⟨by omega,by omega⟩]
   ·rw [if_neg e,if_neg (by omega)]
theorem upd_thing {L':Ld} {k j:Nat} {x:Value} (hk:k < 9) (hj:j < 5) (hr:∀ r c,L'.roomCell r c=L.roomCell r c) (hb:∀ i c,L'.beingCell i c=L.beingCell i c)
 (ht:∀ i c,c < 5→L'.thingCell i c=if i=k∧c=j then x else L.thingCell i c):∀ m,m < 165→L'.cellAt m=if m=84+k*5+j then x else L.cellAt m:=by
 intro m hm
 unfold cellAt
 by_cases h1:m < 84
 ·rw [if_pos h1,if_pos h1,if_neg (by omega),hr]
 ·rw [if_neg h1,if_neg h1]
  by_cases h2:m < 129
  ·rw [if_pos h2,if_pos h2,ht _ _ (by omega)]
   by_cases e:m=84+k*5+j
   ·rw [if_pos e,if_pos ⟨by omega,by omega⟩]
   ·rw [if_neg e,if_neg (by omega)]
  ·rw [if_neg h2,if_neg h2,if_neg (by omega),hb]
theorem upd_room {L':Ld} {k j:Nat} {x:Value} (hk:k < 6) (hj:j < 14) (ht:∀ i c,L'.thingCell i c=L.thingCell i c) (hb:∀ i c,L'.beingCell i c=L.beingCell i c)
 (hr:∀ i c,c < 14→L'.roomCell i c=if i=k∧c=j then x else L.roomCell i c):∀ m,m < 165→L'.cellAt m=if m=k*14+j then x else L.cellAt m:=by
 intro m hm
 unfold cellAt
 by_cases h1:m < 84
 ·rw [if_pos h1,if_pos h1,hr _ _ (by omega)]
  by_cases e:m=k*14+j
  ·rw [if_pos e,if_pos ⟨by omega,by omega⟩]
  ·rw [if_neg e,if_neg (by omega)]
 ·rw [if_neg h1,if_neg h1]
  by_cases h2:m < 129
  ·rw [if_pos h2,if_pos h2,if_neg (by omega),ht]
  ·rw [if_neg h2,if_neg h2,if_neg (by omega),hb]
section
variable (L)
theorem room_same {L':Ld} (h1:L'.rname=L.rname) (h2:L'.dark=L.dark) (h3:L'.exit=L.exit) (h4:L'.shut=L.shut):∀ r c,L'.roomCell r c=L.roomCell r c:=by
 intro r c
 match c with
 | 0=>simp [roomCell,h1]
 | 1=>simp [roomCell,h2]
 | c+2=>simp [roomCell,h3,h4]
theorem thing_same {L':Ld} (h1:L'.tname=L.tname) (h2:L'.kind=L.kind) (h3:L'.wh=L.wh) (h4:L'.loc=L.loc) (h5:L'.on=L.on):∀ r c,L'.thingCell r c=L.thingCell r c:=by
 intro r c
 match c with
 | 0=>simp [thingCell,h1]
 | 1=>simp [thingCell,h2]
 | 2=>simp [thingCell,h3]
 | 3=>simp [thingCell,h4]
 | c+4=>simp [thingCell,h5]
theorem being_same {L':Ld} (h1:L'.bname=L.bname) (h2:L'.here=L.here) (h3:L'.keen=L.keen) (h4:L'.room=L.room) (h5:L'.health=L.health) (h6:L'.foe=L.foe):∀ r c,L'.beingCell r c=L.beingCell r c:=by
 intro r c
 match c with
 | 0=>simp [beingCell,h1]
 | 1=>simp [beingCell,h2]
 | 2=>simp [beingCell,h3]
 | 3=>simp [beingCell,h4]
 | 4=>simp [beingCell,h5]
 | c+5=>simp [beingCell,h6]
theorem up_name (b:Nat) (hb:b < 6) (x:ByteArray):∀ m,m < 165→(L.setName b x).cellAt m=if m=129+b*6 then .string x else L.cellAt m :=
 upd_being hb (j:=0) (by omega) (room_same L rfl rfl rfl rfl) (thing_same L rfl rfl rfl rfl rfl) fun i c hc=>by
  match c,hc with
  | 0,_=>by_cases e:i=b <;> simp [beingCell,setName,e]
  | 1,_ | 2,_ | 3,_ | 4,_ | 5,_=>simp [beingCell,setName]
theorem up_here (b:Nat) (hb:b < 6) (x:Bool):∀ m,m < 165→(L.setHere b x).cellAt m=if m=129+b*6+1 then .bool x else L.cellAt m :=
 upd_being hb (by omega) (room_same L rfl rfl rfl rfl) (thing_same L rfl rfl rfl rfl rfl) fun i c hc=>by
  match c,hc with
  | 1,_=>by_cases e:i=b <;> simp [beingCell,setHere,e]
  | 0,_ | 2,_ | 3,_ | 4,_ | 5,_=>simp [beingCell,setHere]
theorem up_keen (b:Nat) (hb:b < 6) (x:Bool):∀ m,m < 165→(L.setKeen b x).cellAt m=if m=129+b*6+2 then .bool x else L.cellAt m :=
 upd_being hb (by omega) (room_same L rfl rfl rfl rfl) (thing_same L rfl rfl rfl rfl rfl) fun i c hc=>by
  match c,hc with
  | 2,_=>by_cases e:i=b <;> simp [beingCell,setKeen,e]
  | 0,_ | 1,_ | 3,_ | 4,_ | 5,_=>simp [beingCell,setKeen]
theorem up_room (b:Nat) (hb:b < 6) (x:Int):∀ m,m < 165→(L.setRoom b x).cellAt m=if m=129+b*6+3 then .int .i64 x else L.cellAt m :=
 upd_being hb (by omega) (room_same L rfl rfl rfl rfl) (thing_same L rfl rfl rfl rfl rfl) fun i c hc=>by
  match c,hc with
  | 3,_=>by_cases e:i=b <;> simp [beingCell,setRoom,e]
  | 0,_ | 1,_ | 2,_ | 4,_ | 5,_=>simp [beingCell,setRoom]
theorem up_health (b:Nat) (hb:b < 6) (x:Int):∀ m,m < 165→(L.setHealth b x).cellAt m=if m=129+b*6+4 then .int .i64 x else L.cellAt m :=
 upd_being hb (by omega) (room_same L rfl rfl rfl rfl) (thing_same L rfl rfl rfl rfl rfl) fun i c hc=>by
  match c,hc with
  | 4,_=>by_cases e:i=b <;> simp [beingCell,setHealth,e]
  | 0,_ | 1,_ | 2,_ | 3,_ | 5,_=>simp [beingCell,setHealth]
theorem up_foe (b:Nat) (hb:b < 6) (x:Int):∀ m,m < 165→(L.setFoe b x).cellAt m=if m=129+b*6+5 then .int .i64 x else L.cellAt m :=
 upd_being hb (by omega) (room_same L rfl rfl rfl rfl) (thing_same L rfl rfl rfl rfl rfl) fun i c hc=>by
  match c,hc with
  | 5,_=>by_cases e:i=b <;> simp [beingCell,setFoe,e]
  | 0,_ | 1,_ | 2,_ | 3,_ | 4,_=>simp [beingCell,setFoe]
theorem up_wh (i:Nat) (hi:i < 9) (x:Int):∀ m,m < 165→(L.setWh i x).cellAt m=if m=84+i*5+2 then .int .i64 x else L.cellAt m :=
 upd_thing hi (by omega) (room_same L rfl rfl rfl rfl) (being_same L rfl rfl rfl rfl rfl rfl) fun j c hc=>by
  match c,hc with
  | 2,_=>by_cases e:j=i <;> simp [thingCell,setWh,e]
  | 0,_ | 1,_ | 3,_ | 4,_=>simp [thingCell,setWh]
theorem up_loc (i:Nat) (hi:i < 9) (x:Int):∀ m,m < 165→(L.setLoc i x).cellAt m=if m=84+i*5+3 then .int .i64 x else L.cellAt m :=
 upd_thing hi (by omega) (room_same L rfl rfl rfl rfl) (being_same L rfl rfl rfl rfl rfl rfl) fun j c hc=>by
  match c,hc with
  | 3,_=>by_cases e:j=i <;> simp [thingCell,setLoc,e]
  | 0,_ | 1,_ | 2,_ | 4,_=>simp [thingCell,setLoc]
theorem up_on (i:Nat) (hi:i < 9) (x:Bool):∀ m,m < 165→(L.setOn i x).cellAt m=if m=84+i*5+4 then .bool x else L.cellAt m :=
 upd_thing hi (by omega) (room_same L rfl rfl rfl rfl) (being_same L rfl rfl rfl rfl rfl rfl) fun j c hc=>by
  match c,hc with
  | 4,_=>by_cases e:j=i <;> simp [thingCell,setOn,e]
  | 0,_ | 1,_ | 2,_ | 3,_=>simp [thingCell,setOn]
theorem up_shut (r d:Nat) (hr:r < 6) (hd:d < 6) (x:Bool):∀ m,m < 165→(L.setShut r d x).cellAt m=if m=r*14+(8+d) then .bool x else L.cellAt m :=
 upd_room hr (by omega) (thing_same L rfl rfl rfl rfl rfl) (being_same L rfl rfl rfl rfl rfl rfl) fun j c hc=>by
  match c,hc with
  | 0,_ | 1,_=>rw [if_neg (by omega)]; rfl
  | c+2,_ =>
   simp only [roomCell,setShut]
   by_cases h6:c < 6
   ·rw [if_pos h6,if_pos h6,if_neg (by omega)]
   ·rw [if_neg h6,if_neg h6]
    by_cases e:j=r∧c - 6=d
    ·rw [if_pos e,if_pos ⟨e.1,by omega⟩]
    ·rw [if_neg e,if_neg (by omega)]
end
end Ld
structure Fine (L:Ld):Prop where
 room:∀ b,b < 6→∃ r:Nat,r < 6∧L.room b=(r:Int)
 exit:∀ r d,r < 6→d < 6→L.exit r d=0∨∃ t:Nat,t < 6∧L.exit r d=(t:Int)+1
 foe:∀ b,b < 6→L.foe b=0∨∃ c:Nat,c < 6∧L.foe b=(c:Int)+1
 health:∀ b,b < 6→0≤L.health b∧L.health b≤10
 rname:∀ r,r < 6→(L.rname r).size≤1048576
 tname:∀ i,i < 9→(L.tname i).size≤1048576
 bname:∀ b,b < 6→(L.bname b).size≤1048576
def evN (L:Ld) (kind:Int) (b:Nat):Ev :=
 { kind:=kind,room:=L.room b,actor:=(b:Int),other:=-1,dir:=0,num:=0,who:=L.bname b,whom:=⟨#[]⟩,thing:=⟨#[]⟩,text:=⟨#[]⟩,by':=fun _=>0 }
def evW (L:Ld) (kind:Int) (b c:Nat):Ev:={ evN L kind b with other:=(c:Int),whom:=L.bname c }
def tellE (L:Ld) (b:Nat) (s:ByteArray):Ev:=allE L { evN L 16 b with text:=s }
def sightL (L:Ld) (b:Nat):List Int:=if brightL L (L.room b)=true then hasK L 0 (L.room b) 9 else []
def handL (L:Ld) (b:Nat):List Int:=hasK L 1 (b:Int) 9
def reachL (L:Ld) (b:Nat):List Int:=handL L b++sightL L b
def starT (s:Bool):ByteArray:=if s then ⟨#[42]⟩ else ⟨#[]⟩
def waysK (L:Ld) (r:Nat):Nat→ByteArray
 | 0=>⟨#[]⟩
 | k+1=>if L.exit r k=0 then waysK L r k else waysK L r k++(⟨#[32]⟩++bs (calledI (k:Int))++starT (L.shut r k))
def namesK (L:Ld):List Int→ByteArray
 | []=>⟨#[]⟩
 | i::q=>(⟨#[32]⟩++L.tname i.toNat++starT (L.on i.toNat))++namesK L q
def nothingT:ByteArray:=⟨#[32,110,111,116,104,105,110,103]⟩
def dotT:ByteArray:=⟨#[46]⟩
def listedT (L:Ld) (q:List Int):ByteArray:=(if q=[] then nothingT else namesK L q)++dotT
def theS:ByteArray:=⟨#[84,104,101,32]⟩
def waysS:ByteArray:=⟨#[87,97,121,115,58]⟩
def hereS:ByteArray:=⟨#[72,101,114,101,32,105,115]⟩
def isHereS:ByteArray:=⟨#[32,105,115,32,104,101,114,101,46]⟩
def haveS:ByteArray:=⟨#[89,111,117,32,104,97,118,101]⟩
def darkS:ByteArray:=⟨#[73,116,32,105,115,32,100,97,114,107,46]⟩
def noWayS:ByteArray:=⟨#[89,111,117,32,99,97,110,110,111,116,32,103,111,32,116,104,101,114,101,46]⟩
def shutS:ByteArray:=⟨#[73,116,32,105,115,32,115,104,117,116,46]⟩
def noThingS:ByteArray:=⟨#[84,104,101,114,101,32,105,115,32,110,111,32,115,117,99,104,32,116,104,105,110,103,46]⟩
def seesO (L:Ld) (b c:Nat):Bool:=decide (c ≠ b)&&seesL L (b:Int) (c:Int)
def othersK (L:Ld) (b k:Nat):List Ev:=((List.range k).filter (seesO L b)).map fun c=>tellE L b (L.bname c++isHereS)
def lookE (L:Ld) (b:Nat):List Ev :=
 if brightL L (L.room b)=true then
  [tellE L b (theS++L.rname (L.room b).toNat++dotT),tellE L b (waysS++waysK L (L.room b).toNat 6)] ++
   (if sightL L b=[] then [] else [tellE L b (hereS++listedT L (sightL L b))])++othersK L b 6
 else [tellE L b darkS]
theorem others_yes {L:Ld} {b k:Nat} (h:seesO L b k=true):othersK L b (k+1)=othersK L b k++[tellE L b (L.bname k++isHereS)]:=by
 simp [othersK,List.range_succ,List.filter_append,h]
theorem others_no {L:Ld} {b k:Nat} (h:seesO L b k=false):othersK L b (k+1)=othersK L b k:=by
 simp [othersK,List.range_succ,List.filter_append,h]
theorem others_len (L:Ld) (b k:Nat):(othersK L b k).length≤k:=by
 unfold othersK
 rw [List.length_map]
 exact Nat.le_trans (List.length_filter_le ..) (by simp)
theorem look_len (L:Ld) (b:Nat):(lookE L b).length≤9:=by
 unfold lookE
 have:=others_len L b 6
 split
 ·simp only [List.length_append,List.length_cons,List.length_nil]
  split <;> simp <;> omega
 ·simp
theorem star_size (s:Bool):(starT s).size≤1:=by cases s <;> decide
theorem ba_nil_r (x:ByteArray):x++(⟨#[]⟩:ByteArray)=x:=by apply ByteArray.ext; simp
theorem ba_nil_l (x:ByteArray):(⟨#[]⟩:ByteArray)++x=x:=by apply ByteArray.ext; simp
theorem names_snoc (L:Ld) (q:List Int) (i:Int):namesK L (q++[i])=namesK L q++(⟨#[32]⟩++L.tname i.toNat++starT (L.on i.toNat)):=by
 induction q with
 | nil=>simp only [List.nil_append,namesK,ba_nil_r,ba_nil_l]
 | cons a q ih=>simp only [List.cons_append,namesK,ih,ByteArray.append_assoc]
theorem has_lt {L:Ld} {wh loc:Int} {x:Int} (h:x ∈ hasK L wh loc 9):∃ i:Nat,x=(i:Int)∧i < 9:=by
 obtain ⟨i,e,hi,_⟩:=hasK_mem h; exact ⟨i,e,hi⟩
theorem sight_lt {L:Ld} {b:Nat} {x:Int} (h:x ∈ sightL L b):∃ i:Nat,x=(i:Int)∧i < 9:=by
 unfold sightL at h
 split at h
 ·exact has_lt h
 ·simp at h
theorem hand_lt {L:Ld} {b:Nat} {x:Int} (h:x ∈ handL L b):∃ i:Nat,x=(i:Int)∧i < 9:=has_lt h
theorem sight_len (L:Ld) (b:Nat):(sightL L b).length≤9:=by
 unfold sightL
 split
 ·exact hasK_len ..
 ·simp
theorem hand_len (L:Ld) (b:Nat):(handL L b).length≤9:=hasK_len ..
open Go.RowKit
theorem take_at {P:Program} {md:Region.Mode} {ops:Array Oper} {Q:Exit→Act→World→Prop} {S:World→Prop} {i:Nat} {d:Option Tmp} {oi:Oper} {v:Value} {fuel:Nat} {listed:Array Bool} {a:Act} {w:World} (hi:ops[i]?=some oi) (hd:oi.dst=d)
 (hs:Region.noSelect ops=true) (hf:Region.free md ops listed i=true) (hr:(Region.ready md ops listed).contains i=true)
 (hQ:∀ c a w,Q (.panic c) (a.put oi.dst v) w→Q (.panic c) a w) (hy:YieldsIf P ops S oi v a) (hS:S w)
 (h:wpAnyH P md ops Q S fuel (listed.setIfInBounds i true) (a.put d v) w):wpAnyH P md ops Q S (fuel+1) listed a w:=by
 subst hd
 exact wpAnyH_take hi hs hf hr hQ hy hS h
theorem tk {P:Program} {md:Region.Mode} {ops:Array Oper} {Q:Exit→Act→World→Prop} {S:World→Prop} {i:Nat} {d:Option Tmp} {oi:Oper} {v:Value} {fuel:Nat} {listed:Array Bool} {a:Act} {w:World} (hi:ops[i]?=some oi) (hd:oi.dst=d)
 (hy:YieldsIf P ops S oi v a) (hS:S w) (h:wpAnyH P md ops Q S fuel (listed.setIfInBounds i true) (a.put d v) w)
 (hs:Region.noSelect ops=true:=by kernel_rfl) (hf:Region.free md ops listed i=true:=by kernel_rfl) (hr:(Region.ready md ops listed).contains i=true:=by kernel_rfl)
 (hQ:∀ c a w,Q (.panic c) (a.put oi.dst v) w→Q (.panic c) a w:=by exact fun _ _ _ h=>h):wpAnyH P md ops Q S (fuel+1) listed a w:=take_at hi hd hs hf hr hQ hy hS h
theorem tw {P:Program} {md:Region.Mode} {ops:Array Oper} {Q:Exit→Act→World→Prop} {S:World→Prop} {i:Nat} {d:Option Tmp} {oi:Oper} {v:Value} {fuel:Nat} {listed:Array Bool} {a:Act} {w:World} (hi:ops[i]?=some oi) (hd:oi.dst=d)
 (he:∀ w,S w→(execOp a.eval oi).run P w=.ok (.value v) w) (hS:S w) (h:wpAnyH P md ops Q S fuel (listed.setIfInBounds i true) (a.put d v) w) (hw:Region.wanted oi (yielded ops a.tmps)=true:=by rfl)
 (hs:Region.noSelect ops=true:=by kernel_rfl) (hf:Region.free md ops listed i=true:=by kernel_rfl) (hr:(Region.ready md ops listed).contains i=true:=by kernel_rfl)
 (hQ:∀ c a w,Q (.panic c) (a.put oi.dst v) w→Q (.panic c) a w:=by exact fun _ _ _ h=>h):wpAnyH P md ops Q S (fuel+1) listed a w:=take_at hi hd hs hf hr hQ (.inl ⟨hw,he⟩) hS h
theorem sT {α:Type} (l:List α) (i:Nat) (a:α):l.toArray.setIfInBounds i a=(l.set i a).toArray:=List.setIfInBounds_toArray ..
theorem call_at {P:Program} {ops:Array Oper} {Q:Exit→Act→World→Prop} {i:Nat} {d:Option Tmp} {oi:Oper} {a:Act} {w:World} {K:Act→World→Prop} (hi:ops[i]?=some oi) (hd:oi.dst=d) (hw:Region.wanted oi (yielded ops a.tmps)=true)
 (f:FuncId) (args:Array Value) (hrun:(execOp a.eval oi).run P w=.ok (.enter f args) w) (hc:Calls P f args w fun e w'=>∃ v,e=.returned v∧K (a.put d v) w'):wpOp P ops Q i K a w:=by
 subst hd
 unfold wpOp
 rw [hi]
 simp only
 rw [if_pos hw]
 refine .inl ?_
 unfold Oper.wp
 rw [hrun,Oper.upon_enter]
 refine hc.mono fun e w' hh=>?_
 obtain ⟨v,rfl,h⟩:=hh
 exact h
theorem exec_event {a:Act} {op:Oper} {w:World} (x:Operand) (ho:op.op=.load 71 x) (b:Nat) (hx:a.eval x=.pointer (some ⟨b,0,none⟩)) {E:Ev} (hc:Cev w b E):(execOp a.eval op).run Tryz.prog w=.ok (.value (.agg E.cells)) w:=by
 have hl:(Instr.loadAt 71 (.pointer (some ⟨b,0,none⟩))).run Tryz.prog w=.ok (.agg E.cells) w:=by
  simp only [Instr.loadAt,Instr.sureAddr,Sem.run_bind,Sem.run_pure,Result.andThen_ok]
  exact run_loadVar_row w b 71 71 E.cells (0,0) _ hc Tryz.underlying71 rfl (by rw [E.size]; exact Tryz.sizeEvent)
 unfold execOp
 simp only [ho,hx,Sem.run_bind,hl,Result.andThen_ok,Sem.run_pure]
end Go.Proofs.YtncgcejlkmoliaaGreatDoor
