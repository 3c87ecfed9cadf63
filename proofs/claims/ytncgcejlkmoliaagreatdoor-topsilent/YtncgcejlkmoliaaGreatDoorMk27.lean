import Derived.Test.YtncgcejlkmoliaaGreatDoorMh16
import Derived.Test.YtncgcejlkmoliaaGreatDoorMh17
import Derived.Test.YtncgcejlkmoliaaGreatDoorMh18
import Derived.Test.YtncgcejlkmoliaaGreatDoorMh20
import Derived.Test.YtncgcejlkmoliaaGreatDoorMh04
import Derived.Test.YtncgcejlkmoliaaGreatDoorMh22
import Derived.Test.YtncgcejlkmoliaaGreatDoorMk25
import Derived.Test.YtncgcejlkmoliaaGreatDoorMh26
import Derived.Test.YtncgcejlkmoliaaGreatDoorMh01
set_option linter.unusedVariables false
set_option maxRecDepth 100000
set_option maxHeartbeats 16000000
namespace Go.Proofs.YtncgcejlkmoliaaGreatDoor.Ho
open Go.RowKit
structure Se where
 tel:Te.Tel
 lin:Li.Lin
 pg:Pa.Pg
 being:Int
 told:List ByteArray
def Se.cells (S:Se) (vq vp vt:Value):Array Value :=
 #[.int .i64 S.tel.pos,.int .i64 S.tel.verb,.string S.tel.sub,.int .i64 S.tel.u0,.int .i64 S.tel.u1,.int .i64 S.tel.u2,.int .i64 S.tel.t0,.int .i64 S.tel.t1,.int .i64 S.tel.t2,.int .i64 S.tel.height,
   .string S.lin.now,.bool S.lin.long,.bool S.lin.ret,vq,vp,.int .i64 S.pg.shown,.bool S.pg.asking,.string S.pg.ring,.bool S.pg.cut,.int .i64 S.being,vt]
def plays (S:Se):Bool:=S.being != -1
def whoT:ByteArray:=⟨#[87,104,111,32,97,114,101,32,121,111,117,63]⟩
def fastT:ByteArray:=⟨#[78,111,116,32,115,111,32,102,97,115,116,46]⟩
def noRoomT:ByteArray:=⟨#[84,104,101,114,101,32,105,115,32,110,111,32,114,111,111,109,46]⟩
def noNameT:ByteArray:=⟨#[84,104,97,116,32,105,115,32,110,111,32,110,97,109,101,46]⟩
def whatT:ByteArray:=⟨#[87,104,97,116,63]⟩
def sendS (S:Se) (s:ByteArray):Se:={ S with pg:=Pa.sendR S.pg s }
def tellS (S:Se) (s:ByteArray):Se:={ S with pg:=Pa.tellP S.pg s,told:=if (Pa.tellP S.pg s).cut=true then S.told else S.told++[s] }
def hearS (E:Ev) (S:Se):Se:=match tellL E S.being with
 | some t=>tellS S (bs t)
 | none=>S
def gotS (S:Se) (l:List UInt8):Se:={ sendS { S with tel:=(Te.feedL S.tel l).1 } (bs (Te.feedL S.tel l).2.2) with lin:=(Li.feedL S.lin (Te.feedL S.tel l).2.1).1 }
def feedS (S:Se) (l:List UInt8):Se:=if 0 < (Li.feedL S.lin (Te.feedL S.tel l).2.1).2 then tellS (gotS S l) fastT else gotS S l
def takeS (S:Se) (n:Int):Se:={ S with pg:=Pa.takeP S.pg n }
def outS (S:Se) (n:Int):ByteArray:=S.pg.ring.extract 0 (Pa.kOf S.pg n)
def flowS (S:Se):Se:={ S with pg:=Pa.flowR S.pg S.tel.height }
def popS (S:Se) (r:List ByteArray):Se:={ S with lin:={ S.lin with q:=r },pg:=Pa.turnP S.pg }
def helloT:Te.Tel:={ Te.zt with u1:=2,t2:=2 }
def zS:Se:={ tel:=Te.zt,lin:=Li.zl,pg:=Pa.zp,being:=-1,told:=[] }
def newS:Se:=tellS (sendS { zS with tel:=helloT } (Te.sayB 251 3++Te.sayB 253 31)) whoT
structure Hm where
 L:Ld
 seat:Nat→Option Se
 acts:Nat
 last:List Ev
def newM:Hm:={ L:=nl,seat:=fun _=>none,acts:=0,last:=[] }
def Hm.put (M:Hm) (i:Nat) (o:Option Se):Hm:={ M with seat:=fun j=>if j=i then o else M.seat j }
def heardS (E:Ev) (S:Se):Se:=if plays S=true then hearS E S else S
def hearM (E:Ev) (M:Hm):Hm:={ M with last:=M.last++[E],seat:=fun i=>(M.seat i).map (heardS E) }
def hearsM (M:Hm) (Es:List Ev):Hm:=Es.foldl (fun M E=>hearM E M) M
def hapM (M:Hm) (X:Ld) (Es:List Ev):Hm:=hearsM { M with L:=X } Es
def orderM (M:Hm) (b:Int) (O:Od):Hm:=if refuses M.L b O.verb=0 then hapM M (actL M.L b.toNat O) (actE M.L b.toNat O) else M
def quitO:Od:={ verb:=20,nth:=0,all:=false,name:=⟨#[]⟩,second:=⟨#[]⟩,text:=⟨#[]⟩ }
def leaveM (M:Hm) (i:Nat):Hm:=match M.seat i with
 | none=>M
 | some S=>if plays S=true then orderM (M.put i none) S.being quitO else M.put i none
def enterM (M:Hm) (i:Nat) (S:Se) (nm:ByteArray):Hm :=
 if bars M.L nm=0 then
  hapM (M.put i (some { S with being:=(vacA M.L).1 })) (beginL (M.L.setBeing (vacA M.L).1.toNat nm true false 0 0 0) (vacA M.L).1.toNat)
   (beginE (beginL (M.L.setBeing (vacA M.L).1.toNat nm true false 0 0 0) (vacA M.L).1.toNat) (vacA M.L).1.toNat)
 else if bars M.L nm=4 then M.put i (some (tellS S noRoomT)) else M.put i (some (tellS S noNameT))
def odOf (o:Ord):Od:={ verb:=o.verb,nth:=o.nth,all:=o.all,name:=bs o.name,second:=bs o.second,text:=bs o.text }
def obeyM (M:Hm) (i:Nat) (S:Se) (l:List UInt8):Hm :=
 if (parseL l).2 ≠ 0 then M.put i (some (tellS S whatT))
 else if (parseL l).1.verb=20 then leaveM M i
 else orderM M S.being (odOf (parseL l).1)
def trimB (s:ByteArray):ByteArray:=bs (trimL (trimR s.data.toList))
def turnM (M:Hm) (i:Nat):Hm:=match M.seat i with
 | none=>M
 | some S=>match S.lin.q with
  | []=>M
  | f::r =>
   if S.pg.asking=true then M.put i (some (popS S r))
   else if plays S=true then obeyM (M.put i (some (popS S r))) i (popS S r) f.data.toList
   else enterM (M.put i (some (popS S r))) i (popS S r) (trimB f)
def turnsM (M:Hm):Nat→Hm
 | 0=>M
 | k+1=>turnM (turnsM M k) k
def roundM (M:Hm) (n:Int):Hm:=hapM M (roundK M.L (drawN n) 6).1 (roundK M.L (drawN n) 6).2
def pulseM (M:Hm) (n:Int):Hm:=roundM (turnsM M 4) n
def cutsM (M:Hm) (i:Nat):Hm × Bool:=match M.seat i with
 | none=>(M,false)
 | some S=>if (flowS S).pg.cut=true then (leaveM (M.put i (some (flowS S))) i,true) else (M.put i (some (flowS S)),false)
def cutK (M:Hm):Nat→Hm × Bool
 | 0=>(M,false)
 | k+1=>((cutsM (cutK M k).1 k).1,(cutK M k).2 || (cutsM (cutK M k).1 k).2)
def cutM (M:Hm):Hm × Bool:=cutK M 4
def flowN:Nat→Hm→Hm
 | 0,M=>M
 | n+1,M=>if (cutM M).2=true then flowN n (cutM M).1 else (cutM M).1
def flowM (M:Hm):Hm:=flowN 5 M
def forgetM (M:Hm):Hm:={ M with last:=[],seat:=fun i=>(M.seat i).map fun S=>{ S with told:=[] } }
structure Ac where
 kind:Int
 seat:Int
 num:Int
 bytes:ByteArray
def Ac.cells (a:Ac):Array Value:=#[.int .i64 a.kind,.int .i64 a.seat,.int .i64 a.num,.string a.bytes]
def refusedM (M:Hm) (a:Ac):Int :=
 if a.kind < 1∨5 < a.kind then 5 else if a.kind=5 then 0 else if a.seat < 0∨3 < a.seat then 2
 else if (M.seat a.seat.toNat).isNone=decide (a.kind=1) then 0 else 3
def nilB:ByteArray:=⟨#[]⟩
def actM (M:Hm) (a:Ac):Hm × ByteArray :=
 if a.kind=5 then (pulseM M a.num,nilB)
 else if a.kind=1 then (M.put a.seat.toNat (some newS),nilB)
 else match M.seat a.seat.toNat with
  | none=>(M,nilB)
  | some S =>
   if a.kind=2 then (M.put a.seat.toNat (some (feedS S a.bytes.data.toList)),nilB)
   else if a.kind=3 then (M.put a.seat.toNat (some (takeS S a.num)),outS S a.num)
   else (leaveM M a.seat.toNat,nilB)
def doM (M:Hm) (a:Ac):Hm × Int × ByteArray :=
 if 400≤M.acts then (M,4,nilB)
 else if refusedM (forgetM M) a=0 then (flowM (actM { forgetM M with acts:=M.acts+1 } a).1,0,(actM { forgetM M with acts:=M.acts+1 } a).2)
 else ({ forgetM M with acts:=M.acts+1 },refusedM (forgetM M) a,nilB)
def runM (M:Hm):List Ac→Hm
 | []=>M
 | a::l=>runM (doM M a).1 l
open Go.RowKit
structure Upd (k:Nat) (w w':World):Prop where
 os:w'.os=w.os
 tape:w'.tape=w.tape
 output:w'.output=w.output
 size:w'.heap.size=w.heap.size
 block:∀ j,j ≠ k→w'.heap[j]?=w.heap[j]?
theorem Upd.refl (k:Nat) (w:World):Upd k w w:=⟨rfl,rfl,rfl,rfl,fun _ _=>rfl⟩
theorem Upd.trans {k:Nat} {a b c:World} (h:Upd k a b) (g:Upd k b c):Upd k a c :=
 ⟨g.os.trans h.os,g.tape.trans h.tape,g.output.trans h.output,g.size.trans h.size,fun j hj=>(g.block j hj).trans (h.block j hj)⟩
theorem upd_set (w:World) (k o:Nat) (v:Value):Upd k w (w.setCell ⟨k,o,none⟩ v) :=
 ⟨rfl,rfl,rfl,by simp [World.setCell],fun j hj=>Below.heap_setCell _ _ _ _ (by simpa using hj)⟩
theorem Upd.below {k B:Nat} {a w w':World} (h:Below B a w) (g:Upd k w w') (hk:B≤k):Below B a w' :=
 ⟨g.os.trans h.os,g.tape.trans h.tape,g.output.trans h.output,by rw [g.size]; exact h.size,fun j hj=>by rw [g.block j (by omega)]; exact h.block j hj⟩
def over (cs:Array Value):Nat→List Value→Array Value
 | _,[]=>cs
 | o,v::r=>over (cs.setIfInBounds o v) (o+1) r
theorem over_heap (k:Nat) (T:TypeId) (vs:List Value):∀ (w:World) (cs:Array Value) (o:Nat),w.heap[k]?=some (.cells cs T (0,0))→(w.setCells k o vs).heap[k]?=some (.cells (over cs o vs) T (0,0)):=by
 induction vs with
 | nil=>intro w cs o h; exact h
 | cons v r ih=>intro w cs o h; exact ih _ _ _ (heap_setCell_same w k o cs T v h)
theorem over_upd (k:Nat) (vs:List Value):∀ (w:World) (o:Nat),Upd k w (w.setCells k o vs):=by
 induction vs with
 | nil=>intro w o; exact Upd.refl k w
 | cons v r ih=>intro w o; exact (upd_set w k o v).trans (ih _ _)
theorem there_of {w:World} {k o n:Nat} {cs:Array Value} {T:TypeId} (h:w.heap[k]?=some (.cells cs T (0,0))) (hn:o+n≤cs.size):w.there k o n:=by
 intro j hj
 refine ⟨?_,by simp [World.frozen?,h]⟩
 have hlt:o+j < cs.size:=by omega
 simp [World.cell?,h,hlt]
theorem range_of {w:World} {k o:Nat} {cs:Array Value} {T:TypeId} {vs:List Value} (h:w.heap[k]?=some (.cells cs T (0,0))) (hv:∀ j v,vs[j]?=some v→cs[o+j]?=some v):w.rangeAt k o vs:=by
 intro j v hj
 simp [World.cell?,h,hv j v hj]
section
variable {P:Program} {ops:Array Oper} {rest:List Oper} {op:Oper} {a:Act} {w:World} {Q:Exit→Act→World→Prop}
theorem wl_over (ty:TypeId) (x y:Operand) (ho:op.op=.store ty x y) (hw:Region.wanted op (yielded ops a.tmps)=true) (k o:Nat) (vs cs new:Array Value) (T:TypeId)
 (hx:a.eval x=.pointer (some ⟨k,o,none⟩)) (hy:a.eval y=.agg vs) (hg:w.heap[k]?=some (.cells cs T (0,0))) (hb:o+vs.size≤cs.size) (hi:(P.info? ty).map (·.size)=some vs.size)
 (h1:vs.all (·.oneCell')=true) (hn:over cs o vs.toList=new)
 (h:∀ W,W.heap[k]?=some (.cells new T (0,0))→Upd k w W→wpList P ops Q rest (a.put op.dst undef) W):wpList P ops Q (op::rest) a w :=
 wl_wanted hw (wp_store_mid ty x y ho k o vs hx hy (there_of hg hb) hi h1 (h _ (by rw [← hn]; exact over_heap k T _ w cs o hg) (over_upd k _ w o)))
theorem cells_one {v:Value} (h:v.oneCell'=true):v.cells=#[v]:=by
 cases v <;> first | rfl | (simp [Value.oneCell'] at h)
theorem wl_over1 (ty:TypeId) (x y:Operand) (ho:op.op=.store ty x y) (hw:Region.wanted op (yielded ops a.tmps)=true) (k o:Nat) (v:Value) (cs new:Array Value) (T:TypeId)
 (hx:a.eval x=.pointer (some ⟨k,o,none⟩)) (hy:a.eval y=v) (hg:w.heap[k]?=some (.cells cs T (0,0))) (hb:o < cs.size) (hi:(P.info? ty).map (·.size)=some 1)
 (h1:v.oneCell'=true) (hn:cs.setIfInBounds o v=new)
 (h:∀ W,W.heap[k]?=some (.cells new T (0,0))→Upd k w W→wpList P ops Q rest (a.put op.dst undef) W):wpList P ops Q (op::rest) a w:=by
 refine wl_wanted hw ?_
 have ht:=there_of (n:=1) (o:=o) hg (by omega)
 have hr:(storeVar ty ⟨k,o,none⟩ v).run P w=.ok () (w.setCells k o [v]):=by
  have:=run_storeCells_cells (P:=P) k o [v] 0 w (fun j hj=>by simpa using (ht j (by simpa using hj)).1) (fun j hj=>by simpa using (ht j (by simpa using hj)).2) (fun u hu=>by simp at hu; subst hu; exact h1)
  cases hq:P.info? ty with
  | none=>simp [hq] at hi
  | some i =>
   have hs:1=i.size:=by simp [hq] at hi; omega
   simp only [Nat.add_zero] at this
   simp [storeVar,sizeOf,typeInfo,hq,cells_one h1,← hs,this]
 unfold Oper.wp execOp
 simp only [ho,hx,hy,Instr.storeAt,Instr.sureAddr,Sem.run_bind,Sem.run_pure,Result.andThen_ok,hr]
 exact h _ (by rw [← hn]; exact over_heap k T [v] w cs o hg) (over_upd k [v] w o)
end
theorem over_get (vs:List Value):∀ (cs:Array Value) (o n:Nat),(over cs o vs)[n]?=if o≤n∧n < o+vs.length∧n < cs.size then vs[n - o]? else cs[n]?:=by
 induction vs with
 | nil=>intro cs o n; simp only [over,List.length_nil]; rw [if_neg (by omega)]
 | cons v r ih =>
  intro cs o n
  simp only [over,List.length_cons]
  rw [ih,Array.size_setIfInBounds]
  by_cases h:o=n
  ·subst h
   rw [if_neg (by omega),Array.getElem?_setIfInBounds]
   by_cases hs:o < cs.size
   ·rw [if_pos rfl,if_pos hs,if_pos ⟨by omega,by omega,hs⟩]; simp
   ·rw [if_pos rfl,if_neg hs,if_neg (by omega),Array.getElem?_eq_none (by omega)]
  ·by_cases h2:o≤n∧n < o+(r.length+1)∧n < cs.size
   ·rw [if_pos h2,if_pos ⟨by omega,by omega,h2.2.2⟩]
    have e:n - o=(n - (o+1))+1:=by omega
    rw [e,List.getElem?_cons_succ]
   ·rw [if_neg h2,if_neg (by omega),Array.getElem?_setIfInBounds,if_neg h]
theorem over_whole {cs vs:Array Value} (h:cs.size=vs.size):over cs 0 vs.toList=vs:=by
 apply Array.ext_getElem?
 intro n
 rw [over_get,Array.length_toList,Nat.zero_add,Nat.sub_zero,Array.getElem?_toList]
 by_cases hn:n < vs.size
 ·rw [if_pos ⟨Nat.zero_le _,hn,by omega⟩]
 ·rw [if_neg (by omega),Array.getElem?_eq_none (by omega),Array.getElem?_eq_none (by omega)]
open Go.RowKit
theorem Reads.same {w w':World} {v:Value} {q:List ByteArray} (h:Reads w v q) (hs:0 < q.length→∀ b off n c,v=.slice (some ⟨b,off,none⟩) n c→w'.heap[b]?=w.heap[b]?):Reads w' v q:=by
 obtain ⟨av,cap,rfl,hl,hm,hn,hc⟩:=h
 refine ⟨av,cap,rfl,hl,hm,hn,fun h0=>?_⟩
 obtain ⟨b,off,rfl,hcell⟩:=hc h0
 have e:=hs h0 b off _ _ rfl
 exact ⟨b,off,rfl,fun i hi=>by rw [← hcell i hi]; simp only [World.cell?,e]⟩
theorem own_same {w w':World} {base n T sz:Nat} {v:Value} {xs:List Value} (h:w.ownsRow base T sz v n xs) (hs:∀ g,v.ownBlock=some g→w'.heap[g]?=w.heap[g]?):w'.ownsRow base T sz v n xs:=by
 refine ⟨h.1,?_⟩
 rcases h.2 with hn | ⟨g,cap,cur,rfl,h1,h2,h3⟩
 ·exact .inl hn
 ·exact .inr ⟨g,cap,cur,rfl,h1,by rw [hs g rfl]; exact h2,h3⟩
theorem own_lt {w:World} {base n T sz:Nat} {v:Value} {xs:List Value} (h:w.ownsRow base T sz v n xs):∀ g,v.ownBlock=some g→base≤g∧g < w.heap.size:=by
 intro g e
 rcases h.2 with ⟨rfl,_⟩ | ⟨g',cap,cur,rfl,h1,h2,h3⟩
 ·simp [Value.ownBlock] at e
 ·simp only [Value.ownBlock,Option.some.injEq] at e
  subst e
  exact ⟨h1,(Array.getElem?_eq_some_iff.1 h2).1⟩
structure SeV (w:World) (k:Nat) (S:Se) (vq vp vt:Value):Prop where
 cell:w.heap[k]?=some (.cells (S.cells vq vp vt) 99 (0,0))
 q:Reads w vq S.lin.q
 p:Reads w vp S.pg.wait
 t:w.ownsRow (k+1) 9 1 vt S.told.length (scells S.told)
 qk:Off vq S.lin.q k
 pk:Off vp S.pg.wait k
 qt:∀ g,vt.ownBlock=some g→Off vq S.lin.q g
 pt:∀ g,vt.ownBlock=some g→Off vp S.pg.wait g
structure SeP (k:Nat) (w:World) (vq vp vt:Value) (w':World) (S':Se) (vq' vp' vt':Value):Prop where
 v:SeV w' k S' vq' vp' vt'
 os:w'.os=w.os
 tape:w'.tape=w.tape
 output:w'.output=w.output
 size:w.heap.size≤w'.heap.size
 block:∀ n,n < w.heap.size→n ≠ k→vt.ownBlock ≠ some n→w'.heap[n]?=w.heap[n]?
 row:vt'.ownBlock=vt.ownBlock∨vt'.ownBlock=none∨∃ g,vt'.ownBlock=some g∧w.heap.size≤g
 fq:vq'=vq∨Far w.heap.size vq'
 fp:vp'=vp∨Far w.heap.size vp'
section
variable {w w' w'':World} {k:Nat} {S S' S'':Se} {vq vp vt vq' vp' vt' vq'' vp'' vt'':Value}
theorem SeV.lt (h:SeV w k S vq vp vt):k < w.heap.size:=(Array.getElem?_eq_some_iff.1 h.cell).1
theorem SeV.refl (h:SeV w k S vq vp vt):SeP k w vq vp vt w S vq vp vt:=⟨h,rfl,rfl,rfl,Nat.le_refl _,fun _ _ _ _=>rfl,.inl rfl,.inl rfl,.inl rfl⟩
theorem SeP.trans (h:SeP k w vq vp vt w' S' vq' vp' vt') (g:SeP k w' vq' vp' vt' w'' S'' vq'' vp'' vt''):SeP k w vq vp vt w'' S'' vq'' vp'' vt'':=by
 refine ⟨g.v,g.os.trans h.os,g.tape.trans h.tape,g.output.trans h.output,Nat.le_trans h.size g.size,fun n hn hk ht=>?_,?_,?_,?_⟩
 ·rw [g.block n (Nat.lt_of_lt_of_le hn h.size) hk ?_,h.block n hn hk ht]
  rcases h.row with e | e | ⟨b,e,hb⟩
  ·rw [e]; exact ht
  ·rw [e]; simp
  ·rw [e]; intro e2; injection e2 with e2; omega
 ·rcases g.row with e | e | ⟨b,e,hb⟩
  ·rw [e]; exact h.row
  ·exact .inr (.inl e)
  ·exact .inr (.inr ⟨b,e,Nat.le_trans h.size hb⟩)
 ·rcases g.fq with e | e
  ·rw [e]; exact h.fq
  ·exact .inr (e.mono h.size)
 ·rcases g.fp with e | e
  ·rw [e]; exact h.fp
  ·exact .inr (e.mono h.size)
theorem SeV.below (h:SeV w k S vq vp vt) (hb:Below w.heap.size w w'):SeP k w vq vp vt w' S vq vp vt:=by
 have hl:=h.lt
 refine ⟨⟨by rw [hb.block _ hl]; exact h.cell,h.q.below hb (Nat.le_refl _),h.p.below hb (Nat.le_refl _),own_same h.t fun g hg=>hb.block _ (own_lt h.t g hg).2,h.qk,h.pk,h.qt,h.pt⟩,hb.os,hb.tape,hb.output,hb.size,fun n hn _ _=>hb.block n hn,.inl rfl,.inl rfl,.inl rfl⟩
theorem SeV.page (h:SeV w k S vq vp vt) {W:World} {P:Pa.Pg} {v:Value} {w0:World} (hW:W.heap[k]?=some (.cells (({ S with pg:=P }:Se).cells vq v vt) 99 (0,0))) (hu:Upd k w W) (hp:Reads w v P.wait) (hf:v=vp∧P.wait=S.pg.wait∨Far w0.heap.size v)
 (hk0:k < w0.heap.size) (ht0:∀ g,vt.ownBlock=some g→g < w0.heap.size):SeV W k { S with pg:=P } vq v vt:=by
 have hoff:∀ B,B < w0.heap.size→Far w0.heap.size v→Off v P.wait B:=fun B hB hf=>off_far hf hB
 have hpk:Off v P.wait k:=by
  rcases hf with ⟨rfl,e⟩ | hf
  ·rw [e]; exact h.pk
  ·exact hoff k hk0 hf
 refine ⟨hW,Reads.same h.q fun h0 b off n c e=>hu.block b (h.qk h0 b off n c e),Reads.same hp fun h0 b off n c e=>hu.block b (hpk h0 b off n c e),own_same h.t fun g hg=>hu.block g (by have:=own_lt h.t g hg; omega),h.qk,hpk,h.qt,fun g hg=>?_⟩
 rcases hf with ⟨rfl,e⟩ | hf
 ·show Off v P.wait g
  rw [e]; exact h.pt g hg
 ·exact hoff g (ht0 g hg) hf
end
end Go.Proofs.YtncgcejlkmoliaaGreatDoor.Ho
