import Derived.Test.YtncgcejlkmoliaaGreatDoorMh01
import Derived.Test.YtncgcejlkmoliaaGreatDoorMh26
import Derived.Test.YtncgcejlkmoliaaGreatDoorMh25
set_option linter.unusedVariables false
set_option maxRecDepth 100000
set_option maxHeartbeats 16000000
namespace Go.Proofs.YtncgcejlkmoliaaGreatDoor.Ho
open Go.RowKit
structure Upd (k:Nat) (w w':World):Prop where
 os:w'.os=w.os
 tape:w'.tape=w.tape
 output:w'.output=w.output
 size:w'.heap.size=w.heap.size
 block:∀ j,j ≠ k→w'.heap[j]?=w.heap[j]?
theorem Upd.refl (k:Nat) (w:World):Upd k w w:=⟨rfl,rfl,rfl,rfl,fun _ _=>rfl⟩
theorem Upd.trans {k:Nat} {a b c:World} (h:Upd k a b) (g:Upd k b c):Upd k a c :=
 ⟨g.os.trans h.os,g.tape.trans h.tape,g.output.trans h.output,g.size.trans h.size,fun j hj=>(g.block j hj).trans (h.block j hj)⟩
theorem upd_set (w:World) (k o:Nat) (v:Value):Upd k w (w.setCell ⟨k,o,none⟩ v) :=
 ⟨rfl,rfl,rfl,by simp [World.setCell],fun j hj=>Below.heap_setCell _ _ _ _ (by simpa using hj)⟩
theorem Upd.below {k B:Nat} {a w w':World} (h:Below B a w) (g:Upd k w w') (hk:B≤k):Below B a w' :=
 ⟨g.os.trans h.os,g.tape.trans h.tape,g.output.trans h.output,by rw [g.size]; exact h.size,fun j hj=>by rw [g.block j (by omega)]; exact h.block j hj⟩
def over (cs:Array Value):Nat→List Value→Array Value
 | _,[]=>cs
 | o,v::r=>over (cs.setIfInBounds o v) (o+1) r
theorem over_heap (k:Nat) (T:TypeId) (vs:List Value):∀ (w:World) (cs:Array Value) (o:Nat),w.heap[k]?=some (.cells cs T (0,0))→(w.setCells k o vs).heap[k]?=some (.cells (over cs o vs) T (0,0)):=by
 induction vs with
 | nil=>intro w cs o h; exact h
 | cons v r ih=>intro w cs o h; exact ih _ _ _ (heap_setCell_same w k o cs T v h)
theorem over_upd (k:Nat) (vs:List Value):∀ (w:World) (o:Nat),Upd k w (w.setCells k o vs):=by
 induction vs with
 | nil=>intro w o; exact Upd.refl k w
 | cons v r ih=>intro w o; exact (upd_set w k o v).trans (ih _ _)
theorem there_of {w:World} {k o n:Nat} {cs:Array Value} {T:TypeId} (h:w.heap[k]?=some (.cells cs T (0,0))) (hn:o+n≤cs.size):w.there k o n:=by
 intro j hj
 refine ⟨?_,by simp [World.frozen?,h]⟩
 have hlt:o+j < cs.size:=by omega
 simp [World.cell?,h,hlt]
theorem range_of {w:World} {k o:Nat} {cs:Array Value} {T:TypeId} {vs:List Value} (h:w.heap[k]?=some (.cells cs T (0,0))) (hv:∀ j v,vs[j]?=some v→cs[o+j]?=some v):w.rangeAt k o vs:=by
 intro j v hj
 simp [World.cell?,h,hv j v hj]
section
variable {P:Program} {ops:Array Oper} {rest:List Oper} {op:Oper} {a:Act} {w:World} {Q:Exit→Act→World→Prop}
theorem wl_over (ty:TypeId) (x y:Operand) (ho:op.op=.store ty x y) (hw:Region.wanted op (yielded ops a.tmps)=true) (k o:Nat) (vs cs new:Array Value) (T:TypeId)
 (hx:a.eval x=.pointer (some ⟨k,o,none⟩)) (hy:a.eval y=.agg vs) (hg:w.heap[k]?=some (.cells cs T (0,0))) (hb:o+vs.size≤cs.size) (hi:(P.info? ty).map (·.size)=some vs.size)
 (h1:vs.all (·.oneCell')=true) (hn:over cs o vs.toList=new)
 (h:∀ W,W.heap[k]?=some (.cells new T (0,0))→Upd k w W→wpList P ops Q rest (a.put op.dst undef) W):wpList P ops Q (op::rest) a w :=
 wl_wanted hw (wp_store_mid ty x y ho k o vs hx hy (there_of hg hb) hi h1 (h _ (by rw [← hn]; exact over_heap k T _ w cs o hg) (over_upd k _ w o)))
theorem cells_one {v:Value} (h:v.oneCell'=true):v.cells=#[v]:=by
 cases v <;> first | rfl | (simp [Value.oneCell'] at h)
theorem wl_over1 (ty:TypeId) (x y:Operand) (ho:op.op=.store ty x y) (hw:Region.wanted op (yielded ops a.tmps)=true) (k o:Nat) (v:Value) (cs new:Array Value) (T:TypeId)
 (hx:a.eval x=.pointer (some ⟨k,o,none⟩)) (hy:a.eval y=v) (hg:w.heap[k]?=some (.cells cs T (0,0))) (hb:o < cs.size) (hi:(P.info? ty).map (·.size)=some 1)
 (h1:v.oneCell'=true) (hn:cs.setIfInBounds o v=new)
 (h:∀ W,W.heap[k]?=some (.cells new T (0,0))→Upd k w W→wpList P ops Q rest (a.put op.dst undef) W):wpList P ops Q (op::rest) a w:=by
 refine wl_wanted hw ?_
 have ht:=there_of (n:=1) (o:=o) hg (by omega)
 have hr:(storeVar ty ⟨k,o,none⟩ v).run P w=.ok () (w.setCells k o [v]):=by
  have:=run_storeCells_cells (P:=P) k o [v] 0 w (fun j hj=>by simpa using (ht j (by simpa using hj)).1) (fun j hj=>by simpa using (ht j (by simpa using hj)).2) (fun u hu=>by simp at hu; subst hu; exact h1)
  cases hq:P.info? ty with
  | none=>simp [hq] at hi
  | some i =>
   have hs:1=i.size:=by simp [hq] at hi; omega
   simp only [Nat.add_zero] at this
   simp [storeVar,sizeOf,typeInfo,hq,cells_one h1,← hs,this]
 unfold Oper.wp execOp
 simp only [ho,hx,hy,Instr.storeAt,Instr.sureAddr,Sem.run_bind,Sem.run_pure,Result.andThen_ok,hr]
 exact h _ (by rw [← hn]; exact over_heap k T [v] w cs o hg) (over_upd k [v] w o)
end
theorem over_get (vs:List Value):∀ (cs:Array Value) (o n:Nat),(over cs o vs)[n]?=if o≤n∧n < o+vs.length∧n < cs.size then vs[n - o]? else cs[n]?:=by
 induction vs with
 | nil=>intro cs o n; simp only [over,List.length_nil]; rw [if_neg (by omega)]
 | cons v r ih =>
  intro cs o n
  simp only [over,List.length_cons]
  rw [ih,Array.size_setIfInBounds]
  by_cases h:o=n
  ·subst h
   rw [if_neg (by omega),Array.getElem?_setIfInBounds]
   by_cases hs:o < cs.size
   ·rw [if_pos rfl,if_pos hs,if_pos ⟨by omega,by omega,hs⟩]; simp
   ·rw [if_pos rfl,if_neg hs,if_neg (by omega),Array.getElem?_eq_none (by omega)]
  ·by_cases h2:o≤n∧n < o+(r.length+1)∧n < cs.size
   ·rw [if_pos h2,if_pos ⟨by omega,by omega,h2.2.2⟩]
    have e:n - o=(n - (o+1))+1:=by omega
    rw [e,List.getElem?_cons_succ]
   ·rw [if_neg h2,if_neg (by omega),Array.getElem?_setIfInBounds,if_neg h]
theorem over_whole {cs vs:Array Value} (h:cs.size=vs.size):over cs 0 vs.toList=vs:=by
 apply Array.ext_getElem?
 intro n
 rw [over_get,Array.length_toList,Nat.zero_add,Nat.sub_zero,Array.getElem?_toList]
 by_cases hn:n < vs.size
 ·rw [if_pos ⟨Nat.zero_le _,hn,by omega⟩]
 ·rw [if_neg (by omega),Array.getElem?_eq_none (by omega),Array.getElem?_eq_none (by omega)]
open Go.RowKit
theorem Reads.same {w w':World} {v:Value} {q:List ByteArray} (h:Reads w v q) (hs:0 < q.length→∀ b off n c,v=.slice (some ⟨b,off,none⟩) n c→w'.heap[b]?=w.heap[b]?):Reads w' v q:=by
 obtain ⟨av,cap,rfl,hl,hm,hn,hc⟩:=h
 refine ⟨av,cap,rfl,hl,hm,hn,fun h0=>?_⟩
 obtain ⟨b,off,rfl,hcell⟩:=hc h0
 have e:=hs h0 b off _ _ rfl
 exact ⟨b,off,rfl,fun i hi=>by rw [← hcell i hi]; simp only [World.cell?,e]⟩
theorem own_same {w w':World} {base n T sz:Nat} {v:Value} {xs:List Value} (h:w.ownsRow base T sz v n xs) (hs:∀ g,v.ownBlock=some g→w'.heap[g]?=w.heap[g]?):w'.ownsRow base T sz v n xs:=by
 refine ⟨h.1,?_⟩
 rcases h.2 with hn | ⟨g,cap,cur,rfl,h1,h2,h3⟩
 ·exact .inl hn
 ·exact .inr ⟨g,cap,cur,rfl,h1,by rw [hs g rfl]; exact h2,h3⟩
theorem own_lt {w:World} {base n T sz:Nat} {v:Value} {xs:List Value} (h:w.ownsRow base T sz v n xs):∀ g,v.ownBlock=some g→base≤g∧g < w.heap.size:=by
 intro g e
 rcases h.2 with ⟨rfl,_⟩ | ⟨g',cap,cur,rfl,h1,h2,h3⟩
 ·simp [Value.ownBlock] at e
 ·simp only [Value.ownBlock,Option.some.injEq] at e
  subst e
  exact ⟨h1,(Array.getElem?_eq_some_iff.1 h2).1⟩
structure SeV (w:World) (k:Nat) (S:Se) (vq vp vt:Value):Prop where
 cell:w.heap[k]?=some (.cells (S.cells vq vp vt) 99 (0,0))
 q:Reads w vq S.lin.q
 p:Reads w vp S.pg.wait
 t:w.ownsRow (k+1) 9 1 vt S.told.length (scells S.told)
 qk:Off vq S.lin.q k
 pk:Off vp S.pg.wait k
 qt:∀ g,vt.ownBlock=some g→Off vq S.lin.q g
 pt:∀ g,vt.ownBlock=some g→Off vp S.pg.wait g
structure SeP (k:Nat) (w:World) (vq vp vt:Value) (w':World) (S':Se) (vq' vp' vt':Value):Prop where
 v:SeV w' k S' vq' vp' vt'
 os:w'.os=w.os
 tape:w'.tape=w.tape
 output:w'.output=w.output
 size:w.heap.size≤w'.heap.size
 block:∀ n,n < w.heap.size→n ≠ k→vt.ownBlock ≠ some n→w'.heap[n]?=w.heap[n]?
 row:vt'.ownBlock=vt.ownBlock∨vt'.ownBlock=none∨∃ g,vt'.ownBlock=some g∧w.heap.size≤g
 fq:vq'=vq∨Far w.heap.size vq'
 fp:vp'=vp∨Far w.heap.size vp'
section
variable {w w' w'':World} {k:Nat} {S S' S'':Se} {vq vp vt vq' vp' vt' vq'' vp'' vt'':Value}
theorem SeV.lt (h:SeV w k S vq vp vt):k < w.heap.size:=(Array.getElem?_eq_some_iff.1 h.cell).1
theorem SeV.refl (h:SeV w k S vq vp vt):SeP k w vq vp vt w S vq vp vt:=⟨h,rfl,rfl,rfl,Nat.le_refl _,fun _ _ _ _=>rfl,.inl rfl,.inl rfl,.inl rfl⟩
theorem SeP.trans (h:SeP k w vq vp vt w' S' vq' vp' vt') (g:SeP k w' vq' vp' vt' w'' S'' vq'' vp'' vt''):SeP k w vq vp vt w'' S'' vq'' vp'' vt'':=by
 refine ⟨g.v,g.os.trans h.os,g.tape.trans h.tape,g.output.trans h.output,Nat.le_trans h.size g.size,fun n hn hk ht=>?_,?_,?_,?_⟩
 ·rw [g.block n (Nat.lt_of_lt_of_le hn h.size) hk ?_,h.block n hn hk ht]
  rcases h.row with e | e | ⟨b,e,hb⟩
  ·rw [e]; exact ht
  ·rw [e]; simp
  ·rw [e]; intro e2; injection e2 with e2; omega
 ·rcases g.row with e | e | ⟨b,e,hb⟩
  ·rw [e]; exact h.row
  ·exact .inr (.inl e)
  ·exact .inr (.inr ⟨b,e,Nat.le_trans h.size hb⟩)
 ·rcases g.fq with e | e
  ·rw [e]; exact h.fq
  ·exact .inr (e.mono h.size)
 ·rcases g.fp with e | e
  ·rw [e]; exact h.fp
  ·exact .inr (e.mono h.size)
theorem SeV.below (h:SeV w k S vq vp vt) (hb:Below w.heap.size w w'):SeP k w vq vp vt w' S vq vp vt:=by
 have hl:=h.lt
 refine ⟨⟨by rw [hb.block _ hl]; exact h.cell,h.q.below hb (Nat.le_refl _),h.p.below hb (Nat.le_refl _),own_same h.t fun g hg=>hb.block _ (own_lt h.t g hg).2,h.qk,h.pk,h.qt,h.pt⟩,hb.os,hb.tape,hb.output,hb.size,fun n hn _ _=>hb.block n hn,.inl rfl,.inl rfl,.inl rfl⟩
theorem SeV.page (h:SeV w k S vq vp vt) {W:World} {P:Pa.Pg} {v:Value} {w0:World} (hW:W.heap[k]?=some (.cells (({ S with pg:=P }:Se).cells vq v vt) 99 (0,0))) (hu:Upd k w W) (hp:Reads w v P.wait) (hf:v=vp∧P.wait=S.pg.wait∨Far w0.heap.size v)
 (hk0:k < w0.heap.size) (ht0:∀ g,vt.ownBlock=some g→g < w0.heap.size):SeV W k { S with pg:=P } vq v vt:=by
 have hoff:∀ B,B < w0.heap.size→Far w0.heap.size v→Off v P.wait B:=fun B hB hf=>off_far hf hB
 have hpk:Off v P.wait k:=by
  rcases hf with ⟨rfl,e⟩ | hf
  ·rw [e]; exact h.pk
  ·exact hoff k hk0 hf
 refine ⟨hW,Reads.same h.q fun h0 b off n c e=>hu.block b (h.qk h0 b off n c e),Reads.same hp fun h0 b off n c e=>hu.block b (hpk h0 b off n c e),own_same h.t fun g hg=>hu.block g (by have:=own_lt h.t g hg; omega),h.qk,hpk,h.qt,fun g hg=>?_⟩
 rcases hf with ⟨rfl,e⟩ | hf
 ·show Off v P.wait g
  rw [e]; exact h.pt g hg
 ·exact hoff g (ht0 g hg) hf
end
end Go.Proofs.YtncgcejlkmoliaaGreatDoor.Ho
namespace Go.Proofs.YtncgcejlkmoliaaGreatDoor.Te
open Go.RowKit
theorem feed_good (t:Tel) (s:ByteArray) (w:World) (hfine:Fine t) (hs:s.size≤2097152) :
 Calls Tryz.prog 39 #[t.val,.string s] w fun e w'=>e=.returned (.tuple #[(feedL t s.data.toList).1.val,.string ⟨(feedL t s.data.toList).2.1.toArray⟩,.string ⟨(feedL t s.data.toList).2.2.toArray⟩,.int .i64 0])∧Below w.heap.size w w':=by
 have hsub:t.sub.size≤maxLen:=by have:=hfine.sub16; unfold maxLen; omega
 have hg:good t=true:=(fine_iff t).2 hfine
 have HF:=hide hfine
 clear hfine
 unfold Tel.val Tel.cells
 go_enter Tryz.func39,Tryz.ntmps39
 go_wp2_with (go_at_call 76; refine (good_any t _ hsub).mono ?_; rintro e w1 ⟨rfl,hb1⟩)
 go_loopw [8,9,10] (fun vt va i wr=>∃ (k:Nat) (T:Tel) (X Y:List UInt8),i=.int .i64 k∧Rel w t s k T vt va X Y wr) (fun _ _ i _=>s.size - (intOf i).toNat)
 case atStart =>
  refine ⟨0,t,[],[],rfl,Nat.zero_le _,rfl,HF.out,?_,?_,?_,World.ownsRow_nil _ _ _ _,World.ownsRow_nil _ _ _ _,?_⟩
  ·exact (((Below.refl _ _).alloc (Nat.le_refl _) _).alloc (by simp) _).trans (hb1.mono (by simp; omega))
  ·show w1.heap[w.heap.size]?=_
   rw [hb1.block _ (by simp; omega),Below.heap_alloc _ _ _ (by simp)]
   exact heap_alloc_new w _
  ·show w1.heap[w.heap.size+1]?=_
   rw [hb1.block _ (by simp)]
   have:=heap_alloc_new (w.alloc (.cells t.cells 79)) (.cells zt.cells 79)
   rw [World.size_alloc] at this
   exact this
  ·intro k e; simp [Value.ownBlock] at e
 case round =>
  obtain ⟨k,T,X,Y,rfl,hR⟩:=hrel
  have hk:=hR.le
  clear hb1
  obtain ⟨c0,c1,c2,c3,c4,c5,c6,c7,c8,c9,hfz⟩:=hR.inv.cod.all
  by_cases hlt:k < s.size
  ·have hf:=hR.fine
   have hsm:=hR.small
   have p0:=hf.pos0
   have p4:=hf.pos4
   have s16:=hf.sub16
   have hroom:=hR.inv.room
   have k255:=byte_beq s[k] 255 (by omega)
   have hw:wrap64 ((s[k].toNat:Nat):Int)=s[k].toNat:=by have:=s[k].toNat_lt; unfold wrap64; omega
   have b255:s[k].toNat < 256:=s[k].toNat_lt
   have hcod:=hR.inv.cod
   by_cases hp0:T.pos=0
   ·rw [hp0] at c0
    by_cases hc:s[k]=255
    ·have hS:step T s[k]=({ T with pos:=1 },[],[]):=by unfold step; rw [if_pos hp0,if_pos hc]
     have HR:=hide (hR.next hlt hS (by simpa using hR.inv.turn (cod_mk (cod_set hR.inv.cod 0 (.int .i64 1)) rfl) (grown_set (grown_refl _ _) _ _)))
     have ec:(((s[k].toNat:Nat):Int)==255)=true:=by simp [hc]
     clear hS hc k255 hf hp0 p0 p4 s16 hg
     go_wp2
     exact ⟨⟨k+1,_,_,_,by go_num,HR.out⟩,by simp [intOf]; omega⟩
    ·have HS:=hide (show step T s[k]=(T,[s[k]],[]) by unfold step; rw [if_pos hp0,if_neg hc])
     have ec:(((s[k].toNat:Nat):Int)==255)=false:=by simpa [hc] using k255
     clear hc k255 hf hp0 p0 p4 s16 hg
     go_wp2_with (at_builtin; refine wp_append1 _ rfl (.tmp 32) (.tmp 34) rfl (w.heap.size+2) _ X rfl (hR.inv.own1.alloc _) s[k] ⟨wr.heap.size,0,none⟩ rfl ?c1 ?c2 ?c3 ?_)
     case c1=>simp
     case c2=>omega
     case c3=>simp; omega
     intro v2 w2 ho2 hg2 hb2
     have hi2:=(hR.inv.alloc (.cells #[.int .u8 ((s[k].toNat:Nat):Int)] 5)).app1 (z:=X++[s[k]]) (by rw [List.length_append]; exact ho2) hg2 (by simpa using hb2)
     clear ho2 hg2 hb2
     go_wp2
     exact ⟨⟨k+1,_,_,_,by go_num,hR.next hlt HS.out (by simpa using hi2)⟩,by simp [intOf]; omega⟩
   by_cases hp1:T.pos=1
   ·rw [hp1] at c0
    by_cases hc:s[k]=255
    ·have HS:=hide (show step T s[k]=(cmd T s[k].toNat,[s[k]],[]) by unfold step; rw [if_neg hp0,if_pos hp1,if_pos hc])
     have ec:(((s[k].toNat:Nat):Int)==255)=true:=by simp [hc]
     clear hc k255 hf hp0 hp1 p0 p4 s16 hg
     go_wp2_with (at_builtin; refine wp_append1 _ rfl (.tmp 40) (.tmp 42) rfl (w.heap.size+2) _ X rfl (hR.inv.own1.alloc _) s[k] ⟨wr.heap.size,0,none⟩ rfl ?c1 ?c2 ?c3 ?_)
     case c1=>simp
     case c2=>omega
     case c3=>simp; omega
     intro v2 w2 ho2 hg2 hb2
     have hi2:=(hR.inv.alloc (.cells #[.int .u8 ((s[k].toNat:Nat):Int)] 5)).app1 (z:=X++[s[k]]) (by rw [List.length_append]; exact ho2) hg2 (by simpa using hb2)
     clear ho2 hg2 hb2
     have hcd2:=hi2.cod
     go_wp2_with (go_at_call 77; refine (command_any T w.heap.size _ _ hcd2).mono ?_; rintro e w3 ⟨rfl,hcd3,hgr3⟩)
     exact ⟨⟨k+1,_,_,_,by go_num,hR.next hlt HS.out (by simpa using hi2.turn hcd3 hgr3)⟩,by simp [intOf]; omega⟩
    ·have HS:=hide (show step T s[k]=(cmd T s[k].toNat,[],[]) by unfold step; rw [if_neg hp0,if_pos hp1,if_neg hc])
     have ec:(((s[k].toNat:Nat):Int)==255)=false:=by simpa [hc] using k255
     clear hc k255 hf hp0 hp1 p0 p4 s16 hg
     go_wp2_with (go_at_call 77; refine (command_any T w.heap.size _ _ hcod).mono ?_; rintro e w3 ⟨rfl,hcd3,hgr3⟩)
     exact ⟨⟨k+1,_,_,_,by go_num,hR.next hlt HS.out (by simpa using hR.inv.turn hcd3 hgr3)⟩,by simp [intOf]; omega⟩
   by_cases hp2:T.pos=2
   ·rw [hp2] at c0
    have hv:=hf.verb2 hp2
    have HS:=hide (show step T s[k]=((setl T s[k].toNat).1,[],(setl T s[k].toNat).2) by unfold step; rw [if_neg hp0,if_neg hp1,if_pos hp2])
    have hl3:=setl_len T s[k].toNat
    clear k255 hf hp0 hp1 hp2 p0 p4 s16 hg
    go_wp2_with fail
    refine (settle_any T w.heap.size _ _ hcod hv.1 hv.2 (by omega) (by omega)).mono ?_
    rintro e w3 ⟨rfl,hcd3,hgr3⟩
    have hi3:=hR.inv.turn hcd3 hgr3
    have hroom3:=hi3.room
    clear hcd3 hgr3 hv
    go_wp2_with (at_builtin; refine wp_appendS _ rfl (.tmp 49) (.tmp 52) rfl (w.heap.size+2) _ Y (setl T s[k].toNat).2 rfl hi3.own2 rfl ?c2 ?c3 ?_)
    case c2=>omega
    case c3=>omega
    intro v4 w4 ho4 hg4 hb4
    have hi4:=hi3.app2 (z:=Y++(setl T s[k].toNat).2) (by rw [List.length_append]; exact ho4) hg4 hb4
    clear ho4 hg4 hb4
    go_wp2
    exact ⟨⟨k+1,_,_,_,by go_num,hR.next hlt HS.out (by simpa using hi4)⟩,by simp [intOf]; omega⟩
   by_cases hp3:T.pos=3
   ·rw [hp3] at c0
    by_cases hc:s[k]=255
    ·have hS:step T s[k]=({ T with pos:=4 },[],[]):=by unfold step; rw [if_neg hp0,if_neg hp1,if_neg hp2,if_pos hp3,if_pos hc]
     have HR:=hide (hR.next hlt hS (by simpa using hR.inv.turn (cod_mk (cod_set hR.inv.cod 0 (.int .i64 4)) rfl) (grown_set (grown_refl _ _) _ _)))
     have ec:(((s[k].toNat:Nat):Int)==255)=true:=by simp [hc]
     clear hS hc k255 hf hp0 hp1 hp2 hp3 p0 p4 s16 hg
     go_wp2
     exact ⟨⟨k+1,_,_,_,by go_num,HR.out⟩,by simp [intOf]; omega⟩
    ·have HS:=hide (show step T s[k]=(kp T s[k],[],[]) by unfold step; rw [if_neg hp0,if_neg hp1,if_neg hp2,if_pos hp3,if_neg hc])
     have ec:(((s[k].toNat:Nat):Int)==255)=false:=by simpa [hc] using k255
     clear hc k255 hf hp0 hp1 hp2 hp3 p0 p4 hg
     go_wp2_with (go_at_call 79; refine (keep_any T w.heap.size s[k] _ hcod s16).mono ?_; rintro e w3 ⟨rfl,hcd3,hgr3⟩)
     exact ⟨⟨k+1,_,_,_,by go_num,hR.next hlt HS.out (by simpa using hR.inv.turn hcd3 hgr3)⟩,by simp [intOf]; omega⟩
   have hp4:T.pos=4:=by omega
   rw [hp4] at c0
   by_cases hc:s[k]=255
   ·have HS:=hide (show step T s[k]=(kp { T with pos:=3 } s[k],[],[]) by unfold step; rw [if_neg hp0,if_neg hp1,if_neg hp2,if_neg hp3,if_pos hc])
    have ec:(((s[k].toNat:Nat):Int)==255)=true:=by simp [hc]
    clear hc k255 hf hp0 hp1 hp2 hp3 hp4 p0 p4 hg
    have hi2:=hR.inv.turn (t':={ T with pos:=3 }) (cod_mk (cod_set hR.inv.cod 0 (.int .i64 3)) rfl) (grown_set (grown_refl _ _) _ _)
    go_wp2_with (go_at_call 79; refine (keep_any { T with pos:=3 } w.heap.size s[k] _ hi2.cod s16).mono ?_; rintro e w3 ⟨rfl,hcd3,hgr3⟩)
    exact ⟨⟨k+1,_,_,_,by go_num,hR.next hlt HS.out (by simpa using hi2.turn hcd3 hgr3)⟩,by simp [intOf]; omega⟩
   ·have HS:=hide (show step T s[k]=(fin T s[k],[],[]) by unfold step; rw [if_neg hp0,if_neg hp1,if_neg hp2,if_neg hp3,if_neg hc])
    have ec:(((s[k].toNat:Nat):Int)==255)=false:=by simpa [hc] using k255
    clear hc k255 hf hp0 hp1 hp2 hp3 hp4 p0 p4 hg
    go_wp2_with (go_at_call 80; refine (finish_any T w.heap.size s[k] _ hcod s16).mono ?_; rintro e w3 ⟨rfl,hcd3,hgr3⟩)
    exact ⟨⟨k+1,_,_,_,by go_num,hR.next hlt HS.out (by simpa using hR.inv.turn hcd3 hgr3)⟩,by simp [intOf]; omega⟩
  ·have hkk:k=s.size:=by omega
   have hT:feedL t s.data.toList=(T,X,Y):=by have:=hR.eq; rwa [hkk,List.take_of_length_le (by simp)] at this
   have HT:=hide hT
   obtain ⟨hX,hY⟩:=hR.inv.convs (grown_refl _ _)
   obtain ⟨hX',hY'⟩:=hR.inv.convs (grown_ten (t:=T) (grown_refl _ _))
   obtain ⟨d0,d1,d2,d3,d4,d5,d6,d7,d8,d9,hfd⟩:=hR.inv.res.all
   clear hT hkk hg
   go_wp2
   go_region
   go_wp2
   refine bodyPost_ret (res4 Tryz.results39 rfl rfl rfl rfl (cod_drew (cod_ten hR.inv.res))) rfl ⟨?_,(below_ten hR.inv.below (by omega)).drew⟩
   rw [HT.out]
   rfl
end Go.Proofs.YtncgcejlkmoliaaGreatDoor.Te
