import Derived.Test.YtncgcejlkmoliaaGreatDoorMh10
import Derived.Test.YtncgcejlkmoliaaGreatDoorMh45
import Derived.Test.YtncgcejlkmoliaaGreatDoorMh04
import Derived.Deep.WholeRow
import Derived.Laws.CopyOwn
set_option linter.unusedVariables false
set_option maxRecDepth 100000
set_option maxHeartbeats 16000000
namespace Go.Proofs.YtncgcejlkmoliaaGreatDoor
open Go.RowKit
theorem bs_toList (l:List UInt8):(bs l).toList=l:=by rw [Lib.toList_data,bs_data]
def Rd (w:World) (v:Value) (q:List (List UInt8)):Prop:=Reads w v (q.map bs)
section
variable {w:World} {v:Value} {x:List UInt8} {r:List (List UInt8)}
theorem Rd.none (h:Rd w v []):∃ av cap,v=.slice av 0 cap∧cap≤maxLen:=by
 obtain ⟨av,cap,e,hl,hm,_,_⟩:=h
 exact ⟨av,cap,by simpa using e,hm⟩
theorem Rd.shape (h:Rd w v r):∃ av cap,v=.slice av r.length cap∧r.length≤cap∧cap≤maxLen:=by
 obtain ⟨av,cap,e,hl,hm,_,_⟩:=h
 exact ⟨av,cap,by simpa using e,by simpa using hl,hm⟩
theorem Rd.cons (h:Rd w v (x::r)):∃ b off cap,v=.slice (some ⟨b,off,Option.none⟩) (r.length+1) cap∧r.length+1≤cap∧cap≤maxLen∧w.cell? ⟨b,off,Option.none⟩=some (.string (bs x)) ∧
 Rd w (.slice (if cap=1 then some ⟨b,off,Option.none⟩ else some ⟨b,off+1,Option.none⟩) r.length (cap - 1)) r:=by
 have h':=h
 obtain ⟨av,cap,e,hl,hm,hn,hc⟩:=h
 obtain ⟨b,off,rfl,hcell⟩:=hc (by simp)
 subst e
 refine ⟨b,off,cap,by simp,by simpa using hl,hm,by simpa using hcell 0 (by simp),?_⟩
 have:=reads_tail (f:=bs x) (r:=r.map bs) (b:=b) (off:=off) (cap:=cap) h'
 simpa [Rd] using this
theorem Rd.below {w':World} {B:Nat} (h:Rd w v r) (hb:Below B w w') (hB:w.heap.size≤B):Rd w' v r:=Reads.below h hb hB
theorem Rd.alloc (h:Rd w v r) (o:Obj):Rd (w.alloc o) v r:=Reads.alloc h o
end
def secA (v:Nat) (rest:List (List UInt8)):List UInt8 × Bool:=match secondL v rest with | some x=>(x,true) | none=>([],false)
theorem ret_sec {a b:List UInt8} {x y:Bool} (h:(a,x)=(b,y)):Ending.returned (.tuple #[.string (bs a),.bool x])=.returned (.tuple #[.string (bs b),.bool y]):=by
 simp at h; rw [h.1,h.2]
theorem joins_at (x:List UInt8):joins x=((x==[102,114,111,109]) || (x==[105,110]) || (x==[116,111])):=by
 simp [joins,Bool.beq_eq_decide_eq]
theorem second_other (v:Nat) (rest:List (List UInt8)) (u:Value) (w:World) (h7:v ≠ 7) (h9:v ≠ 9) (h10:v ≠ 10) (hr:Rd w u rest) :
 Calls Tryz.prog 208 #[.int .i64 (v:Int),u] w fun e w'=>e=.returned (.tuple #[.string (bs (secA v rest).1),.bool (secA v rest).2])∧w'=w:=by
 obtain ⟨av,cap,rfl,hl,hm⟩:=hr.shape
 have b7:((v:Int) != 7)=true:=by simp; omega
 have b9:((v:Int) != 9)=true:=by simp; omega
 have b10:((v:Int) != 10)=true:=by simp; omega
 unfold maxLen at hm
 clear hr
 cases rest with
 | nil =>
  have HV:=hide (show secA v []=([],true) by simp [secA,secondL,h7,h9,h10])
  go_enter Tryz.func208,Tryz.ntmps208
  go_wp2
  go_ret2
  exact ⟨ret_sec (by rw [HV.out]),rfl⟩
 | cons x r =>
  have HV:=hide (show secA v (x::r)=([],false) by simp [secA,secondL,h7,h9,h10])
  have hlen:(x::r).length=r.length+1:=rfl
  rw [hlen] at hl ⊢
  clear hlen
  generalize r.length=m at hl
  have hb:(((m+1:Nat):Int)==0)=false:=by simp; omega
  go_enter Tryz.func208,Tryz.ntmps208
  go_wp2
  go_ret2
  exact ⟨ret_sec (by rw [HV.out]; simp; omega),rfl⟩
theorem second_nil (v:Nat) (u:Value) (w:World) (hw:v=7∨v=9∨v=10) (hr:Rd w u []) :
 Calls Tryz.prog 208 #[.int .i64 (v:Int),u] w fun e w'=>e=.returned (.tuple #[.string (bs (secA v []).1),.bool (secA v []).2])∧w'=w:=by
 obtain ⟨av,cap,rfl,hm⟩:=hr.none
 have HV:=hide (show secA v []=([],decide (v=7)) by
  rcases hw with h | h | h <;> subst h <;> rfl)
 clear hr
 rcases hw with rfl | rfl | rfl
 all_goals go_enter Tryz.func208,Tryz.ntmps208
 all_goals go_wp2
 all_goals go_ret2
 all_goals exact ⟨ret_sec HV.out.symm,rfl⟩
theorem second_plain (v:Nat) (x:List UInt8) (r:List (List UInt8)) (u:Value) (w:World) (hw:v=7∨v=9∨v=10) (hj:joins x=false) (hr:Rd w u (x::r)) :
 Calls Tryz.prog 208 #[.int .i64 (v:Int),u] w fun e w'=>e=.returned (.tuple #[.string (bs (secA v (x::r)).1),.bool (secA v (x::r)).2])∧w'=w:=by
 obtain ⟨b,off,cap,rfl,hl,hm,c0,_⟩:=hr.cons
 have hbt:=bs_toList
 have hj1:(x==[102,114,111,109])=false∧(x==[105,110])=false∧(x==[116,111])=false:=by
  have hj':=hj
  rw [joins_at] at hj'; simp at hj'; simp [hj']
 obtain ⟨j1,j2,j3⟩:=hj1
 unfold maxLen at hm
 clear hr
 cases r with
 | nil =>
  have HV:=hide (show secA v [x]=(x,true) by simp [secA,secondL,hw,hj,lone])
  clear hj
  rcases hw with rfl | rfl | rfl
  all_goals go_enter Tryz.func208,Tryz.ntmps208
  all_goals go_wp2
  all_goals go_ret2
  all_goals exact ⟨ret_sec HV.out.symm,rfl⟩
 | cons y r =>
  have HV:=hide (show secA v (x::y::r)=([],false) by simp [secA,secondL,hw,hj,lone])
  have hlen:(y::r).length=r.length+1:=rfl
  rw [hlen] at hl ⊢
  clear hlen hj
  generalize r.length=m at hl
  have hb:(((m+1+1:Nat):Int)==1)=false:=by simp; omega
  have hb0:(((m+1+1:Nat):Int)==0)=false:=by simp; omega
  rcases hw with rfl | rfl | rfl
  all_goals go_enter Tryz.func208,Tryz.ntmps208
  all_goals go_wp2
  all_goals go_ret2
  all_goals exact ⟨ret_sec HV.out.symm,rfl⟩
theorem second_join0 (v:Nat) (x:List UInt8) (u:Value) (w:World) (hw:v=7∨v=9∨v=10) (hj:joins x=true) (hr:Rd w u [x]) :
 Calls Tryz.prog 208 #[.int .i64 (v:Int),u] w fun e w'=>e=.returned (.tuple #[.string (bs (secA v [x]).1),.bool (secA v [x]).2])∧w'=w:=by
 obtain ⟨b,off,cap,rfl,hl,hm,c0,ht⟩:=hr.cons
 have hbt:=bs_toList
 have HV:=hide (show secA v [x]=([],false) by simp [secA,secondL,hw,hj,lone])
 rw [joins_at] at hj
 unfold maxLen at hm
 clear hr
 clear ht
 cases j1:(x==[102,114,111,109])
 ·cases j2:(x==[105,110])
  ·have j3:(x==[116,111])=true:=by rw [j1,j2] at hj; simpa using hj
   clear hj
   rcases hw with rfl | rfl | rfl
   all_goals go_enter Tryz.func208,Tryz.ntmps208
   all_goals go_wp2
   all_goals go_ret2
   all_goals exact ⟨ret_sec HV.out.symm,rfl⟩
  ·clear hj
   rcases hw with rfl | rfl | rfl
   all_goals go_enter Tryz.func208,Tryz.ntmps208
   all_goals go_wp2
   all_goals go_ret2
   all_goals exact ⟨ret_sec HV.out.symm,rfl⟩
 ·clear hj
  rcases hw with rfl | rfl | rfl
  all_goals go_enter Tryz.func208,Tryz.ntmps208
  all_goals go_wp2
  all_goals go_ret2
  all_goals exact ⟨ret_sec HV.out.symm,rfl⟩
theorem second_join1 (v:Nat) (x:List UInt8) (y:List UInt8) (u:Value) (w:World) (hw:v=7∨v=9∨v=10) (hj:joins x=true) (hr:Rd w u [x,y]) :
 Calls Tryz.prog 208 #[.int .i64 (v:Int),u] w fun e w'=>e=.returned (.tuple #[.string (bs (secA v [x,y]).1),.bool (secA v [x,y]).2])∧w'=w:=by
 obtain ⟨b,off,cap,rfl,hl,hm,c0,ht⟩:=hr.cons
 have hbt:=bs_toList
 have HV:=hide (show secA v [x,y]=(y,true) by simp [secA,secondL,hw,hj,lone])
 rw [joins_at] at hj
 unfold maxLen at hm
 clear hr
 have hc1:¬ cap=1:=by simp at hl; omega
 rw [if_neg hc1] at ht
 obtain ⟨b',off',cap',e,_,_,c1,_⟩:=ht.cons
 injection e with e1; injection e1 with e1; injection e1 with e1 e2
 subst e1 e2
 simp only [List.length_cons,List.length_nil] at hl ⊢
 cases j1:(x==[102,114,111,109])
 ·cases j2:(x==[105,110])
  ·have j3:(x==[116,111])=true:=by rw [j1,j2] at hj; simpa using hj
   clear hj
   rcases hw with rfl | rfl | rfl
   all_goals go_enter Tryz.func208,Tryz.ntmps208
   all_goals go_wp2
   all_goals go_ret2
   all_goals exact ⟨ret_sec HV.out.symm,rfl⟩
  ·clear hj
   rcases hw with rfl | rfl | rfl
   all_goals go_enter Tryz.func208,Tryz.ntmps208
   all_goals go_wp2
   all_goals go_ret2
   all_goals exact ⟨ret_sec HV.out.symm,rfl⟩
 ·clear hj
  rcases hw with rfl | rfl | rfl
  all_goals go_enter Tryz.func208,Tryz.ntmps208
  all_goals go_wp2
  all_goals go_ret2
  all_goals exact ⟨ret_sec HV.out.symm,rfl⟩
theorem second_join2 (v:Nat) (x:List UInt8) (y z:List UInt8) (r:List (List UInt8)) (u:Value) (w:World) (hw:v=7∨v=9∨v=10) (hj:joins x=true) (hr:Rd w u (x::y::z::r)) :
 Calls Tryz.prog 208 #[.int .i64 (v:Int),u] w fun e w'=>e=.returned (.tuple #[.string (bs (secA v (x::y::z::r)).1),.bool (secA v (x::y::z::r)).2])∧w'=w:=by
 obtain ⟨b,off,cap,rfl,hl,hm,c0,ht⟩:=hr.cons
 have hbt:=bs_toList
 have HV:=hide (show secA v (x::y::z::r)=([],false) by simp [secA,secondL,hw,hj,lone])
 rw [joins_at] at hj
 unfold maxLen at hm
 clear hr
 have hc1:¬ cap=1:=by simp at hl; omega
 rw [if_neg hc1] at ht
 clear ht
 have hlen:(y::z::r).length=r.length+2:=rfl
 rw [hlen] at hl ⊢
 clear hlen
 generalize r.length=m at hl
 have hb:(((m+2:Nat):Int)==1)=false:=by simp; omega
 have hb0:(((m+2+1:Nat):Int)==0)=false:=by simp; omega
 cases j1:(x==[102,114,111,109])
 ·cases j2:(x==[105,110])
  ·have j3:(x==[116,111])=true:=by rw [j1,j2] at hj; simpa using hj
   clear hj
   rcases hw with rfl | rfl | rfl
   all_goals go_enter Tryz.func208,Tryz.ntmps208
   all_goals go_wp2
   all_goals go_ret2
   all_goals exact ⟨ret_sec HV.out.symm,rfl⟩
  ·clear hj
   rcases hw with rfl | rfl | rfl
   all_goals go_enter Tryz.func208,Tryz.ntmps208
   all_goals go_wp2
   all_goals go_ret2
   all_goals exact ⟨ret_sec HV.out.symm,rfl⟩
 ·clear hj
  rcases hw with rfl | rfl | rfl
  all_goals go_enter Tryz.func208,Tryz.ntmps208
  all_goals go_wp2
  all_goals go_ret2
  all_goals exact ⟨ret_sec HV.out.symm,rfl⟩
theorem second_any (v:Nat) (rest:List (List UInt8)) (u:Value) (w:World) (hr:Rd w u rest) :
 Calls Tryz.prog 208 #[.int .i64 (v:Int),u] w fun e w'=>e=.returned (.tuple #[.string (bs (secA v rest).1),.bool (secA v rest).2])∧w'=w:=by
 by_cases hw:v=7∨v=9∨v=10
 ·match rest,hr with
  | [],hr=>exact second_nil v u w hw hr
  | x::r,hr =>
   cases hj:joins x
   ·exact second_plain v x r u w hw hj hr
   ·match r,hr with
    | [],hr=>exact second_join0 v x u w hw hj hr
    | [y],hr=>exact second_join1 v x y u w hw hj hr
    | y::z::r,hr=>exact second_join2 v x y z r u w hw hj hr
 ·exact second_other v rest u w (by omega) (by omega) (by omega) hr
open Go.RowKit
section
variable {w w':World} {base:Nat} {v:Value} {n:Nat} {xs:List Value}
theorem wown_below (h:w.ownsRow base 9 1 v n xs) (hb:Below w.heap.size w w'):w'.ownsRow base 9 1 v n xs :=
 h.kept (row:=none) ⟨hb.os,hb.tape,hb.output,hb.size,fun k hk _=>hb.block k hk⟩ (by
  cases e:v.ownBlock with
  | none=>exact .inl rfl
  | some k=>exact .inr (by simp))
theorem own_rd {q:List (List UInt8)} (h:w.ownsRow base 9 1 v q.length (scells (q.map bs))):Rd w v q:=by
 have h':w.ownsRow base 9 1 v (q.map bs).length (scells (q.map bs)):=by rw [List.length_map]; exact h
 exact reads_own h'
theorem drewN_below (w:World) (m:Nat):Below w.heap.size w (w.drewN m):=below_drewN (Below.refl _ _) m
end
theorem one_some {A:List UInt8} (h:A.isEmpty=false):one A=[lowerL A]:=by
 have:¬ A=[]:=by intro e; rw [e] at h; simp at h
 simp [one,this]
theorem one_none {A:List UInt8} (h:A.isEmpty=true):one A=[]:=by
 have:A=[]:=List.isEmpty_iff.1 h
 simp [one,this]
structure Sp (w:World) (s:ByteArray) (t:ByteArray) (q:List (List UInt8)) (lv:Value) (wr:World):Prop where
 le:t.size≤s.size
 eq:q++splitL t.data.toList=splitL s.data.toList
 own:wr.ownsRow w.heap.size 9 1 lv q.length (scells (q.map bs))
 below:Below w.heap.size w wr
theorem Sp.few {w wr:World} {s t:ByteArray} {q:List (List UInt8)} {lv:Value} (h:Sp w s t q lv wr):q.length≤s.size:=by
 have h1:=congrArg List.length h.eq
 have h2:=split_len s.data.toList
 rw [size_len] at h2
 rw [List.length_append] at h1
 omega
theorem split_any (s:ByteArray) (w:World) (hs:s.size≤8796093022207) :
 Calls Tryz.prog 168 #[.string s] w fun e w'=>∃ v,e=.returned v∧Rd w' v (splitL s.data.toList)∧Below w.heap.size w w':=by
 obtain ⟨i0,hi,hz0,hz1,hz2⟩:=info_parts Tryz.info9
 go_enter Tryz.func168,Tryz.ntmps168
 go_wp2
 go_loopw [0,3,4] (fun sv lv _ wr=>∃ (t:ByteArray) (q:List (List UInt8)),sv=.string t∧Sp w s t q lv wr) (fun sv _ _ _=>strSize sv)
 case atStart=>exact ⟨s,[],rfl,Nat.le_refl _,rfl,World.ownsRow_nil _ _ _ _,Below.refl _ _⟩
 case round =>
  obtain ⟨t,q,rfl,hI⟩:=hrel
  have hle:=hI.le
  have hfew:=hI.few
  have hlow:=hI.below.size
  have HI:=hide hI
  clear hI
  cases he:t.toList.isEmpty
  ·have hne:t.data.toList ≠ []:=by intro e; rw [Lib.toList_data,e] at he; simp at he
   have HX:=hide (split_cut t.data.toList)
   have hlt:=cut_less 32 _ hne
   have hcl:=cut_len 32 t.data.toList
   have C1:=hide (fun w'=>cut_one t 32 w' (by omega))
   rw [size_len] at hlt hcl
   generalize (cutL 32 t.data.toList).1=A at C1 HX hcl
   generalize (cutL 32 t.data.toList).2.1=B at C1 HX hcl hlt
   generalize (cutL 32 t.data.toList).2.2=F at C1
   have hbt:=bs_toList
   clear hne
   cases hA:A.isEmpty
   ·have hbs:(bs A).size≤140737488355328:=by rw [bs_size]; omega
    have C2:=hide (fun w'=>lower_any (bs A) w' hbs)
    rw [bs_data] at C2
    have HO:=hide (one_some hA)
    clear hbs
    go_wp2_with fail
    refine (C1.out _).mono ?_
    rintro e w1 ⟨rfl,m,rfl⟩
    go_wp2_with fail
    refine (C2.out _).mono ?_
    rintro e w2 ⟨rfl,hb2⟩
    have hown2:=wown_below (wown_below HI.out.own (drewN_below _ m)) hb2
    have hb3:Below w.heap.size w w2:=(HI.out.below.trans ((drewN_below wr m).mono hlow)).trans (hb2.mono hlow)
    have hz2':=hb3.size
    replace hown2:=hide hown2
    replace hb3:=hide hb3
    clear hb2
    go_wp2_with (at_builtin; refine wpList_append_own_at _ rfl (.tmp 15) (.tmp 18) 47 rfl w.heap.size 9 i0 (.string ⟨#[]⟩) 1 16 Tryz.underlying47 hi hz0 hz1 hz2 rfl (by decide) _ q.length (scells (q.map bs)) rfl (hown2.out.alloc _) ⟨w2.heap.size,0,none⟩ 1 1 (scells [bs (lowerL A)]) rfl ?c1 ?c2 (scells_one _) ?c3 ?c4 ?c5 ?_)
    case c1=>rfl
    case c2 =>
     intro j u hj
     cases j with
     | zero=>simp [scells] at hj; subst hj; exact cell_new (by simp) _ _
     | succ j=>simp [scells] at hj
    case c3=>unfold maxLen; omega
    case c4=>omega
    case c5=>simp; omega
    intro v' w' ho hg _ _
    have ho':w'.ownsRow w.heap.size 9 1 v' (q++[lowerL A]).length (scells ((q++[lowerL A]).map bs)):=by
     rw [List.map_append,scells_append,List.length_append]; exact ho
    have hb':Below w.heap.size w w':=(hb3.out.alloc hz2' _).grown hg (by simp; omega) (fun k e=>(hown2.out.lt k e).1)
    replace ho':=hide ho'
    replace hb':=hide hb'
    clear ho hg
    go_wp2
    refine ⟨⟨bs B,q++[lowerL A],rfl,?_,?_,ho'.out,hb'.out⟩,?_⟩
    ·rw [bs_size]; omega
    ·rw [bs_data,List.append_assoc,← HI.out.eq,HX.out,HO.out]
    ·simp only [strSize,bs_size]; exact hlt
   ·have HO:=hide (one_none hA)
    go_wp2_with fail
    refine (C1.out _).mono ?_
    rintro e w1 ⟨rfl,m,rfl⟩
    go_wp2
    refine ⟨⟨bs B,q,rfl,?_,?_,wown_below HI.out.own (drewN_below _ m),HI.out.below.trans ((drewN_below wr m).mono hlow)⟩,?_⟩
    ·rw [bs_size]; omega
    ·rw [bs_data,← HI.out.eq,HX.out,HO.out,List.nil_append]
    ·simp only [strSize,bs_size]; exact hlt
  ·have HE:=hide (show t.data.toList=[] by rw [Lib.toList_data] at he; exact List.isEmpty_iff.1 he)
   go_wp2
   go_ret
   refine ⟨_,rfl,?_,HI.out.below⟩
   have:=HI.out.eq
   rw [HE.out,split_nil,List.append_nil] at this
   rw [← this]
   exact own_rd HI.out.own
open Go.RowKit
theorem Tryz.sizeVerbs:(Tryz.prog.info? 154).map (·.size)=some 21:=by kernel_rfl
theorem wl_verbs {ops:Array Oper} {rest:List Oper} {op:Oper} {a:Act} {w:World} {Q:Exit→Act→World→Prop} (x:Operand) (ho:op.op=.load 154 x) (hw:Region.wanted op (yielded ops a.tmps)=true)
 (hx:a.eval x=.pointer (some ⟨0,0,none⟩)) (hv:Vb w) (h:wpList Tryz.prog ops Q rest (a.put op.dst (.agg vcells)) w):wpList Tryz.prog ops Q (op::rest) a w:=by
 obtain ⟨t,fr,hv⟩:=hv
 exact wl_wanted hw (wp_load_row 154 x ho 0 hx t vcells fr _ hv Tryz.underlying154 rfl (by rw [vcells_size]; exact Tryz.sizeVerbs) h)
theorem index_verbs (i:Nat) (hi:i < 21) (w:World):(Instr.index 154 (.agg vcells) (.int .i64 (i:Int))).run Tryz.prog w=.ok (.string (bs (verbs.getD i []))) w:=by
 rcases (show i=0∨i=1∨i=2∨i=3∨i=4∨i=5∨i=6∨i=7∨i=8∨i=9∨i=10∨i=11∨i=12∨i=13∨i=14∨i=15∨i=16∨i=17∨i=18∨i=19∨i=20 by omega) with rfl | rfl | rfl | rfl | rfl | rfl | rfl | rfl | rfl | rfl | rfl | rfl | rfl | rfl | rfl | rfl | rfl | rfl | rfl | rfl | rfl
 all_goals kernel_rfl
def NoVerb (w:List UInt8) (k:Nat):Prop:=∀ j,j < k→w.isPrefixOf (verbs.getD j [])=false
theorem verb_at {w:List UInt8} {k:Nat} (hw:w ≠ []) (hk:k < 21) (hn:NoVerb w k) (h:w.isPrefixOf (verbs.getD k [])=true):verbA w=((k:Int),0):=by
 have hl:=verbs_len
 have:verbL w=some k:=by
  unfold verbL
  rw [if_neg hw,List.findIdx?_eq_some_iff_getElem]
  refine ⟨by omega,?_,fun j hj=>?_⟩
  ·have e:verbs.getD k []=verbs[k]'(by omega):=by simp [List.getD,List.getElem?_eq_getElem (show k < verbs.length by omega)]
   rw [← e]; exact h
  ·have e:verbs.getD j []=verbs[j]'(by omega):=by simp [List.getD,List.getElem?_eq_getElem (show j < verbs.length by omega)]
   rw [← e,hn j hj]; simp
 simp [verbA,this]
theorem verb_none {w:List UInt8} (hw:w ≠ []) (hn:NoVerb w 21):verbA w=(0,3):=by
 have hl:=verbs_len
 have:verbL w=none:=by
  unfold verbL
  rw [if_neg hw,List.findIdx?_eq_none_iff]
  intro v hv
  obtain ⟨j,hj,rfl⟩:=List.getElem_of_mem hv
  have e:verbs.getD j []=verbs[j]'(by omega):=by simp [List.getD,List.getElem?_eq_getElem (show j < verbs.length by omega)]
  rw [← e]; exact hn j (by omega)
 simp [verbA,this]
theorem verb_any (s:ByteArray) (w:World) (hv:Vb w) :
 Calls Tryz.prog 169 #[.string s] w fun e w'=>e=.returned (.tuple #[.int .i64 (verbA s.data.toList).1,.int .i64 (verbA s.data.toList).2])∧w'=w:=by
 cases h0:s.toList.isEmpty
 ·have hne:Hid (s.data.toList ≠ []):=fun e=>by rw [Lib.toList_data,e] at h0; simp at h0
  have hv:=hide hv
  go_enter Tryz.func169,Tryz.ntmps169
  go_wp2_with (refine wl_verbs _ rfl rfl rfl hv.out ?_)
  go_loop [9] (fun v=>∃ k:Nat,v=.int .i64 k∧k≤21∧Hid (NoVerb s.data.toList k)) (fun v=>21 - (intOf v).toNat)
  case atStart=>exact ⟨0,rfl,by omega,fun j hj=>by omega⟩
  case round =>
   obtain ⟨k,rfl,hk,HN⟩:=hrel
   by_cases hlt:k < 21
   ·have hi:=index_verbs k hlt
    have C1:=hide (prefix_any (bs (verbs.getD k [])) s)
    rw [bs_data] at C1
    cases hp:s.data.toList.isPrefixOf (verbs.getD k [])
    ·have hp:=hide hp
     go_wp2_with fail
     refine (C1.out _).mono ?_
     rintro e w' ⟨rfl,rfl⟩
     rw [hp.out]
     go_wp2
     refine ⟨⟨k+1,by go_num,hlt,fun j hj=>?_⟩,by simp [intOf]; omega⟩
     by_cases e:j=k
     ·subst e; exact hp.out
     ·exact HN.out j (by omega)
    ·have HV:=hide (verb_at hne.out hlt HN.out hp)
     have hp:=hide hp
     go_wp2_with fail
     refine (C1.out _).mono ?_
     rintro e w' ⟨rfl,rfl⟩
     rw [hp.out]
     go_wp2
     go_ret2
     rw [HV.out]
     exact ⟨rfl,rfl⟩
   ·have hkk:k=21:=by omega
    subst hkk
    have HV:=hide (verb_none hne.out HN.out)
    go_wp2
    go_ret2
    rw [HV.out]
    exact ⟨rfl,rfl⟩
 ·have HE:=hide (show s.data.toList=[] by rw [Lib.toList_data] at h0; exact List.isEmpty_iff.1 h0)
  go_enter Tryz.func169,Tryz.ntmps169
  go_wp2
  go_ret2
  rw [HE.out]
  exact ⟨rfl,rfl⟩
theorem alone_any (v:Nat) (w:World) (hv:v < 21):Calls Tryz.prog 171 #[.int .i64 (v:Int)] w fun e w'=>e=.returned (.bool (aloneB v))∧w'=w:=by
 have HV:Hid (∀ b:Bool,(b=true ↔ ((v:Int) < 6∨(v:Int)=6∨(v:Int)=19∨(v:Int)=20))→b=aloneB v):=by
  intro b hb
  rw [Bool.eq_iff_iff,hb]
  simp [aloneB]; omega
 go_enter Tryz.func171,Tryz.ntmps171
 go_wp2
 all_goals go_ret
 all_goals refine ⟨ret_bool (HV.out _ ?_),rfl⟩
 all_goals first | (simp_all; done) | (simp_all; omega)
open Go.RowKit
def Ord.cells (o:Ord):Array Value:=#[.int .i64 o.verb,.int .i64 o.nth,.bool o.all,.string (bs o.name),.string (bs o.second),.string (bs o.text)]
theorem Tryz.sizeOrdW:(Tryz.prog.info? 149).map (·.size)=some 6:=by kernel_rfl
def ordA:Option Ord→Value
 | some o=>.tuple #[.agg o.cells,.int .i64 0]
 | none=>.tuple #[.agg zo.cells,.int .i64 1]
theorem resO {fn:Func} {p a1:Tmp} (hf:fn.results=#[.cell p 149,.tmp a1]) {tmps:Array Value} {w:World} {b:Nat} {cells:Array Value} {x:Value}
 (h4:tmps.getD p undef=.pointer (some ⟨b,0,none⟩)) (h5:tmps.getD a1 undef=x) (hc:w.heap[b]?=some (.cells cells 149 (0,0))) (hs:cells.size=6) :
 (results fn tmps).run Tryz.prog w=.ok (.tuple #[.agg cells,x]) w:=by
 have hl:=run_loadVar_row w b 149 149 cells (0,0) _ hc Tryz.underlying149 rfl (by rw [hs]; exact Tryz.sizeOrdW)
 simp only [Array.getD_eq_getD_getElem?] at h4 h5
 simp only [results,hf]
 simp [Result.andThen,h4,h5,asAddr,hl]
structure Zo (w0:World) (b:Nat) (w:World):Prop where
 lo:w0.heap.size≤b
 blk:w.heap[b]?=some (.cells zo.cells 149 (0,0))
 below:Below w0.heap.size w0 w
theorem zo_new (w:World):Zo w w.heap.size (w.alloc (.cells #[.int .i64 0,.int .i64 0,.bool false,.string ⟨#[]⟩,.string ⟨#[]⟩,.string ⟨#[]⟩] 149)) :=
 ⟨Nat.le_refl _,heap_alloc_new w _,(Below.refl _ _).alloc (Nat.le_refl _) _⟩
theorem Zo.behind {w0 w w':World} {b:Nat} (h:Zo w0 b w) (hb:Below w.heap.size w w'):Zo w0 b w' :=
 ⟨h.lo,by rw [hb.block _ (Array.getElem?_eq_some_iff.1 h.blk).1]; exact h.blk,h.below.trans (hb.mono h.below.size)⟩
theorem Zo.done {w0 w:World} {b:Nat} (h:Zo w0 b w) (cs:Array Value):(w.setRow b cs).heap[b]?=some (.cells cs 149 (0,0))∧Below w0.heap.size w0 (w.setRow b cs) :=
 ⟨setRow_heap w b _ _ _ _ h.blk,below_setRow h.below h.lo _⟩
theorem wl_put {ops:Array Oper} {rest:List Oper} {op:Oper} {a:Act} {w w0:World} {Q:Exit→Act→World→Prop} (x y:Operand) (ho:op.op=.store 149 x y) (hw:Region.wanted op (yielded ops a.tmps)=true)
 {g:Nat} (hz:Zo w0 g w) (hx:a.eval x=.pointer (some ⟨g,0,none⟩)) (v n:Int) (b:Bool) (p q r:ByteArray) (hy:a.eval y=.agg #[.int .i64 v,.int .i64 n,.bool b,.string p,.string q,.string r])
 (h:wpList Tryz.prog ops Q rest (a.put op.dst undef) (w.setRow g #[.int .i64 v,.int .i64 n,.bool b,.string p,.string q,.string r])):wpList Tryz.prog ops Q (op::rest) a w :=
 wl_row 149 x y ho hw g _ hx hy 149 zo.cells hz.blk Tryz.sizeOrdW rfl (by simp [Value.oneCell']) h
theorem cut_b (s:ByteArray) (c:UInt8) (w:World) (hs:s.size≤140737488355328) :
 Calls Tryz.prog 40 #[.string s,.string ⟨#[c]⟩] w fun e w'=>e=.returned (.tuple #[.string (bs (cutL c s.data.toList).1),.string (bs (cutL c s.data.toList).2.1),.bool (cutL c s.data.toList).2.2])∧Below w.heap.size w w' :=
 (cut_one s c w hs).mono fun e w' ⟨he,n,hn⟩=>⟨he,by rw [hn]; exact drewN_below _ _⟩
theorem trim_b (s:ByteArray) (w:World) (hs:s.size≤140737488355328) :
 Calls Tryz.prog 142 #[.string s,.string ⟨#[32]⟩] w fun e w'=>e=.returned (.string (bs (trimL (trimR s.data.toList))))∧Below w.heap.size w w' :=
 (trim_any s w hs).mono fun e w' ⟨he,n,hn⟩=>⟨he,by rw [hn]; exact drewN_below _ _⟩
theorem noun_b (s:ByteArray) (w:World) (hs:s.size≤140737488355328) :
 Calls Tryz.prog 207 #[.string s] w fun e w'=>e=.returned (nounA (nounL s.data.toList))∧Below w.heap.size w w' :=
 (noun_any s w hs).mono fun e w' ⟨he,n,hn⟩=>⟨he,by rw [hn]; exact drewN_below _ _⟩
theorem speech_any (s:ByteArray) (w:World) (hs:s.size≤140737488355328) :
 Calls Tryz.prog 170 #[.string s] w fun e w'=>e=.returned (ordA (speechL s.data.toList))∧Below w.heap.size w w':=by
 have l1:=trimL_len s.data.toList
 have l2:=cut_len 32 (trimL s.data.toList)
 rw [size_len] at l1
 have C1:=hide (fun w'=>trimleft_any s w' hs)
 have C2:=hide (fun w'=>cut_b (bs (trimL s.data.toList)) 32 w' (by rw [bs_size]; omega))
 have C3:=hide (fun w'=>trim_b (bs (cutL 32 (trimL s.data.toList)).2.1) w' (by rw [bs_size]; omega))
 rw [bs_data] at C2 C3
 have HV:Hid (speechL s.data.toList=if trimL (trimR (cutL 32 (trimL s.data.toList)).2.1)=[] then none else some { verb:=11,nth:=0,all:=false,name:=[],second:=[],text:=trimL (trimR (cutL 32 (trimL s.data.toList)).2.1) }):=rfl
 generalize trimL (trimR (cutL 32 (trimL s.data.toList)).2.1)=T at C3 HV
 generalize cutL 32 (trimL s.data.toList)=K at C2 C3
 clear l1 l2
 have hbt:=bs_toList
 cases hT:T.isEmpty
 ·have HN:=hide (show ¬ T=[] by intro e; rw [e] at hT; simp at hT)
  go_enter Tryz.func170,Tryz.ntmps170
  go_wp2_with fail
  refine (C1.out _).mono ?_
  rintro e w1 ⟨rfl,rfl⟩
  go_wp2_with fail
  refine (C2.out _).mono ?_
  rintro e w1 ⟨rfl,hb1⟩
  have z1:=hide ((zo_new w).behind hb1)
  clear hb1
  go_wp2_with fail
  refine (C3.out _).mono ?_
  rintro e w2 ⟨rfl,hb2⟩
  have z2:=hide (z1.out.behind hb2)
  clear hb2
  go_wp2_with (refine wl_put (.tmp 2) (.tmp 20) rfl rfl z2.out rfl 11 0 false ⟨#[]⟩ ⟨#[]⟩ (bs T) rfl ?_)
  refine bodyPost_ret (resO rfl rfl rfl (z2.out.done _).1 rfl) rfl ⟨ret_any ?_,(z2.out.done _).2⟩
  rw [HV.out,if_neg HN.out]; rfl
 ·have HN:=hide (show T=[] from List.isEmpty_iff.1 hT)
  go_enter Tryz.func170,Tryz.ntmps170
  go_wp2_with fail
  refine (C1.out _).mono ?_
  rintro e w1 ⟨rfl,rfl⟩
  go_wp2_with fail
  refine (C2.out _).mono ?_
  rintro e w1 ⟨rfl,hb1⟩
  have z1:=hide ((zo_new w).behind hb1)
  clear hb1
  go_wp2_with fail
  refine (C3.out _).mono ?_
  rintro e w2 ⟨rfl,hb2⟩
  have z2:=hide (z1.out.behind hb2)
  clear hb2
  go_wp2_with (refine wl_put (.tmp 2) (.tmp 18) rfl rfl z2.out rfl 0 0 false ⟨#[]⟩ ⟨#[]⟩ ⟨#[]⟩ rfl ?_)
  refine bodyPost_ret (resO rfl rfl rfl (z2.out.done _).1 rfl) rfl ⟨ret_any ?_,(z2.out.done _).2⟩
  rw [HV.out,if_pos HN.out]; rfl
end Go.Proofs.YtncgcejlkmoliaaGreatDoor
