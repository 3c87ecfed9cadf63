import Derived.Test.YtncgcejlkmoliaaGreatDoorMh07
import Derived.Test.YtncgcejlkmoliaaGreatDoorMh09
import Derived.Test.YtncgcejlkmoliaaGreatDoorMh04
import Derived.Handy
import Derived.Laws.OwnMore
set_option linter.unusedVariables false
set_option maxRecDepth 100000
set_option maxHeartbeats 16000000
namespace Go.Proofs.YtncgcejlkmoliaaGreatDoor
open Go.RowKit
theorem act_go {w0:World} {L:Ld} {Es:List Ev} {w:World} (hS:Sn 172 [] w0 L Es w) (hf:Fine L) (hg:goodL L=true) (hvb:Vb w0) (b d:Nat) (hb:b < 6) (hd:d < 6) (O:Od) (hv:O.verb=(d:Int)) (hlen:Es.length≤800000) :
 Calls Tryz.prog 137 #[.pointer (some ⟨w0.heap.size,0,none⟩),.int .i64 (b:Int),.agg O.cells] w fun e w'=>e=.returned (.tuple #[])∧Sn 172 [] w0 (walkL L b d) (Es++walkE L b d) w'∧Stp w0.heap.size 165 w w':=by
 have hv6:(O.verb==6)=false:=by rw [hv]; simp; omega
 have hv7:(O.verb==7)=false:=by rw [hv]; simp; omega
 have hv8:(O.verb==8)=false:=by rw [hv]; simp; omega
 have hv9:(O.verb==9)=false:=by rw [hv]; simp; omega
 have hv10:(O.verb==10)=false:=by rw [hv]; simp; omega
 have hv11:(O.verb==11)=false:=by rw [hv]; simp; omega
 have hv12:(O.verb==12)=false:=by rw [hv]; simp; omega
 have hv13:(O.verb==13)=false:=by rw [hv]; simp; omega
 have hv14:(O.verb==14)=false:=by rw [hv]; simp; omega
 have hv15:(O.verb==15)=false:=by rw [hv]; simp; omega
 have hv16:(O.verb==16)=false:=by rw [hv]; simp; omega
 have hv17:(O.verb==17)=false:=by rw [hv]; simp; omega
 have hv18:(O.verb==18)=false:=by rw [hv]; simp; omega
 have hv19:(O.verb==19)=false:=by rw [hv]; simp; omega
 have hv20:(O.verb==20)=false:=by rw [hv]; simp; omega
 have X0:=hide (hS.alloc (.cells O.cells 149))
 have T0:=hide (Stp.below (o:=165) (below_box w (.cells O.cells 149)) hS.lt)
 have HV:=hide hv
 have HS:=hide hS
 clear hS hv
 unfold Od.cells
 go_enter Tryz.func137,Tryz.ntmps137
 go_wp2_with fail
 have C:=rwalk_any X0.out hf hg hvb b d hb hd hlen
 rw [← HV.out] at C
 refine C.mono ?_
 clear C
 rintro e w1 ⟨rfl,S1h,T1h⟩
 have A:=hide S1h
 have B:=hide (T0.out.trans T1h)
 clear S1h T1h
 go_wp2
 go_end0
 exact ⟨rfl,A.out,B.out⟩
open Go.RowKit
theorem prefix_any (s p:ByteArray) (w:World) :
 Calls Tryz.prog 205 #[.string s,.string p] w fun e w'=>e=.returned (.bool (p.data.toList.isPrefixOf s.data.toList))∧w'=w:=by
 have HV:=hide (Lib.hasPrefix_raw s p)
 go_enter Tryz.func205,Tryz.ntmps205
 go_wp2
 all_goals go_ret
 all_goals refine ⟨ret_bool ?_,rfl⟩
 all_goals refine Eq.trans ?_ HV.out
 all_goals first | (simp_all; done) | (simp_all; omega)
theorem ibyte_any (s:ByteArray) (c:Int) (w:World) :
 Calls Tryz.prog 116 #[.string s,.int .u8 c] w fun e w'=>e=.returned (.int .i64 (Lib.indexByte s.data.toList c.toNat.toUInt8))∧w'=w:=by
 go_enter Tryz.func116,Tryz.ntmps116
 go_wp2
 rw [run_callFunc_extern Tryz.func133 (by kernel_rfl) (by kernel_rfl) (by kernel_rfl) (e:=Extern.BytealgIndexByte.indexByte) (by kernel_rfl),Lib.run_indexByteString]
 simp only [Result.andThen]
 rw [Oper.upon_value]
 go_wp2
 go_ret
 exact ⟨rfl,rfl⟩
theorem slindex_one (s:ByteArray) (c:UInt8) (w:World) :
 Calls Tryz.prog 99 #[.string s,.string ⟨#[c]⟩] w fun e w'=>e=.returned (.int .i64 (Lib.indexByte s.data.toList c))∧w'=w:=by
 go_enter Tryz.func99,Tryz.ntmps99
 go_wp2_with (go_at_call 116; refine (ibyte_any _ _ _).mono ?_; rintro e w' ⟨rfl,rfl⟩)
 ·have h:([c]==s.toList)=true:=by assumption
  go_ret
  refine ⟨?_,rfl⟩
  have e:s.data.toList=[c]:=by rw [← Lib.toList_data]; exact (beq_iff_eq.1 h).symm
  rw [e]
  simp [Lib.indexByte]
 ·go_ret
  exact ⟨rfl,rfl⟩
theorem index_one (s:ByteArray) (c:UInt8) (w:World) :
 Calls Tryz.prog 228 #[.string s,.string ⟨#[c]⟩] w fun e w'=>e=.returned (.int .i64 (Lib.indexByte s.data.toList c))∧w'=w:=by
 go_enter Tryz.func228,Tryz.ntmps228
 go_wp2_with (go_at_call 99; refine (slindex_one _ _ _).mono ?_; rintro e w' ⟨rfl,rfl⟩)
 go_ret
 exact ⟨rfl,rfl⟩
theorem idx_mem (c:UInt8):∀ l:List UInt8,decide (0≤Lib.indexByte l c)=decide (c ∈ l)
 | []=>by simp [Lib.indexByte]
 | x::r=>by
  have ih:=idx_mem c r
  have hge:=Lib.indexByte_ge r c
  unfold Lib.indexByte
  by_cases hx:x=c
  ·simp [hx]
  ·rw [if_neg (by simpa using hx)]
   have hx':¬ c=x:=fun e=>hx e.symm
   by_cases h1:Lib.indexByte r c=-1
   ·rw [if_pos (by simp [h1])]
    rw [h1] at ih
    simp at ih
    simp [hx',ih]
   ·rw [if_neg (by simpa using h1)]
    have h0:0≤Lib.indexByte r c:=by omega
    simp [h0] at ih
    simp [hx',ih]; omega
theorem contains_one (s:ByteArray) (c:UInt8) (w:World) :
 Calls Tryz.prog 220 #[.string s,.string ⟨#[c]⟩] w fun e w'=>e=.returned (.bool (decide (c ∈ s.data.toList)))∧w'=w:=by
 have HV:=hide (idx_mem c s.data.toList)
 go_enter Tryz.func220,Tryz.ntmps220
 go_wp2_with (go_at_call 228; refine (index_one _ _ _).mono ?_; rintro e w' ⟨rfl,rfl⟩)
 go_ret
 exact ⟨ret_bool HV.out,rfl⟩
theorem extract_from (s:ByteArray) (k:Nat):s.extract k s.size=bs (s.data.toList.drop k):=by
 rw [Lib.extract_eq,Lib.size_eq,List.take_of_length_le (by simp)]; rfl
theorem extract_upto (s:ByteArray) (k:Nat):s.extract 0 k=bs (s.data.toList.take k):=by
 rw [Lib.extract_eq]; simp [bs]
theorem slcut_one (s:ByteArray) (c:UInt8) (w:World) (hs:s.size≤140737488355328) :
 Calls Tryz.prog 81 #[.string s,.string ⟨#[c]⟩] w fun e w'=>e=.returned (.tuple #[.string (bs (cutL c s.data.toList).1),.string (bs (cutL c s.data.toList).2.1),.bool (cutL c s.data.toList).2.2])∧∃ n,w'=w.drewN n:=by
 have hge:=Lib.indexByte_ge s.data.toList c
 by_cases h:Lib.indexByte s.data.toList c=-1
 ·have HV:=hide (cut_miss c _ h)
  have HI:=hide h
  clear hge h
  go_enter Tryz.func81,Tryz.ntmps81
  go_wp2_with fail
  refine (slindex_one _ _ _).mono ?_
  rintro e w' ⟨rfl,rfl⟩
  rw [HI.out]
  go_wp2
  go_ret3
  refine ⟨?_,0,rfl⟩
  rw [HV.out,bs_of]; rfl
 ·obtain ⟨i,hi⟩:∃ i:Nat,Lib.indexByte s.data.toList c=(i:Int):=⟨(Lib.indexByte s.data.toList c).toNat,by omega⟩
  have hb:=cut_bound c _ i hi
  rw [size_len] at hb
  have HV:=hide (cut_hit c _ i hi)
  have HI:=hide hi
  have e1:=extract_upto s i
  have e2:=extract_from s (i+1)
  replace e1:=hide e1
  replace e2:=hide e2
  clear hge h hi
  go_enter Tryz.func81,Tryz.ntmps81
  go_wp2_with fail
  refine (slindex_one _ _ _).mono ?_
  rintro e w' ⟨rfl,rfl⟩
  rw [HI.out]
  go_wp2
  go_region
  all_goals go_wp2
  all_goals go_ret3
  all_goals refine ⟨?_,_,rfl⟩
  all_goals rw [HV.out]
  all_goals simp only [← e1.out,← e2.out]
  all_goals rfl
theorem cut_one (s:ByteArray) (c:UInt8) (w:World) (hs:s.size≤140737488355328) :
 Calls Tryz.prog 40 #[.string s,.string ⟨#[c]⟩] w fun e w'=>e=.returned (.tuple #[.string (bs (cutL c s.data.toList).1),.string (bs (cutL c s.data.toList).2.1),.bool (cutL c s.data.toList).2.2])∧∃ n,w'=w.drewN n:=by
 go_enter Tryz.func40,Tryz.ntmps40
 go_wp2_with (go_at_call 81; refine (slcut_one s c _ hs).mono ?_; rintro e w' ⟨rfl,n,rfl⟩)
 go_ret3
 exact ⟨rfl,n,rfl⟩
open Go.RowKit
def strSize:Value→Nat
 | .string t=>t.size
 | _=>0
theorem trimL_cons (x:UInt8) (r:List UInt8):trimL (x::r)=if x=32 then trimL r else x::r:=by
 by_cases h:x=32
 ·simp [trimL,h]
 ·simp [trimL,h]
theorem head_drop {t:ByteArray} (h0:0 < t.size):t.data.toList=t[0]::t.data.toList.drop 1:=by
 have:0 < t.data.toList.length:=by rw [size_len]; exact h0
 cases h:t.data.toList with
 | nil=>rw [h] at this; simp at this
 | cons x r =>
  have hx:t[0]=x:=by
   show t.data[0]=x
   have e:t.data[0]'(by simpa using this)=t.data.toList[0]'this:=by simp
   rw [e]; simp [h]
  simp [hx]
theorem last_take {t:ByteArray} (h0:0 < t.size):t.data.toList=t.data.toList.take (t.size - 1)++[t[t.size - 1]]:=by
 have hl:=size_len t
 have hi:t.size - 1 < t.data.toList.length:=by omega
 have e:t[t.size - 1]=t.data.toList[t.size - 1]'hi:=by
  show t.data[t.size - 1]=_
  simp
 rw [e,← List.take_succ_eq_append_getElem hi,show t.size - 1+1=t.data.toList.length by omega,List.take_length]
theorem trimL_stop {t:ByteArray} (h0:0 < t.size) (h:((t[0].toNat:Int)==32)=false):trimL t.data.toList=t.data.toList:=by
 rw [head_drop h0,trimL_cons,if_neg]
 intro e; rw [e] at h; simp at h
theorem trimL_step {t:ByteArray} (h0:0 < t.size) (h:((t[0].toNat:Int)==32)=true):trimL (t.extract 1 t.size).data.toList=trimL t.data.toList:=by
 have h1:t[0]=32:=by
  have:t[0].toNat=32:=by have:=beq_iff_eq.1 h; omega
  exact UInt8.toNat.inj this
 rw [extract_from,bs_data]
 conv=>rhs; rw [head_drop h0,trimL_cons,if_pos h1]
theorem trimL_empty {t:ByteArray} (h0:¬ 0 < t.size):trimL t.data.toList=t.data.toList:=by
 have:t.data.toList=[]:=List.eq_nil_of_length_eq_zero (by rw [size_len]; omega)
 rw [this]; rfl
theorem trimR_snoc (r:List UInt8) (x:UInt8):trimR (r++[x])=if x=32 then trimR r else r++[x]:=by
 unfold trimR
 rw [List.reverse_append,List.reverse_singleton,List.singleton_append,trimL_cons]
 by_cases h:x=32
 ·simp [h]
 ·simp [h]
theorem trimR_stop {t:ByteArray} {m:Nat} (hm:t.size=m+1) (h:((t[m].toNat:Int)==32)=false):trimR t.data.toList=t.data.toList:=by
 have e0:=last_take (t:=t) (by omega)
 have e1:t[t.size - 1]=t[m]:=by congr 1; omega
 rw [e1] at e0
 conv=>lhs; rw [e0,trimR_snoc]
 rw [if_neg,← e0]
 intro e; rw [e] at h; simp at h
theorem trimR_step {t:ByteArray} {m:Nat} (hm:t.size=m+1) (h:((t[m].toNat:Int)==32)=true):trimR (t.extract 0 m).data.toList=trimR t.data.toList:=by
 have e0:=last_take (t:=t) (by omega)
 have e1:t[t.size - 1]=t[m]:=by congr 1; omega
 rw [e1,show t.size - 1=m by omega] at e0
 have h1:t[m]=32:=by
  have:t[m].toNat=32:=by have:=beq_iff_eq.1 h; omega
  exact UInt8.toNat.inj this
 rw [extract_upto,bs_data]
 conv=>rhs; rw [e0,trimR_snoc,if_pos h1]
theorem trimR_empty {t:ByteArray} (h0:¬ 0 < t.size):trimR t.data.toList=t.data.toList:=by
 have:t.data.toList=[]:=List.eq_nil_of_length_eq_zero (by rw [size_len]; omega)
 rw [this]; rfl
theorem trimL_len (l:List UInt8):(trimL l).length≤l.length:=by
 induction l with
 | nil=>simp [trimL]
 | cons x r ih=>rw [trimL_cons]; split <;> simp <;> omega
theorem trimR_len (l:List UInt8):(trimR l).length≤l.length:=by
 have:=trimL_len l.reverse
 simpa [trimR] using this
theorem tlbyte_any (s:ByteArray) (w:World) (hs:s.size≤140737488355328) :
 Calls Tryz.prog 176 #[.string s,.int .u8 32] w fun e w'=>e=.returned (.string (bs (trimL s.data.toList)))∧w'=w:=by
 go_enter Tryz.func176,Tryz.ntmps176
 go_wp2
 go_loop [0] (fun v=>∃ t:ByteArray,v=.string t∧t.size≤s.size∧Hid (trimL t.data.toList=trimL s.data.toList)) (fun v=>strSize v)
 case atStart=>exact ⟨s,rfl,Nat.le_refl _,rfl⟩
 case round =>
  obtain ⟨t,rfl,ht,HT⟩:=hrel
  by_cases h0:0 < t.size
  ·cases hb:((t[0].toNat:Int)==32)
   ·have HD:=hide (trimL_stop h0 hb)
    go_wp2
    go_ret
    exact ⟨ret_str (by rw [← HT.out,HD.out,bs_of]),rfl⟩
   ·have HD:=hide (trimL_step h0 hb)
    go_wp2
    exact ⟨⟨_,rfl,by simp; omega,HD.out.trans HT.out⟩,by simp [strSize]; omega⟩
  ·have HD:=hide (trimL_empty h0)
   go_wp2
   go_ret
   exact ⟨ret_str (by rw [← HT.out,HD.out,bs_of]),rfl⟩
theorem trbyte_any (s:ByteArray) (w:World) (hs:s.size≤140737488355328) :
 Calls Tryz.prog 177 #[.string s,.int .u8 32] w fun e w'=>e=.returned (.string (bs (trimR s.data.toList)))∧w'=w:=by
 go_enter Tryz.func177,Tryz.ntmps177
 go_wp2
 go_loop [0] (fun v=>∃ t:ByteArray,v=.string t∧t.size≤s.size∧Hid (trimR t.data.toList=trimR s.data.toList)) (fun v=>strSize v)
 case atStart=>exact ⟨s,rfl,Nat.le_refl _,rfl⟩
 case round =>
  obtain ⟨t,rfl,ht,HT⟩:=hrel
  by_cases h0:0 < t.size
  ·obtain ⟨m,hm⟩:∃ m:Nat,t.size=m+1:=⟨t.size - 1,by omega⟩
   cases hb:((t[m].toNat:Int)==32)
   ·have HD:=hide (trimR_stop hm hb)
    go_wp2
    go_ret
    exact ⟨ret_str (by rw [← HT.out,HD.out,bs_of]),rfl⟩
   ·have HD:=hide (trimR_step hm hb)
    go_wp2
    exact ⟨⟨_,rfl,by simp; omega,HD.out.trans HT.out⟩,by simp [strSize]; omega⟩
  ·have HD:=hide (trimR_empty h0)
   go_wp2
   go_ret
   exact ⟨ret_str (by rw [← HT.out,HD.out,bs_of]),rfl⟩
open Go.RowKit
def numA (l:List UInt8):Int × Bool:=match numL l with | some n=>((n:Int),true) | none=>(0,false)
theorem ret_num {n m:Int} {a b:Bool} (h:(n,a)=(m,b)):Ending.returned (.tuple #[.int .i64 n,.bool a])=.returned (.tuple #[.int .i64 m,.bool b]):=by
 simp at h; rw [h.1,h.2]
theorem numA_one (a:UInt8):numA [a]=if 49≤a.toNat∧a.toNat≤57 then ((a.toNat:Int) - 48,true) else (0,false):=by
 unfold numA numL
 by_cases h:49≤a.toNat∧a.toNat≤57
 ·simp [h]; omega
 ·simp [h]
theorem numA_two (a b:UInt8):numA [a,b]=if 49≤a.toNat∧a.toNat≤57∧48≤b.toNat∧b.toNat≤57 then (((a.toNat:Int) - 48)*10+((b.toNat:Int) - 48),true) else (0,false):=by
 unfold numA numL
 by_cases h:49≤a.toNat∧a.toNat≤57∧48≤b.toNat∧b.toNat≤57
 ·simp [h]; omega
 ·simp [h]
theorem numA_long {l:List UInt8} (h:2 < l.length):numA l=(0,false):=by
 match l,h with
 | a::b::c::r,_=>rfl
theorem number_any (s:ByteArray) (w:World) (hs:s.size≤140737488355328) :
 Calls Tryz.prog 221 #[.string s] w fun e w'=>e=.returned (.tuple #[.int .i64 (numA s.data.toList).1,.bool (numA s.data.toList).2])∧w'=w:=by
 by_cases h2:2 < s.size
 ·have HV:=hide (numA_long (l:=s.data.toList) (by rw [size_len]; exact h2))
  have h0:s.toList.isEmpty=false:=by
   rw [Lib.toList_data]
   cases h:s.data.toList with
   | nil=>have:=size_len s; rw [h] at this; simp at this; omega
   | cons x r=>rfl
  go_enter Tryz.func221,Tryz.ntmps221
  go_wp2
  go_ret2
  exact ⟨ret_num HV.out.symm,rfl⟩
 ·obtain ⟨l,rfl⟩:∃ l:List UInt8,s=bs l:=⟨s.data.toList,(bs_of s).symm⟩
  rw [bs_size] at h2
  rw [bs_data]
  match l,h2 with
  | [],_ =>
   unfold bs
   go_enter Tryz.func221,Tryz.ntmps221
   go_wp2
   go_ret2
   exact ⟨rfl,rfl⟩
  | [a],_ =>
   have HV:=hide (numA_one a)
   have ha:=a.toNat_lt
   obtain ⟨x,hx⟩:∃ x:Nat,x=a.toNat:=⟨_,rfl⟩
   rw [← hx] at ha HV
   have hg:∀ h,((⟨#[a]⟩:ByteArray)[0]'h).toNat=x:=fun _=>hx.symm
   have hz:(⟨#[a]⟩:ByteArray).size=1:=rfl
   have hl:(⟨#[a]⟩:ByteArray).toList.isEmpty=false:=by rw [Lib.toList_data]; rfl
   show Calls Tryz.prog 221 #[.string ⟨#[a]⟩] w _
   generalize (⟨#[a]⟩:ByteArray)=t at hg hz hl
   clear hx
   by_cases h48:x=48
   ·subst h48
    go_enter Tryz.func221,Tryz.ntmps221
    go_wp2
    go_ret2
    exact ⟨ret_num (by rw [HV.out]; rfl),rfl⟩
   ·have hb48:((x:Int)==48)=false:=by simp; omega
    go_enter Tryz.func221,Tryz.ntmps221
    go_wp2
    go_rounds 2
    all_goals go_ret2
    all_goals refine ⟨ret_num ?_,rfl⟩
    all_goals rw [HV.out]
    all_goals first | (rw [if_pos (by omega)]; done) | (rw [if_pos (by omega)]; simp; done) | (rw [if_neg (by omega)]; done) | (rw [if_pos (by omega)]; simp; omega)
  | [a,b],_ =>
   have HV:=hide (numA_two a b)
   have ha:=a.toNat_lt
   have hb:=b.toNat_lt
   obtain ⟨x,hx⟩:∃ x:Nat,x=a.toNat:=⟨_,rfl⟩
   obtain ⟨y,hy⟩:∃ y:Nat,y=b.toNat:=⟨_,rfl⟩
   rw [← hx] at ha HV
   rw [← hy] at hb HV
   have hg:∀ h,((⟨#[a,b]⟩:ByteArray)[0]'h).toNat=x:=fun _=>hx.symm
   have hg1:∀ h,((⟨#[a,b]⟩:ByteArray)[1]'h).toNat=y:=fun _=>hy.symm
   have hz:(⟨#[a,b]⟩:ByteArray).size=2:=rfl
   have hl:(⟨#[a,b]⟩:ByteArray).toList.isEmpty=false:=by rw [Lib.toList_data]; rfl
   show Calls Tryz.prog 221 #[.string ⟨#[a,b]⟩] w _
   generalize (⟨#[a,b]⟩:ByteArray)=t at hg hg1 hz hl
   clear hx hy
   by_cases h48:x=48
   ·subst h48
    go_enter Tryz.func221,Tryz.ntmps221
    go_wp2
    go_ret2
    exact ⟨ret_num (by rw [HV.out]; rfl),rfl⟩
   ·have hb48:((x:Int)==48)=false:=by simp; omega
    go_enter Tryz.func221,Tryz.ntmps221
    go_wp2
    go_rounds 3
    all_goals go_ret2
    all_goals refine ⟨ret_num ?_,rfl⟩
    all_goals rw [HV.out]
    all_goals first | (rw [if_pos (by omega)]; done) | (rw [if_pos (by omega)]; simp; done) | (rw [if_neg (by omega)]; done) | (rw [if_pos (by omega)]; simp; omega)
  | a::b::c::r,h2=>exact absurd (by simp) h2
open Go.RowKit
theorem bsl (l:List UInt8):(bs l).toList=l:=by rw [Lib.toList_data,bs_data]
theorem isEmpty_nil' {s:ByteArray} (h:s.toList.isEmpty=true):s.data.toList=[]:=by
 rw [Lib.toList_data] at h; exact List.isEmpty_iff.1 h
def nounA (o:Option (Nat × List UInt8 × Bool)):Value:=match o with
 | some (n,name,every)=>.tuple #[.int .i64 (n:Int),.string (bs name),.bool every,.int .i64 0]
 | none=>.tuple #[.int .i64 0,.string (bs []),.bool false,.int .i64 1]
theorem res4 {fn:Func} {a b c d:Tmp} (hf:fn.results=#[.tmp a,.tmp b,.tmp c,.tmp d]) {tmps:Array Value} {w:World} {x y z u:Value}
 (h1:tmps.getD a undef=x) (h2:tmps.getD b undef=y) (h3:tmps.getD c undef=z) (h4:tmps.getD d undef=u) :
 (results fn tmps).run Tryz.prog w=.ok (.tuple #[x,y,z,u]) w:=by
 simp only [Array.getD_eq_getD_getElem?] at h1 h2 h3 h4
 simp only [results,hf]
 simp [h1,h2,h3,h4]
theorem numA_some {l:List UInt8} {n:Nat} (h:numL l=some n):numA l=((n:Int),true):=by simp [numA,h]
theorem numA_none {l:List UInt8} (h:numL l=none):numA l=(0,false):=by simp [numA,h]
theorem noun_plain (s:ByteArray) (w:World) (hs:s.size≤140737488355328) (ha:(s.toList==[97,108,108])=false) (hd:(cutL 46 s.data.toList).2.2=false) :
 Calls Tryz.prog 207 #[.string s] w fun e w'=>e=.returned (nounA (nounL s.data.toList))∧∃ n,w'=w.drewN n:=by
 have hna:¬ s.data.toList=allW:=by
  intro e; rw [Lib.toList_data,e] at ha; simp [allW] at ha
 have C1:=hide (fun w'=>cut_one s 46 w' hs)
 have HN:=hide (show nounL s.data.toList=nounT [49] s.data.toList by simp [nounL,hna,hd])
 rw [hd] at C1
 generalize (cutL 46 s.data.toList).1=A at C1
 generalize (cutL 46 s.data.toList).2.1=B at C1
 clear hd
 have C2:=hide (fun w'=>contains_one s 46 w')
 have C3:=hide (fun w'=>number_any ⟨#[49]⟩ w' (by decide))
 cases he:s.toList.isEmpty
 ·have hne:¬ s.data.toList=[]:=by intro e; rw [Lib.toList_data,e] at he; simp at he
  cases hm:decide (46 ∈ s.data.toList)
  ·have hm':¬ 46 ∈ s.data.toList:=by simpa using hm
   have HT:=hide (show nounT [49] s.data.toList=some (1,s.data.toList,false) by simp [nounT,hne,hm',allW,numL])
   rw [hm] at C2
   clear hm hm' hne hna
   go_enter Tryz.func207,Tryz.ntmps207
   go_wp2_with (first | (go_at_call 40; refine (C1.out _).mono ?_; rintro e w' ⟨rfl,n,rfl⟩) | (go_at_call 220; refine (C2.out _).mono ?_; rintro e w' ⟨rfl,rfl⟩) | (go_at_call 221; refine (C3.out _).mono ?_; rintro e w' ⟨rfl,rfl⟩))
   refine bodyPost_ret (res4 rfl rfl rfl rfl rfl) rfl ?_
   exact ⟨ret_any (by rw [HN.out,HT.out]; show _=Value.tuple _; rw [bs_of]; rfl),n,rfl⟩
  ·have hm':46 ∈ s.data.toList:=by simpa using hm
   have HT:=hide (show nounT [49] s.data.toList=none by simp [nounT,hm'])
   rw [hm] at C2
   clear hm hm' hne hna
   go_enter Tryz.func207,Tryz.ntmps207
   go_wp2_with (first | (go_at_call 40; refine (C1.out _).mono ?_; rintro e w' ⟨rfl,n,rfl⟩) | (go_at_call 220; refine (C2.out _).mono ?_; rintro e w' ⟨rfl,rfl⟩) | (go_at_call 221; refine (C3.out _).mono ?_; rintro e w' ⟨rfl,rfl⟩))
   refine bodyPost_ret (res4 rfl rfl rfl rfl rfl) rfl ?_
   exact ⟨ret_any (by rw [HN.out,HT.out]; rfl),n,rfl⟩
 ·have hne:s.data.toList=[]:=isEmpty_nil' he
  have HT:=hide (show nounT [49] s.data.toList=none by simp [nounT,hne])
  clear hne hna
  go_enter Tryz.func207,Tryz.ntmps207
  go_wp2_with (first | (go_at_call 40; refine (C1.out _).mono ?_; rintro e w' ⟨rfl,n,rfl⟩) | (go_at_call 220; refine (C2.out _).mono ?_; rintro e w' ⟨rfl,rfl⟩) | (go_at_call 221; refine (C3.out _).mono ?_; rintro e w' ⟨rfl,rfl⟩))
  refine bodyPost_ret (res4 rfl rfl rfl rfl rfl) rfl ?_
  exact ⟨ret_any (by rw [HN.out,HT.out]; rfl),n,rfl⟩
theorem noun_dotted (s:ByteArray) (w:World) (hs:s.size≤140737488355328) (ha:(s.toList==[97,108,108])=false) (hd:(cutL 46 s.data.toList).2.2=true) :
 Calls Tryz.prog 207 #[.string s] w fun e w'=>e=.returned (nounA (nounL s.data.toList))∧∃ n,w'=w.drewN n:=by
 have hna:¬ s.data.toList=allW:=by
  intro e; rw [Lib.toList_data,e] at ha; simp [allW] at ha
 have C1:=hide (fun w'=>cut_one s 46 w' hs)
 have hcl:=cut_len 46 s.data.toList
 rw [size_len] at hcl
 have HN:=hide (show nounL s.data.toList=nounT (cutL 46 s.data.toList).1 (cutL 46 s.data.toList).2.1 by simp [nounL,hna,hd])
 rw [hd] at C1
 generalize (cutL 46 s.data.toList).1=A at C1 HN hcl
 generalize (cutL 46 s.data.toList).2.1=B at C1 HN hcl
 clear hd hna
 have hsA:(bs A).size≤140737488355328:=by rw [bs_size]; omega
 have C2:=hide (fun w'=>contains_one (bs B) 46 w')
 have C3:=hide (fun w'=>number_any (bs A) w' hsA)
 rw [bs_data] at C2 C3
 have hbt:=bsl
 clear hcl hsA
 cases he:B.isEmpty
 ·have hne:¬ B=[]:=by intro e; rw [e] at he; simp at he
  cases hm:decide (46 ∈ B)
  ·have hm':¬ 46 ∈ B:=by simpa using hm
   rw [hm] at C2
   cases hA:(A==[97,108,108])
   ·have hA':¬ A=allW:=by intro e; rw [e] at hA; simp [allW] at hA
    cases hn:numL A with
    | none =>
     have HT:=hide (show nounT A B=none by simp [nounT,hne,hm',hA',hn])
     rw [numA_none hn] at C3
     clear hm hm' hne hA' hn
     go_enter Tryz.func207,Tryz.ntmps207
     go_wp2_with (first | (go_at_call 40; refine (C1.out _).mono ?_; rintro e w' ⟨rfl,n,rfl⟩) | (go_at_call 220; refine (C2.out _).mono ?_; rintro e w' ⟨rfl,rfl⟩) | (go_at_call 221; refine (C3.out _).mono ?_; rintro e w' ⟨rfl,rfl⟩))
     refine bodyPost_ret (res4 rfl rfl rfl rfl rfl) rfl ?_
     exact ⟨ret_any (by rw [HN.out,HT.out]; rfl),n,rfl⟩
    | some k =>
     have HT:=hide (show nounT A B=some (k,B,false) by simp [nounT,hne,hm',hA',hn])
     rw [numA_some hn] at C3
     clear hm hm' hne hA' hn
     go_enter Tryz.func207,Tryz.ntmps207
     go_wp2_with (first | (go_at_call 40; refine (C1.out _).mono ?_; rintro e w' ⟨rfl,n,rfl⟩) | (go_at_call 220; refine (C2.out _).mono ?_; rintro e w' ⟨rfl,rfl⟩) | (go_at_call 221; refine (C3.out _).mono ?_; rintro e w' ⟨rfl,rfl⟩))
     refine bodyPost_ret (res4 rfl rfl rfl rfl rfl) rfl ?_
     exact ⟨ret_any (by rw [HN.out,HT.out]; rfl),n,rfl⟩
   ·have hA':A=allW:=by simpa [allW] using hA
    have HT:=hide (show nounT A B=some (1,B,true) by simp [nounT,hne,hm',hA'])
    clear hm hm' hne hA'
    go_enter Tryz.func207,Tryz.ntmps207
    go_wp2_with (first | (go_at_call 40; refine (C1.out _).mono ?_; rintro e w' ⟨rfl,n,rfl⟩) | (go_at_call 220; refine (C2.out _).mono ?_; rintro e w' ⟨rfl,rfl⟩) | (go_at_call 221; refine (C3.out _).mono ?_; rintro e w' ⟨rfl,rfl⟩))
    refine bodyPost_ret (res4 rfl rfl rfl rfl rfl) rfl ?_
    exact ⟨ret_any (by rw [HN.out,HT.out]; rfl),n,rfl⟩
  ·have hm':46 ∈ B:=by simpa using hm
   have HT:=hide (show nounT A B=none by simp [nounT,hm'])
   rw [hm] at C2
   clear hm hm' hne
   go_enter Tryz.func207,Tryz.ntmps207
   go_wp2_with (first | (go_at_call 40; refine (C1.out _).mono ?_; rintro e w' ⟨rfl,n,rfl⟩) | (go_at_call 220; refine (C2.out _).mono ?_; rintro e w' ⟨rfl,rfl⟩) | (go_at_call 221; refine (C3.out _).mono ?_; rintro e w' ⟨rfl,rfl⟩))
   refine bodyPost_ret (res4 rfl rfl rfl rfl rfl) rfl ?_
   exact ⟨ret_any (by rw [HN.out,HT.out]; rfl),n,rfl⟩
 ·have hne:B=[]:=List.isEmpty_iff.1 he
  have HT:=hide (show nounT A B=none by simp [nounT,hne])
  clear hne
  go_enter Tryz.func207,Tryz.ntmps207
  go_wp2_with (first | (go_at_call 40; refine (C1.out _).mono ?_; rintro e w' ⟨rfl,n,rfl⟩) | (go_at_call 220; refine (C2.out _).mono ?_; rintro e w' ⟨rfl,rfl⟩) | (go_at_call 221; refine (C3.out _).mono ?_; rintro e w' ⟨rfl,rfl⟩))
  refine bodyPost_ret (res4 rfl rfl rfl rfl rfl) rfl ?_
  exact ⟨ret_any (by rw [HN.out,HT.out]; rfl),n,rfl⟩
theorem noun_any (s:ByteArray) (w:World) (hs:s.size≤140737488355328) :
 Calls Tryz.prog 207 #[.string s] w fun e w'=>e=.returned (nounA (nounL s.data.toList))∧∃ n,w'=w.drewN n:=by
 cases ha:(s.toList==[97,108,108])
 ·cases hd:(cutL 46 s.data.toList).2.2
  ·exact noun_plain s w hs ha hd
  ·exact noun_dotted s w hs ha hd
 ·have HT:=hide (show nounL s.data.toList=some (1,[],true) by
   have:s.data.toList=allW:=by rw [Lib.toList_data] at ha; simpa [allW] using ha
   simp [nounL,this])
  go_enter Tryz.func207,Tryz.ntmps207
  go_wp2
  refine bodyPost_ret (res4 rfl rfl rfl rfl rfl) rfl ?_
  exact ⟨ret_any (by rw [HT.out]; rfl),0,rfl⟩
open Go.RowKit
theorem wl_append_none {ops:Array Oper} {rest:List Oper} {o:Oper} {a:Act} {w:World} {Q:Exit→Act→World→Prop} (s x:Operand) (ho:o.op=.call { callee:=.builtin .append,args:=#[s,x],argTypes:=#[116,116] }) (hw:Region.wanted o (yielded ops a.tmps)=true)
 (base:Nat) (v:Value) (q:List Int) (hs:a.eval s=v) (hown:OwnI base w v q) (hx:a.eval x=.slice none 0 0) (h:wpList Tryz.prog ops Q rest (a.put o.dst v) w):wpList Tryz.prog ops Q (o::rest) a w:=by
 obtain ⟨i0,hi0,hz0,hz1,hz2⟩:=info_parts Tryz.info3
 refine wl_wanted hw ?_
 have hr:=run_append_owned_none (P:=Tryz.prog) (w:=w) base 116 o.type 3 i0 1 Tryz.underlying116 hi0 v q.length (icells q) hown
 unfold Oper.wp execOp
 simp only [ho,resolve,invoke,builtin,Sem.run_bind,Sem.run_pure,Result.andThen_ok,List.map_toArray,List.map_cons,List.map_nil,hs,hx,hr]
 exact h
theorem reach_any {w0:World} {L:Ld} {Es:List Ev} {w:World} (hS:Sn 172 [] w0 L Es w) (b:Nat) (hb:b < 6) :
 Calls Tryz.prog 201 #[.pointer (some ⟨w0.heap.size,0,none⟩),.int .i64 (b:Int)] w fun e w'=>∃ v,e=.returned v∧OwnI w.heap.size w' v (reachL L b)∧Below w.heap.size w w':=by
 obtain ⟨i0,hi0,hz0,hz1,hz2⟩:=info_parts Tryz.info3
 go_enter Tryz.func201,Tryz.ntmps201
 go_wp2_with fail
 refine (rhand_any hS b).mono ?_
 rintro e w1 ⟨v1,rfl,ho1,hb1⟩
 have S1:=hide (hS.below hb1)
 have B1:=hide hb1
 have O1:=hide ho1
 obtain ⟨av1,cap1,rfl⟩:=ho1.shape
 clear ho1 hb1
 go_wp2_with fail
 refine (sight_any S1.out b hb).mono ?_
 rintro e w2 ⟨v2,rfl,ho2,hb2⟩
 have B2:=hide (B1.out.trans (hb2.mono B1.out.size))
 have O2:=hide (O1.out.below hb2)
 have hl1:=hand_len L b
 have hl2:=sight_len L b
 have HR:=hide (show reachL L b=handL L b++sightL L b from rfl)
 have hz:=B2.out.size
 generalize handL L b=q1 at *
 rcases ho2.2 with ⟨rfl,h0⟩ | ⟨g,cap2,cur,rfl,h1,h2,h3,h4,h5,h6⟩
 ·have hq:sightL L b=[]:=List.eq_nil_of_length_eq_zero h0
  rw [hq] at HR
  clear h0 hq ho2 hb2 S1 B1 O1 hS
  go_wp2_with (refine wl_append_none (.tmp 7) (.tmp 10) rfl rfl w.heap.size _ q1 rfl O2.out rfl ?_)
  go_ret
  exact ⟨_,rfl,by rw [HR.out,List.append_nil]; exact O2.out,B2.out⟩
 ·have HC:=hide (show ∀ j u,(icells (sightL L b))[j]?=some u→w2.cell? ((⟨g,0,none⟩:Addr).add j)=some u from ho2.cells rfl)
  clear ho2 hb2 S1 B1 O1 hS h1 h2 h3 h4 h5 h6
  generalize sightL L b=q2 at *
  go_wp2_with (at_builtin; refine wpList_append_own_at _ rfl (.tmp 7) (.tmp 10) 116 rfl w.heap.size 3 i0 (.int .i64 0) 1 8 Tryz.underlying116 hi0 hz0 hz1 hz2 rfl (by decide) _ q1.length (icells q1) rfl O2.out ⟨g,0,none⟩ q2.length cap2 (icells q2) rfl ?a1 HC.out ?a3 ?a4 ?a5 ?a6 ?_)
  case a1=>simp [icells_length]
  case a3=>intro u hu; simp only [icells,List.mem_map] at hu; obtain ⟨n,_,rfl⟩:=hu; rfl
  case a4=>unfold maxLen; omega
  case a5=>omega
  case a6=>exact hz
  intro v' w3 hoo hg _ _
  have A:Hid (OwnI w.heap.size w3 v' (q1++q2)):=by
   show w3.ownsRow _ _ _ _ _ _
   simpa [icells] using hoo
  have B:Hid (Below w.heap.size w w3):=B2.out.grown hg hz (fun k hk=>(O2.out.lt k (by simpa using hk)).1)
  obtain ⟨av',cap',rfl⟩:=A.out.shape
  clear hoo hg
  go_wp2
  go_ret
  exact ⟨_,rfl,by rw [HR.out]; exact A.out,B.out⟩
def seenP (L:Ld) (b:Nat) (name:ByteArray) (c:Nat):Bool:=decide (L.bname c=name)&&seesO L b c
def seenK (L:Ld) (b:Nat) (name:ByteArray) (k:Nat):List Int:=((List.range k).filter (seenP L b name)).map Int.ofNat
theorem seen_yes {L:Ld} {b k:Nat} {name:ByteArray} (h:seenP L b name k=true):seenK L b name (k+1)=seenK L b name k++[(k:Int)]:=by
 simp [seenK,List.range_succ,List.filter_append,h]
theorem seen_no {L:Ld} {b k:Nat} {name:ByteArray} (h:seenP L b name k=false):seenK L b name (k+1)=seenK L b name k:=by
 simp [seenK,List.range_succ,List.filter_append,h]
theorem seen_len (L:Ld) (b:Nat) (name:ByteArray) (k:Nat):(seenK L b name k).length≤k:=by
 unfold seenK
 rw [List.length_map]
 exact Nat.le_trans (List.length_filter_le ..) (by simp)
theorem seen_mem {L:Ld} {b k:Nat} {name:ByteArray} {x:Int} (h:x ∈ seenK L b name k):∃ c:Nat,x=(c:Int)∧c < k∧seenP L b name c=true:=by
 unfold seenK at h
 rw [List.mem_map] at h
 obtain ⟨i,hi,rfl⟩:=h
 rw [List.mem_filter] at hi
 exact ⟨i,rfl,by simpa using hi.1,hi.2⟩
theorem rseen_any {w0:World} {L:Ld} {Es:List Ev} {w:World} (hS:Sn 172 [] w0 L Es w) (b:Nat) (name:ByteArray) :
 Calls Tryz.prog 218 #[.pointer (some ⟨w0.heap.size,0,none⟩),.int .i64 (b:Int),.string name] w fun e w'=>∃ v,e=.returned v∧OwnI w.heap.size w' v (seenK L b name 6)∧Below w.heap.size w w':=by
 obtain ⟨i0,hi0,hz0,hz1,hz2⟩:=info_parts Tryz.info3
 have HS:=hide hS
 clear hS
 go_enter Tryz.func218,Tryz.ntmps218
 go_wp2
 go_loopw [7,9] (fun u c wr=>∃ k:Nat,k≤6∧c=.int .i64 k∧OwnI w.heap.size wr u (seenK L b name k)∧Below w.heap.size w wr) (fun _ c _=>6 - (intOf c).toNat)
 case atStart=>exact ⟨0,by omega,rfl,ownI_nil _ _,Below.refl _ _⟩
 case round =>
  obtain ⟨k,hle,rfl,ho,hlow⟩:=hrel
  obtain ⟨av,cap,rfl⟩:=ho.shape
  have HO:=hide ho
  have HL:=hide hlow
  clear ho hlow
  by_cases hk:k < 6
  ·have hki:(k:Int) < 6:=by omega
   have SR:=hide (HS.out.below HL.out)
   have c0:=SR.out.being k 0 hk (by omega)
   simp only [Nat.add_zero,Ld.beingCell] at c0
   cases hx:decide (L.bname k=name) with
   | false =>
    have hxl:((L.bname k).toList==name.toList)=false:=by rw [toList_eq]; exact hx
    have HN:=hide (seen_no (L:=L) (b:=b) (k:=k) (name:=name) (by unfold seenP; rw [hx]; rfl))
    clear hx
    go_wp2
    go_roundw
    case rel=>exact ⟨k+1,by omega,by go_num,by rw [HN.out]; exact HO.out,HL.out⟩
    case measure=>simp [intOf]; omega
   | true =>
    have hxl:((L.bname k).toList==name.toList)=true:=by rw [toList_eq]; exact hx
    have HX:=hide hx
    clear hx
    go_wp2_with fail
    refine (seesOther_any SR.out b k).mono ?_
    rintro e w1 ⟨rfl,hb1⟩
    have HO1:=hide (HO.out.below hb1)
    have HL1:=hide (HL.out.trans (hb1.mono HL.out.size))
    clear hb1 c0 SR
    cases hy:seesO L b k with
    | false =>
     have HN:=hide (seen_no (L:=L) (b:=b) (k:=k) (name:=name) (by unfold seenP; rw [hy,Bool.and_false]))
     clear hy
     go_wp2
     go_roundw
     case rel=>exact ⟨k+1,by omega,by go_num,by rw [HN.out]; exact HO1.out,HL1.out⟩
     case measure=>simp [intOf]; omega
    | true =>
     have HN:=hide (seen_yes (L:=L) (b:=b) (k:=k) (name:=name) (by unfold seenP; rw [HX.out,hy]; rfl))
     have hlen:=seen_len L b name k
     have HOA:=hide (HO1.out.below (below_box w1 (.cells #[.int .i64 (k:Int)] 3)))
     have hsz:=HL1.out.size
     clear hy HO
     generalize seenK L b name k=Z at *
     go_wp2_with (at_builtin; refine wpList_append_own_at _ rfl (.tmp 28) (.tmp 30) 116 rfl w.heap.size 3 i0 (.int .i64 0) 1 8 Tryz.underlying116 hi0 hz0 hz1 hz2 rfl (by decide) _ Z.length (icells Z) rfl HOA.out ⟨_,0,none⟩ 1 1 [.int .i64 (k:Int)] rfl ?a1 ?a2 ?a3 ?a4 ?a5 ?a6 ?_)
     case a1=>rfl
     case a2=>exact cell_one_new _ _ _
     case a3=>intro u hu; simp at hu; subst hu; rfl
     case a4=>unfold maxLen; omega
     case a5=>omega
     case a6=>simp; omega
     intro v' w2 hoo hg _ _
     have A:Hid (OwnI w.heap.size w2 v' (Z++[(k:Int)])):=by
      show w2.ownsRow _ _ _ _ _ _
      simpa [icells] using hoo
     have B:Hid (Below w.heap.size w w2):=(HL1.out.alloc hsz _).grown hg (by simp; omega) (fun j hj=>(HOA.out.lt j (by simpa using hj)).1)
     obtain ⟨av',cap',rfl⟩:=A.out.shape
     clear hoo hg
     go_wp2
     go_roundw
     case rel=>exact ⟨k+1,by omega,by go_num,by rw [HN.out]; exact A.out,B.out⟩
     case measure=>simp [intOf]; omega
  ·have hk6:k=6:=by omega
   subst hk6
   go_wp2
   go_ret
   exact ⟨_,rfl,HO.out,HL.out⟩
end Go.Proofs.YtncgcejlkmoliaaGreatDoor
