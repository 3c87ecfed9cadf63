import Derived.Test.YtncgcejlkmoliaaGreatDoorMh10
set_option linter.unusedVariables false
set_option maxRecDepth 100000
set_option maxHeartbeats 16000000
namespace Go.Proofs.YtncgcejlkmoliaaGreatDoor
open Go.RowKit
theorem isEmpty_nil {s:ByteArray} (h:s.toList.isEmpty=true):s.data.toList=[]:=by
 rw [Lib.toList_data] at h; exact List.isEmpty_iff.1 h
theorem trimleft_any (s:ByteArray) (w:World) (hs:s.size≤140737488355328) :
 Calls Tryz.prog 206 #[.string s,.string ⟨#[32]⟩] w fun e w'=>e=.returned (.string (bs (trimL s.data.toList)))∧w'=w:=by
 cases h0:s.toList.isEmpty
 ·go_enter Tryz.func206,Tryz.ntmps206
  go_wp2_with (go_at_call 176; refine (tlbyte_any s _ hs).mono ?_; rintro e w' ⟨rfl,rfl⟩)
  go_ret
  exact ⟨rfl,rfl⟩
 ·have HE:=hide (isEmpty_nil h0)
  go_enter Tryz.func206,Tryz.ntmps206
  go_wp2
  go_ret
  refine ⟨ret_str ?_,rfl⟩
  rw [HE.out]; show s=bs []; rw [← HE.out,bs_of]
theorem trim_any (s:ByteArray) (w:World) (hs:s.size≤140737488355328) :
 Calls Tryz.prog 142 #[.string s,.string ⟨#[32]⟩] w fun e w'=>e=.returned (.string (bs (trimL (trimR s.data.toList))))∧∃ n,w'=w.drewN n:=by
 cases h0:s.toList.isEmpty
 ·have hb:(bs (trimR s.data.toList)).size≤140737488355328:=by
   rw [bs_size]; have:=trimR_len s.data.toList; rw [size_len] at this; omega
  have C1:=hide (fun w'=>trbyte_any s w' hs)
  have C2:=hide (fun w'=>tlbyte_any (bs (trimR s.data.toList)) w' hb)
  rw [bs_data] at C2
  clear hb
  go_enter Tryz.func142,Tryz.ntmps142
  go_wp2
  go_region_with (first | (go_at_call 177; refine (C1.out _).mono ?_; rintro e w' ⟨rfl,rfl⟩) | (go_at_call 176; refine (C2.out _).mono ?_; rintro e w' ⟨rfl,rfl⟩))
  all_goals go_wp2
  all_goals go_ret
  all_goals exact ⟨rfl,_,rfl⟩
 ·have HE:=hide (isEmpty_nil h0)
  go_enter Tryz.func142,Tryz.ntmps142
  go_wp2
  go_ret
  refine ⟨ret_str ?_,0,rfl⟩
  rw [HE.out]; show s=bs []; rw [← HE.out,bs_of]
open Go.RowKit
structure Lo (w0:World) (n:Nat) (l:List UInt8) (wr:World):Prop where
 lo:w0.heap.size≤n
 below:Below w0.heap.size w0 wr
 blk:∃ C t fr,wr.heap[n]?=some (.cells C t fr)∧l.length≤fr.1∧∀ j (hj:j < l.length),C[j]?=some (.int .u8 l[j].toNat)
section
variable {w0 wr:World} {n:Nat} {l:List UInt8}
theorem Lo.cell (h:Lo w0 n l wr) (j:Nat) (hj:j < l.length):wr.cell? ⟨n,j,none⟩=some (.int .u8 l[j].toNat):=by
 obtain ⟨C,t,fr,hb,_,hc⟩:=h.blk
 simp only [World.cell?,hb]
 exact hc j hj
theorem Lo.frozen (h:Lo w0 n l wr) (j:Nat) (hj:j < l.length):wr.frozen? ⟨n,j,none⟩=false:=by
 obtain ⟨C,t,fr,hb,hf,_⟩:=h.blk
 simp only [World.frozen?,hb]
 simp; omega
theorem Lo.lt (h:Lo w0 n l wr):n < wr.heap.size:=by
 obtain ⟨C,t,fr,hb,_⟩:=h.blk
 exact (Array.getElem?_eq_some_iff.1 hb).1
theorem Lo.put (h:Lo w0 n l wr) (j:Nat) (hj:j < l.length) (b:UInt8) {v:Value} (hv:v=.int .u8 b.toNat):Lo w0 n (l.set j b) (wr.setCell ⟨n,j,none⟩ v):=by
 subst hv
 refine ⟨h.lo,h.below.setCell h.lo _,?_⟩
 obtain ⟨C,t,fr,hb,hf,hc⟩:=h.blk
 refine ⟨C.setIfInBounds j (.int .u8 b.toNat),t,fr,?_,by simpa using hf,?_⟩
 ·rw [setCell_eq_setRow wr n j C t fr _ hb]; exact setRow_heap wr n C _ t _ hb
 ·intro i hi
  rw [List.length_set] at hi
  rw [Array.getElem?_setIfInBounds]
  by_cases e:j=i
  ·subst e
   have:j < C.size:=(Array.getElem?_eq_some_iff.1 (hc j hj)).1
   simp [this]
  ·rw [if_neg e,hc i hi]; simp [e]
end
def lowK (l:List UInt8) (k:Nat):List UInt8:=lowerL (l.take k)++l.drop k
theorem lowK_len (l:List UInt8) (k:Nat):(lowK l k).length=l.length:=by
 simp [lowK,lowerL]; omega
theorem lowK_zero (l:List UInt8):lowK l 0=l:=by simp [lowK,lowerL]
theorem lowK_all (l:List UInt8):lowK l l.length=lowerL l:=by simp [lowK]
theorem lowK_at (l:List UInt8) (k:Nat) (hk:k < l.length):(lowK l k)[k]'(by rw [lowK_len]; exact hk)=l[k]:=by
 unfold lowK
 rw [List.getElem_append_right (by simp [lowerL]; omega)]
 simp [lowerL,Nat.min_eq_left (Nat.le_of_lt hk)]
theorem lowK_step (l:List UInt8) (k:Nat) (hk:k < l.length):lowK l (k+1)=(lowK l k).set k (loB l[k]):=by
 have e1:l.drop k=l[k]::l.drop (k+1):=List.drop_eq_getElem_cons hk
 have e2:l.take (k+1)=l.take k++[l[k]]:=List.take_succ_eq_append_getElem hk
 have e3:(lowerL (l.take k)).length=k:=by simp [lowerL]; omega
 unfold lowK
 rw [e1,e2,List.set_append_right _ _ (by omega),e3,Nat.sub_self]
 unfold lowerL
 rw [List.map_append,List.append_assoc]
 rfl
theorem lowK_same (l:List UInt8) (k:Nat) (hk:k < l.length) (h:loB l[k]=l[k]):lowK l (k+1)=lowK l k:=by
 rw [lowK_step l k hk,h,← lowK_at l k hk,List.set_getElem_self]
theorem conv_back {w0 wr:World} {n cap m:Nat} {l:List UInt8} (h:Lo w0 n l wr) (hm:m=l.length) :
 (convert 123 9 (.slice (some ⟨n,0,none⟩) m cap)).run Tryz.prog wr=.ok (.string (bs l)) wr:=by
 subst hm
 exact run_convert_bytes_back wr 123 9 5 ⟨n,0,none⟩ cap l Tryz.underlying123 Tryz.underlying5 Tryz.underlying9 (fun j hj=>by
  rw [← h.cell j hj]
  by_cases h0:j=0
  ·subst h0; simp [Addr.add]
  ·simp [Addr.add,h0])
theorem conv_made (s:ByteArray) (w:World):∃ (cap:Nat) (o:Obj),(convert 9 123 (.string s)).run Tryz.prog w=.ok (.slice (some ⟨w.heap.size,0,none⟩) s.size cap) (w.drew.alloc o)∧Lo w w.heap.size s.data.toList (w.drew.alloc o):=by
 refine ⟨_,_,run_bytes_of_string w 9 123 5 s Tryz.underlying9 Tryz.underlying123 Tryz.underlying5,Nat.le_refl _,?_,?_⟩
 ·exact ⟨rfl,rfl,rfl,by show w.heap.size≤(w.heap.push _).size; simp,fun k hk=>by
   show (w.heap.push _)[k]?=w.heap[k]?
   rw [Array.getElem?_push,if_neg (by omega)]⟩
 ·refine ⟨_,_,_,heap_alloc_new w.drew _,?_,?_⟩
  ·show s.data.toList.length≤(bytesRow s _).size
   unfold bytesRow
   rw [Array.size_append,Array.size_map,Array.length_toList]; omega
  ·intro j hj
   have hj':j < s.data.size:=by rw [← Array.length_toList]; exact hj
   unfold bytesRow
   rw [Array.getElem?_append_left (by rw [Array.size_map]; exact hj'),Array.getElem?_map,Array.getElem?_eq_getElem hj']
   simp
theorem lo_byte (b:UInt8) (h1:65≤b.toNat) (h2:b.toNat≤90):((loB b).toNat:Int)=(b.toNat:Int)+32:=by
 unfold loB
 rw [if_pos ⟨h1,h2⟩,UInt8.toNat_add]
 have:(32:UInt8).toNat=32:=rfl
 omega
theorem lower_any (s:ByteArray) (w:World) (hs:s.size≤140737488355328) :
 Calls Tryz.prog 204 #[.string s] w fun e w'=>e=.returned (.string (bs (lowerL s.data.toList)))∧Below w.heap.size w w':=by
 obtain ⟨cap,o,hconv,hlo⟩:=conv_made s w
 have HL:=hide hlo
 have hsz:=hide (size_len s)
 clear hlo
 go_enter Tryz.func204,Tryz.ntmps204
 go_wp2
 clear hconv
 go_loopw [10] (fun i wr=>∃ k:Nat,k≤s.size∧i=.int .i64 k∧Lo w w.heap.size (lowK s.data.toList k) wr) (fun i _=>s.size - (intOf i).toNat)
 case atStart=>exact ⟨0,Nat.zero_le _,rfl,by rw [lowK_zero]; exact HL.out⟩
 case round =>
  obtain ⟨k,hk,rfl,hl⟩:=hrel
  by_cases hlt:k < s.size
  ·have hkl:k < s.data.toList.length:=by rw [hsz.out]; exact hlt
   have hkk:k < (lowK s.data.toList k).length:=by rw [lowK_len]; exact hkl
   have c1:=hl.cell k hkk
   rw [lowK_at _ _ hkl] at c1
   have hf:=hl.frozen k hkk
   have HK:=hide hl
   have hb:=(s.data.toList[k]).toNat_lt
   obtain ⟨cv,hcv⟩:∃ cv:Nat,cv=(s.data.toList[k]).toNat:=⟨_,rfl⟩
   rw [← hcv] at c1
   have HC:=hide hcv
   have hc256:cv < 256:=by omega
   clear hl hcv hb
   by_cases h1:65≤cv
   ·by_cases h2:cv≤90
    ·have HS:Hid (Lo w w.heap.size (lowK s.data.toList (k+1)) (wr.setCell ⟨w.heap.size,k,none⟩ (.int .u8 ((cv:Int)+32)))):=by
      rw [show Hid _=_ from rfl,lowK_step _ _ hkl]
      refine HK.out.put k hkk _ ?_
      rw [lo_byte _ (by have:=HC.out; omega) (by have:=HC.out; omega),HC.out]
     clear hkk
     go_wp2
     exact ⟨⟨k+1,hlt,by go_num,by rw [show ((cv:Int)+97 - 65)=(cv:Int)+32 by omega]; exact HS.out⟩,by simp [intOf]; omega⟩
    ·have HS:=hide (lowK_same s.data.toList k hkl (by unfold loB; rw [if_neg]; have:=HC.out; omega))
     clear hkk
     go_wp2
     exact ⟨⟨k+1,hlt,by go_num,by rw [HS.out]; exact HK.out⟩,by simp [intOf]; omega⟩
   ·have HS:=hide (lowK_same s.data.toList k hkl (by unfold loB; rw [if_neg]; have:=HC.out; omega))
    clear hkk
    go_wp2
    exact ⟨⟨k+1,hlt,by go_num,by rw [HS.out]; exact HK.out⟩,by simp [intOf]; omega⟩
  ·have hkk:k=s.data.toList.length:=by rw [hsz.out]; omega
   rw [hkk,lowK_all] at hl
   have hcb:=conv_back (cap:=cap) hl (m:=s.size) (by simp [lowerL,hsz.out])
   have HK:=hide hl
   clear hl hkk
   go_wp2
   go_ret
   exact ⟨rfl,HK.out.below⟩
end Go.Proofs.YtncgcejlkmoliaaGreatDoor
