import Derived.Test.YtncgcejlkmoliaaGreatDoorMh26
import Derived.Laws.BytesString
import Derived.Lib.AppendStr
set_option linter.unusedVariables false
set_option maxRecDepth 100000
set_option maxHeartbeats 16000000
namespace Go.Proofs.YtncgcejlkmoliaaGreatDoor.Li
open Go.RowKit
def bcells (l:List UInt8):List Value:=l.map fun b=>Value.int .u8 b.toNat
theorem foldl_push (l:List UInt8):∀ (r:ByteArray),(l.map fun b=>(b.toNat:Int)).foldl (fun r n=>r.push (UInt8.ofNat n.toNat)) r=⟨(r.data.toList++l).toArray⟩:=by
 induction l with
 | nil=>intro r; cases r; simp
 | cons a l ih =>
  intro r
  simp only [List.map_cons,List.foldl_cons]
  rw [ih]
  cases r
  simp [ByteArray.push]
theorem conv_bytes (w:World) (a:Addr) (n c:Nat) (l:List UInt8) (hn:n=l.length) (h:∀ j v,(bcells l)[j]?=some v→w.cell? (a.add j)=some v) :
 (convert 123 9 (.slice (some a) n c)).run Tryz.prog w=.ok (.string ⟨l.toArray⟩) w:=by
 subst hn
 rw [run_convert_bytes_string w 123 9 5 (some a) _ c Tryz.underlying123 Tryz.underlying5 Tryz.underlying9]
 have hc:=run_loadCells_list (P:=Tryz.prog) (w:=w) a (bcells l) h
 have e:bcells l=(l.map fun b=>(b.toNat:Int)).map (Value.int .u8):=by simp [bcells]
 rw [run_bytesToString w a l.length c (l.map fun b=>(b.toNat:Int)) (by rw [← e]; simpa [bcells] using hc),foldl_push]
 simp
theorem conv_one (w:World) (n:Nat) (hn:n=w.heap.size) (c:UInt8):(convert 123 9 (.slice (some ⟨n,0,none⟩) 1 1)).run Tryz.prog (w.alloc (.cells #[.int .u8 ((c.toNat:Nat):Int)] 5))=.ok (.string ⟨#[c]⟩) (w.alloc (.cells #[.int .u8 ((c.toNat:Nat):Int)] 5)):=by
 refine conv_bytes _ _ 1 1 [c] rfl ?_
 intro j v hj
 cases j with
 | zero=>simp [bcells] at hj; subst hj; exact cell_new hn _ _
 | succ j=>simp [bcells] at hj
theorem own_shape {w:World} {base:Nat} {v:Value} {n:Nat} {xs:List Value} (h:w.ownsRow base 9 1 v n xs):∃ (av:Option Addr) (cap:Nat),v=.slice av n cap:=by
 rcases h.2 with ⟨rfl,rfl⟩ | ⟨g,cap,cur,rfl,_⟩
 ·exact ⟨_,_,rfl⟩
 ·exact ⟨_,_,rfl⟩
theorem gtext_small {s:ByteArray} (h:gtext s=true):s.size≤maxLen:=by
 have:=((gtext_iff s).1 h).1; unfold maxLen; omega
theorem small_of {L:Lin} (h:Fine L):Small L:=⟨gtext_small h.now,fun s hs=>gtext_small (h.all s hs)⟩
theorem feed_good (L:Lin) (v:Value) (s:ByteArray) (w:World) (hv:Reads w v L.q) (hf:Fine L) (hsz:s.size≤maxLen) :
 Calls Tryz.prog 104 #[.agg (L.cells v),.string s] w fun e w'=>∃ v',e=.returned (.tuple #[.agg ((feedL L s.data.toList).1.cells v'),.int .i64 (feedL L s.data.toList).2,.int .i64 0])∧Reads w' v' (feedL L s.data.toList).1.q∧Below w.heap.size w w'∧∀ b off n c,v'=.slice (some ⟨b,off,none⟩) n c→w.heap.size≤b:=by
 have hs:=small_of hf
 have hq:L.q.length≤8796093022208:=by have:=hf.len; omega
 have hv1:=hide hv
 have HF:=hide hf
 have hg':=hide ((fine_iff L).2 hf)
 have C1:=hide (fun w' h=>good_any L v w' h hs)
 obtain ⟨av,cap,rfl,_⟩:=hv
 unfold maxLen at hsz
 clear hs hf
 unfold Lin.cells at C1 ⊢
 go_enter Tryz.func104,Tryz.ntmps104
 go_wp2_with fail
 refine (C1.out _ ((hv1.out.alloc _).alloc _)).mono ?_
 rintro e w1 ⟨rfl,hb1⟩
 rw [hg'.out]
 have hr1:Reads w1 (.slice av L.q.length cap) L.q:=((hv1.out.alloc _).alloc _).below hb1 (Nat.le_refl _)
 have k1:Cod w1 w.heap.size L (.slice av L.q.length cap):=by
  show w1.heap[w.heap.size]?=_
  rw [hb1.block _ (by simp; omega),Below.heap_alloc _ _ _ (by simp)]
  exact heap_alloc_new w _
 obtain ⟨c0,c1,c2,c3,hfz⟩:=k1.all
 have hz1:=k1.lt
 go_wp2_with fail
 refine (clone_any L.q _ w1 hr1 hq).mono ?_
 rintro e w2 ⟨v2,rfl,ho,hb2⟩
 obtain ⟨l2,k2,o2,hi⟩:=finv_start (L:=L) (v:=.slice av L.q.length cap) hb1 hb2 ho
 obtain ⟨av2,cap2,rfl⟩:=own_shape ho
 clear c0 c1 c2 c3 hfz k1 hr1 hb1 ho
 obtain ⟨c0,c1,c2,c3,hfz⟩:=k2.all
 have hz2:w.heap.size+1 < w2.heap.size:=(Array.getElem?_eq_some_iff.1 o2).1
 replace hi:=hide hi
 clear o2 k2 hb2
 go_wp2
 go_loopw [8,9] (fun c i wr=>∃ (k n:Nat) (M:Lin) (u:Value),c=.int .i64 n∧i=.int .i64 k∧Rel w w.heap.size (.cells (zl.cells (.slice none 0 0)) 55) L s k M n u wr) (fun _ i _=>s.size - (intOf i).toNat)
 case atStart=>exact ⟨0,0,L,_,rfl,rfl,Nat.zero_le _,rfl,HF.out,hi.out⟩
 case round =>
  obtain ⟨k,n,M,u,rfl,rfl,hR⟩:=hrel
  have hk:=hR.le
  have hn:=hR.count
  obtain ⟨av3,cap3,rfl⟩:=own_shape hR.inv.own
  clear c0 c1 c2 c3 hfz hi
  obtain ⟨c0,c1,c2,c3,hfz⟩:=hR.inv.cod.all
  have hroom:=hR.inv.room
  by_cases hlt:k < s.size
  ·have hb256:s[k].toNat < 256:=s[k].toNat_lt
   have hb6:=hR.fine.len
   have hbl:w.heap.size < wr.heap.size:=by omega
   have hi1:=hR.inv.put (L':={ M with ret:=false }) 2 (.bool false) rfl rfl
   have q10:=byte_beq s[k] 10 (by omega)
   have q0:=byte_beq s[k] 0 (by omega)
   have q13:=byte_beq s[k] 13 (by omega)
   have q8:=byte_beq s[k] 8 (by omega)
   have q127:=byte_beq s[k] 127 (by omega)
   simp only [show UInt8.ofNat 10=10 from rfl,show UInt8.ofNat 0=0 from rfl,show UInt8.ofNat 13=13 from rfl,show UInt8.ofNat 8=8 from rfl,show UInt8.ofNat 127=127 from rfl] at q10 q0 q13 q8 q127
   cases hr:M.ret
   ·by_cases h13:s[k]=13
    ·rw [hr] at c2
     have e13:(((s[k].toNat:Nat):Int)==(13:Int))=true:=q13.trans (by simp [h13])
     have HC:=hide (end_any w w.heap.size _ { M with ret:=false } _ _ hi1 hb6)
     by_cases hfull:M.q.length < 6
     ·have HS:=hide (show step M s[k]=({ endL M with ret:=true },0) by unfold step; rw [if_neg (by simp [hr])]; rw [if_pos (.inl h13),if_neg (by omega)]; simp [h13])
      have HD:=hide (show decide (M.q.length < 6)=true by simp; omega)
      clear q10 q0 q13 q8 q127 hi1 h13 hr hfull
      go_wp2_with fail
      refine HC.out.mono ?_
      rintro e w3 ⟨rfl,v3,hi3⟩
      simp only []
      rw [HD.out]
      have hi4:=hi3.put (L':={ endL M with ret:=true }) 2 (.bool true) rfl rfl
      obtain ⟨d0,d1,d2,d3,hfd⟩:=hi3.cod.all
      have hroom3:=hi3.room
      have HR:=hide (hR.next hlt HS.out hi4)
      clear hi3 hi4 HS HC hR c0 c1 c2 c3 hfz
      go_wp2
      exact ⟨⟨k+1,n,_,_,by go_num,by go_num,HR.out⟩,by simp [intOf]; omega⟩
     ·have HS:=hide (show step M s[k]=({ endL M with ret:=true },1) by unfold step; rw [if_neg (by simp [hr])]; rw [if_pos (.inl h13),if_pos (by omega)]; simp [h13])
      have HD:=hide (show decide (M.q.length < 6)=false by simp; omega)
      clear q10 q0 q13 q8 q127 hi1 h13 hr hfull
      go_wp2_with fail
      refine HC.out.mono ?_
      rintro e w3 ⟨rfl,v3,hi3⟩
      simp only []
      rw [HD.out]
      have hi4:=hi3.put (L':={ endL M with ret:=true }) 2 (.bool true) rfl rfl
      obtain ⟨d0,d1,d2,d3,hfd⟩:=hi3.cod.all
      have hroom3:=hi3.room
      have HR:=hide (hR.next hlt HS.out hi4)
      clear hi3 hi4 HS HC hR c0 c1 c2 c3 hfz
      go_wp2
      exact ⟨⟨k+1,n+1,_,_,by go_num,by go_num,HR.out⟩,by simp [intOf]; omega⟩
    by_cases h10:s[k]=10
    ·rw [hr] at c2
     have e13:(((s[k].toNat:Nat):Int)==(13:Int))=false:=q13.trans (by simp [h13])
     have e10:(((s[k].toNat:Nat):Int)==(10:Int))=true:=q10.trans (by simp [h10])
     have HC:=hide (end_any w w.heap.size _ { M with ret:=false } _ _ hi1 hb6)
     by_cases hfull:M.q.length < 6
     ·have HS:=hide (show step M s[k]=({ endL M with ret:=false },0) by unfold step; rw [if_neg (by simp [hr])]; rw [if_pos (.inr h10),if_neg (by omega)]; simp [h10])
      have HD:=hide (show decide (M.q.length < 6)=true by simp; omega)
      clear q10 q0 q13 q8 q127 hi1 h13 h10 hr hfull
      go_wp2_with fail
      refine HC.out.mono ?_
      rintro e w3 ⟨rfl,v3,hi3⟩
      simp only []
      rw [HD.out]
      have hi4:=hi3.put (L':={ endL M with ret:=false }) 2 (.bool false) rfl rfl
      obtain ⟨d0,d1,d2,d3,hfd⟩:=hi3.cod.all
      have hroom3:=hi3.room
      have HR:=hide (hR.next hlt HS.out hi4)
      clear hi3 hi4 HS HC hR c0 c1 c2 c3 hfz
      go_wp2
      exact ⟨⟨k+1,n,_,_,by go_num,by go_num,HR.out⟩,by simp [intOf]; omega⟩
     ·have HS:=hide (show step M s[k]=({ endL M with ret:=false },1) by unfold step; rw [if_neg (by simp [hr])]; rw [if_pos (.inr h10),if_pos (by omega)]; simp [h10])
      have HD:=hide (show decide (M.q.length < 6)=false by simp; omega)
      clear q10 q0 q13 q8 q127 hi1 h13 h10 hr hfull
      go_wp2_with fail
      refine HC.out.mono ?_
      rintro e w3 ⟨rfl,v3,hi3⟩
      simp only []
      rw [HD.out]
      have hi4:=hi3.put (L':={ endL M with ret:=false }) 2 (.bool false) rfl rfl
      obtain ⟨d0,d1,d2,d3,hfd⟩:=hi3.cod.all
      have hroom3:=hi3.room
      have HR:=hide (hR.next hlt HS.out hi4)
      clear hi3 hi4 HS HC hR c0 c1 c2 c3 hfz
      go_wp2
      exact ⟨⟨k+1,n+1,_,_,by go_num,by go_num,HR.out⟩,by simp [intOf]; omega⟩
    by_cases h8:s[k]=8
    ·have HS:=hide (show step M s[k]=({ M with ret:=false,now:=M.now.extract 0 (M.now.size - 1) },0) by unfold step; rw [if_neg (by simp [hr])]; rw [if_neg (by simp [h13,h10])]; rw [if_pos (.inl h8)])
     have e13:(((s[k].toNat:Nat):Int)==(13:Int))=false:=q13.trans (by simp [h13])
     have e10:(((s[k].toNat:Nat):Int)==(10:Int))=false:=q10.trans (by simp [h10])
     have e8:(((s[k].toNat:Nat):Int)==(8:Int))=true:=q8.trans (by simp [h8])
     rw [hr] at c2
     have hn60:=((gtext_iff M.now).1 hR.fine.now).1
     have HI:=hide (show FInv w w.heap.size _ { M with ret:=false,now:=M.now.extract 0 (M.now.size - 1) } _ _ from hi1.put 0 (.string (M.now.extract 0 (M.now.size - 1))) rfl rfl)
     have HR:=hide (hR.next hlt HS.out HI.out)
     clear q10 q0 q13 q8 q127 hi1 HI HS hR h13 h10 h8 hr
     go_wp2
     rw [show ((if ((M.now.size:Nat):Int) - 1 < 0 then 0 else ((M.now.size:Nat):Int) - 1):Int).toNat=M.now.size - 1 by split <;> omega]
     exact ⟨⟨k+1,n,_,_,by go_num,by go_num,HR.out⟩,by simp [intOf]; omega⟩
    by_cases h127:s[k]=127
    ·have HS:=hide (show step M s[k]=({ M with ret:=false,now:=M.now.extract 0 (M.now.size - 1) },0) by unfold step; rw [if_neg (by simp [hr])]; rw [if_neg (by simp [h13,h10])]; rw [if_pos (.inr h127)])
     have e13:(((s[k].toNat:Nat):Int)==(13:Int))=false:=q13.trans (by simp [h13])
     have e10:(((s[k].toNat:Nat):Int)==(10:Int))=false:=q10.trans (by simp [h10])
     have e8:(((s[k].toNat:Nat):Int)==(8:Int))=false:=q8.trans (by simp [h8])
     have e127:(((s[k].toNat:Nat):Int)==(127:Int))=true:=q127.trans (by simp [h127])
     rw [hr] at c2
     have hn60:=((gtext_iff M.now).1 hR.fine.now).1
     have HI:=hide (show FInv w w.heap.size _ { M with ret:=false,now:=M.now.extract 0 (M.now.size - 1) } _ _ from hi1.put 0 (.string (M.now.extract 0 (M.now.size - 1))) rfl rfl)
     have HR:=hide (hR.next hlt HS.out HI.out)
     clear q10 q0 q13 q8 q127 hi1 HI HS hR h13 h10 h8 h127 hr
     go_wp2
     rw [show ((if ((M.now.size:Nat):Int) - 1 < 0 then 0 else ((M.now.size:Nat):Int) - 1):Int).toNat=M.now.size - 1 by split <;> omega]
     exact ⟨⟨k+1,n,_,_,by go_num,by go_num,HR.out⟩,by simp [intOf]; omega⟩
    cases hv:vis s[k]
    ·have HS:=hide (show step M s[k]=({ M with ret:=false },0) by unfold step; rw [if_neg (by simp [hr])]; rw [if_neg (by simp [h13,h10])]; rw [if_neg (by simp [h8,h127])]; rw [if_pos hv])
     have e13:(((s[k].toNat:Nat):Int)==(13:Int))=false:=q13.trans (by simp [h13])
     have e10:(((s[k].toNat:Nat):Int)==(10:Int))=false:=q10.trans (by simp [h10])
     have e8:(((s[k].toNat:Nat):Int)==(8:Int))=false:=q8.trans (by simp [h8])
     have e127:(((s[k].toNat:Nat):Int)==(127:Int))=false:=q127.trans (by simp [h127])
     rw [hr] at c2
     have HV:=hide hv
     have hn60:=((gtext_iff M.now).1 hR.fine.now).1
     clear hv
     have HI:=hide (show FInv w w.heap.size _ { M with ret:=false } _ _ from hi1)
     have HR:=hide (hR.next hlt HS.out HI.out)
     clear q10 q0 q13 q8 q127 hi1 HI HS hR h13 h10 h8 h127 hr
     go_wp2_with (go_at_call 89; refine (shown_any s[k] _).mono ?_; rintro e w1 ⟨rfl,rfl⟩; rw [HV.out])
     exact ⟨⟨k+1,n,_,_,by go_num,by go_num,HR.out⟩,by simp [intOf]; omega⟩
    by_cases h60:M.now.size=60
    ·have HS:=hide (show step M s[k]=({ M with ret:=false,long:=true },0) by unfold step; rw [if_neg (by simp [hr])]; rw [if_neg (by simp [h13,h10])]; rw [if_neg (by simp [h8,h127])]; rw [if_neg (by simp [hv]),if_pos h60])
     have e13:(((s[k].toNat:Nat):Int)==(13:Int))=false:=q13.trans (by simp [h13])
     have e10:(((s[k].toNat:Nat):Int)==(10:Int))=false:=q10.trans (by simp [h10])
     have e8:(((s[k].toNat:Nat):Int)==(8:Int))=false:=q8.trans (by simp [h8])
     have e127:(((s[k].toNat:Nat):Int)==(127:Int))=false:=q127.trans (by simp [h127])
     rw [hr] at c2
     have HV:=hide hv
     have hn60:=((gtext_iff M.now).1 hR.fine.now).1
     clear hv
     have HI:=hide (show FInv w w.heap.size _ { M with ret:=false,long:=true } _ _ from hi1.put 1 (.bool true) rfl rfl)
     have HR:=hide (hR.next hlt HS.out HI.out)
     clear q10 q0 q13 q8 q127 hi1 HI HS hR h13 h10 h8 h127 hr
     go_wp2_with (go_at_call 89; refine (shown_any s[k] _).mono ?_; rintro e w1 ⟨rfl,rfl⟩; rw [HV.out])
     exact ⟨⟨k+1,n,_,_,by go_num,by go_num,HR.out⟩,by simp [intOf]; omega⟩
    ·have HS:=hide (show step M s[k]=({ M with ret:=false,now:=M.now++⟨#[s[k]]⟩ },0) by unfold step; rw [if_neg (by simp [hr])]; rw [if_neg (by simp [h13,h10])]; rw [if_neg (by simp [h8,h127])]; rw [if_neg (by simp [hv]),if_neg h60])
     have e13:(((s[k].toNat:Nat):Int)==(13:Int))=false:=q13.trans (by simp [h13])
     have e10:(((s[k].toNat:Nat):Int)==(10:Int))=false:=q10.trans (by simp [h10])
     have e8:(((s[k].toNat:Nat):Int)==(8:Int))=false:=q8.trans (by simp [h8])
     have e127:(((s[k].toNat:Nat):Int)==(127:Int))=false:=q127.trans (by simp [h127])
     rw [hr] at c2
     have HV:=hide hv
     have hn60:=((gtext_iff M.now).1 hR.fine.now).1
     clear hv
     have hcv:=conv_one (wr.setCell ⟨w.heap.size,2,none⟩ (.bool false)) wr.heap.size (by simp) s[k]
     have hcc:¬ 9223372036854775807 < M.now.size+1:=by omega
     have HI:=hide (show FInv w w.heap.size _ { M with ret:=false,now:=M.now++⟨#[s[k]]⟩ } _ _ from (hi1.put (L':={ M with ret:=false,now:=M.now++⟨#[s[k]]⟩ }) 0 (.string (M.now++⟨#[s[k]]⟩)) rfl rfl).alloc (.cells #[.int .u8 ((s[k].toNat:Nat):Int)] 5))
     have HR:=hide (hR.next hlt HS.out HI.out)
     clear q10 q0 q13 q8 q127 hi1 HI HS hR h13 h10 h8 h127 hr
     go_wp2_with (go_at_call 89; refine (shown_any s[k] _).mono ?_; rintro e w1 ⟨rfl,rfl⟩; rw [HV.out])
     exact ⟨⟨k+1,n,_,_,by go_num,by go_num,HR.out⟩,by simp [intOf]; omega⟩
   ·by_cases h10:s[k]=10
    ·have HS:=hide (show step M s[k]=({ M with ret:=false },0) by unfold step; rw [if_pos ⟨hr,.inl h10⟩])
     have e10:(((s[k].toNat:Nat):Int)==(10:Int))=true:=q10.trans (by simp [h10])
     rw [hr] at c2
     have HI:=hide (show FInv w w.heap.size _ { M with ret:=false } _ _ from hi1)
     have HR:=hide (hR.next hlt HS.out HI.out)
     clear q10 q0 q13 q8 q127 hi1 HI HS hR h10 hr
     go_wp2
     exact ⟨⟨k+1,n,_,_,by go_num,by go_num,HR.out⟩,by simp [intOf]; omega⟩
    by_cases h0:s[k]=0
    ·have HS:=hide (show step M s[k]=({ M with ret:=false },0) by unfold step; rw [if_pos ⟨hr,.inr h0⟩])
     have e10:(((s[k].toNat:Nat):Int)==(10:Int))=false:=q10.trans (by simp [h10])
     have e0:(((s[k].toNat:Nat):Int)==(0:Int))=true:=q0.trans (by simp [h0])
     rw [hr] at c2
     have HI:=hide (show FInv w w.heap.size _ { M with ret:=false } _ _ from hi1)
     have HR:=hide (hR.next hlt HS.out HI.out)
     clear q10 q0 q13 q8 q127 hi1 HI HS hR h10 h0 hr
     go_wp2
     exact ⟨⟨k+1,n,_,_,by go_num,by go_num,HR.out⟩,by simp [intOf]; omega⟩
    by_cases h13:s[k]=13
    ·rw [hr] at c2
     have e10:(((s[k].toNat:Nat):Int)==(10:Int))=false:=q10.trans (by simp [h10])
     have e0:(((s[k].toNat:Nat):Int)==(0:Int))=false:=q0.trans (by simp [h0])
     have e13:(((s[k].toNat:Nat):Int)==(13:Int))=true:=q13.trans (by simp [h13])
     have HC:=hide (end_any w w.heap.size _ { M with ret:=false } _ _ hi1 hb6)
     by_cases hfull:M.q.length < 6
     ·have HS:=hide (show step M s[k]=({ endL M with ret:=true },0) by unfold step; rw [if_neg (by simp [hr,h10,h0])]; rw [if_pos (.inl h13),if_neg (by omega)]; simp [h13])
      have HD:=hide (show decide (M.q.length < 6)=true by simp; omega)
      clear q10 q0 q13 q8 q127 hi1 h10 h0 h13 hr hfull
      go_wp2_with fail
      refine HC.out.mono ?_
      rintro e w3 ⟨rfl,v3,hi3⟩
      simp only []
      rw [HD.out]
      have hi4:=hi3.put (L':={ endL M with ret:=true }) 2 (.bool true) rfl rfl
      obtain ⟨d0,d1,d2,d3,hfd⟩:=hi3.cod.all
      have hroom3:=hi3.room
      have HR:=hide (hR.next hlt HS.out hi4)
      clear hi3 hi4 HS HC hR c0 c1 c2 c3 hfz
      go_wp2
      exact ⟨⟨k+1,n,_,_,by go_num,by go_num,HR.out⟩,by simp [intOf]; omega⟩
     ·have HS:=hide (show step M s[k]=({ endL M with ret:=true },1) by unfold step; rw [if_neg (by simp [hr,h10,h0])]; rw [if_pos (.inl h13),if_pos (by omega)]; simp [h13])
      have HD:=hide (show decide (M.q.length < 6)=false by simp; omega)
      clear q10 q0 q13 q8 q127 hi1 h10 h0 h13 hr hfull
      go_wp2_with fail
      refine HC.out.mono ?_
      rintro e w3 ⟨rfl,v3,hi3⟩
      simp only []
      rw [HD.out]
      have hi4:=hi3.put (L':={ endL M with ret:=true }) 2 (.bool true) rfl rfl
      obtain ⟨d0,d1,d2,d3,hfd⟩:=hi3.cod.all
      have hroom3:=hi3.room
      have HR:=hide (hR.next hlt HS.out hi4)
      clear hi3 hi4 HS HC hR c0 c1 c2 c3 hfz
      go_wp2
      exact ⟨⟨k+1,n+1,_,_,by go_num,by go_num,HR.out⟩,by simp [intOf]; omega⟩
    by_cases h8:s[k]=8
    ·have HS:=hide (show step M s[k]=({ M with ret:=false,now:=M.now.extract 0 (M.now.size - 1) },0) by unfold step; rw [if_neg (by simp [hr,h10,h0])]; rw [if_neg (by simp [h13,h10])]; rw [if_pos (.inl h8)])
     have e10:(((s[k].toNat:Nat):Int)==(10:Int))=false:=q10.trans (by simp [h10])
     have e0:(((s[k].toNat:Nat):Int)==(0:Int))=false:=q0.trans (by simp [h0])
     have e13:(((s[k].toNat:Nat):Int)==(13:Int))=false:=q13.trans (by simp [h13])
     have e8:(((s[k].toNat:Nat):Int)==(8:Int))=true:=q8.trans (by simp [h8])
     rw [hr] at c2
     have hn60:=((gtext_iff M.now).1 hR.fine.now).1
     have HI:=hide (show FInv w w.heap.size _ { M with ret:=false,now:=M.now.extract 0 (M.now.size - 1) } _ _ from hi1.put 0 (.string (M.now.extract 0 (M.now.size - 1))) rfl rfl)
     have HR:=hide (hR.next hlt HS.out HI.out)
     clear q10 q0 q13 q8 q127 hi1 HI HS hR h10 h0 h13 h8 hr
     go_wp2
     rw [show ((if ((M.now.size:Nat):Int) - 1 < 0 then 0 else ((M.now.size:Nat):Int) - 1):Int).toNat=M.now.size - 1 by split <;> omega]
     exact ⟨⟨k+1,n,_,_,by go_num,by go_num,HR.out⟩,by simp [intOf]; omega⟩
    by_cases h127:s[k]=127
    ·have HS:=hide (show step M s[k]=({ M with ret:=false,now:=M.now.extract 0 (M.now.size - 1) },0) by unfold step; rw [if_neg (by simp [hr,h10,h0])]; rw [if_neg (by simp [h13,h10])]; rw [if_pos (.inr h127)])
     have e10:(((s[k].toNat:Nat):Int)==(10:Int))=false:=q10.trans (by simp [h10])
     have e0:(((s[k].toNat:Nat):Int)==(0:Int))=false:=q0.trans (by simp [h0])
     have e13:(((s[k].toNat:Nat):Int)==(13:Int))=false:=q13.trans (by simp [h13])
     have e8:(((s[k].toNat:Nat):Int)==(8:Int))=false:=q8.trans (by simp [h8])
     have e127:(((s[k].toNat:Nat):Int)==(127:Int))=true:=q127.trans (by simp [h127])
     rw [hr] at c2
     have hn60:=((gtext_iff M.now).1 hR.fine.now).1
     have HI:=hide (show FInv w w.heap.size _ { M with ret:=false,now:=M.now.extract 0 (M.now.size - 1) } _ _ from hi1.put 0 (.string (M.now.extract 0 (M.now.size - 1))) rfl rfl)
     have HR:=hide (hR.next hlt HS.out HI.out)
     clear q10 q0 q13 q8 q127 hi1 HI HS hR h10 h0 h13 h8 h127 hr
     go_wp2
     rw [show ((if ((M.now.size:Nat):Int) - 1 < 0 then 0 else ((M.now.size:Nat):Int) - 1):Int).toNat=M.now.size - 1 by split <;> omega]
     exact ⟨⟨k+1,n,_,_,by go_num,by go_num,HR.out⟩,by simp [intOf]; omega⟩
    cases hv:vis s[k]
    ·have HS:=hide (show step M s[k]=({ M with ret:=false },0) by unfold step; rw [if_neg (by simp [hr,h10,h0])]; rw [if_neg (by simp [h13,h10])]; rw [if_neg (by simp [h8,h127])]; rw [if_pos hv])
     have e10:(((s[k].toNat:Nat):Int)==(10:Int))=false:=q10.trans (by simp [h10])
     have e0:(((s[k].toNat:Nat):Int)==(0:Int))=false:=q0.trans (by simp [h0])
     have e13:(((s[k].toNat:Nat):Int)==(13:Int))=false:=q13.trans (by simp [h13])
     have e8:(((s[k].toNat:Nat):Int)==(8:Int))=false:=q8.trans (by simp [h8])
     have e127:(((s[k].toNat:Nat):Int)==(127:Int))=false:=q127.trans (by simp [h127])
     rw [hr] at c2
     have HV:=hide hv
     have hn60:=((gtext_iff M.now).1 hR.fine.now).1
     clear hv
     have HI:=hide (show FInv w w.heap.size _ { M with ret:=false } _ _ from hi1)
     have HR:=hide (hR.next hlt HS.out HI.out)
     clear q10 q0 q13 q8 q127 hi1 HI HS hR h10 h0 h13 h8 h127 hr
     go_wp2_with (go_at_call 89; refine (shown_any s[k] _).mono ?_; rintro e w1 ⟨rfl,rfl⟩; rw [HV.out])
     exact ⟨⟨k+1,n,_,_,by go_num,by go_num,HR.out⟩,by simp [intOf]; omega⟩
    by_cases h60:M.now.size=60
    ·have HS:=hide (show step M s[k]=({ M with ret:=false,long:=true },0) by unfold step; rw [if_neg (by simp [hr,h10,h0])]; rw [if_neg (by simp [h13,h10])]; rw [if_neg (by simp [h8,h127])]; rw [if_neg (by simp [hv]),if_pos h60])
     have e10:(((s[k].toNat:Nat):Int)==(10:Int))=false:=q10.trans (by simp [h10])
     have e0:(((s[k].toNat:Nat):Int)==(0:Int))=false:=q0.trans (by simp [h0])
     have e13:(((s[k].toNat:Nat):Int)==(13:Int))=false:=q13.trans (by simp [h13])
     have e8:(((s[k].toNat:Nat):Int)==(8:Int))=false:=q8.trans (by simp [h8])
     have e127:(((s[k].toNat:Nat):Int)==(127:Int))=false:=q127.trans (by simp [h127])
     rw [hr] at c2
     have HV:=hide hv
     have hn60:=((gtext_iff M.now).1 hR.fine.now).1
     clear hv
     have HI:=hide (show FInv w w.heap.size _ { M with ret:=false,long:=true } _ _ from hi1.put 1 (.bool true) rfl rfl)
     have HR:=hide (hR.next hlt HS.out HI.out)
     clear q10 q0 q13 q8 q127 hi1 HI HS hR h10 h0 h13 h8 h127 hr
     go_wp2_with (go_at_call 89; refine (shown_any s[k] _).mono ?_; rintro e w1 ⟨rfl,rfl⟩; rw [HV.out])
     exact ⟨⟨k+1,n,_,_,by go_num,by go_num,HR.out⟩,by simp [intOf]; omega⟩
    ·have HS:=hide (show step M s[k]=({ M with ret:=false,now:=M.now++⟨#[s[k]]⟩ },0) by unfold step; rw [if_neg (by simp [hr,h10,h0])]; rw [if_neg (by simp [h13,h10])]; rw [if_neg (by simp [h8,h127])]; rw [if_neg (by simp [hv]),if_neg h60])
     have e10:(((s[k].toNat:Nat):Int)==(10:Int))=false:=q10.trans (by simp [h10])
     have e0:(((s[k].toNat:Nat):Int)==(0:Int))=false:=q0.trans (by simp [h0])
     have e13:(((s[k].toNat:Nat):Int)==(13:Int))=false:=q13.trans (by simp [h13])
     have e8:(((s[k].toNat:Nat):Int)==(8:Int))=false:=q8.trans (by simp [h8])
     have e127:(((s[k].toNat:Nat):Int)==(127:Int))=false:=q127.trans (by simp [h127])
     rw [hr] at c2
     have HV:=hide hv
     have hn60:=((gtext_iff M.now).1 hR.fine.now).1
     clear hv
     have hcv:=conv_one (wr.setCell ⟨w.heap.size,2,none⟩ (.bool false)) wr.heap.size (by simp) s[k]
     have hcc:¬ 9223372036854775807 < M.now.size+1:=by omega
     have HI:=hide (show FInv w w.heap.size _ { M with ret:=false,now:=M.now++⟨#[s[k]]⟩ } _ _ from (hi1.put (L':={ M with ret:=false,now:=M.now++⟨#[s[k]]⟩ }) 0 (.string (M.now++⟨#[s[k]]⟩)) rfl rfl).alloc (.cells #[.int .u8 ((s[k].toNat:Nat):Int)] 5))
     have HR:=hide (hR.next hlt HS.out HI.out)
     clear q10 q0 q13 q8 q127 hi1 HI HS hR h10 h0 h13 h8 h127 hr
     go_wp2_with (go_at_call 89; refine (shown_any s[k] _).mono ?_; rintro e w1 ⟨rfl,rfl⟩; rw [HV.out])
     exact ⟨⟨k+1,n,_,_,by go_num,by go_num,HR.out⟩,by simp [intOf]; omega⟩
  ·have hkk:k=s.size:=by omega
   have hT:feedL L s.data.toList=(M,n):=by have:=hR.eq; rwa [hkk,List.take_of_length_le (by simp)] at this
   have HT:=hide hT
   obtain ⟨d0,d1,d2,d3,hfd⟩:=Cod.all (L:=zl) (v:=.slice none 0 0) hR.inv.other
   clear hT hkk
   go_wp2
   obtain ⟨f1,f2,f3⟩:=hR.inv.done
   refine bodyPost_ret (res3 Tryz.results104 rfl rfl rfl f1) rfl ?_
   rw [HT.out]
   exact ⟨_,rfl,f2,f3,fun b off n c e=>by have:=(hR.inv.own.lt b (by rw [e]; rfl)).1; omega⟩
open Go.RowKit
theorem Reads.shape {w:World} {v:Value} {q:List ByteArray} (h:Reads w v q):∃ (av:Option Addr) (cap:Nat),v=.slice av q.length cap:=by
 obtain ⟨av,cap,e,_⟩:=h; exact ⟨av,cap,e⟩
theorem reads_tail {w:World} {b off cap:Nat} {f:ByteArray} {r:List ByteArray} (h:Reads w (.slice (some ⟨b,off,none⟩) (f::r).length cap) (f::r)) :
 Reads w (.slice (if cap=1 then some ⟨b,off,none⟩ else some ⟨b,off+1,none⟩) r.length (cap - 1)) r:=by
 obtain ⟨av,cap',e,hl,hm,hn,hc⟩:=h
 injection e with e1 e2 e3
 subst e1 e3
 obtain ⟨b',off',e,hcell⟩:=hc (by simp)
 injection e with e; injection e with e1 e2
 subst e1 e2
 simp only [List.length_cons] at hl
 refine ⟨_,cap - 1,rfl,by omega,by omega,?_,?_⟩
 ·intro e; split at e <;> simp at e
 ·intro h0
  refine ⟨b,off+1,by rw [if_neg (by omega)],fun i hi=>?_⟩
  have:=hcell (i+1) (by simp; omega)
  rw [show off+1+i=off+(i+1) by omega,this]
  simp
theorem Reads.put {w:World} {v:Value} {q:List ByteArray} (h:Reads w v q) {B:Nat} (hB:0 < q.length→∀ b off n c,v=.slice (some ⟨b,off,none⟩) n c→b ≠ B) (f:Nat) (x:Value):Reads (w.setCell ⟨B,f,none⟩ x) v q:=by
 obtain ⟨av,cap,rfl,hl,hm,hn,hc⟩:=h
 refine ⟨av,cap,rfl,hl,hm,hn,fun h0=>?_⟩
 obtain ⟨b,off,rfl,hcell⟩:=hc h0
 have hne:=hB h0 b off _ _ rfl
 refine ⟨b,off,rfl,fun i hi=>?_⟩
 rw [← hcell i hi]
 have e:=Below.heap_setCell w ⟨B,f,none⟩ x b hne
 simp only [World.cell?,e]
theorem Reads.lt {w:World} {v:Value} {q:List ByteArray} (h:Reads w v q) (h0:0 < q.length):∀ b off n c,v=.slice (some ⟨b,off,none⟩) n c→b < w.heap.size:=by
 obtain ⟨av,cap,rfl,hl,hm,hn,hc⟩:=h
 obtain ⟨b,off,rfl,hcell⟩:=hc h0
 intro b' off' n c e
 injection e with e1; injection e1 with e1; injection e1 with e1
 have:=cell_lt (hcell 0 h0)
 simp only at this
 omega
theorem next_nil (L:Lin) (v:Value) (w:World) (hv:Reads w v L.q) (hq:L.q=[]) :
 Calls Tryz.prog 138 #[.agg (L.cells v)] w fun e w'=>∃ v',e=.returned (.tuple #[.agg (L.cells v'),.string ⟨#[]⟩,.bool false])∧Reads w' v' L.q∧Below w.heap.size w w':=by
 obtain ⟨now,long,ret,q⟩:=L
 simp only at hq
 subst hq
 have hv1:=hide hv
 obtain ⟨av,cap,rfl⟩:=hv.shape
 clear hv
 unfold Lin.cells
 go_enter Tryz.func138,Tryz.ntmps138
 go_wp2_with fail
 refine (clone_any [] _ _ ((hv1.out.alloc _).alloc _) (by decide)).mono ?_
 rintro e w2 ⟨v2,rfl,ho,hb2⟩
 obtain ⟨l2,k2,o2,hi⟩:=finv_start (L:=⟨now,long,ret,[]⟩) (v:=.slice av 0 cap) (Below.refl _ _) hb2 ho
 obtain ⟨av2,cap2,rfl⟩:=own_shape ho
 obtain ⟨c0,c1,c2,c3,hfz⟩:=k2.all
 obtain ⟨d0,d1,d2,d3,hfd⟩:=Cod.all (L:=zl) (v:=.slice none 0 0) o2
 have hz2:w.heap.size+1 < w2.heap.size:=(Array.getElem?_eq_some_iff.1 o2).1
 replace hi:=hide hi
 clear o2 k2 hb2 ho
 go_wp2
 obtain ⟨f1,f2,f3⟩:=hi.out.done
 exact bodyPost_ret (res3 Tryz.results138 rfl rfl rfl f1) rfl ⟨_,rfl,f2,f3⟩
theorem next_done {w0 wr:World} {b:Nat} {L:Lin} {g off cap2:Nat} {f:ByteArray} {r:List ByteArray} (h:FInv w0 b (.cells (zl.cells (.slice none 0 0)) 55) L (.slice (some ⟨g,off,none⟩) L.q.length cap2) wr)
 (hq:L.q=f::r) (A:Option Addr) (hA:A=if cap2=1 then some ⟨g,off,none⟩ else some ⟨g,off+1,none⟩) :
 Cod (((((wr.setCell ⟨b,3,none⟩ (.slice A (L.q.length - 1) (cap2 - 1))).setCell ⟨b+1,0,none⟩ (.string L.now)).setCell ⟨b+1,1,none⟩ (.bool L.long)).setCell ⟨b+1,2,none⟩ (.bool L.ret)).setCell ⟨b+1,3,none⟩ (.slice A (L.q.length - 1) (cap2 - 1))) (b+1) { L with q:=r } (.slice A (L.q.length - 1) (cap2 - 1)) ∧
 Reads (((((wr.setCell ⟨b,3,none⟩ (.slice A (L.q.length - 1) (cap2 - 1))).setCell ⟨b+1,0,none⟩ (.string L.now)).setCell ⟨b+1,1,none⟩ (.bool L.long)).setCell ⟨b+1,2,none⟩ (.bool L.ret)).setCell ⟨b+1,3,none⟩ (.slice A (L.q.length - 1) (cap2 - 1))) (.slice A (L.q.length - 1) (cap2 - 1)) r ∧
 Below w0.heap.size w0 (((((wr.setCell ⟨b,3,none⟩ (.slice A (L.q.length - 1) (cap2 - 1))).setCell ⟨b+1,0,none⟩ (.string L.now)).setCell ⟨b+1,1,none⟩ (.bool L.long)).setCell ⟨b+1,2,none⟩ (.bool L.ret)).setCell ⟨b+1,3,none⟩ (.slice A (L.q.length - 1) (cap2 - 1))):=by
 have hlo:=h.lo
 have ho1:=h.own.kept (grown_set wr b 3 (.slice A (L.q.length - 1) (cap2 - 1))) (by right; intro e; have:=h.own.lt _ e; omega)
 refine ⟨cod_four (L:={ L with q:=r }) (M:=zl) (u:=.slice none 0 0) (cod_ne h.other (by omega) _ _),?_,below_four (h.below.setCell hlo _) (by omega)⟩
 have ho2:=reads_own (ho1.kept (grown_four (b:=b+1) (x0:=.string L.now) (x1:=.bool L.long) (x2:=.bool L.ret) (x3:=.slice A (L.q.length - 1) (cap2 - 1))) (by right; intro e; have:=h.own.lt _ e; omega))
 have e1:L.q.length - 1=r.length:=by rw [hq]; simp
 rw [e1] at ho2 ⊢
 rw [hq] at ho2
 rw [hA] at ho2 ⊢
 exact reads_tail ho2
theorem next_cons (L:Lin) (v:Value) (w:World) (hv:Reads w v L.q) (f:ByteArray) (r:List ByteArray) (hq:L.q=f::r) (hlen:L.q.length≤8796093022208) :
 Calls Tryz.prog 138 #[.agg (L.cells v)] w fun e w'=>∃ v',e=.returned (.tuple #[.agg (({ L with q:=r }:Lin).cells v'),.string f,.bool true])∧Reads w' v' r∧Below w.heap.size w w'∧∀ b off n c,v'=.slice (some ⟨b,off,none⟩) n c→w.heap.size≤b:=by
 have hv1:=hide hv
 obtain ⟨av,cap,rfl⟩:=hv.shape
 have HQ:=hide hq
 have hqn:¬ L.q=[]:=by rw [hq]; simp
 have hq1:0 < L.q.length:=by rw [hq]; simp
 clear hv hq
 unfold Lin.cells
 go_enter Tryz.func138,Tryz.ntmps138
 go_wp2_with fail
 refine (clone_any L.q _ _ ((hv1.out.alloc _).alloc _) hlen).mono ?_
 rintro e w2 ⟨v2,rfl,ho,hb2⟩
 obtain ⟨l2,k2,o2,hi⟩:=finv_start (L:=L) (v:=.slice av L.q.length cap) (Below.refl _ _) hb2 ho
 obtain ⟨av2,cap2,rfl,hl2,hm2,_,hc2⟩:=reads_own ho
 obtain ⟨g,off,rfl,hcell⟩:=hc2 (by omega)
 have hcell0:w2.cell? ⟨g,off,none⟩=some (.string f):=by
  have:=hcell 0 (by omega)
  simpa [HQ.out] using this
 have hg:=(ho.lt g rfl).1
 have hglt:=cell_lt hcell0
 have hgne:¬ g=w.heap.size:=by simp at hg; omega
 have hgne':¬ g=w.heap.size+1:=by simp at hg; omega
 obtain ⟨c0,c1,c2,c3,hfz⟩:=k2.all
 obtain ⟨d0,d1,d2,d3,hfd⟩:=Cod.all (L:=zl) (v:=.slice none 0 0) o2
 have hz2:w.heap.size+1 < w2.heap.size:=(Array.getElem?_eq_some_iff.1 o2).1
 have hgw:w.heap.size≤g:=by simp at hg; omega
 replace hi:=hide hi
 clear o2 k2 hb2 ho hcell hc2
 go_wp2
 ·have h1:cap2=1:=by assumption
  subst h1
  obtain ⟨f1,f2,f3⟩:=next_done hi.out HQ.out (some ⟨g,off,none⟩) (by rw [if_pos rfl])
  simp only [Nat.sub_self] at f1 f2 f3
  exact bodyPost_ret (res3 Tryz.results138 rfl rfl rfl f1) rfl ⟨_,rfl,f2,f3,fun b off n c e=>by injection e with e1; injection e1 with e1; injection e1 with e1; omega⟩
 ·obtain ⟨f1,f2,f3⟩:=next_done hi.out HQ.out (some ⟨g,off+1,none⟩) (by rw [if_neg (by assumption)])
  exact bodyPost_ret (res3 Tryz.results138 rfl rfl rfl f1) rfl ⟨_,rfl,f2,f3,fun b off n c e=>by injection e with e1; injection e1 with e1; injection e1 with e1; omega⟩
end Go.Proofs.YtncgcejlkmoliaaGreatDoor.Li
