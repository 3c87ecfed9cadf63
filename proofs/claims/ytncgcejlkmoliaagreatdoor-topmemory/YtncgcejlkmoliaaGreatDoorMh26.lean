import Derived.WalkKit
import Derived.Test.YtncgcejlkmoliaaGreatDoorRows
import Derived.ProofKit
import Derived.OpenShut
import Derived.ShutString
import Derived.WalkSpells
import Derived.WalkLawsBesides
import Derived.Deep.QuietTactic
import Derived.BigQuiet
import Derived.Deep.RegionWith
import Derived.Maps.AppendAt
set_option linter.unusedVariables false
set_option maxRecDepth 100000
set_option maxHeartbeats 16000000
namespace Go.Proofs.YtncgcejlkmoliaaGreatDoor.Li
structure Lin where
 now:ByteArray
 long:Bool
 ret:Bool
 q:List ByteArray
def Lin.cells (L:Lin) (v:Value):Array Value:=#[.string L.now,.bool L.long,.bool L.ret,v]
def vis (b:UInt8):Bool:=decide (32≤b.toNat)&&decide (b.toNat≤126)
def gtext (s:ByteArray):Bool:=decide (s.size≤60)&&s.data.toList.all vis
def good (L:Lin):Bool:=!(L.ret&&(L.now.size != 0 || L.long))&&decide (L.q.length≤6)&&gtext L.now&&L.q.all gtext
def endL (L:Lin):Lin:={ L with now:=⟨#[]⟩,long:=false,q:=if 6≤L.q.length then L.q else L.q++[L.now] }
def step (L:Lin) (b:UInt8):Lin × Nat :=
 if L.ret=true∧(b=10∨b=0) then ({ L with ret:=false },0)
 else if b=13∨b=10 then ({ endL L with ret:=b==13 },if 6≤L.q.length then 1 else 0)
 else if b=8∨b=127 then ({ L with ret:=false,now:=L.now.extract 0 (L.now.size - 1) },0)
 else if vis b=false then ({ L with ret:=false },0)
 else if L.now.size=60 then ({ L with ret:=false,long:=true },0)
 else ({ L with ret:=false,now:=L.now++⟨#[b]⟩ },0)
def feedL (L:Lin):List UInt8→Lin × Nat
 | []=>(L,0)
 | b::bs=>((feedL (step L b).1 bs).1,(step L b).2+(feedL (step L b).1 bs).2)
theorem feedL_append (L:Lin) (a b:List UInt8):feedL L (a++b)=((feedL (feedL L a).1 b).1,(feedL L a).2+(feedL (feedL L a).1 b).2):=by
 induction a generalizing L with
 | nil=>simp [feedL]
 | cons c a ih=>simp only [List.cons_append,feedL,ih]; ext1 <;> simp [Nat.add_assoc]
theorem step_le (L:Lin) (b:UInt8):(step L b).2≤1:=by
 unfold step; repeat' split
 all_goals simp
theorem feed_le (L:Lin) (a:List UInt8):(feedL L a).2≤a.length:=by
 induction a generalizing L with
 | nil=>simp [feedL]
 | cons c a ih=>have h1:=step_le L c; have h2:=ih (step L c).1; simp only [feedL,List.length_cons]; omega
structure Fine (L:Lin):Prop where
 ret:L.ret=true→L.now.size=0∧L.long=false
 len:L.q.length≤6
 now:gtext L.now=true
 all:∀ s ∈ L.q,gtext s=true
theorem fine_iff (L:Lin):good L=true ↔ Fine L:=by
 unfold good
 simp only [Bool.and_eq_true,decide_eq_true_eq,List.all_eq_true,Bool.not_eq_true',Bool.and_eq_false_imp,Bool.or_eq_false_iff,bne_eq_false_iff_eq]
 constructor
 ·rintro ⟨⟨⟨h1,h2⟩,h3⟩,h4⟩; exact ⟨h1,h2,h3,h4⟩
 ·rintro ⟨h1,h2,h3,h4⟩; exact ⟨⟨⟨h1,h2⟩,h3⟩,h4⟩
theorem gtext_iff (s:ByteArray):gtext s=true ↔ s.size≤60∧∀ c ∈ s.data.toList,vis c=true:=by
 unfold gtext; simp only [Bool.and_eq_true,decide_eq_true_eq,List.all_eq_true]
theorem gtext_nil:gtext ⟨#[]⟩=true:=by decide
theorem gtext_cut {s:ByteArray} (h:gtext s=true) (n:Nat):gtext (s.extract 0 n)=true:=by
 rw [gtext_iff] at h ⊢
 refine ⟨by rw [ByteArray.size_extract]; omega,fun c hc=>h.2 c ?_⟩
 have e:(s.extract 0 n).data.toList=s.data.toList.take n:=by simp
 rw [e] at hc
 exact List.mem_of_mem_take hc
theorem gtext_put {s:ByteArray} (h:gtext s=true) {b:UInt8} (hb:vis b=true) (hn:s.size ≠ 60):gtext (s++⟨#[b]⟩)=true:=by
 rw [gtext_iff] at h ⊢
 refine ⟨by rw [ByteArray.size_append]; have:(ByteArray.mk #[b]).size=1:=rfl; omega,fun c hc=>?_⟩
 have e:(s++⟨#[b]⟩).data.toList=s.data.toList++[b]:=by simp
 rw [e,List.mem_append] at hc
 rcases hc with hc | hc
 ·exact h.2 c hc
 ·simp at hc; subst hc; exact hb
theorem fine_step {L:Lin} (h:Fine L) (b:UInt8):Fine (step L b).1:=by
 unfold step
 split
 ·exact ⟨fun e=>by simp at e,h.len,h.now,h.all⟩
 split
 ·refine ⟨fun _=>⟨rfl,rfl⟩,?_,gtext_nil,?_⟩
  ·simp only [endL]; split
   ·exact h.len
   ·simp; omega
  ·simp only [endL]; split
   ·exact h.all
   ·intro s hs; rw [List.mem_append] at hs
    rcases hs with hs | hs
    ·exact h.all s hs
    ·simp at hs; subst hs; exact h.now
 split
 ·exact ⟨fun e=>by simp at e,h.len,gtext_cut h.now _,h.all⟩
 split
 ·exact ⟨fun e=>by simp at e,h.len,h.now,h.all⟩
 split
 ·exact ⟨fun e=>by simp at e,h.len,h.now,h.all⟩
 ·exact ⟨fun e=>by simp at e,h.len,gtext_put h.now (by simp_all) (by assumption),h.all⟩
theorem fine_feed {L:Lin} (h:Fine L) (a:List UInt8):Fine (feedL L a).1:=by
 induction a generalizing L with
 | nil=>exact h
 | cons c a ih=>exact ih (fine_step h c)
open Go.RowKit
theorem hide {p:Prop} (h:p):Hid p:=h
theorem ret_bool {a b:Bool} (h:a=b):Ending.returned (.bool a)=.returned (.bool b):=by rw [h]
theorem Tryz.info9:(Tryz.prog.info? 9).map (fun i=>(i.zero,i.size,i.bytes))=some (some (.string ⟨#[]⟩),1,16):=by kernel_rfl
theorem byte_beq (c:UInt8) (n:Nat) (hn:n < 256):(((c.toNat:Nat):Int)==(n:Int))=decide (c=UInt8.ofNat n):=by
 rw [Bool.eq_iff_iff]
 simp only [beq_iff_eq,decide_eq_true_eq]
 constructor
 ·intro h; apply UInt8.toNat.inj; rw [UInt8.toNat_ofNat']; omega
 ·intro h; subst h; rw [UInt8.toNat_ofNat']; omega
def Reads (w:World) (v:Value) (q:List ByteArray):Prop :=
 ∃ (av:Option Addr) (cap:Nat),v=.slice av q.length cap∧q.length≤cap∧cap≤maxLen∧(av=none→cap=0) ∧
  (0 < q.length→∃ b off,av=some ⟨b,off,none⟩∧∀ i (h:i < q.length),w.cell? ⟨b,off+i,none⟩=some (.string q[i]))
theorem cell_lt {w:World} {p:Addr} {v:Value} (h:w.cell? p=some v):p.block < w.heap.size:=by
 simp only [World.cell?] at h
 by_cases hx:p.block < w.heap.size
 ·exact hx
 ·rw [Array.getElem?_eq_none (by omega)] at h; simp at h
theorem Reads.below {w w':World} {v:Value} {q:List ByteArray} {B:Nat} (h:Reads w v q) (hb:Below B w w') (hB:w.heap.size≤B):Reads w' v q:=by
 obtain ⟨av,cap,e,hl,hm,hn,h⟩:=h
 refine ⟨av,cap,e,hl,hm,hn,fun h0=>?_⟩
 obtain ⟨b,off,ea,hc⟩:=h h0
 refine ⟨b,off,ea,fun i hi=>?_⟩
 have hlt:=cell_lt (hc i hi)
 rw [hb.cell (p:=⟨b,off+i,none⟩) (by simp at hlt ⊢; omega)]; exact hc i hi
theorem Reads.alloc {w:World} {v:Value} {q:List ByteArray} (h:Reads w v q) (o:Obj):Reads (w.alloc o) v q :=
 h.below ((Below.refl w.heap.size w).alloc (Nat.le_refl _) o) (Nat.le_refl _)
theorem reads_nil (w:World):Reads w (.slice none 0 0) []:=⟨none,0,rfl,Nat.le_refl _,Nat.zero_le _,fun _=>rfl,fun h=>by simp at h⟩
def scells (q:List ByteArray):List Value:=q.map .string
theorem scells_append (q r:List ByteArray):scells (q++r)=scells q++scells r:=by simp [scells]
theorem reads_own {w:World} {base:Nat} {v:Value} {q:List ByteArray} (h:w.ownsRow base 9 1 v q.length (scells q)):Reads w v q:=by
 rcases h.2 with ⟨rfl,h0⟩ | ⟨g,cap,cur,rfl,hbg,hgg,hnc,hcm,hcs,htake⟩
 ·rw [List.eq_nil_of_length_eq_zero h0]; exact reads_nil w
 ·refine ⟨some ⟨g,0,none⟩,cap,rfl,hnc,hcm,fun e=>by simp at e,fun _=>⟨g,0,rfl,fun i hi=>?_⟩⟩
  have:=h.cells (g:=g) rfl i (.string q[i]) (by simp [scells,hi])
  by_cases h0:i=0
  ·subst h0; simpa [Addr.add] using this
  ·simpa [Addr.add,h0] using this
theorem shown_any (b:UInt8) (w:World):Calls Tryz.prog 89 #[.int .u8 b.toNat] w fun e w'=>e=.returned (.bool (vis b))∧w'=w:=by
 by_cases h:32≤b.toNat
 ·have HV:Hid (vis b=decide (b.toNat≤126)):=(by simp [vis,h]:vis b=decide (b.toNat≤126))
  go_enter Tryz.func89,Tryz.ntmps89
  go_wp2
  all_goals go_ret
  all_goals refine ⟨ret_bool ?_,rfl⟩
  all_goals rw [HV.out]
  all_goals first | (simp_all; done) | (simp_all; omega)
 ·have HV:Hid (vis b=false):=(by simp [vis,h]:vis b=false)
  go_enter Tryz.func89,Tryz.ntmps89
  go_wp2
  all_goals go_ret
  all_goals refine ⟨ret_bool ?_,rfl⟩
  all_goals rw [HV.out]
  all_goals first | (simp_all; done) | (simp_all; omega)
open Go.RowKit
theorem gtext_long {s:ByteArray} (h:¬ s.size≤60):gtext s=false:=by simp [gtext,h]
theorem gtext_at {s:ByteArray} {k:Nat} (hk:k < s.size) (h:vis s[k]=false):gtext s=false:=by
 cases hg:gtext s with
 | false=>rfl
 | true =>
  have:=((gtext_iff s).1 hg).2 s[k] (by have:s[k] ∈ s.data:=Array.getElem_mem (xs:=s.data) (i:=k) hk; simpa using this)
  rw [this] at h; simp at h
theorem gtext_all {s:ByteArray} (h:s.size≤60) (ha:∀ j (hj:j < s.size),vis s[j]=true):gtext s=true:=by
 rw [gtext_iff]
 refine ⟨h,fun c hc=>?_⟩
 obtain ⟨j,hj,rfl⟩:=List.getElem_of_mem hc
 exact ha j (by simpa using hj)
theorem gtext_any (s:ByteArray) (w:World) (hs:s.size≤maxLen):Calls Tryz.prog 67 #[.string s] w fun e w'=>e=.returned (.bool (gtext s))∧w'=w:=by
 unfold maxLen at hs
 by_cases h60:s.size≤60
 ·go_enter Tryz.func67,Tryz.ntmps67
  go_wp2
  go_loopw [3] (fun i wr=>∃ k:Nat,k≤s.size∧i=.int .i64 k∧wr=w∧Hid (∀ j (hj:j < s.size),j < k→vis s[j]=true)) (fun i _=>s.size - (intOf i).toNat)
  case atStart=>exact ⟨0,Nat.zero_le _,rfl,rfl,fun j hj h=>by omega⟩
  case round =>
   obtain ⟨k,hk,rfl,rfl,hH⟩:=hrel
   by_cases hlt:k < s.size
   ·cases hv:vis s[k]
    ·have HV:=hide hv
     go_wp2_with (go_at_call 89; refine (shown_any s[k] _).mono ?_; rintro e w1 ⟨rfl,rfl⟩; rw [HV.out])
     go_ret
     exact ⟨ret_bool (gtext_at hlt HV.out).symm,rfl⟩
    ·have HV:=hide hv
     go_wp2_with (go_at_call 89; refine (shown_any s[k] _).mono ?_; rintro e w1 ⟨rfl,rfl⟩; rw [HV.out])
     refine ⟨⟨k+1,hlt,by go_num,trivial,fun j hj h=>?_⟩,by simp [intOf]; omega⟩
     by_cases e:j=k
     ·subst e; exact HV.out
     ·exact hH.out j hj (by omega)
   ·have hkk:k=s.size:=by omega
    have HG:=hide (gtext_all h60 (fun j hj=>hH.out j hj (by omega)))
    go_wp2
    go_ret
    exact ⟨ret_bool HG.out.symm,rfl⟩
 ·have HG:=hide (gtext_long h60)
  go_enter Tryz.func67,Tryz.ntmps67
  go_wp2
  go_ret
  exact ⟨ret_bool HG.out.symm,rfl⟩
theorem good_ret {L:Lin} (hr:L.ret=true) (h:L.now.size ≠ 0∨L.long=true):good L=false:=by
 unfold good; rw [hr]; rcases h with h | h
 ·simp [h]
 ·simp [h]
theorem good_eq {L:Lin} (h:L.ret=true→L.now.size=0∧L.long=false):good L=(decide (L.q.length≤6)&&gtext L.now&&L.q.all gtext):=by
 unfold good
 cases hr:L.ret
 ·simp
 ·obtain ⟨h1,h2⟩:=h hr; simp [h1,h2]
theorem all_at {q:List ByteArray} {k:Nat} (hk:k < q.length) (h:gtext q[k]=false):q.all gtext=false:=by
 rw [List.all_eq_false]; exact ⟨q[k],List.getElem_mem hk,by simp [h]⟩
theorem all_all {q:List ByteArray} (h:∀ j (hj:j < q.length),gtext q[j]=true):q.all gtext=true:=by
 rw [List.all_eq_true]; intro s hs; obtain ⟨j,hj,rfl⟩:=List.getElem_of_mem hs; exact h j hj
open Go.RowKit
structure Small (L:Lin):Prop where
 now:L.now.size≤maxLen
 all:∀ s ∈ L.q,s.size≤maxLen
theorem empty_of {s:ByteArray} (h:s.size=0):s=⟨#[]⟩:=by
 obtain ⟨⟨l⟩⟩:=s
 have h':l.length=0:=h
 rw [List.eq_nil_of_length_eq_zero h']
theorem toList_ne {s:ByteArray} (h:¬ s.size=0):¬ s.toList=[]:=by
 rw [ByteArray.toList_eq]; intro e; apply h
 have:s.data.toList.length=0:=by rw [e]; rfl
 simpa using this
theorem good_a (now:ByteArray) (long:Bool) (q:List ByteArray) (av:Option Addr) (cap:Nat) (w:World) (hs:Small ({ now:=now,long:=long,ret:=false,q:=q }:Lin)) (hl:q.length≤cap) (hm:cap≤maxLen)
 (hc:0 < q.length→∃ b off,av=some ⟨b,off,none⟩∧∀ i (h:i < q.length),w.cell? ⟨b,off+i,none⟩=some (.string q[i])) :
 Calls Tryz.prog 29 #[.agg #[.string now,.bool long,.bool false,.slice av q.length cap]] w fun e w'=>e=.returned (.bool (good ({ now:=now,long:=long,ret:=false,q:=q }:Lin)))∧Below w.heap.size w w':=by
 have hm':=hm
 unfold maxLen at hm'
 by_cases h6:q.length≤6
 ·cases hg:gtext now
  ·have HG:=hide (show good ({ now:=now,long:=long,ret:=false,q:=q }:Lin)=false by rw [good_eq (fun e=>by simp at e)]; simp [hg])
   have HT:=hide hg
   go_enter Tryz.func29,Tryz.ntmps29
   go_wp2_with (go_at_call 67; refine (gtext_any now _ hs.now).mono ?_; rintro e w1 ⟨rfl,rfl⟩; rw [HT.out])
   go_ret
   exact ⟨ret_bool HG.out.symm,(Below.refl _ _).alloc (Nat.le_refl _) _⟩
  ·have HT:=hide hg
   clear hg
   go_enter Tryz.func29,Tryz.ntmps29
   go_wp2_with (go_at_call 67; refine (gtext_any now _ hs.now).mono ?_; rintro e w1 ⟨rfl,rfl⟩; rw [HT.out])
   go_loopw [29] (fun i wr=>∃ k:Nat,k≤q.length∧i=.int .i64 k∧wr=w.alloc (.cells #[.string now,.bool long,.bool false,.slice av q.length cap] 55)∧Hid (∀ j (hj:j < q.length),j < k→gtext q[j]=true)) (fun i _=>q.length - (intOf i).toNat)
   case atStart=>exact ⟨0,Nat.zero_le _,rfl,rfl,fun j hj h=>by omega⟩
   case round =>
    obtain ⟨k,hk,rfl,rfl,hH⟩:=hrel
    by_cases hlt:k < q.length
    ·obtain ⟨b,off,rfl,hcell⟩:=hc (by omega)
     have hck:=hcell k hlt
     have hb:=cell_lt hck
     have hck':(w.alloc (.cells #[.string now,.bool long,.bool false,.slice (some ⟨b,off,none⟩) q.length cap] 55)).cell? ⟨b,off+k,none⟩=some (.string q[k]):=by
      rw [((Below.refl w.heap.size w).alloc (Nat.le_refl _) _).cell (p:=⟨b,off+k,none⟩) hb]; exact hck
     have hsk:=hs.all q[k] (List.getElem_mem hlt)
     clear hcell hc
     cases hv:gtext q[k]
     ·have HV:=hide hv
      have HG:=hide (show good ({ now:=now,long:=long,ret:=false,q:=q }:Lin)=false by rw [good_eq (fun e=>by simp at e)]; simp only [all_at hlt hv,Bool.and_false])
      clear hv
      go_wp2_with (go_at_call 67; refine (gtext_any q[k] _ hsk).mono ?_; rintro e w1 ⟨rfl,rfl⟩; rw [HV.out])
      go_ret
      exact ⟨ret_bool HG.out.symm,(Below.refl _ _).alloc (Nat.le_refl _) _⟩
     ·have HV:=hide hv
      clear hv
      go_wp2_with (go_at_call 67; refine (gtext_any q[k] _ hsk).mono ?_; rintro e w1 ⟨rfl,rfl⟩; rw [HV.out])
      refine ⟨⟨k+1,hlt,by go_num,trivial,fun j hj h=>?_⟩,by simp [intOf]; omega⟩
      by_cases e:j=k
      ·subst e; exact HV.out
      ·exact hH.out j hj (by omega)
    ·have HG:=hide (show good ({ now:=now,long:=long,ret:=false,q:=q }:Lin)=true by rw [good_eq (fun e=>by simp at e)]; simp only [all_all (fun j hj=>hH.out j hj (by omega)),HT.out,decide_eq_true h6,Bool.and_self])
     clear hc
     go_wp2
     go_ret
     exact ⟨ret_bool HG.out.symm,(Below.refl _ _).alloc (Nat.le_refl _) _⟩
 ·have HG:=hide (show good ({ now:=now,long:=long,ret:=false,q:=q }:Lin)=false by rw [good_eq (fun e=>by simp at e)]; simp [h6])
  go_enter Tryz.func29,Tryz.ntmps29
  go_wp2
  go_ret
  exact ⟨ret_bool HG.out.symm,(Below.refl _ _).alloc (Nat.le_refl _) _⟩
theorem good_b  (q:List ByteArray) (av:Option Addr) (cap:Nat) (w:World) (hs:Small ({ now:=⟨#[]⟩,long:=false,ret:=true,q:=q }:Lin)) (hl:q.length≤cap) (hm:cap≤maxLen)
 (hc:0 < q.length→∃ b off,av=some ⟨b,off,none⟩∧∀ i (h:i < q.length),w.cell? ⟨b,off+i,none⟩=some (.string q[i])) :
 Calls Tryz.prog 29 #[.agg #[.string ⟨#[]⟩,.bool false,.bool true,.slice av q.length cap]] w fun e w'=>e=.returned (.bool (good ({ now:=⟨#[]⟩,long:=false,ret:=true,q:=q }:Lin)))∧Below w.heap.size w w':=by
 have hm':=hm
 unfold maxLen at hm'
 by_cases h6:q.length≤6
 ·cases hg:gtext ⟨#[]⟩
  ·rw [gtext_nil] at hg; exact absurd hg (by simp)
  ·have HT:=hide hg
   clear hg
   go_enter Tryz.func29,Tryz.ntmps29
   go_wp2_with (go_at_call 67; refine (gtext_any ⟨#[]⟩ _ hs.now).mono ?_; rintro e w1 ⟨rfl,rfl⟩; rw [HT.out])
   go_loopw [29] (fun i wr=>∃ k:Nat,k≤q.length∧i=.int .i64 k∧wr=w.alloc (.cells #[.string ⟨#[]⟩,.bool false,.bool true,.slice av q.length cap] 55)∧Hid (∀ j (hj:j < q.length),j < k→gtext q[j]=true)) (fun i _=>q.length - (intOf i).toNat)
   case atStart=>exact ⟨0,Nat.zero_le _,rfl,rfl,fun j hj h=>by omega⟩
   case round =>
    obtain ⟨k,hk,rfl,rfl,hH⟩:=hrel
    by_cases hlt:k < q.length
    ·obtain ⟨b,off,rfl,hcell⟩:=hc (by omega)
     have hck:=hcell k hlt
     have hb:=cell_lt hck
     have hck':(w.alloc (.cells #[.string ⟨#[]⟩,.bool false,.bool true,.slice (some ⟨b,off,none⟩) q.length cap] 55)).cell? ⟨b,off+k,none⟩=some (.string q[k]):=by
      rw [((Below.refl w.heap.size w).alloc (Nat.le_refl _) _).cell (p:=⟨b,off+k,none⟩) hb]; exact hck
     have hsk:=hs.all q[k] (List.getElem_mem hlt)
     clear hcell hc
     cases hv:gtext q[k]
     ·have HV:=hide hv
      have HG:=hide (show good ({ now:=⟨#[]⟩,long:=false,ret:=true,q:=q }:Lin)=false by rw [good_eq (fun _=>⟨rfl,rfl⟩)]; simp only [all_at hlt hv,Bool.and_false])
      clear hv
      go_wp2_with (go_at_call 67; refine (gtext_any q[k] _ hsk).mono ?_; rintro e w1 ⟨rfl,rfl⟩; rw [HV.out])
      go_ret
      exact ⟨ret_bool HG.out.symm,(Below.refl _ _).alloc (Nat.le_refl _) _⟩
     ·have HV:=hide hv
      clear hv
      go_wp2_with (go_at_call 67; refine (gtext_any q[k] _ hsk).mono ?_; rintro e w1 ⟨rfl,rfl⟩; rw [HV.out])
      refine ⟨⟨k+1,hlt,by go_num,trivial,fun j hj h=>?_⟩,by simp [intOf]; omega⟩
      by_cases e:j=k
      ·subst e; exact HV.out
      ·exact hH.out j hj (by omega)
    ·have HG:=hide (show good ({ now:=⟨#[]⟩,long:=false,ret:=true,q:=q }:Lin)=true by rw [good_eq (fun _=>⟨rfl,rfl⟩)]; simp only [all_all (fun j hj=>hH.out j hj (by omega)),HT.out,decide_eq_true h6,Bool.and_self])
     clear hc
     go_wp2
     go_ret
     exact ⟨ret_bool HG.out.symm,(Below.refl _ _).alloc (Nat.le_refl _) _⟩
 ·have HG:=hide (show good ({ now:=⟨#[]⟩,long:=false,ret:=true,q:=q }:Lin)=false by rw [good_eq (fun _=>⟨rfl,rfl⟩)]; simp [h6])
  go_enter Tryz.func29,Tryz.ntmps29
  go_wp2
  go_ret
  exact ⟨ret_bool HG.out.symm,(Below.refl _ _).alloc (Nat.le_refl _) _⟩
theorem good_c (now:ByteArray) (long:Bool) (q:List ByteArray) (v:Value) (w:World) (h:¬ now.size=0∨long=true) :
 Calls Tryz.prog 29 #[.agg #[.string now,.bool long,.bool true,v]] w fun e w'=>e=.returned (.bool (good ({ now:=now,long:=long,ret:=true,q:=q }:Lin)))∧Below w.heap.size w w':=by
 have HG:=hide (show good ({ now:=now,long:=long,ret:=true,q:=q }:Lin)=false from good_ret rfl h)
 by_cases h0:now.size=0
 ·obtain rfl:=empty_of h0
  obtain rfl:long=true:=by simpa [h0] using h
  go_enter Tryz.func29,Tryz.ntmps29
  go_wp2
  go_ret
  exact ⟨ret_bool HG.out.symm,(Below.refl _ _).alloc (Nat.le_refl _) _⟩
 ·have hne:=toList_ne h0
  clear h h0
  go_enter Tryz.func29,Tryz.ntmps29
  go_wp2
  go_ret
  exact ⟨ret_bool HG.out.symm,(Below.refl _ _).alloc (Nat.le_refl _) _⟩
theorem good_any (L:Lin) (v:Value) (w:World) (hv:Reads w v L.q) (hs:Small L):Calls Tryz.prog 29 #[.agg (L.cells v)] w fun e w'=>e=.returned (.bool (good L))∧Below w.heap.size w w':=by
 obtain ⟨av,cap,rfl,hl,hm,hn,hc⟩:=hv
 obtain ⟨now,long,ret,q⟩:=L
 cases ret
 ·exact good_a now long q av cap w hs hl hm hc
 ·by_cases h:¬ now.size=0∨long=true
  ·exact good_c now long q _ w h
  ·have h0:now.size=0:=Classical.byContradiction fun e=>h (.inl e)
   have hl0:long=false:=by cases long with | false=>rfl | true=>exact absurd (.inr rfl) h
   subst hl0
   obtain rfl:=empty_of h0
   exact good_b q av cap w hs hl hm hc
open Go.RowKit
theorem Reads.list {w:World} {a:Addr} {cap:Nat} {q:List ByteArray}
 (hc:0 < q.length→∃ b off,some a=some (⟨b,off,none⟩:Addr)∧∀ i (h:i < q.length),w.cell? ⟨b,off+i,none⟩=some (.string q[i])) :
 ∀ j u,(scells q)[j]?=some u→w.cell? (a.add j)=some u:=by
 intro j u hj
 have hlt:j < q.length:=by
  have:=(List.getElem?_eq_some_iff.1 hj).1; simpa [scells] using this
 obtain ⟨b,off,e,h⟩:=hc (by omega)
 injection e with e; subst e
 have e2:u=.string q[j]:=by
  simp [scells,hlt] at hj; exact hj.symm
 subst e2
 rw [← h j hlt]
 by_cases h0:j=0
 ·subst h0; rfl
 ·simp [Addr.add,h0]
theorem scells_one (q:List ByteArray):∀ u ∈ scells q,u.oneCell'=true:=by
 intro u hu; simp only [scells,List.mem_map] at hu; obtain ⟨s,_,rfl⟩:=hu; rfl
theorem own_empty (w:World):(w.alloc (.cells #[] 9)).ownsRow w.heap.size 9 1 (.slice (some ⟨w.heap.size,0,none⟩) 0 0) 0 [] :=
 ⟨rfl,.inr ⟨w.heap.size,0,#[],rfl,Nat.le_refl _,heap_alloc_new w _,Nat.le_refl _,Nat.zero_le _,rfl,rfl⟩⟩
theorem clone_any (q:List ByteArray) (v:Value) (w:World) (hv:Reads w v q) (hq:q.length≤8796093022208):Calls Tryz.prog 59 #[v] w fun e w'=>∃ v',e=.returned v'∧w'.ownsRow w.heap.size 9 1 v' q.length (scells q)∧Below w.heap.size w w':=by
 obtain ⟨av,cap,rfl,hl,hm,hn,hc⟩:=hv
 obtain ⟨i0,hi,hz0,hz1,hz2⟩:=info_parts Tryz.info9
 have hnil:∀ (w:World) (a:Option Addr) (n c:Nat),(binOp .eql 47 (.slice a n c) (.slice none 0 0)).run Tryz.prog w=.ok (.bool a.isNone) w:=fun w a n c=>by
  rw [Lib.run_eql_slice_nil w 47 9 a n c 0 0 Tryz.underlying47]
 cases av with
 | none =>
  have:=hn rfl
  have hq0:q=[]:=List.eq_nil_of_length_eq_zero (by omega)
  subst this hq0
  clear hn hc
  go_enter Tryz.func59,Tryz.ntmps59
  go_wp2
  go_ret
  exact ⟨_,rfl,World.ownsRow_nil _ _ _ _,Below.refl _ _⟩
 | some a =>
  have hlist:=Reads.list (cap:=cap) hc
  replace hlist:=hide hlist
  clear hc hn
  go_enter Tryz.func59,Tryz.ntmps59
  go_wp2_with (at_builtin; refine wpList_append_own_at _ rfl (.tmp 5) (.tmp 6) 47 rfl w.heap.size 9 i0 (.string ⟨#[]⟩) 1 16 Tryz.underlying47 hi hz0 hz1 hz2 rfl (by decide) _ 0 [] rfl (own_empty w) a q.length cap (scells q) rfl ?c1 ?c2 (scells_one q) ?c3 ?c4 ?c5 ?_)
  case c1=>simp [scells]
  case c2 =>
   intro j u hj
   have h:=hlist.out j u hj
   have hlt:=cell_lt h
   rw [((Below.refl w.heap.size w).alloc (Nat.le_refl _) _).cell (p:=a.add j) hlt]; exact h
  case c3=>unfold maxLen; omega
  case c4=>omega
  case c5=>simp
  intro v' w' ho hg _ _
  go_wp2
  go_ret
  refine ⟨v',rfl,by simpa using ho,?_⟩
  exact ((Below.refl _ _).alloc (Nat.le_refl _) _).grown hg (by simp) (fun k e=>by simp [Value.ownBlock] at e; omega)
open Go.RowKit
def Cod (w:World) (b:Nat) (L:Lin) (v:Value):Prop:=w.heap[b]?=some (.cells (L.cells v) 55 (0,0))
section
variable {w w':World} {b:Nat} {L:Lin} {v:Value}
theorem Cod.cell (h:Cod w b L v) (o:Nat):w.cell? ⟨b,o,none⟩=(L.cells v)[o]?:=by
 unfold Cod at h; simp [World.cell?,h]
theorem Cod.frozen (h:Cod w b L v) (o:Nat):w.frozen? ⟨b,o,none⟩=false:=by
 unfold Cod at h; simp [World.frozen?,h]
theorem Cod.lt (h:Cod w b L v):b < w.heap.size:=(Array.getElem?_eq_some_iff.1 h).1
theorem Cod.all (h:Cod w b L v) :
 w.cell? ⟨b,0,none⟩=some (.string L.now)∧w.cell? ⟨b,1,none⟩=some (.bool L.long)∧w.cell? ⟨b,2,none⟩=some (.bool L.ret)∧w.cell? ⟨b,3,none⟩=some v∧∀ o,w.frozen? ⟨b,o,none⟩=false :=
 ⟨h.cell 0,h.cell 1,h.cell 2,h.cell 3,h.frozen⟩
theorem cod_mk {cs:Array Value} (h:w.heap[b]?=some (.cells cs 55 (0,0))) (e:cs=L.cells v):Cod w b L v:=by
 subst e; exact h
theorem cod_set {cs:Array Value} (h:w.heap[b]?=some (.cells cs 55 (0,0))) (o:Nat) (u:Value) :
 (w.setCell ⟨b,o,none⟩ u).heap[b]?=some (.cells (cs.setIfInBounds o u) 55 (0,0)):=heap_setCell_same w b o cs 55 u h
theorem cod_ne {c:Nat} {x:Option Obj} (h:w.heap[c]?=x) (hne:c ≠ b) (o:Nat) (u:Value):(w.setCell ⟨b,o,none⟩ u).heap[c]?=x:=by
 rw [Below.heap_setCell _ _ _ _ hne]; exact h
theorem cod_alloc {c:Nat} {x:Obj} (h:w.heap[c]?=some x) (o:Obj):(w.alloc o).heap[c]?=some x:=by
 rw [Below.heap_alloc _ _ _ (Array.getElem?_eq_some_iff.1 h).1]; exact h
end
theorem grown_refl (w:World) (r:Option Nat):w.grownBy w r:=⟨rfl,rfl,rfl,Nat.le_refl _,fun _ _ _=>rfl⟩
theorem grown_set (w:World) (b:Nat) (o:Nat) (v:Value):w.grownBy (w.setCell ⟨b,o,none⟩ v) (some b) :=
 ⟨rfl,rfl,rfl,by simp [World.setCell],fun k _ hk=>Below.heap_setCell _ _ _ _ (by intro e; apply hk; simp [e])⟩
theorem cell_new {w:World} {n:Nat} (hn:n=w.heap.size) (x:Value) (t:TypeId):(w.alloc (.cells #[x] t)).cell? ⟨n,0,none⟩=some x:=by
 subst hn; have:=heap_alloc_new w (.cells #[x] t); simp only [World.cell?,this]; rfl
structure FInv (w0:World) (b:Nat) (o:Obj) (L:Lin) (v:Value) (wr:World):Prop where
 lo:w0.heap.size≤b
 below:Below w0.heap.size w0 wr
 cod:Cod wr b L v
 other:wr.heap[b+1]?=some o
 own:wr.ownsRow (b+2) 9 1 v L.q.length (scells L.q)
section
variable {w0 wr w':World} {b:Nat} {o:Obj} {L L':Lin} {v v':Value}
theorem FInv.room (h:FInv w0 b o L v wr):b+2≤wr.heap.size:=(Array.getElem?_eq_some_iff.1 h.other).1
theorem FInv.put (h:FInv w0 b o L v wr) (f:Nat) (u:Value) (hc:(L.cells v).setIfInBounds f u=L'.cells v) (hq:L'.q=L.q):FInv w0 b o L' v (wr.setCell ⟨b,f,none⟩ u):=by
 refine ⟨h.lo,h.below.setCell h.lo _,cod_mk (cod_set h.cod f u) hc,cod_ne h.other (by omega) _ _,?_⟩
 rw [hq]
 refine h.own.kept (grown_set wr b f u) ?_
 right; intro e; have:=h.own.lt _ e; omega
theorem FInv.alloc (h:FInv w0 b o L v wr) (x:Obj):FInv w0 b o L v (wr.alloc x) :=
 ⟨h.lo,h.below.alloc (by have:=h.room; have:=h.lo; omega) x,cod_alloc h.cod x,cod_alloc h.other x,h.own.alloc x⟩
theorem FInv.grow {q:List ByteArray} (h:FInv w0 b o L v wr) (ho:w'.ownsRow (b+2) 9 1 v' q.length (scells q)) (hg:wr.grownBy w' v.ownBlock) :
 Below w0.heap.size w0 w'∧Cod w' b L v∧w'.heap[b+1]?=some o∧w'.ownsRow (b+2) 9 1 v' q.length (scells q):=by
 have hr:=h.room
 have hl:=h.lo
 have hk:∀ k,v.ownBlock=some k→b+2≤k:=fun k e=>(h.own.lt k e).1
 refine ⟨h.below.grown hg (by omega) (fun k e=>by have:=hk k e; omega),?_,?_,ho⟩
 ·unfold Cod; rw [hg.block _ (by omega) (fun e=>by have:=hk _ e.symm; omega)]; exact h.cod
 ·rw [hg.block _ (by omega) (fun e=>by have:=hk _ e.symm; omega)]; exact h.other
end
theorem end_any (w0:World) (b:Nat) (o:Obj) (L:Lin) (v:Value) (w:World) (h:FInv w0 b o L v w) (h6:L.q.length≤6) :
 Calls Tryz.prog 123 #[.pointer (some ⟨b,0,none⟩)] w fun e w'=>e=.returned (.bool (decide (L.q.length < 6)))∧∃ v',FInv w0 b o (endL L) v' w':=by
 obtain ⟨i0,hi,hz0,hz1,hz2⟩:=info_parts Tryz.info9
 obtain ⟨c0,c1,c2,c3,hfz⟩:=h.cod.all
 have h1:=(h.put (L':={ L with now:=⟨#[]⟩ }) 0 (.string ⟨#[]⟩) rfl rfl).put (L':={ L with now:=⟨#[]⟩,long:=false }) 1 (.bool false) rfl rfl
 have hvs:∃ (av:Option Addr) (cap:Nat),v=.slice av L.q.length cap:=by
  obtain ⟨av,cap,e,_⟩:=reads_own h.own; exact ⟨av,cap,e⟩
 obtain ⟨av,cap,rfl⟩:=hvs
 by_cases hf:6≤L.q.length
 ·have he:endL L={ L with now:=⟨#[]⟩,long:=false }:=by simp [endL,hf]
  have hd:=hide (show decide (L.q.length < 6)=false by simp; omega)
  replace h1:=hide h1
  replace he:=hide he
  clear h
  go_enter Tryz.func123,Tryz.ntmps123
  go_wp2
  go_ret
  exact ⟨ret_bool hd.out.symm,_,by rw [he.out]; exact h1.out⟩
 ·have hd:=hide (show decide (L.q.length < 6)=true by simp; omega)
  have hroom:=h.room
  have H1:=hide h1
  have HB:=hide h
  clear h h1
  go_enter Tryz.func123,Tryz.ntmps123
  go_wp2_with (at_builtin; refine wpList_append_own_at _ rfl (.tmp 24) (.tmp 26) 47 rfl (b+2) 9 i0 (.string ⟨#[]⟩) 1 16 Tryz.underlying47 hi hz0 hz1 hz2 rfl (by decide) _ L.q.length (scells L.q) rfl (H1.out.own.alloc _) ⟨w.heap.size,0,none⟩ 1 1 (scells [L.now]) rfl ?c1 ?c2 (scells_one _) ?c3 ?c4 ?c5 ?_)
  case c1=>rfl
  case c2 =>
   intro j u hj
   cases j with
   | zero=>simp [scells] at hj; subst hj; exact cell_new (by simp) _ _
   | succ j=>simp [scells] at hj
  case c3=>unfold maxLen; omega
  case c4=>omega
  case c5=>simp; omega
  intro v' w' ho hg _ _
  have ho':w'.ownsRow (b+2) 9 1 v' (L.q++[L.now]).length (scells (L.q++[L.now])):=by
   rw [scells_append,List.length_append]; exact ho
  obtain ⟨k1,k2,k3,k4⟩:=(H1.out.alloc (.cells #[.string L.now] 9)).grow ho' (by simpa using hg)
  have hlo:=HB.out.lo
  have hvs:∃ (av:Option Addr) (n cap:Nat),v'=.slice av n cap:=by
   obtain ⟨av,cap,e,_⟩:=reads_own k4; exact ⟨av,_,cap,e⟩
  obtain ⟨av',n',cap',rfl⟩:=hvs
  have HK:=hide (⟨k1,k2,k3,k4⟩:_∧_∧_∧_)
  obtain ⟨d0,d1,d2,d3,hfd⟩:=k2.all
  clear ho hg ho' k1 k2 k3 k4 c0 c1 c2 c3 hfz
  go_wp2
  go_ret
  obtain ⟨k1,k2,k3,k4⟩:=HK.out
  refine ⟨ret_bool hd.out.symm,.slice av' n' cap',hlo,k1.setCell hlo _,cod_mk (cod_set k2 3 _) ?_,cod_ne k3 (by omega) _ _,?_⟩
  ·simp [endL,hf,Lin.cells]
  ·have:(endL L).q=L.q++[L.now]:=by simp [endL,hf]
   rw [this]
   refine k4.kept (grown_set w' b 3 _) ?_
   right; intro e; have:=k4.lt _ e; omega
open Go.RowKit
def zl:Lin:={ now:=⟨#[]⟩,long:=false,ret:=false,q:=[] }
theorem Tryz.size24:(Tryz.prog.info? 55).map (·.size)=some 4:=by kernel_rfl
theorem load24 (w:World) (b:Nat) (L:Lin) (v:Value) (h:Cod w b L v):(loadVar 55 ⟨b,0,none⟩).run Tryz.prog w=.ok (.agg (L.cells v)) w :=
 run_loadVar_row w b 55 55 (L.cells v) (0,0) _ h Tryz.underlying55 rfl Tryz.size24
theorem res3 {fn:Func} {p a1 a2:Tmp} (hf:fn.results=#[.cell p 55,.tmp a1,.tmp a2]) {tmps:Array Value} {w:World} {b:Nat} {L:Lin} {v x y:Value}
 (h4:tmps.getD p undef=.pointer (some ⟨b,0,none⟩)) (h5:tmps.getD a1 undef=x) (h6:tmps.getD a2 undef=y) (hc:Cod w b L v) :
 (results fn tmps).run Tryz.prog w=.ok (.tuple #[.agg (L.cells v),x,y]) w:=by
 simp only [Array.getD_eq_getD_getElem?] at h4 h5 h6
 simp only [results,hf]
 simp [Result.andThen,h4,h5,h6,asAddr,load24 w b L v hc]
theorem cod_four {w:World} {b:Nat} {L M:Lin} {v u:Value} (h:Cod w b M u) :
 Cod ((((w.setCell ⟨b,0,none⟩ (.string L.now)).setCell ⟨b,1,none⟩ (.bool L.long)).setCell ⟨b,2,none⟩ (.bool L.ret)).setCell ⟨b,3,none⟩ v) b L v :=
 cod_mk (cod_set (cod_set (cod_set (cod_set h _ _) _ _) _ _) _ _) (by simp [Lin.cells])
theorem below_four {a w:World} {b B:Nat} {x0 x1 x2 x3:Value} (h:Below B a w) (hB:B≤b) :
 Below B a ((((w.setCell ⟨b,0,none⟩ x0).setCell ⟨b,1,none⟩ x1).setCell ⟨b,2,none⟩ x2).setCell ⟨b,3,none⟩ x3) :=
 (((h.setCell hB _).setCell hB _).setCell hB _).setCell hB _
theorem grown_trans {a b c:World} {r:Option Nat} (h:a.grownBy b r) (k:b.grownBy c r):a.grownBy c r :=
 ⟨k.os.trans h.os,k.tape.trans h.tape,k.output.trans h.output,Nat.le_trans h.size k.size,fun i hi hn=>(k.block i (Nat.lt_of_lt_of_le hi h.size) hn).trans (h.block i hi hn)⟩
theorem grown_four {w:World} {b:Nat} {x0 x1 x2 x3:Value} :
 w.grownBy ((((w.setCell ⟨b,0,none⟩ x0).setCell ⟨b,1,none⟩ x1).setCell ⟨b,2,none⟩ x2).setCell ⟨b,3,none⟩ x3) (some b) :=
 grown_trans (grown_trans (grown_trans (grown_set _ _ _ _) (grown_set _ _ _ _)) (grown_set _ _ _ _)) (grown_set _ _ _ _)
theorem take_snoc (s:ByteArray) (k:Nat) (h:k < s.size):s.data.toList.take (k+1)=s.data.toList.take k++[s[k]]:=by
 rw [List.take_succ_eq_append_getElem (by simpa using h)]; rfl
structure Rel (w0:World) (b:Nat) (o:Obj) (L0:Lin) (s:ByteArray) (k:Nat) (L:Lin) (n:Nat) (v:Value) (wr:World):Prop where
 le:k≤s.size
 eq:feedL L0 (s.data.toList.take k)=(L,n)
 fine:Fine L
 inv:FInv w0 b o L v wr
variable {w0 wr w':World} {b:Nat} {o o':Obj} {L0 L L':Lin} {s:ByteArray} {k n m:Nat} {v v':Value}
theorem Rel.count (h:Rel w0 b o L0 s k L n v wr):n≤k:=by
 have h1:=feed_le L0 (s.data.toList.take k)
 rw [h.eq] at h1
 have h2:(s.data.toList.take k).length≤k:=by simp; omega
 simp only at h1
 omega
theorem Rel.next (h:Rel w0 b o L0 s k L n v wr) (hk:k < s.size) (hs:step L s[k]=(L',m)) (hi:FInv w0 b o' L' v' w') :
 Rel w0 b o' L0 s (k+1) L' (n+m) v' w':=by
 refine ⟨hk,?_,?_,hi⟩
 ·rw [take_snoc s k hk,feedL_append,h.eq]
  simp only [feedL,hs,Nat.add_zero]
 ·have:=fine_step h.fine s[k]; rw [hs] at this; exact this
theorem own_base {w:World} {B B':Nat} {v:Value} {n:Nat} {xs:List Value} (h:w.ownsRow B 9 1 v n xs) (hB:B'≤B):w.ownsRow B' 9 1 v n xs:=by
 refine ⟨h.1,?_⟩
 rcases h.2 with h | ⟨g,cap,cur,h1,h2,h3⟩
 ·exact .inl h
 ·exact .inr ⟨g,cap,cur,h1,by omega,h3⟩
theorem finv_start {w w1 w2:World} {L:Lin} {v v2:Value} {o:Obj} (hb1:Below (((w.alloc (.cells (L.cells v) 55)).alloc o)).heap.size ((w.alloc (.cells (L.cells v) 55)).alloc o) w1)
 (hb2:Below w1.heap.size w1 w2) (ho:w2.ownsRow w1.heap.size 9 1 v2 L.q.length (scells L.q)) :
 Below w.heap.size w w2∧Cod w2 w.heap.size L v∧w2.heap[w.heap.size+1]?=some o∧FInv w w.heap.size o L v2 (w2.setCell ⟨w.heap.size,3,none⟩ v2):=by
 have hz1:=hb1.size
 simp only [World.size_alloc] at hz1
 have hb:Below w.heap.size w w2:=((((Below.refl _ _).alloc (Nat.le_refl _) _).alloc (by simp) _).trans (hb1.mono (by simp; omega))).trans (hb2.mono (by omega))
 have hc:Cod w2 w.heap.size L v:=by
  show w2.heap[w.heap.size]?=_
  rw [hb2.block _ (by omega),hb1.block _ (by simp; omega),Below.heap_alloc _ _ _ (by simp)]
  exact heap_alloc_new w _
 have ho1:w2.heap[w.heap.size+1]?=some o:=by
  rw [hb2.block _ (by omega),hb1.block _ (by simp)]
  have:=heap_alloc_new (w.alloc (.cells (L.cells v) 55)) o
  rw [World.size_alloc] at this
  exact this
 refine ⟨hb,hc,ho1,Nat.le_refl _,hb.setCell (Nat.le_refl _) _,cod_mk (cod_set hc 3 v2) (by simp [Lin.cells]),cod_ne ho1 (by omega) _ _,?_⟩
 refine (own_base ho (by omega)).kept (grown_set w2 w.heap.size 3 v2) ?_
 right; intro e; have:=(own_base ho (by omega:w.heap.size+2≤w1.heap.size)).lt _ e; omega
theorem FInv.done {w0 wr:World} {b:Nat} {L:Lin} {v:Value} (h:FInv w0 b (.cells (zl.cells (.slice none 0 0)) 55) L v wr) :
 Cod ((((wr.setCell ⟨b+1,0,none⟩ (.string L.now)).setCell ⟨b+1,1,none⟩ (.bool L.long)).setCell ⟨b+1,2,none⟩ (.bool L.ret)).setCell ⟨b+1,3,none⟩ v) (b+1) L v ∧
 Reads ((((wr.setCell ⟨b+1,0,none⟩ (.string L.now)).setCell ⟨b+1,1,none⟩ (.bool L.long)).setCell ⟨b+1,2,none⟩ (.bool L.ret)).setCell ⟨b+1,3,none⟩ v) v L.q ∧
 Below w0.heap.size w0 ((((wr.setCell ⟨b+1,0,none⟩ (.string L.now)).setCell ⟨b+1,1,none⟩ (.bool L.long)).setCell ⟨b+1,2,none⟩ (.bool L.ret)).setCell ⟨b+1,3,none⟩ v):=by
 have hlo:=h.lo
 refine ⟨cod_four (M:=zl) (u:=.slice none 0 0) h.other,reads_own (base:=b+2) (h.own.kept grown_four ?_),below_four h.below (by omega)⟩
 right; intro e; have:=h.own.lt _ e; omega
end Go.Proofs.YtncgcejlkmoliaaGreatDoor.Li
