import Derived.Test.YtncgcejlkmoliaaGreatDoorMh10
import Derived.Test.YtncgcejlkmoliaaGreatDoorMk34
set_option linter.unusedVariables false
set_option maxRecDepth 100000
set_option maxHeartbeats 16000000
namespace Go.Proofs.YtncgcejlkmoliaaGreatDoor
structure GoodO (o:Ord):Prop where
 verb:o.verb≤20
 nth:o.nth≤99
 all:o.all=true→o.verb=7∨o.verb=8∨o.verb=9
 text:o.text ≠ [] ↔ o.verb=11
 sec:o.second ≠ []→o.verb=7∨o.verb=9∨o.verb=10
 must:o.second=[]→o.verb ≠ 9∧o.verb ≠ 10
theorem nounT_bound {f name:List UInt8} {n:Nat} {x:List UInt8} {b:Bool} (h:nounT f name=some (n,x,b)):n≤99:=by
 unfold nounT at h
 by_cases h1:name=[]∨46 ∈ name
 ·rw [if_pos h1] at h; cases h
 ·rw [if_neg h1] at h
  by_cases h2:f=allW
  ·rw [if_pos h2] at h; cases h; omega
  ·rw [if_neg h2] at h
   cases hn:numL f with
   | none=>rw [hn] at h; cases h
   | some k =>
    rw [hn] at h
    cases h
    exact (num_bound hn).2
theorem nounL_bound {w:List UInt8} {n:Nat} {x:List UInt8} {b:Bool} (h:nounL w=some (n,x,b)):n≤99:=by
 unfold nounL at h
 by_cases h1:w=allW
 ·rw [if_pos h1] at h; cases h; omega
 ·rw [if_neg h1] at h
  by_cases h2:(cutL 46 w).2.2=true
  ·rw [if_pos h2] at h; exact nounT_bound h
  ·rw [if_neg h2] at h; exact nounT_bound h
theorem lone_some {r:List (List UInt8)} {x:List UInt8} (h:lone r=some x):r=[x]:=by
 match r,h with
 | [y],h=>simp [lone] at h; simp [h]
 | [],h=>simp [lone] at h
 | a::b::c,h=>simp [lone] at h
theorem second_good {v:Nat} {rest:List (List UInt8)} {tw:List UInt8} (hr:∀ x ∈ rest,x ≠ []) (h:secondL v rest=some tw) :
 (tw ≠ []→v=7∨v=9∨v=10)∧(tw=[]→v ≠ 9∧v ≠ 10):=by
 unfold secondL at h
 by_cases hv:v=7∨v=9∨v=10
 ·rw [if_pos hv] at h
  refine ⟨fun _=>hv,fun e=>?_⟩
  subst e
  match rest,h,hr with
  | [],h,_ =>
   by_cases h7:v=7
   ·omega
   ·simp [h7] at h
  | x::r,h,hr =>
   simp only at h
   by_cases hj:joins x=true
   ·rw [if_pos hj] at h
    have:=lone_some h
    exact absurd rfl (hr [] (by rw [this]; simp))
   ·rw [if_neg hj] at h
    have:=lone_some h
    exact absurd rfl (hr [] (by rw [this]; simp))
 ·rw [if_neg hv] at h
  by_cases hn:rest=[]
  ·rw [if_pos hn] at h
   cases h
   exact ⟨fun e=>absurd rfl e,fun _=>by omega⟩
  ·rw [if_neg hn] at h; cases h
theorem deed_good {v:Nat} {y:List UInt8} {rest:List (List UInt8)} {o:Ord} (hv:v≤20) (h11:v ≠ 11) (hr:∀ x ∈ rest,x ≠ []) (h:deedL v y rest=some o):GoodO o:=by
 unfold deedL at h
 cases hn:nounL y with
 | none=>rw [hn] at h; cases h
 | some t =>
  obtain ⟨n,name,every⟩:=t
  rw [hn] at h
  simp only at h
  by_cases he:every=true∧v ≠ 7∧v ≠ 8∧v ≠ 9
  ·rw [if_pos he] at h; cases h
  ·rw [if_neg he] at h
   cases h2:secondL v rest with
   | none=>rw [h2] at h; cases h
   | some tw =>
    rw [h2] at h
    cases h
    have hg:=second_good hr h2
    exact ⟨hv,nounL_bound hn,fun e=>by simp only at e; by_cases a:v=7; exact .inl a; by_cases b:v=8; exact .inr (.inl b); by_cases c:v=9; exact .inr (.inr c); exact absurd ⟨e,a,b,c⟩ he,by simp [h11],hg.1,hg.2⟩
theorem plain_good {v n:Nat} {name:List UInt8} (hv:v≤20) (hn:n≤99) (h11:v ≠ 11) (h9:v ≠ 9) (h10:v ≠ 10):GoodO { zo with verb:=v,nth:=n,name:=name } :=
 ⟨hv,hn,fun e=>(by cases e),by simp [zo,h11],fun e=>absurd rfl e,fun _=>⟨h9,h10⟩⟩
theorem order_good {s:List UInt8} {v:Nat} {rest:List (List UInt8)} {o:Ord} (hv:v≤20) (hr:∀ x ∈ rest,x ≠ []) (h:orderL s v rest=some o):GoodO o:=by
 unfold orderL at h
 by_cases h11:v=11
 ·rw [if_pos h11] at h
  unfold speechL at h
  by_cases ht:trimL (trimR (cutL 32 (trimL s)).2.1)=[]
  ·rw [if_pos ht] at h; cases h
  ·rw [if_neg ht] at h
   cases h
   exact ⟨by simp,by simp,fun e=>(by cases e),by simp [ht],fun e=>absurd rfl e,fun _=>⟨by simp,by simp⟩⟩
 ·rw [if_neg h11] at h
  by_cases ha:aloneB v=true
  ·rw [if_pos ha] at h
   have h910:v ≠ 9∧v ≠ 10:=⟨fun e=>(by subst e; cases ha),fun e=>(by subst e; cases ha)⟩
   by_cases hn:rest=[]
   ·rw [if_pos hn] at h
    cases h
    exact plain_good (n:=0) (name:=[]) hv (by omega) h11 h910.1 h910.2
   ·rw [if_neg hn] at h; cases h
  ·rw [if_neg ha] at h
   match rest,hr,h with
   | [],_,h=>cases h
   | x::r,hr,h =>
    have hr':∀ y ∈ r,y ≠ []:=fun y hy=>hr y (List.mem_cons_of_mem _ hy)
    simp only at h
    by_cases hk:(v=12∨v=13)∧r=[]
    ·rw [if_pos hk] at h
     cases hx:verbL x with
     | none=>rw [hx] at h; exact deed_good hv h11 hr' h
     | some d =>
      rw [hx] at h
      simp only at h
      by_cases h6:d < 6
      ·rw [if_pos h6] at h
       cases h
       exact plain_good (n:=1) hv (by omega) h11 (by omega) (by omega)
      ·rw [if_neg h6] at h; exact deed_good hv h11 hr' h
    ·rw [if_neg hk] at h; exact deed_good hv h11 hr' h
theorem parse_good (s:List UInt8):((parseL s).1=zo∧((parseL s).2=1∨(parseL s).2=3))∨(GoodO (parseL s).1∧(parseL s).2=0):=by
 unfold parseL
 cases hL:splitL s with
 | nil=>exact .inl ⟨rfl,.inl rfl⟩
 | cons x rest =>
  simp only
  cases hx:verbL x with
  | none=>exact .inl ⟨rfl,.inr rfl⟩
  | some v =>
   simp only
   cases ho:orderL s v rest with
   | none=>exact .inl ⟨rfl,.inl rfl⟩
   | some o =>
    refine .inr ⟨order_good (by have:=verb_lt hx; omega) (fun y hy=>split_ne (l:=s) (by rw [hL]; exact List.mem_cons_of_mem _ hy)) ho,rfl⟩
end Go.Proofs.YtncgcejlkmoliaaGreatDoor
namespace Go.Proofs.YtncgcejlkmoliaaGreatDoor.Ho
open Go.RowKit
theorem cut_sub (c:UInt8):∀ l:List UInt8,(cutL c l).1.length≤l.length∧(cutL c l).2.1.length≤l.length∧∀ x ∈ (cutL c l).2.1,x ∈ l:=by
 intro l
 induction l with
 | nil=>exact ⟨by simp [cutL],by simp [cutL],fun x hx=>by simp [cutL] at hx⟩
 | cons a l ih =>
  unfold cutL
  split
  ·exact ⟨by simp,by simp,fun x hx=>List.mem_cons_of_mem _ hx⟩
  ·exact ⟨by simp; exact ih.1,by simp; have:=ih.2.1; omega,fun x hx=>List.mem_cons_of_mem _ (ih.2.2 x hx)⟩
theorem sp_len:∀ (l acc:List UInt8),∀ x ∈ sp acc l,x.length≤acc.length+l.length:=by
 have one_len:∀ acc:List UInt8,∀ x ∈ one acc,x.length≤acc.length:=fun acc x hx=>by
  unfold one at hx
  split at hx
  ·simp at hx
  ·simp at hx; subst hx; simp [lowerL]
 intro l
 induction l with
 | nil=>intro acc x hx; have:=one_len acc x hx; simpa using this
 | cons a l ih =>
  intro acc x hx
  unfold sp at hx
  split at hx
  ·rcases List.mem_append.1 hx with hx | hx
   ·have:=one_len acc x hx; simp only [List.length_cons]; omega
   ·have:=ih [] x hx; simp only [List.length_cons,List.length_nil] at this ⊢; omega
  ·have:=ih (acc++[a]) x hx; simp only [List.length_append,List.length_cons,List.length_nil] at this ⊢; omega
theorem split_len (l:List UInt8):∀ x ∈ splitL l,x.length≤l.length:=fun x hx=>by
 have:=sp_len l [] x hx; simpa using this
theorem nounT_len {f name:List UInt8} {n:Nat} {x:List UInt8} {b:Bool} (h:nounT f name=some (n,x,b)):x=name:=by
 unfold nounT at h
 split at h
 ·simp at h
 ·split at h
  ·simp at h; exact h.2.1.symm
  ·split at h
   ·simp at h; exact h.2.1.symm
   ·simp at h
theorem nounL_len {w:List UInt8} {n:Nat} {x:List UInt8} {b:Bool} (h:nounL w=some (n,x,b)):x.length≤w.length:=by
 unfold nounL at h
 split at h
 ·simp at h; rw [h.2.1]; simp
 ·split at h
  ·rw [nounT_len h]; exact (cut_sub 46 w).2.1
  ·rw [nounT_len h]; omega
theorem second_len {v m:Nat} {rest:List (List UInt8)} {tw:List UInt8} (hr:∀ x ∈ rest,x.length≤m) (h:secondL v rest=some tw):tw.length≤m:=by
 have hl:∀ r:List (List UInt8),(∀ x ∈ r,x.length≤m)→∀ t,lone r=some t→t.length≤m:=fun r hr t ht=>by
  have:=lone_some ht
  subst this
  exact hr t (by simp)
 unfold secondL at h
 split at h
 ·split at h
  ·split at h
   ·simp at h; subst h; simp
   ·simp at h
  ·split at h
   ·exact hl _ (fun x hx=>hr x (List.mem_cons_of_mem _ hx)) tw h
   ·exact hl _ hr tw h
 ·split at h
  ·simp at h; subst h; simp
  ·simp at h
theorem deed_len {v m:Nat} {y:List UInt8} {rest:List (List UInt8)} {o:Ord} (hy:y.length≤m) (hr:∀ x ∈ rest,x.length≤m) (h:deedL v y rest=some o):o.name.length≤m∧o.second.length≤m∧o.text=[]:=by
 unfold deedL at h
 split at h
 ·simp at h
 ·rename_i n name every hn
  split at h
  ·simp at h
  ·split at h
   ·simp at h
   ·rename_i tw htw
    simp at h
    subst h
    exact ⟨Nat.le_trans (nounL_len hn) hy,second_len hr htw,rfl⟩
theorem trim_sub:∀ l:List UInt8,(trimL l).length≤l.length∧∀ x ∈ trimL l,x ∈ l:=fun l =>
 ⟨(List.dropWhile_sublist _).length_le,fun x hx=>(List.dropWhile_sublist _).subset hx⟩
theorem trimR_sub (l:List UInt8):(trimR l).length≤l.length∧∀ x ∈ trimR l,x ∈ l:=by
 have h:=trim_sub l.reverse
 unfold trimR
 exact ⟨by simpa using h.1,fun x hx=>by have:=h.2 x (List.mem_reverse.1 hx); simpa using this⟩
theorem order_len {s:List UInt8} {v m:Nat} (hs:s.length≤m) (h5:5≤m) {rest:List (List UInt8)} (hr:∀ x ∈ rest,x.length≤m) {o:Ord} (h:orderL s v rest=some o):o.name.length≤m∧o.second.length≤m∧o.text.length≤m∧∀ x ∈ o.text,x ∈ s:=by
 have hd:∀ {y:List UInt8} {r:List (List UInt8)},y.length≤m→(∀ x ∈ r,x.length≤m)→deedL v y r=some o→o.name.length≤m∧o.second.length≤m∧o.text.length≤m∧∀ x ∈ o.text,x ∈ s:=fun hy hr h=>by
  have:=deed_len hy hr h
  exact ⟨this.1,this.2.1,by rw [this.2.2]; simp,fun x hx=>by rw [this.2.2] at hx; simp at hx⟩
 unfold orderL at h
 split at h
 ·unfold speechL at h
  split at h
  ·simp at h
  ·simp at h
   subst h
   have h1:=trim_sub s
   have h2:=cut_sub 32 (trimL s)
   have h3:=trimR_sub (cutL 32 (trimL s)).2.1
   have h4:=trim_sub (trimR (cutL 32 (trimL s)).2.1)
   exact ⟨by simp,by simp,by show (trimL (trimR (cutL 32 (trimL s)).2.1)).length≤m; omega,fun x hx=>h1.2 x (h2.2.2 x (h3.2 x (h4.2 x hx)))⟩
 ·split at h
  ·split at h
   ·simp at h; subst h; exact ⟨by simp [zo],by simp [zo],by simp [zo],fun x hx=>by simp [zo] at hx⟩
   ·simp at h
  ·split at h
   ·simp at h
   ·rename_i x r
    have hx:=hr x (List.mem_cons_self ..)
    have hr2:∀ y ∈ r,y.length≤m:=fun y hy=>hr y (List.mem_cons_of_mem _ hy)
    split at h
    ·split at h
     ·rename_i d _
      split at h
      ·rename_i hd6
       simp at h
       subst h
       refine ⟨?_,by simp [zo],by simp [zo],fun x hx=>by simp [zo] at hx⟩
       show (calledL d).length≤m
       have:(calledL d).length≤5:=by
        rcases (show d=0∨d=1∨d=2∨d=3∨d=4∨d=5 by omega) with e | e | e | e | e | e <;> rw [e] <;> decide
       omega
      ·exact hd hx hr2 h
     ·exact hd hx hr2 h
    ·exact hd hx hr2 h
theorem parse_len {l:List UInt8} {m:Nat} (hl:l.length≤m) (h5:5≤m):(parseL l).1.name.length≤m∧(parseL l).1.second.length≤m∧(parseL l).1.text.length≤m∧∀ x ∈ (parseL l).1.text,x ∈ l:=by
 have hz:(zo.name.length≤m∧zo.second.length≤m∧zo.text.length≤m∧∀ x ∈ zo.text,x ∈ l):=⟨by simp [zo],by simp [zo],by simp [zo],fun x hx=>by simp [zo] at hx⟩
 unfold parseL
 split
 ·exact hz
 ·rename_i x rest hsp
  split
  ·exact hz
  ·split
   ·rename_i o ho
    exact order_len hl h5 (fun y hy=>Nat.le_trans (split_len l y (by rw [hsp]; exact List.mem_cons_of_mem _ hy)) hl) ho
   ·exact hz
theorem bs_size (l:List UInt8):(bs l).size=l.length:=by simp [bs,ByteArray.size]
theorem parse_odt {l:List UInt8} (hl:l.length≤60) (hv:∀ c ∈ l,Li.vis c=true):OdT (odOf (parseL l).1):=by
 have h:=parse_len hl (by omega)
 have hb:(parseL l).1.verb≤20∧(parseL l).1.nth≤99:=by
  rcases parse_good l with ⟨e,_⟩ | ⟨g,_⟩
  ·rw [e]; exact ⟨by decide,by decide⟩
  ·exact ⟨g.verb,g.nth⟩
 refine ⟨⟨by show (bs _).size≤_; rw [bs_size]; omega,by show (bs _).size≤_; rw [bs_size]; omega,by show -9223372036854775808≤(((parseL l).1.nth:Nat):Int); omega,by show (((parseL l).1.nth:Nat):Int)≤9223372036854775807; omega⟩,⟨by show (bs _).size≤_; rw [bs_size]; omega,fun c hc=>hv c (h.2.2.2 c ?_)⟩,by show (0:Int)≤(((parseL l).1.verb:Nat):Int); omega,by show (((parseL l).1.verb:Nat):Int)≤20; omega⟩
 have e:(odOf (parseL l).1).text.data.toList=(parseL l).1.text:=by simp [odOf,bs]
 rw [e] at hc; exact hc
open Go.RowKit
section
variable {N:Nat} {M:Hm}
theorem told_tell (S:Se) (s:ByteArray):(tellS S s).told.length≤S.told.length+1:=by
 unfold tellS
 simp only
 split
 ·omega
 ·simp
theorem line_ok {S:Se} (h:SeOk S) {f:ByteArray} {r:List ByteArray} (hq:S.lin.q=f::r):f.data.toList.length≤60∧∀ c ∈ f.data.toList,Li.vis c=true:=by
 have:=(Li.gtext_iff f).1 (h.lin.all f (by rw [hq]; exact List.mem_cons_self ..))
 exact ⟨by rw [len_size]; exact this.1,this.2⟩
theorem put_seat (M:Hm) (i:Nat) (o:Option Se):(M.put i o).seat i=o:=by simp [Hm.put]
theorem Iv.obey (h:Iv N M) {i:Nat} (hi:i < 4) {S:Se} (hS:M.seat i=some S) (hp:plays S=true) {l:List UInt8} (hl:l.length≤60) (hv:∀ c ∈ l,Li.vis c=true):Iv (N+100) (obeyM M i S l):=by
 have hSo:=h.sv.seat i S hi hS
 unfold obeyM
 split
 ·exact h.put (S':=tellS S whatT) (N':=N+100) hi hS rfl (hSo.1.tell (by decide)) (by omega) (by have:=told_tell S whatT; omega)
 ·split
  ·exact (h.leave hi hS).1
  ·rename_i hq
   obtain ⟨b,hb,h2,h6,hh⟩:=h.play i S hi hS hp
   rw [hb]
   exact h.order h6 hh (parse_odt hl hv) (fun e=>hq (by
    have e2:(((parseL l).1.verb:Nat):Int)=20:=e
    omega))
theorem Iv.turn (h:Iv N M) {i:Nat} (hi:i < 4):Iv (N+100) (turnM M i):=by
 unfold turnM
 split
 ·exact h.mono (by omega)
 ·rename_i S hS
  have hSo:=h.sv.seat i S hi hS
  split
  ·exact h.mono (by omega)
  ·rename_i f r hq
   have h1:Iv N (M.put i (some (popS S r))):=h.put (S':=popS S r) hi hS rfl (hSo.1.pop hq) (Nat.le_refl _) hSo.2
   split
   ·exact h1.mono (by omega)
   ·split
    ·rename_i hp
     have hl:=line_ok hSo.1 hq
     exact h1.obey hi (put_seat ..) hp hl.1 hl.2
    ·rename_i hp
     exact h1.enter hi (put_seat ..) (by
      have:plays (popS S r)=plays S:=rfl
      rw [this]; simpa using hp) _
theorem Iv.turns (h:Iv N M):∀ k,k≤4→Iv (N+100*k) (turnsM M k):=by
 intro k
 induction k with
 | zero=>intro _; exact h
 | succ k ih=>intro hk; exact ((ih (by omega)).turn (by omega)).mono (by omega)
theorem Iv.pulse (h:Iv N M) (n:Int):Iv (N+500) (pulseM M n):=((h.turns 4 (Nat.le_refl _)).round n).mono (by omega)
def sits (M:Hm) (i:Nat):Nat:=if (M.seat i).isSome=true then 1 else 0
def cnt (M:Hm):Nat:=sits M 0+sits M 1+sits M 2+sits M 3
theorem sits_le (M:Hm) (i:Nat):sits M i≤1:=by unfold sits; split <;> omega
theorem cnt_le (M:Hm):cnt M≤4:=by
 have h0:=sits_le M 0
 have h1:=sits_le M 1
 have h2:=sits_le M 2
 have h3:=sits_le M 3
 unfold cnt; omega
theorem cnt_same {M M':Hm} (h:∀ j,j < 4→(M'.seat j).isSome=(M.seat j).isSome):cnt M'=cnt M:=by
 unfold cnt sits
 rw [h 0 (by omega),h 1 (by omega),h 2 (by omega),h 3 (by omega)]
theorem cnt_less {M M':Hm} {i:Nat} (hi:i < 4) (h0:(M.seat i).isSome=true) (h1:(M'.seat i).isSome=false) (h:∀ j,j < 4→j ≠ i→(M'.seat j).isSome=(M.seat j).isSome):cnt M'+1=cnt M:=by
 have hs:∀ j,j < 4→j ≠ i→sits M' j=sits M j:=fun j hj hne=>by unfold sits; rw [h j hj hne]
 have e0:sits M i=1:=by unfold sits; rw [if_pos h0]
 have e1:sits M' i=0:=by unfold sits; rw [if_neg (by rw [h1]; simp)]
 unfold cnt
 match i,hi with
 | 0,_=>rw [e0,e1,hs 1 (by omega) (by omega),hs 2 (by omega) (by omega),hs 3 (by omega) (by omega)] <;> omega
 | 1,_=>rw [e0,e1,hs 0 (by omega) (by omega),hs 2 (by omega) (by omega),hs 3 (by omega) (by omega)] <;> omega
 | 2,_=>rw [e0,e1,hs 0 (by omega) (by omega),hs 1 (by omega) (by omega),hs 3 (by omega) (by omega)] <;> omega
 | 3,_=>rw [e0,e1,hs 0 (by omega) (by omega),hs 1 (by omega) (by omega),hs 2 (by omega) (by omega)] <;> omega
theorem Iv.cuts (h:Iv N M) {i:Nat} (hi:i < 4):∃ N',Iv N' (cutsM M i).1∧N'+100*cnt (cutsM M i).1≤N+100*cnt M∧cnt (cutsM M i).1≤cnt M∧((cutsM M i).2=true→cnt (cutsM M i).1 < cnt M):=by
 unfold cutsM
 split
 ·exact ⟨N,h,Nat.le_refl _,Nat.le_refl _,fun e=>by simp at e⟩
 ·rename_i S hS
  have hSo:=h.sv.seat i S hi hS
  have h1:Iv N (M.put i (some (flowS S))):=h.put (S':=flowS S) hi hS rfl hSo.1.flow (Nat.le_refl _) hSo.2
  have hsame:∀ j,j < 4→((M.put i (some (flowS S))).seat j).isSome=(M.seat j).isSome:=fun j hj=>by
   simp only [Hm.put]
   by_cases e:j=i
   ·subst e; rw [if_pos rfl,hS]; rfl
   ·rw [if_neg e]
  split
  ·obtain ⟨h2,h3,h4⟩:=h1.leave hi (put_seat M i _)
   have hc:cnt (leaveM (M.put i (some (flowS S))) i)+1=cnt M:=cnt_less hi (by rw [hS]; rfl) (by rw [h3]; rfl) fun j hj hne=>(h4 j hj hne).trans (hsame j hj)
   exact ⟨N+100,h2,by simp only; omega,by simp only; omega,fun _=>by simp only; omega⟩
  ·have:=cnt_same hsame
   exact ⟨N,h1,by simp only; omega,by simp only; omega,fun e=>by simp at e⟩
theorem Iv.cutK (h:Iv N M):∀ k,k≤4→∃ N',Iv N' (cutK M k).1∧N'+100*cnt (Ho.cutK M k).1≤N+100*cnt M∧cnt (Ho.cutK M k).1≤cnt M∧((Ho.cutK M k).2=true→cnt (Ho.cutK M k).1 < cnt M):=by
 intro k
 induction k with
 | zero=>intro _; exact ⟨N,h,Nat.le_refl _,Nat.le_refl _,fun e=>by simp [Ho.cutK] at e⟩
 | succ k ih =>
  intro hk
  obtain ⟨N1,h1,h2,h3,h4⟩:=ih (by omega)
  obtain ⟨N2,g1,g2,g3,g4⟩:=h1.cuts (i:=k) (by omega)
  refine ⟨N2,g1,by simp only [Ho.cutK]; omega,by simp only [Ho.cutK]; omega,fun e=>?_⟩
  simp only [Ho.cutK,Bool.or_eq_true] at e ⊢
  rcases e with e | e
  ·have:=h4 e; omega
  ·have:=g4 e; omega
theorem Iv.flowN:∀ (n:Nat) {N:Nat} {M:Hm},Iv N M→∃ N',Iv N' (flowN n M)∧N'+100*cnt (Ho.flowN n M)≤N+100*cnt M:=by
 intro n
 induction n with
 | zero=>intro N M h; exact ⟨N,h,Nat.le_refl _⟩
 | succ n ih =>
  intro N M h
  obtain ⟨N1,h1,h2,h3,h4⟩:=h.cutK 4 (Nat.le_refl _)
  unfold Ho.flowN
  split
  ·obtain ⟨N2,g1,g2⟩:=ih h1
   exact ⟨N2,g1,Nat.le_trans g2 h2⟩
  ·exact ⟨N1,h1,h2⟩
theorem Iv.flow (h:Iv N M):Iv (N+400) (flowM M):=by
 obtain ⟨N',h1,h2⟩:=Iv.flowN 5 h
 have:=cnt_le M
 exact h1.mono (by omega)
theorem Iv.forget (h:Iv N M) (n:Nat):Iv 0 { forgetM M with acts:=n }:=by
 have back:∀ j T,({ forgetM M with acts:=n }:Hm).seat j=some T→∃ T0,M.seat j=some T0∧T={ T0 with told:=[] }:=fun j T e=>by
  simp only [forgetM,Option.map_eq_some_iff] at e
  obtain ⟨T0,e0,rfl⟩:=e
  exact ⟨T0,e0,rfl⟩
 refine ⟨h.good,h.nm,⟨fun j T hj e=>?_,by simp [forgetM]⟩,fun j T hj e hp=>?_,fun j k T U hj hk e1 e2 hp hbe=>?_,fun b h1 h2 h3=>?_,h.named,h.uniq⟩
 ·obtain ⟨T0,e0,rfl⟩:=back j T e
  exact ⟨(h.sv.seat j T0 hj e0).1.untold,by simp⟩
 ·obtain ⟨T0,e0,rfl⟩:=back j T e
  exact h.play j T0 hj e0 hp
 ·obtain ⟨T0,e0,rfl⟩:=back j T e1
  obtain ⟨U0,f0,rfl⟩:=back k U e2
  exact h.one j k T0 U0 hj hk e0 f0 hp hbe
 ·obtain ⟨j,T,hj,e,eb⟩:=h.all b h1 h2 h3
  exact ⟨j,{ T with told:=[] },hj,by simp [forgetM,e],eb⟩
theorem new_told:newS.told.length≤1:=told_tell _ _
theorem Iv.come (h:Iv N M) {i:Nat} (hi:i < 4) (hS:M.seat i=none):Iv (N+1) (M.put i (some newS)):=by
 have hnp:plays newS=false:=rfl
 have back:∀ j T,(M.put i (some newS)).seat j=some T→(j=i∧T=newS)∨(j ≠ i∧M.seat j=some T):=fun j T e=>by
  simp only [Hm.put] at e
  by_cases e2:j=i
  ·rw [if_pos e2] at e; injection e with e; exact .inl ⟨e2,e.symm⟩
  ·rw [if_neg e2] at e; exact .inr ⟨e2,e⟩
 refine ⟨h.good,h.nm,⟨fun j T hj e=>?_,by have:=h.sv.last; show M.last.length≤_; omega⟩,fun j T hj e hp=>?_,fun j k T U hj hk e1 e2 hp hbe=>?_,fun b h1 h2 h3=>?_,h.named,h.uniq⟩
 ·rcases back j T e with ⟨_,rfl⟩ | ⟨_,e0⟩
  ·exact ⟨ok_new,by have:=new_told; omega⟩
  ·have:=h.sv.seat j T hj e0
   exact ⟨this.1,by omega⟩
 ·rcases back j T e with ⟨_,rfl⟩ | ⟨_,e0⟩
  ·rw [hnp] at hp; simp at hp
  ·exact h.play j T hj e0 hp
 ·rcases back j T e1 with ⟨_,rfl⟩ | ⟨_,e0⟩
  ·rw [hnp] at hp; simp at hp
  ·rcases back k U e2 with ⟨_,rfl⟩ | ⟨_,f0⟩
   ·have:plays T=false:=by unfold plays; rw [hbe]; rfl
    rw [this] at hp; simp at hp
   ·exact h.one j k T U hj hk e0 f0 hp hbe
 ·obtain ⟨j,T,hj,e,eb⟩:=h.all b h1 h2 h3
  refine ⟨j,T,hj,?_,eb⟩
  simp only [Hm.put]
  rw [if_neg,e]
  rintro rfl
  rw [hS] at e; simp at e
theorem told_feed (S:Se) (l:List UInt8):(feedS S l).told.length≤S.told.length+1:=by
 unfold feedS
 split
 ·exact told_tell _ _
 ·exact Nat.le_add_right _ 1
theorem Iv.act (h:Iv N M) {a:Ac} (hr:refusedM M a=0):Iv (N+500) (actM M a).1:=by
 unfold refusedM at hr
 unfold actM
 by_cases hk:a.kind < 1∨5 < a.kind
 ·rw [if_pos hk] at hr; omega
 rw [if_neg hk] at hr
 by_cases h5:a.kind=5
 ·rw [if_pos h5]; exact h.pulse _
 rw [if_neg h5] at hr ⊢
 by_cases hs:a.seat < 0∨3 < a.seat
 ·rw [if_pos hs] at hr; omega
 rw [if_neg hs] at hr
 have hi:a.seat.toNat < 4:=by omega
 by_cases hc:(M.seat a.seat.toNat).isNone=decide (a.kind=1)
 ·by_cases h1:a.kind=1
  ·rw [if_pos h1]
   rw [h1] at hc
   have:M.seat a.seat.toNat=none:=by simpa using hc
   exact (h.come hi this).mono (by omega)
  ·rw [if_neg h1]
   split
   ·exact h.mono (by omega)
   ·rename_i S hS
    have hSo:=h.sv.seat _ S hi hS
    split
    ·exact h.put (S':=feedS S a.bytes.data.toList) (N':=N+500) hi hS (by unfold feedS; split <;> rfl) (hSo.1.feed _) (by omega) (by have:=told_feed S a.bytes.data.toList; omega)
    ·split
     ·exact h.put (S':=Ho.takeS S a.num) (N':=N+500) hi hS rfl (hSo.1.take _) (by omega) (by show S.told.length≤_; have:=hSo.2; omega)
     ·exact ((h.leave hi hS).1).mono (by omega)
 ·rw [if_neg hc] at hr; omega
theorem Iv.does (h:Iv 1000 M) (a:Ac):Iv 1000 (doM M a).1:=by
 unfold doM
 split
 ·exact h
 ·split
  ·rename_i hr
   have h1:=h.forget (M.acts+1)
   have h2:refusedM { forgetM M with acts:=M.acts+1 } a=0:=hr
   exact ((h1.act h2).flow).mono (by omega)
  ·exact (h.forget (M.acts+1)).mono (by omega)
theorem nm_nl:Nm nl:=by
 refine ⟨fun r hr=>?_,fun i hi=>?_,fun b hb=>?_,fun b hb h=>?_⟩
 ·exact vz_of (List.all_eq_true.1 (show (List.range 6).all (fun r=>vzb 8 (nl.rname r))=true by kernel_rfl) r (by simp [hr]))
 ·exact vz_of (List.all_eq_true.1 (show (List.range 9).all (fun r=>vzb 8 (nl.tname r))=true by kernel_rfl) i (by simp [hi]))
 ·exact of_decide_eq_true (List.all_eq_true.1 (show (List.range 6).all (fun b=>decide ((nl.bname b).size≤8))=true by kernel_rfl) b (by simp [hb]))
 ·have:=List.all_eq_true.1 (show (List.range 6).all (fun b=>!nl.here b || namedB (nl.bname b))=true by kernel_rfl) b (by simp [hb])
  rw [h] at this
  exact named_T (by simpa using this)
theorem iv_new:Iv 1000 newM:=by
 have hh:∀ b:Nat,2≤b→b < 6→nl.here b=false:=fun b h1 h2=>by
  have:=List.all_eq_true.1 (show (List.range 6).all (fun b=>decide (b < 2) || !nl.here b)=true by kernel_rfl) b (by simp [h2])
  simp only [Bool.or_eq_true,decide_eq_true_eq,Bool.not_eq_true'] at this
  rcases this with e | e
  ·omega
  ·exact e
 refine ⟨good_nl,nm_nl,⟨fun i S _ e=>by simp [newM] at e,by simp [newM]⟩,fun i S _ e=>by simp [newM] at e,fun i j S T _ _ e=>by simp [newM] at e,fun b h1 h2 h3=>?_,fun b h1 h2 h3=>?_,fun b c h1 h2 _ _ h3=>?_⟩
 all_goals (have:=hh b h1 h2; exact absurd (h3.symm.trans this) (by simp))
end
end Go.Proofs.YtncgcejlkmoliaaGreatDoor.Ho
