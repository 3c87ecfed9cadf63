import Derived.Test.YtncgcejlkmoliaaGreatDoorMh08
import Derived.Test.YtncgcejlkmoliaaGreatDoorMh04
import Derived.Test.YtncgcejlkmoliaaGreatDoorMh07
import Derived.Test.YtncgcejlkmoliaaGreatDoorMh05
set_option linter.unusedVariables false
set_option maxRecDepth 100000
set_option maxHeartbeats 16000000
namespace Go.Proofs.YtncgcejlkmoliaaGreatDoor
open Go.RowKit
theorem way_of_path (L:Ld):∀ (q:List Int) (i:Int) (S:List Int) (n:Nat),PathR L q i→(∀ x ∈ q,x ∉ S)→q.length≤n→wayFrom L n S i=S++q:=by
 intro q
 induction q with
 | nil=>intro i S n h; exact h.elim
 | cons x r ih =>
  intro i S n h hd hn
  have hP:Path L i (x::r):=h
  obtain ⟨rfl,ha,h⟩:=h
  obtain ⟨m,rfl⟩:∃ m,n=m+1:=⟨n - 1,by simp at hn; omega⟩
  simp only [wayFrom]
  rw [if_pos ⟨ha,hd x (List.mem_cons_self ..)⟩]
  rcases h with ⟨hw,rfl⟩ | ⟨hw,h⟩
  ·rw [if_neg hw]
  ·rw [if_pos hw,ih _ _ m h ?_ (by simp at hn; omega)]
   ·simp
   ·intro y hy hm
    rcases List.mem_append.1 hm with hm | hm
    ·exact hd y (List.mem_cons_of_mem _ hy) hm
    ·rw [List.mem_singleton.1 hm] at hy
     obtain ⟨p,q',e,hq⟩:=Path.part (show Path L (L.loc x.toNat) r from h) x hy
     have:=hq.uniq _ hP
     rw [this] at e
     have hl:=congrArg List.length e
     simp at hl
     omega
theorem path_nodup (L:Ld):∀ (q:List Int) (i:Int),PathR L q i→q.Nodup∧∀ s ∈ q,0≤s∧s < 9:=by
 intro q
 induction q with
 | nil=>intro i h; exact h.elim
 | cons x r ih =>
  intro i h
  have hP:Path L i (x::r):=h
  obtain ⟨rfl,ha,h⟩:=h
  have hb:=amg_pos ha
  rcases h with ⟨hw,rfl⟩ | ⟨hw,h⟩
  ·refine ⟨by simp,fun s hs=>?_⟩
   rw [List.mem_singleton.1 hs]; exact hb
  ·have:=ih _ h
   refine ⟨List.nodup_cons.2 ⟨fun hm=>?_,this.1⟩,fun s hs=>?_⟩
   ·obtain ⟨p,q',e,hq⟩:=Path.part (show Path L (L.loc x.toNat) r from h) x hm
    have e2:=hq.uniq _ hP
    rw [e2] at e
    have hl:=congrArg List.length e
    simp at hl
    omega
   ·rcases List.mem_cons.1 hs with rfl | hs
    ·exact hb
    ·exact this.2 s hs
theorem path_way' {L:Ld} {i:Int} {q:List Int} (h:Path L i q):wayL L i=q:=by
 have hl:=path_nodup L q i h
 have:=pigeon 9 q hl.1 hl.2
 have e:=way_of_path L q i [] 10 h (fun _ _=>by simp) (by omega)
 simpa [wayL] using e
theorem path_last (L:Ld):∀ (q:List Int) (i:Int),PathR L q i→L.wh (q.getD (q.length - 1) 0).toNat ≠ 2:=by
 intro q
 induction q with
 | nil=>intro i h; exact h.elim
 | cons x r ih =>
  intro i h
  obtain ⟨rfl,ha,h⟩:=h
  rcases h with ⟨hw,rfl⟩ | ⟨hw,h⟩
  ·simpa using hw
  ·have:=ih _ h
   cases r with
   | nil=>exact h.elim
   | cons y s=>simpa using this
theorem path_ends {L:Ld} {i:Int} {q:List Int} (h:Path L i q):L.wh (lastW L i) ≠ 2:=by
 unfold lastW; rw [path_way' h]; exact path_last L q i h
theorem path_same {L L':Ld} (h1:∀ i:Nat,i < 9→(L'.wh i=2 ↔ L.wh i=2)) (h2:∀ i:Nat,i < 9→L.wh i=2→L'.loc i=L.loc i):∀ (q:List Int) (i:Int),PathR L q i→PathR L' q i:=by
 intro q
 induction q with
 | nil=>intro i h; exact h
 | cons x r ih =>
  intro i h
  obtain ⟨rfl,ha,h⟩:=h
  have hb:=amg_pos ha
  refine ⟨rfl,ha,?_⟩
  rcases h with ⟨hw,rfl⟩ | ⟨hw,h⟩
  ·exact .inl ⟨fun e=>hw ((h1 _ (by omega)).1 e),rfl⟩
  ·exact .inr ⟨(h1 _ (by omega)).2 hw,by rw [h2 _ (by omega) hw]; exact ih _ h⟩
theorem path_off {L L':Ld} {k:Nat} (h1:∀ i:Nat,i ≠ k→L'.wh i=L.wh i∧L'.loc i=L.loc i):∀ (q:List Int) (i:Int),PathR L q i→(k:Int) ∉ q→PathR L' q i:=by
 intro q
 induction q with
 | nil=>intro i h; exact h.elim
 | cons x r ih =>
  intro i h hk
  obtain ⟨rfl,ha,h⟩:=h
  have hb:=amg_pos ha
  have hne:x.toNat ≠ k:=fun e=>hk (by rw [show (k:Int)=x by omega]; exact List.mem_cons_self ..)
  refine ⟨rfl,ha,?_⟩
  rw [(h1 _ hne).1,(h1 _ hne).2]
  rcases h with ⟨hw,rfl⟩ | ⟨hw,h⟩
  ·exact .inl ⟨hw,rfl⟩
  ·exact .inr ⟨hw,ih _ h (fun hm=>hk (List.mem_cons_of_mem _ hm))⟩
theorem path_move {L L':Ld} {k:Nat} (h1:∀ i:Nat,i ≠ k→L'.wh i=L.wh i∧L'.loc i=L.loc i) (h2:L'.wh k ≠ 2∨(L'.wh k=2∧∃ q,PathR L' q (L'.loc k))):∀ (q:List Int) (i:Int),PathR L q i→∃ q',PathR L' q' i:=by
 intro q
 induction q with
 | nil=>intro i h; exact h.elim
 | cons x r ih =>
  intro i h
  obtain ⟨rfl,ha,h⟩:=h
  have hb:=amg_pos ha
  by_cases hx:x.toNat=k
  ·rcases h2 with h2 | ⟨h2,qq,h3⟩
   ·exact ⟨[x],rfl,ha,.inl ⟨by rw [hx]; exact h2,rfl⟩⟩
   ·exact ⟨x::qq,rfl,ha,.inr ⟨by rw [hx]; exact h2,by rw [hx]; exact h3⟩⟩
  ·rcases h with ⟨hw,rfl⟩ | ⟨hw,h⟩
   ·exact ⟨[x],rfl,ha,.inl ⟨by rw [(h1 _ hx).1]; exact hw,rfl⟩⟩
   ·obtain ⟨q',hq⟩:=ih _ h
    exact ⟨x::q',rfl,ha,.inr ⟨by rw [(h1 _ hx).1]; exact hw,by rw [(h1 _ hx).2]; exact hq⟩⟩
theorem good_R {L:Ld} (hg:goodL L=true) (r:Nat) (hr:r < 6):goodR L r=true:=by
 unfold goodL at hg
 simp only [Bool.and_eq_true] at hg
 exact List.all_eq_true.1 hg.1.1 r (by simpa using hr)
theorem good_path {L:Ld} (hg:goodL L=true) (i:Nat) (hi:i < 9):Path L (i:Int) (wayL L (i:Int)):=good_way hg (amg_mk (by omega) (by omega))
theorem good_kind {L:Ld} (hg:goodL L=true) (i:Nat) (hi:i < 9):gkind (L.kind i) (L.wh i) (L.on i)=true∧gplace L (L.wh i) (L.loc i)=true:=by
 have:=good_T hg i hi
 unfold goodT at this
 simp only [Bool.and_eq_true] at this
 exact this.1
theorem good_mk {L:Ld} (h1:∀ r,r < 6→goodR L r=true) (h2:∀ b,b < 6→goodB L b=true)
 (h3:∀ i:Nat,i < 9→gkind (L.kind i) (L.wh i) (L.on i)=true∧gplace L (L.wh i) (L.loc i)=true∧∃ q,PathR L q (i:Int)):goodL L=true:=by
 unfold goodL
 rw [all_ok h1,all_ok h2,all_ok fun i hi=>?_]
 ·rfl
 ·obtain ⟨e1,e2,q,hq⟩:=h3 i hi
  have:=path_ends (show Path L (i:Int) q from hq)
  unfold goodT
  rw [e1,e2]
  simpa using this
theorem good_being {L:Ld} (hg:goodL L=true) (b:Nat) (hb:b < 6):amg (L.room b) 6=true∧0≤L.health b∧L.health b≤10∧L.here b=decide (0 < L.health b)∧(L.foe b=0∨(L.here b=true∧amg (L.foe b - 1) 6=true)):=by
 have h:=good_B hg b hb
 unfold goodB at h
 by_cases hn:amg (L.room b) 6=false∨L.health b < 0∨10 < L.health b∨L.here b ≠ decide (0 < L.health b)
 ·rw [gb_no hn] at h; simp at h
 ·have h1:amg (L.room b) 6=true:=by
   cases hx:amg (L.room b) 6 with
   | true=>rfl
   | false=>exact absurd (.inl hx) hn
  have h2:¬ L.health b < 0:=fun e=>hn (.inr (.inl e))
  have h3:¬ 10 < L.health b:=fun e=>hn (.inr (.inr (.inl e)))
  have h4:L.here b=decide (0 < L.health b):=by
   by_cases e:L.here b=decide (0 < L.health b)
   ·exact e
   ·exact absurd (.inr (.inr (.inr e))) hn
  rw [gb_yes h1 h2 h3 h4] at h
  refine ⟨h1,by omega,by omega,h4,?_⟩
  simp only [Bool.or_eq_true,Bool.and_eq_true,beq_iff_eq] at h
  exact h
theorem being_mk {L:Ld} {b:Nat} (h1:amg (L.room b) 6=true) (h2:0≤L.health b) (h3:L.health b≤10) (h4:L.here b=decide (0 < L.health b)) (h5:L.foe b=0∨(L.here b=true∧amg (L.foe b - 1) 6=true)):goodB L b=true:=by
 unfold goodB
 rw [gb_yes h1 (by omega) (by omega) h4]
 simp only [Bool.or_eq_true,Bool.and_eq_true,beq_iff_eq]
 exact h5
theorem good_exit {L:Ld} (hg:goodL L=true) (r d:Nat) (hr:r < 6) (hd:d < 6):(L.exit r d=0∧L.shut r d=false)∨(L.exit r d ≠ 0∧amg (L.exit r d - 1) 6=true):=by
 have h:=good_R hg r hr
 unfold goodR groom at h
 have:=List.all_eq_true.1 h d (by simpa using hd)
 by_cases e:L.exit r d=0
 ·rw [if_pos e] at this; exact .inl ⟨e,by simpa using this⟩
 ·rw [if_neg e] at this; exact .inr ⟨e,this⟩
theorem fine_of {L:Ld} (hg:goodL L=true) (h1:∀ r,r < 6→(L.rname r).size≤1048576) (h2:∀ i,i < 9→(L.tname i).size≤1048576) (h3:∀ b,b < 6→(L.bname b).size≤1048576):Fine L:=by
 refine ⟨fun b hb=>?_,fun r d hr hd=>?_,fun b hb=>?_,fun b hb=>?_,h1,h2,h3⟩
 ·have:=amg_pos (good_being hg b hb).1
  exact ⟨(L.room b).toNat,by omega,by omega⟩
 ·rcases good_exit hg r d hr hd with h | h
  ·exact .inl h.1
  ·have:=amg_pos h.2
   exact .inr ⟨(L.exit r d - 1).toNat,by omega,by omega⟩
 ·rcases (good_being hg b hb).2.2.2.2 with h | h
  ·exact .inl h
  ·have:=amg_pos h.2
   exact .inr ⟨(L.foe b - 1).toNat,by omega,by omega⟩
 ·have:=good_being hg b hb
  omega
open Go.RowKit
def dropS (L:Ld) (b:Nat) (S:List Int):Ld :=
 { L with wh:=fun i=>if (i:Int) ∈ S then 0 else L.wh i,loc:=fun i=>if (i:Int) ∈ S then L.room b else L.loc i,on:=fun i=>if (i:Int) ∈ S∧L.kind i=2 then false else L.on i }
def freeK (L:Ld) (b k:Nat):Ld:={ L with foe:=fun c=>if c < k∧L.foe c=(b:Int)+1 then 0 else L.foe c }
def letGoL (L:Ld) (b:Nat):Ld:=(freeK (dropS L b (handL L b)) b 6).setFoe b 0
def zeroB (L:Ld) (b:Nat):Ld:=L.setBeing b ⟨#[]⟩ false false 0 0 0
def beginL (L:Ld) (b:Nat):Ld:=(L.setRoom b 0).setHealth b 10
def beginE (L:Ld) (b:Nat):List Ev:=allE L (evN L 17 b)::lookE L b
def dieL (L:Ld) (b:Nat):Ld:=if b < 2 then zeroB (letGoL (L.setHealth b 1) b) b else beginL (letGoL (L.setHealth b 1) b) b
def dieE (L:Ld) (b:Nat):List Ev:=allE (L.setHealth b 1) (evN (L.setHealth b 1) 15 b)::(if b < 2 then [] else beginE (beginL (letGoL (L.setHealth b 1) b) b) b)
def foeN (L:Ld) (b:Nat):Nat:=(L.foe b - 1).toNat
def meets (L:Ld) (b:Nat):Bool:=L.here (foeN L b)&&decide (L.room (foeN L b)=L.room b)
def hitL (L:Ld) (c:Nat) (n:Int):Ld:=L.setHealth c (L.health c - n)
def fightL (L:Ld) (b:Nat) (n:Int):Ld :=
 if meets L b=true then (if L.health (foeN L b) - n < 1 then dieL (hitL L (foeN L b) n) (foeN L b) else hitL L (foeN L b) n) else L.setFoe b 0
def fightE (L:Ld) (b:Nat) (n:Int):List Ev :=
 if meets L b=true then allE L { evW L 14 b (foeN L b) with num:=n }::(if L.health (foeN L b) - n < 1 then dieE (hitL L (foeN L b) n) (foeN L b) else []) else []
def blowN (dr k:Nat):Int:=1+((dr+k) % 3:Nat)
def roundK (L:Ld) (dr:Nat):Nat→Ld × List Ev
 | 0=>(L,[])
 | k+1=>if (roundK L dr k).1.foe k=0 then roundK L dr k else (fightL (roundK L dr k).1 k (blowN dr k),(roundK L dr k).2++fightE (roundK L dr k).1 k (blowN dr k))
theorem blow_pos (dr k:Nat):1≤blowN dr k∧blowN dr k≤3:=by unfold blowN; omega
theorem begin_len (L:Ld) (b:Nat):(beginE L b).length≤10:=by
 have:=look_len L b
 simp only [beginE,List.length_cons]; omega
theorem die_len (L:Ld) (b:Nat):(dieE L b).length≤11:=by
 unfold dieE
 have:=begin_len (beginL (letGoL (L.setHealth b 1) b) b) b
 split <;> simp only [List.length_cons,List.length_nil] <;> omega
theorem fight_len (L:Ld) (b:Nat) (n:Int):(fightE L b n).length≤12:=by
 unfold fightE
 have:=die_len (hitL L (foeN L b) n) (foeN L b)
 split
 ·simp only [List.length_cons]; split <;> (try simp only [List.length_nil]) <;> omega
 ·simp
theorem round_len (L:Ld) (dr k:Nat):(roundK L dr k).2.length≤k*12:=by
 induction k with
 | zero=>simp [roundK]
 | succ k ih =>
  have:=fight_len (roundK L dr k).1 k (blowN dr k)
  simp only [roundK]
  split
  ·omega
  ·simp only [List.length_append]; omega
theorem hand_iff (L:Ld) (b i:Nat):(i:Int) ∈ handL L b ↔ i < 9∧L.wh i=1∧L.loc i=(b:Int):=by
 constructor
 ·intro h
  obtain ⟨j,e,hj,ha⟩:=hasK_mem h
  have:i=j:=by omega
  subst this
  simpa [isAt,hj] using ha
 ·rintro ⟨h1,h2,h3⟩
  exact hasK_of h1 (by simp [isAt,h2,h3])
structure Alike (L L':Ld):Prop where
 rname:L'.rname=L.rname
 dark:L'.dark=L.dark
 exit:L'.exit=L.exit
 tname:L'.tname=L.tname
 kind:L'.kind=L.kind
 bname:∀ b,L'.bname b=L.bname b∨L'.bname b=⟨#[]⟩
theorem Alike.refl (L:Ld):Alike L L:=⟨rfl,rfl,rfl,rfl,rfl,fun _=>.inl rfl⟩
theorem Alike.trans {A B C:Ld} (h:Alike A B) (k:Alike B C):Alike A C :=
 ⟨k.rname.trans h.rname,k.dark.trans h.dark,k.exit.trans h.exit,k.tname.trans h.tname,k.kind.trans h.kind,fun b=>by
  rcases k.bname b with e | e
  ·rw [e]; exact h.bname b
  ·exact .inr e⟩
theorem Alike.fine {L L':Ld} (h:Alike L L') (hf:Fine L) (hg:goodL L'=true):Fine L' :=
 fine_of hg (fun r hr=>by rw [h.rname]; exact hf.rname r hr) (fun i hi=>by rw [h.tname]; exact hf.tname i hi) (fun b hb=>by
  rcases h.bname b with e | e
  ·rw [e]; exact hf.bname b hb
  ·rw [e]; decide)
theorem al_room (L:Ld) (b:Nat) (x:Int):Alike L (L.setRoom b x):=⟨rfl,rfl,rfl,rfl,rfl,fun _=>.inl rfl⟩
theorem al_health (L:Ld) (b:Nat) (x:Int):Alike L (L.setHealth b x):=⟨rfl,rfl,rfl,rfl,rfl,fun _=>.inl rfl⟩
theorem al_foe (L:Ld) (b:Nat) (x:Int):Alike L (L.setFoe b x):=⟨rfl,rfl,rfl,rfl,rfl,fun _=>.inl rfl⟩
theorem al_zero (L:Ld) (b:Nat):Alike L (zeroB L b):=⟨rfl,rfl,rfl,rfl,rfl,fun c=>by
 by_cases e:c=b
 ·right; simp [zeroB,Ld.setBeing,e]
 ·left; simp [zeroB,Ld.setBeing,e]⟩
theorem al_letGo (L:Ld) (b:Nat):Alike L (letGoL L b):=⟨rfl,rfl,rfl,rfl,rfl,fun _=>.inl rfl⟩
theorem good_beings {L L':Ld} (hg:goodL L=true) (h1:L'.exit=L.exit) (h2:L'.shut=L.shut) (h3:L'.kind=L.kind) (h4:L'.wh=L.wh) (h5:L'.loc=L.loc) (h6:L'.on=L.on)
 (h7:∀ b,b < 6→goodB L' b=true) (h8:∀ i:Nat,i < 9→L.wh i=1→L'.here (L.loc i).toNat=L.here (L.loc i).toNat):goodL L'=true:=by
 refine good_mk (fun r hr=>?_) h7 fun i hi=>?_
 ·have:=good_R hg r hr
  unfold goodR at this ⊢
  rw [h1,h2]; exact this
 ·have hk:=good_kind hg i hi
  rw [h3,h4,h5,h6]
  refine ⟨hk.1,?_,_,path_same (fun j _=>by rw [h4]) (fun j _ _=>by rw [h5]) _ _ (good_path hg i hi)⟩
  have:=hk.2
  unfold gplace at this ⊢
  by_cases e0:L.wh i=0
  ·rw [if_pos e0] at this ⊢; exact this
  ·rw [if_neg e0] at this ⊢
   by_cases e1:L.wh i=1
   ·rw [if_pos e1] at this ⊢; rw [h8 i hi e1]; exact this
   ·rw [if_neg e1] at this ⊢; rw [h3]; exact this
theorem good_health {L:Ld} (hg:goodL L=true) {c:Nat} (hc:c < 6) (hh:L.here c=true) {x:Int} (h1:1≤x) (h2:x≤10):goodL (L.setHealth c x)=true:=by
 refine good_beings hg rfl rfl rfl rfl rfl rfl (fun b hb=>?_) (fun _ _ _=>rfl)
 have h:=good_being hg b hb
 by_cases e:b=c
 ·subst e
  refine being_mk h.1 ?_ ?_ ?_ h.2.2.2.2
  ·simp [Ld.setHealth]; omega
  ·simp [Ld.setHealth]; omega
  ·show L.here b=_
   rw [hh]; simp [Ld.setHealth]; omega
 ·refine being_mk h.1 ?_ ?_ ?_ h.2.2.2.2
  ·simp [Ld.setHealth,e]; exact h.2.1
  ·simp [Ld.setHealth,e]; exact h.2.2.1
  ·simp [Ld.setHealth,e]; simpa using h.2.2.2.1
theorem good_foe {L:Ld} (hg:goodL L=true) (c:Nat) {x:Int} (hx:x=0∨(L.here c=true∧amg (x - 1) 6=true)):goodL (L.setFoe c x)=true:=by
 refine good_beings hg rfl rfl rfl rfl rfl rfl (fun b hb=>?_) (fun _ _ _=>rfl)
 have h:=good_being hg b hb
 refine being_mk h.1 h.2.1 h.2.2.1 h.2.2.2.1 ?_
 by_cases e:b=c
 ·subst e; simpa [Ld.setFoe] using hx
 ·simpa [Ld.setFoe,e] using h.2.2.2.2
theorem good_room' {L:Ld} (hg:goodL L=true) (c:Nat) {x:Int} (hx:amg x 6=true):goodL (L.setRoom c x)=true:=by
 refine good_beings hg rfl rfl rfl rfl rfl rfl (fun b hb=>?_) (fun _ _ _=>rfl)
 have h:=good_being hg b hb
 refine being_mk ?_ h.2.1 h.2.2.1 h.2.2.2.1 h.2.2.2.2
 by_cases e:b=c
 ·subst e; simpa [Ld.setRoom] using hx
 ·simpa [Ld.setRoom,e] using h.1
theorem place_room {L:Ld} {x:Int} (h:amg x 6=true):gplace L 0 x=true:=by
 unfold gplace; rw [if_pos rfl]; exact h
theorem good_letGo {L:Ld} (hg:goodL L=true) (b:Nat) (hb:b < 6):goodL (letGoL L b)=true∧∀ i,i < 9→¬ ((letGoL L b).wh i=1∧(letGoL L b).loc i=(b:Int)):=by
 have hr:=(good_being hg b hb).1
 refine ⟨good_mk (fun r hr=>by have:=good_R hg r hr; unfold goodR at this ⊢; exact this) (fun c hc=>?_) fun i hi=>?_,fun i hi h=>?_⟩
 ·have h:=good_being hg c hc
  refine being_mk h.1 h.2.1 h.2.2.1 h.2.2.2.1 ?_
  show (if c=b then 0 else if c < 6∧L.foe c=(b:Int)+1 then 0 else L.foe c)=0∨(L.here c=true∧amg ((if c=b then 0 else if c < 6∧L.foe c=(b:Int)+1 then 0 else L.foe c) - 1) 6=true)
  by_cases e:c=b
  ·rw [if_pos e]; exact .inl rfl
  ·rw [if_neg e]
   by_cases e2:c < 6∧L.foe c=(b:Int)+1
   ·rw [if_pos e2]; exact .inl rfl
   ·rw [if_neg e2]; exact h.2.2.2.2
 ·have hk:=good_kind hg i hi
  have hwh:(letGoL L b).wh i=if (i:Int) ∈ handL L b then 0 else L.wh i:=rfl
  have hloc:(letGoL L b).loc i=if (i:Int) ∈ handL L b then L.room b else L.loc i:=rfl
  have hon:(letGoL L b).on i=if (i:Int) ∈ handL L b∧L.kind i=2 then false else L.on i:=rfl
  have hkind:(letGoL L b).kind i=L.kind i:=rfl
  have hp:PathR (letGoL L b) (wayL L (i:Int)) (i:Int):=by
   refine path_same (fun j hj=>?_) (fun j hj h2=>?_) _ _ (good_path hg i hi)
   ·show (if (j:Int) ∈ handL L b then 0 else L.wh j)=2 ↔ _
    by_cases e:(j:Int) ∈ handL L b
    ·have:=(hand_iff L b j).1 e
     rw [if_pos e]; omega
    ·rw [if_neg e]
   ·show (if (j:Int) ∈ handL L b then L.room b else L.loc j)=_
    rw [if_neg]
    intro e
    have:=(hand_iff L b j).1 e
    omega
  refine ⟨?_,?_,_,hp⟩
  ·rw [hwh,hon,hkind]
   by_cases e:(i:Int) ∈ handL L b
   ·have:=(hand_iff L b i).1 e
    rw [if_pos e]
    have hk1:=hk.1
    unfold gkind at hk1 ⊢
    by_cases k0:L.kind i=0
    ·rw [if_pos k0] at hk1 ⊢; rw [if_neg (by omega)]; exact hk1
    ·rw [if_neg k0] at hk1 ⊢
     by_cases k2:L.kind i=2
     ·rw [if_pos k2] at hk1 ⊢; rw [if_pos ⟨e,k2⟩]; rfl
     ·rw [if_neg k2] at hk1 ⊢; exact hk1
   ·rw [if_neg e,if_neg (fun h=>e h.1)]; exact hk.1
  ·rw [hwh,hloc]
   by_cases e:(i:Int) ∈ handL L b
   ·rw [if_pos e,if_pos e]; exact place_room hr
   ·rw [if_neg e,if_neg e]; exact hk.2
 ·obtain ⟨h1,h2⟩:=h
  have hwh:(letGoL L b).wh i=if (i:Int) ∈ handL L b then 0 else L.wh i:=rfl
  have hloc:(letGoL L b).loc i=if (i:Int) ∈ handL L b then L.room b else L.loc i:=rfl
  rw [hwh] at h1
  rw [hloc] at h2
  by_cases e:(i:Int) ∈ handL L b
  ·rw [if_pos e] at h1; omega
  ·rw [if_neg e] at h1 h2
   exact e ((hand_iff L b i).2 ⟨hi,h1,h2⟩)
theorem good_zero {L:Ld} (hg:goodL L=true) (b:Nat) (hb:b < 6) (hn:∀ i,i < 9→¬ (L.wh i=1∧L.loc i=(b:Int))):goodL (zeroB L b)=true:=by
 refine good_beings hg rfl rfl rfl rfl rfl rfl (fun c hc=>?_) (fun i hi h1=>?_)
 ·have h:=good_being hg c hc
  by_cases e:c=b
  ·subst e
   refine being_mk ?_ ?_ ?_ ?_ ?_ <;> simp [zeroB,Ld.setBeing,amg]
  ·refine being_mk ?_ ?_ ?_ ?_ ?_ <;> simp [zeroB,Ld.setBeing,e]
   ·exact h.1
   ·exact h.2.1
   ·exact h.2.2.1
   ·simpa using h.2.2.2.1
   ·exact h.2.2.2.2
 ·have hne:(L.loc i).toNat ≠ b:=by
   intro e
   have hp:=(good_kind hg i hi).2
   unfold gplace at hp
   rw [if_neg (by omega),if_pos h1] at hp
   simp only [Bool.and_eq_true] at hp
   have:=amg_pos hp.1
   exact hn i hi ⟨h1,by omega⟩
  simp [zeroB,Ld.setBeing,hne]
theorem good_begin {L:Ld} (hg:goodL L=true) (b:Nat) (hb:b < 6) (hh:L.here b=true):goodL (beginL L b)=true :=
 good_health (good_room' hg b (by decide)) hb hh (by omega) (by omega)
theorem die_good {L:Ld} (b:Nat) (hb:b < 6) (hg:goodL (L.setHealth b 1)=true) (hh:L.here b=true):goodL (dieL L b)=true:=by
 have h1:=good_letGo hg b hb
 unfold dieL
 split
 ·exact good_zero h1.1 b hb h1.2
 ·exact good_begin h1.1 b hb hh
theorem al_die (L:Ld) (b:Nat):Alike L (dieL L b):=by
 have h:=(al_health L b 1).trans (al_letGo (L.setHealth b 1) b)
 unfold dieL
 split
 ·exact h.trans (al_zero _ b)
 ·exact h.trans ((al_room _ b 0).trans (al_health _ b 10))
open Go.RowKit
def wayE (L:Ld) (kind:Int) (b:Nat) (d:Int):Ev:=allE L { evN L kind b with dir:=d }
def oppN (d:Nat):Nat:=(d+3) % 6
theorem toward_any {w0:World} {L:Ld} {Es:List Ev} {w:World} (hS:Sn 172 [] w0 L Es w) (kind:Int) (b:Nat) (hb:b < 6) (d:Int) (hlen:Es.length≤1000000) :
 Calls Tryz.prog 203 #[.pointer (some ⟨w0.heap.size,0,none⟩),.int .i64 kind,.int .i64 (b:Int),.int .i64 d] w fun e w'=>e=.returned (.tuple #[])∧Sn 172 [] w0 L (Es++[wayE L kind b d]) w'∧Stp w0.heap.size 165 w w':=by
 go_enter Tryz.func203,Tryz.ntmps203
 go_wp2_with fail
 refine (revent_lit hS kind b hb).mono ?_
 rintro e w1 ⟨rfl,hb1⟩
 have S1:=hide (hS.below hb1)
 have T1:=hide (hS.stp hb1 165)
 clear hS hb1
 go_wp2_with (first | (refine wl_new 71 (.tmp 8) (.tmp 12) rfl rfl _ _ rfl rfl rfl Tryz.sizeEvent rfl (by simp [Value.oneCell']) ?_) | (refine wl_event (.tmp 8) rfl rfl _ { evN L kind b with dir:=d } rfl (heap_alloc_new w1 _) ?_))
 refine (happens_any (S1.out.alloc _) { evN L kind b with dir:=d } hlen).mono ?_
 rintro e w2 ⟨rfl,S2,T2⟩
 have A:=hide S2
 have B:=hide (T1.out.trans ((S1.out.stp (below_box w1 _) 165).trans T2))
 clear S2 T2 S1 T1
 go_wp2
 go_end0
 exact ⟨rfl,A.out,B.out⟩
theorem opposite_0 (w:World):Calls Tryz.prog 200 #[.int .i64 0] w fun e w'=>e=.returned (.int .i64 3)∧w'=w:=by
 have hix:∀ w,(Instr.index 31 (.agg #[.int .i64 3,.int .i64 4,.int .i64 5,.int .i64 0,.int .i64 1,.int .i64 2]) (.int .i64 0)).run Tryz.prog w=.ok (.int .i64 3) w:=fun _=>by kernel_rfl
 have hm1:max (0:Int) 0=0:=by decide
 have hm2:min (0:Int) 5=0:=by decide
 go_enter Tryz.func200,Tryz.ntmps200
 go_wp2
 go_ret
 exact ⟨rfl,rfl⟩
theorem opposite_1 (w:World):Calls Tryz.prog 200 #[.int .i64 1] w fun e w'=>e=.returned (.int .i64 4)∧w'=w:=by
 have hix:∀ w,(Instr.index 31 (.agg #[.int .i64 3,.int .i64 4,.int .i64 5,.int .i64 0,.int .i64 1,.int .i64 2]) (.int .i64 1)).run Tryz.prog w=.ok (.int .i64 4) w:=fun _=>by kernel_rfl
 have hmm:min (max (1:Int) 0) 5=1:=by decide
 go_enter Tryz.func200,Tryz.ntmps200
 go_wp2
 go_ret
 exact ⟨rfl,rfl⟩
theorem opposite_2 (w:World):Calls Tryz.prog 200 #[.int .i64 2] w fun e w'=>e=.returned (.int .i64 5)∧w'=w:=by
 have hix:∀ w,(Instr.index 31 (.agg #[.int .i64 3,.int .i64 4,.int .i64 5,.int .i64 0,.int .i64 1,.int .i64 2]) (.int .i64 2)).run Tryz.prog w=.ok (.int .i64 5) w:=fun _=>by kernel_rfl
 have hmm:min (max (2:Int) 0) 5=2:=by decide
 go_enter Tryz.func200,Tryz.ntmps200
 go_wp2
 go_ret
 exact ⟨rfl,rfl⟩
theorem opposite_3 (w:World):Calls Tryz.prog 200 #[.int .i64 3] w fun e w'=>e=.returned (.int .i64 0)∧w'=w:=by
 have hix:∀ w,(Instr.index 31 (.agg #[.int .i64 3,.int .i64 4,.int .i64 5,.int .i64 0,.int .i64 1,.int .i64 2]) (.int .i64 3)).run Tryz.prog w=.ok (.int .i64 0) w:=fun _=>by kernel_rfl
 have hmm:min (max (3:Int) 0) 5=3:=by decide
 go_enter Tryz.func200,Tryz.ntmps200
 go_wp2
 go_ret
 exact ⟨rfl,rfl⟩
theorem opposite_4 (w:World):Calls Tryz.prog 200 #[.int .i64 4] w fun e w'=>e=.returned (.int .i64 1)∧w'=w:=by
 have hix:∀ w,(Instr.index 31 (.agg #[.int .i64 3,.int .i64 4,.int .i64 5,.int .i64 0,.int .i64 1,.int .i64 2]) (.int .i64 4)).run Tryz.prog w=.ok (.int .i64 1) w:=fun _=>by kernel_rfl
 have hmm:min (max (4:Int) 0) 5=4:=by decide
 go_enter Tryz.func200,Tryz.ntmps200
 go_wp2
 go_ret
 exact ⟨rfl,rfl⟩
theorem opposite_5 (w:World):Calls Tryz.prog 200 #[.int .i64 5] w fun e w'=>e=.returned (.int .i64 2)∧w'=w:=by
 have hix:∀ w,(Instr.index 31 (.agg #[.int .i64 3,.int .i64 4,.int .i64 5,.int .i64 0,.int .i64 1,.int .i64 2]) (.int .i64 5)).run Tryz.prog w=.ok (.int .i64 2) w:=fun _=>by kernel_rfl
 have hmm:min (max (5:Int) 0) 5=5:=by decide
 go_enter Tryz.func200,Tryz.ntmps200
 go_wp2
 go_ret
 exact ⟨rfl,rfl⟩
theorem opposite_any (d:Nat) (hd:d < 6) (w:World):Calls Tryz.prog 200 #[.int .i64 (d:Int)] w fun e w'=>e=.returned (.int .i64 (oppN d:Int))∧w'=w:=by
 match d,hd with
 | 0,_=>exact opposite_0 w
 | 1,_=>exact opposite_1 w
 | 2,_=>exact opposite_2 w
 | 3,_=>exact opposite_3 w
 | 4,_=>exact opposite_4 w
 | 5,_=>exact opposite_5 w
def goneL (L:Ld) (b:Nat) (r:Int):Ld:=(L.setRoom b r).setFoe b 0
def exitL (L:Ld) (b d:Nat):Int:=L.exit (L.room b).toNat d
def shutL (L:Ld) (b d:Nat):Bool:=L.shut (L.room b).toNat d
def walkL (L:Ld) (b d:Nat):Ld:=if exitL L b d=0 then L else if shutL L b d=true then L else goneL L b (exitL L b d - 1)
def walkE (L:Ld) (b d:Nat):List Ev :=
 if exitL L b d=0 then [tellE L b noWayS] else if shutL L b d=true then [tellE L b shutS]
 else [wayE L 1 b d,wayE (walkL L b d) 2 b (oppN d:Int)]++lookE (walkL L b d) b
theorem gone_good {L:Ld} (hg:goodL L=true) (b:Nat) {r:Int} (hr:amg r 6=true):goodL (goneL L b r)=true:=good_foe (good_room' hg b hr) b (.inl rfl)
theorem rwalk_any {w0:World} {L:Ld} {Es:List Ev} {w:World} (hS:Sn 172 [] w0 L Es w) (hf:Fine L) (hg:goodL L=true) (hv:Vb w0) (b d:Nat) (hb:b < 6) (hd:d < 6) (hlen:Es.length≤800000) :
 Calls Tryz.prog 167 #[.pointer (some ⟨w0.heap.size,0,none⟩),.int .i64 (b:Int),.int .i64 (d:Int)] w fun e w'=>e=.returned (.tuple #[])∧Sn 172 [] w0 (walkL L b d) (Es++walkE L b d) w'∧Stp w0.heap.size 165 w w':=by
 obtain ⟨r,hr,er⟩:=hf.room b hb
 have eE:exitL L b d=L.exit r d:=by unfold exitL; rw [er]; rfl
 have eS:shutL L b d=L.shut r d:=by unfold shutL; rw [er]; rfl
 have HS:=hide hS
 have c3:=hS.being b 3 hb (by omega)
 have cE:=hS.room r (2+d) hr (by omega)
 have cS:=hS.room r (8+d) hr (by omega)
 rw [show r*14+(2+d)=r*14+2+d by omega] at cE
 rw [show r*14+(8+d)=r*14+8+d by omega] at cS
 have e1:L.roomCell r (2+d)=.int .i64 (L.exit r d):=by rw [Nat.add_comm]; simp [Ld.roomCell,hd]
 have e2:L.roomCell r (8+d)=.bool (L.shut r d):=by rw [show 8+d=(d+6)+2 by omega]; simp [Ld.roomCell]
 rw [e1] at cE
 rw [e2] at cS
 simp only [Ld.beingCell] at c3
 rw [er] at c3
 have HF:=hide hf
 have HV:=hide hv
 have HG:=hide hg
 have hl:=hS.lt
 have hbi:(b:Int) < 6:=by omega
 have hri:(r:Int) < 6:=by omega
 have hdi:(d:Int) < 6:=by omega
 clear hS hf hv hg er e2
 by_cases h0:L.exit r d=0
 ·have HE:=hide (show walkE L b d=[tellE L b noWayS] by unfold walkE; rw [eE,if_pos h0])
  have HL:=hide (show walkL L b d=L by unfold walkL; rw [eE,if_pos h0])
  have hb0:(L.exit r d==0)=true:=by simp [h0]
  clear h0 eE eS e1
  go_enter Tryz.func167,Tryz.ntmps167
  go_wp2_with fail
  go_region
  go_wp2_with fail
  refine (rtell_any HS.out.drew b hb _ (by omega)).mono ?_
  rintro e w2 ⟨rfl,S2,T2⟩
  have A:=hide S2
  have B:=hide ((HS.out.stp (below_drewN (Below.refl _ _) 1) 165).trans T2)
  clear S2 T2
  go_wp2
  go_end0
  exact ⟨rfl,by rw [HE.out,HL.out]; exact A.out,B.out⟩
 ·have hb0:(L.exit r d==0)=false:=by simp [h0]
  by_cases h1:L.shut r d=true
  ·have HE:=hide (show walkE L b d=[tellE L b shutS] by unfold walkE; rw [eE,if_neg h0,eS,if_pos h1])
   have HL:=hide (show walkL L b d=L by unfold walkL; rw [eE,if_neg h0,eS,if_pos h1])
   rw [h1] at cS
   clear h0 h1 eE eS e1
   go_enter Tryz.func167,Tryz.ntmps167
   go_wp2_with fail
   go_region
   go_wp2_with fail
   refine (rtell_any HS.out.drew b hb _ (by omega)).mono ?_
   rintro e w2 ⟨rfl,S2,T2⟩
   have A:=hide S2
   have B:=hide ((HS.out.stp (below_drewN (Below.refl _ _) 1) 165).trans T2)
   clear S2 T2
   go_wp2
   go_end0
   exact ⟨rfl,by rw [HE.out,HL.out]; exact A.out,B.out⟩
  ·have h1':L.shut r d=false:=by simpa using h1
   obtain ⟨t,ht,et⟩:∃ t:Nat,t < 6∧L.exit r d=(t:Int)+1:=by
    rcases HF.out.exit r d hr hd with h | h
    ·exact absurd h h0
    ·exact h
   have HL0:walkL L b d=goneL L b (t:Int):=by unfold walkL; rw [eE,if_neg h0,eS,if_neg h1,et]; congr 1; omega
   have HL:=hide HL0
   have HE:=hide (show walkE L b d=[wayE L 1 b d,wayE (goneL L b (t:Int)) 2 b (oppN d:Int)]++lookE (goneL L b (t:Int)) b by
    unfold walkE; rw [eE,if_neg h0,eS,if_neg h1,HL0])
   have hG:=hide (gone_good HG.out b (r:=(t:Int)) (amg_mk (by omega) (by omega)))
   have hF:=hide (((al_room L b (t:Int)).trans (al_foe _ b 0)).fine HF.out hG.out)
   rw [h1'] at cS
   rw [et] at cE
   rw [et] at hb0
   have hw:wrap64 ((t:Int)+1 - 1)=(t:Int):=by rw [show (t:Int)+1 - 1=(t:Int) by omega]; simp only [wrap64]; omega
   clear h0 h1 h1' eE eS HL0
   go_enter Tryz.func167,Tryz.ntmps167
   go_wp2_with fail
   go_region
   go_wp2_with fail
   refine (toward_any HS.out.drew 1 b hb (d:Int) (by omega)).mono ?_
   rintro e w2 ⟨rfl,S2h,T2h⟩
   have S2:=hide S2h
   have T2:=hide ((HS.out.stp (below_drewN (Below.refl _ _) 1) 165).trans T2h)
   have d3:=S2h.being b 3 hb (by omega)
   have d5:=S2h.being b 5 hb (by omega)
   have f3:=S2h.soft (129+b*6+3)
   have f5:=S2h.soft (129+b*6+5)
   have dE:=S2h.room r (2+d) hr (by omega)
   rw [show r*14+(2+d)=r*14+2+d by omega] at dE
   have S3:=hide ((S2h.set (by omega) (L.up_room b hb (t:Int))).set (by omega) ((L.setRoom b (t:Int)).up_foe b hb 0))
   have T3:=hide ((T2.out.trans (S2h.step (n:=129+b*6+3) (by omega) (.int .i64 (t:Int)))).trans (Stp.put (o:=165) (n:=129+b*6+5) (x:=.int .i64 0) (by omega)))
   clear S2h T2h c3 cE cS HS S2 T2
   rw [e1] at dE
   rw [et] at dE
   simp only [Ld.beingCell] at d3 d5
   clear et e1
   go_wp2_with fail
   refine (opposite_any d hd _).mono ?_
   rintro e w3 ⟨rfl,hw3⟩
   rw [hw3]
   clear hw3 w3
   go_wp2_with fail
   refine (toward_any (L:=goneL L b (t:Int)) S3.out 2 b hb (oppN d:Int) (by simp only [List.length_append,List.length_cons,List.length_nil]; omega)).mono ?_
   rintro e w4 ⟨rfl,S4h,T4h⟩
   have S4:=hide S4h
   have T4:=hide (T3.out.trans T4h)
   clear S4h T4h S3 T3 d3 d5 dE f3 f5
   go_wp2_with fail
   refine (rlook_any S4.out hF.out HV.out b hb (by simp only [List.length_append,List.length_cons,List.length_nil]; omega)).mono ?_
   rintro e w5 ⟨rfl,S5h,T5h⟩
   have S5:=hide S5h
   have T5:=hide (T4.out.trans T5h)
   clear S5h T5h S4 T4
   go_wp2
   go_end0
   exact ⟨rfl,by rw [HL.out,HE.out]; simpa only [List.append_assoc,List.cons_append,List.nil_append] using S5.out,T5.out⟩
open Go.RowKit
theorem fold_set (off m:Nat):∀ (l:List Value) (k:Nat) (Z:Array Value),((l.zipIdx k).foldl (fun a (x:Value × Nat)=>a.setIfInBounds (off+x.2) x.1) Z)[m]?=if off+k≤m∧m < off+k+l.length∧m < Z.size then l[m - (off+k)]? else Z[m]?:=by
 intro l
 induction l with
 | nil=>intro k Z; simp; intros; omega
 | cons c l ih =>
  intro k Z
  rw [List.zipIdx_cons,List.foldl_cons,ih]
  simp only [Array.size_setIfInBounds,List.length_cons]
  by_cases h1:m < Z.size
  ·by_cases h2:off+(k+1)≤m∧m < off+(k+1)+l.length∧m < Z.size
   ·rw [if_pos h2,if_pos (by omega)]
    obtain ⟨j,hj⟩:∃ j,m - (off+k)=j+1:=⟨m - (off+k) - 1,by omega⟩
    rw [hj,List.getElem?_cons_succ]
    congr 1; omega
   ·rw [if_neg h2,Array.getElem?_setIfInBounds]
    by_cases e:off+k=m
    ·rw [if_pos e,if_pos (by omega),if_pos (by omega)]
     rw [show m - (off+k)=0 by omega]; simp
    ·rw [if_neg e,if_neg (by omega)]
  ·rw [if_neg (by omega),if_neg (by omega),Array.getElem?_setIfInBounds]
   by_cases e:off+k=m
   ·rw [if_pos e,if_neg (by omega),Array.getElem?_eq_none (by omega)]
   ·rw [if_neg e]
theorem fill_land (L:Ld) (pre:List Value) (v:Value) (place:Nat→Option (Nat × Nat)) (hp:place 0=some (0,165)) (rest:List (Nat × Value)) :
 Instr.fill place (zl.more pre v) ((0,.agg L.cells)::rest)=Instr.fill place (L.more pre v) rest:=by
 have hc:∀ xs:Array Value,(Value.agg xs).cells=xs:=fun _=>rfl
 simp only [Instr.fill,hp,hc]
 rw [if_neg (by simp [L.size,more_size]; omega)]
 refine congrArg (fun z=>Instr.fill place z rest) ?_
 apply Array.ext_getElem?
 intro m
 rw [← Array.foldl_toList,Array.toList_zipIdx,fold_set 0 m L.cells.toList 0 (zl.more pre v),more_size]
 simp only [Nat.add_zero,Nat.zero_le,true_and,Nat.zero_add,Array.length_toList,L.size,Nat.sub_zero]
 by_cases hm:m < 165
 ·rw [if_pos (by omega),more_get L pre v m hm,Array.getElem?_toList,L.get m hm]
 ·rw [if_neg (by omega)]
  unfold Ld.more
  rw [Array.getElem?_append_right (by rw [zl.size]; omega),Array.getElem?_append_right (by rw [L.size]; omega),L.size,zl.size]
theorem Tryz.zScene:(Tryz.prog.info? 172).map (fun i=>(i.zero,i.size))=some (some (.agg (zl.more [] (.slice none 0 0))),166):=by kernel_rfl
theorem Tryz.pScene:(Tryz.prog.fieldsOf 172).toList.mapM (fun f=>(Tryz.prog.info? f.type).map fun i=>(f.offset,i.size))=some [(0,165),(165,1)]:=by kernel_rfl
theorem built_scene (L:Ld):Tryz.prog.built 172 [(0,.agg L.cells)]=some (L.more [] (.slice none 0 0)):=by
 obtain ⟨hz,hs⟩:=zero_of_info Tryz.zScene
 cases hi:Tryz.prog.info? 172 with
 | none=>rw [hi] at hs; simp at hs
 | some it =>
  have hz':it.zero=some (.agg (zl.more [] (.slice none 0 0))):=by
   have:=Tryz.zScene
   rw [hi] at this
   simp at this
   exact this.1
  have hu:Tryz.prog.underlying 172=some (.struct (Tryz.prog.fieldsOf 172)):=by simp [Program.fieldsOf,Tryz.underlying172]
  unfold Program.built
  simp only [hi,hu,hz',Tryz.pScene]
  exact fill_land L [] (.slice none 0 0) _ rfl []
theorem res_land {fn:Func} {p u t:Tmp} (h:fn.results=#[.cell p 43,.tmp u,.tmp t]) (tmps:Array Value) (w:World) (g:Nat) (L:Ld) (x y:Value)
 (hp:tmps.getD p undef=.pointer (some ⟨g,0,none⟩)) (hx:tmps.getD u undef=x) (hy:tmps.getD t undef=y) (hg:w.heap[g]?=some (.cells L.cells 43 (0,0))) :
 (results fn tmps).run Tryz.prog w=.ok (.tuple #[.agg L.cells,x,y]) w:=by
 have hp':tmps[p]?.getD undef=.pointer (some ⟨g,0,none⟩):=by simpa using hp
 have hx':tmps[u]?.getD undef=x:=by simpa using hx
 have hy':tmps[t]?.getD undef=y:=by simpa using hy
 have hl:=run_loadVar_row (P:=Tryz.prog) w g 43 43 L.cells (0,0) _ hg Tryz.underlying43 rfl (by rw [L.size]; exact Tryz.sizeLand)
 simp [results,h,hp',hx',hy',asAddr,hl]
theorem land_one (L:Ld):L.cells.all (·.oneCell')=true:=by
 refine Array.all_eq_true_iff_forall_mem.2 fun v hv=>?_
 obtain ⟨i,hi⟩:=Array.getElem?_of_mem hv
 have hlt:i < 165:=by
  have:=(Array.getElem?_eq_some_iff.1 hi).1
  rw [L.size] at this; exact this
 rw [L.get i hlt] at hi
 injection hi with hi
 rw [← hi]
 unfold Ld.cellAt
 split
 ·unfold Ld.roomCell; split <;> (try rfl); split <;> rfl
 ·split
  ·unfold Ld.thingCell; split <;> rfl
  ·unfold Ld.beingCell; split <;> rfl
end Go.Proofs.YtncgcejlkmoliaaGreatDoor
