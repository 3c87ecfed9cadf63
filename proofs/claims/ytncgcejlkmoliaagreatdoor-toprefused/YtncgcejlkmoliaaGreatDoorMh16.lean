import Derived.Test.YtncgcejlkmoliaaGreatDoorMh15
import Derived.Test.YtncgcejlkmoliaaGreatDoorMh09
import Derived.Test.YtncgcejlkmoliaaGreatDoorMh14
set_option linter.unusedVariables false
set_option maxRecDepth 100000
set_option maxHeartbeats 16000000
namespace Go.Proofs.YtncgcejlkmoliaaGreatDoor
open Go.RowKit
def actL (L:Ld) (b:Nat) (O:Od):Ld :=
 if O.verb=6 then L else if O.verb=7 then getAL L b O else if O.verb=8 then partL L b O 0 (L.room b) (evN L 4 b) else if O.verb=9 then putL L b O else if O.verb=10 then giveL L b O
 else if O.verb=11 then L else if O.verb=12∨O.verb=13 then (if (dirA O.name.data.toList).2=true then doorL L b (dirA O.name.data.toList).1.toNat (turnedC O.verb) else turnL L b O (turnedC O.verb))
 else if O.verb=14∨O.verb=15∨O.verb=16∨O.verb=17 then turnL L b O (turnedC O.verb) else if O.verb=18 then hitsL L b O else if O.verb=19 then L else if O.verb=20 then zeroB (letGoL L b) b else walkL L b O.verb.toNat
def actE (L:Ld) (b:Nat) (O:Od):List Ev :=
 if O.verb=6 then lookE L b else if O.verb=7 then getAE L b O else if O.verb=8 then partE L b O 0 (L.room b) (evN L 4 b) else if O.verb=9 then putE L b O else if O.verb=10 then giveE L b O
 else if O.verb=11 then [allE L { evN L 7 b with text:=O.text }] else if O.verb=12∨O.verb=13 then (if (dirA O.name.data.toList).2=true then doorE L b (dirA O.name.data.toList).1.toNat (turnedC O.verb) else turnE L b O (turnedC O.verb))
 else if O.verb=14∨O.verb=15∨O.verb=16∨O.verb=17 then turnE L b O (turnedC O.verb) else if O.verb=18 then hitsE L b O else if O.verb=19 then [tellE L b (haveS++listedT L (handL L b))] else if O.verb=20 then [allE L (evN L 18 b)] else walkE L b O.verb.toNat
theorem dirA_cases (l:List UInt8):(∃ d:Nat,d < 6∧dirA l=((d:Int),true))∨dirA l=(0,false):=by
 unfold dirA
 cases h:dirL l with
 | none=>exact .inr rfl
 | some d =>
  left
  refine ⟨d,?_,rfl⟩
  unfold dirL at h
  have:=(List.findIdx?_eq_some_iff_getElem.1 h).1
  simp at this; omega
theorem act_cases {P:Prop} (L:Ld) (b:Nat) (O:Od) (h0:0≤O.verb) (h1:O.verb≤20)
 (look:O.verb=6→actL L b O=L→actE L b O=lookE L b→P)
 (get:O.verb=7→actL L b O=getAL L b O→actE L b O=getAE L b O→P)
 (drop:O.verb=8→actL L b O=partL L b O 0 (L.room b) (evN L 4 b)→actE L b O=partE L b O 0 (L.room b) (evN L 4 b)→P)
 (put:O.verb=9→actL L b O=putL L b O→actE L b O=putE L b O→P)
 (give:O.verb=10→actL L b O=giveL L b O→actE L b O=giveE L b O→P)
 (say:O.verb=11→actL L b O=L→actE L b O=[allE L { evN L 7 b with text:=O.text }]→P)
 (door:∀ d:Nat,d < 6→O.verb=12∨O.verb=13→dirA O.name.data.toList=((d:Int),true)→actL L b O=doorL L b d (turnedC O.verb)→actE L b O=doorE L b d (turnedC O.verb)→P)
 (turn1:O.verb=12∨O.verb=13→dirA O.name.data.toList=(0,false)→actL L b O=turnL L b O (turnedC O.verb)→actE L b O=turnE L b O (turnedC O.verb)→P)
 (turn2:O.verb=14∨O.verb=15∨O.verb=16∨O.verb=17→actL L b O=turnL L b O (turnedC O.verb)→actE L b O=turnE L b O (turnedC O.verb)→P)
 (hit:O.verb=18→actL L b O=hitsL L b O→actE L b O=hitsE L b O→P)
 (inv:O.verb=19→actL L b O=L→actE L b O=[tellE L b (haveS++listedT L (handL L b))]→P)
 (quit:O.verb=20→actL L b O=zeroB (letGoL L b) b→actE L b O=[allE L (evN L 18 b)]→P)
 (walk:∀ d:Nat,d < 6→O.verb=(d:Int)→actL L b O=walkL L b d→actE L b O=walkE L b d→P):P:=by
 by_cases e6:O.verb=6
 ·exact look e6 (by unfold actL; rw [if_pos e6]) (by unfold actE; rw [if_pos e6])
 by_cases e7:O.verb=7
 ·exact get e7 (by unfold actL; rw [if_neg e6,if_pos e7]) (by unfold actE; rw [if_neg e6,if_pos e7])
 by_cases e8:O.verb=8
 ·exact drop e8 (by unfold actL; rw [if_neg e6,if_neg e7,if_pos e8]) (by unfold actE; rw [if_neg e6,if_neg e7,if_pos e8])
 by_cases e9:O.verb=9
 ·exact put e9 (by unfold actL; rw [if_neg e6,if_neg e7,if_neg e8,if_pos e9]) (by unfold actE; rw [if_neg e6,if_neg e7,if_neg e8,if_pos e9])
 by_cases e10:O.verb=10
 ·exact give e10 (by unfold actL; rw [if_neg e6,if_neg e7,if_neg e8,if_neg e9,if_pos e10]) (by unfold actE; rw [if_neg e6,if_neg e7,if_neg e8,if_neg e9,if_pos e10])
 by_cases e11:O.verb=11
 ·exact say e11 (by unfold actL; rw [if_neg e6,if_neg e7,if_neg e8,if_neg e9,if_neg e10,if_pos e11]) (by unfold actE; rw [if_neg e6,if_neg e7,if_neg e8,if_neg e9,if_neg e10,if_pos e11])
 by_cases e12:O.verb=12∨O.verb=13
 ·rcases dirA_cases O.name.data.toList with ⟨d,hd,e⟩ | e
  ·exact door d hd e12 e (by unfold actL; rw [if_neg e6,if_neg e7,if_neg e8,if_neg e9,if_neg e10,if_neg e11,if_pos e12,e]; rfl) (by unfold actE; rw [if_neg e6,if_neg e7,if_neg e8,if_neg e9,if_neg e10,if_neg e11,if_pos e12,e]; rfl)
  ·exact turn1 e12 e (by unfold actL; rw [if_neg e6,if_neg e7,if_neg e8,if_neg e9,if_neg e10,if_neg e11,if_pos e12,e]; rfl) (by unfold actE; rw [if_neg e6,if_neg e7,if_neg e8,if_neg e9,if_neg e10,if_neg e11,if_pos e12,e]; rfl)
 by_cases e14:O.verb=14∨O.verb=15∨O.verb=16∨O.verb=17
 ·exact turn2 e14 (by unfold actL; rw [if_neg e6,if_neg e7,if_neg e8,if_neg e9,if_neg e10,if_neg e11,if_neg e12,if_pos e14]) (by unfold actE; rw [if_neg e6,if_neg e7,if_neg e8,if_neg e9,if_neg e10,if_neg e11,if_neg e12,if_pos e14])
 by_cases e18:O.verb=18
 ·exact hit e18 (by unfold actL; rw [if_neg e6,if_neg e7,if_neg e8,if_neg e9,if_neg e10,if_neg e11,if_neg e12,if_neg e14,if_pos e18]) (by unfold actE; rw [if_neg e6,if_neg e7,if_neg e8,if_neg e9,if_neg e10,if_neg e11,if_neg e12,if_neg e14,if_pos e18])
 by_cases e19:O.verb=19
 ·exact inv e19 (by unfold actL; rw [if_neg e6,if_neg e7,if_neg e8,if_neg e9,if_neg e10,if_neg e11,if_neg e12,if_neg e14,if_neg e18,if_pos e19]) (by unfold actE; rw [if_neg e6,if_neg e7,if_neg e8,if_neg e9,if_neg e10,if_neg e11,if_neg e12,if_neg e14,if_neg e18,if_pos e19])
 by_cases e20:O.verb=20
 ·exact quit e20 (by unfold actL; rw [if_neg e6,if_neg e7,if_neg e8,if_neg e9,if_neg e10,if_neg e11,if_neg e12,if_neg e14,if_neg e18,if_neg e19,if_pos e20]) (by unfold actE; rw [if_neg e6,if_neg e7,if_neg e8,if_neg e9,if_neg e10,if_neg e11,if_neg e12,if_neg e14,if_neg e18,if_neg e19,if_pos e20])
 ·exact walk O.verb.toNat (by omega) (by omega) (by unfold actL; rw [if_neg e6,if_neg e7,if_neg e8,if_neg e9,if_neg e10,if_neg e11,if_neg e12,if_neg e14,if_neg e18,if_neg e19,if_neg e20]) (by unfold actE; rw [if_neg e6,if_neg e7,if_neg e8,if_neg e9,if_neg e10,if_neg e11,if_neg e12,if_neg e14,if_neg e18,if_neg e19,if_neg e20])
theorem act_any {w0:World} {L:Ld} {Es:List Ev} {w:World} (hS:Sn 172 [] w0 L Es w) (hf:Fine L) (hg:goodL L=true) (hvb:Vb w0) (b:Nat) (hb:b < 6) (O:Od) (hO:OdOk O) (h0:0≤O.verb) (h1:O.verb≤20) (hlen:Es.length≤100000) :
 Calls Tryz.prog 137 #[.pointer (some ⟨w0.heap.size,0,none⟩),.int .i64 (b:Int),.agg O.cells] w fun e w'=>e=.returned (.tuple #[])∧Sn 172 [] w0 (actL L b O) (Es++actE L b O) w'∧Stp w0.heap.size 165 w w':=by
 refine act_cases L b O h0 h1 ?_ ?_ ?_ ?_ ?_ ?_ ?_ ?_ ?_ ?_ ?_ ?_ ?_
 ·intro h e1 e2; rw [e1,e2]; exact act_look hS hf hvb b hb O hO h hlen
 ·intro h e1 e2; rw [e1,e2]; exact act_getA hS hf hvb b hb O hO h hlen
 ·intro h e1 e2; rw [e1,e2]; exact act_drop hS hf hvb b hb O hO h hlen
 ·intro h e1 e2; rw [e1,e2]; exact act_put hS hf hvb b hb O hO h hlen
 ·intro h e1 e2; rw [e1,e2]; exact act_give hS hf hvb b hb O hO h hlen
 ·intro h e1 e2; rw [e1,e2]; exact act_say hS hf hvb b hb O hO h hlen
 ·intro d hd h hx e1 e2
  rw [e1,e2]
  rcases h with h | h
  ·exact act_door12 hS hf hvb b hb O hO h d hd hx hlen
  ·exact act_door13 hS hf hvb b hb O hO h d hd hx hlen
 ·intro h hx e1 e2
  rw [e1,e2]
  rcases h with h | h
  ·exact act_turn12 hS hf hvb b hb O hO h hx hlen
  ·exact act_turn13 hS hf hvb b hb O hO h hx hlen
 ·intro h e1 e2
  rw [e1,e2]
  rcases h with h | h | h | h
  ·exact act_turn14 hS hf hvb b hb O hO h hlen
  ·exact act_turn15 hS hf hvb b hb O hO h hlen
  ·exact act_turn16 hS hf hvb b hb O hO h hlen
  ·exact act_turn17 hS hf hvb b hb O hO h hlen
 ·intro h e1 e2; rw [e1,e2]; exact act_hit hS hf hvb b hb O hO h hlen
 ·intro h e1 e2; rw [e1,e2]; exact act_inv hS hf hvb b hb O hO h hlen
 ·intro h e1 e2; rw [e1,e2]; exact act_quit hS hf hvb b hb O hO h hlen
 ·intro d hd h e1 e2; rw [e1,e2]; exact act_go hS hf hg hvb b d hb hd O h (by omega)
open Go.RowKit
def Mv (L X:Ld):Prop:=∃ f g,X={ L with wh:=f,loc:=g }
theorem Mv.refl (L:Ld):Mv L L:=⟨L.wh,L.loc,rfl⟩
theorem Mv.move {L X:Ld} (h:Mv L X) (i:Nat) (wh loc:Int):Mv L (moveL X i wh loc):=by
 obtain ⟨f,g,rfl⟩:=h
 exact ⟨_,_,rfl⟩
theorem mv_same {L X:Ld} (h:Mv L X):X.kind=L.kind∧X.here=L.here∧X.on=L.on∧X.room=L.room∧X.tname=L.tname∧X.bname=L.bname:=by
 obtain ⟨f,g,e⟩:=h
 rw [e]; exact ⟨rfl,rfl,rfl,rfl,rfl,rfl⟩
open Go.RowKit
theorem good_move {L:Ld} (hg:goodL L=true) (i:Nat) (hi:i < 9) (wh loc:Int) (h1:wh=1∨¬ (L.kind i=2∧L.on i=true)) (h2:gplace L wh loc=true) (h3:wh=2→(i:Int) ∉ wayL L loc):goodL (moveL L i wh loc)=true:=by
 have ew:∀ j,(moveL L i wh loc).wh j=if j=i then wh else L.wh j:=fun _=>rfl
 have el:∀ j,(moveL L i wh loc).loc j=if j=i then loc else L.loc j:=fun _=>rfl
 have hoff:∀ j:Nat,j ≠ i→(moveL L i wh loc).wh j=L.wh j∧(moveL L i wh loc).loc j=L.loc j:=fun j hj=>by rw [ew,el,if_neg hj,if_neg hj]; exact ⟨rfl,rfl⟩
 have hp:∀ j:Nat,j < 9→∃ q,PathR (moveL L i wh loc) q (j:Int):=by
  intro j hj
  refine path_move hoff ?_ _ _ (good_path hg j hj)
  rw [ew,el,if_pos rfl,if_pos rfl]
  by_cases e2:wh=2
  ·right
   refine ⟨e2,wayL L loc,?_⟩
   have hl:amg loc 9=true:=by
    subst e2
    unfold gplace at h2
    rw [if_neg (by decide),if_neg (by decide)] at h2
    simp only [Bool.and_eq_true] at h2
    exact h2.1.2
   exact path_off hoff _ _ (good_way hg hl) (h3 e2)
  ·exact .inl e2
 refine good_mk (fun r hr=>by have:=good_R hg r hr; unfold goodR at this ⊢; exact this) (fun b hb=>by have:=good_B hg b hb; unfold goodB at this ⊢; exact this) fun j hj=>?_
 have hk:=good_kind hg j hj
 have ek:(moveL L i wh loc).kind j=L.kind j:=rfl
 have eo:(moveL L i wh loc).on j=L.on j:=rfl
 have egp:∀ a c,gplace (moveL L i wh loc) a c=gplace L a c:=fun _ _=>rfl
 refine ⟨?_,?_,hp j hj⟩
 ·rw [ek,eo,ew]
  by_cases e:j=i
  ·subst e
   rw [if_pos rfl]
   have hk1:=hk.1
   unfold gkind at hk1 ⊢
   by_cases k0:L.kind j=0
   ·rw [if_pos k0] at hk1 ⊢; exact hk1
   ·rw [if_neg k0] at hk1 ⊢
    by_cases k2:L.kind j=2
    ·rw [if_pos k2]
     rcases h1 with h1 | h1
     ·rw [h1]; simp
     ·cases ho:L.on j with
      | true=>exact absurd ⟨k2,ho⟩ h1
      | false=>rfl
    ·rw [if_neg k2] at hk1 ⊢; exact hk1
  ·rw [if_neg e]; exact hk.1
 ·rw [egp,ew,el]
  by_cases e:j=i
  ·rw [if_pos e,if_pos e]; exact h2
  ·rw [if_neg e,if_neg e]; exact hk.2
theorem good_on {L:Ld} (hg:goodL L=true) (i:Nat) (hi:i < 9) (x:Bool) (h0:L.kind i ≠ 0) (h2:L.kind i=2→L.wh i=1):goodL (L.setOn i x)=true:=by
 refine good_mk (fun r hr=>by have:=good_R hg r hr; unfold goodR at this ⊢; exact this) (fun b hb=>by have:=good_B hg b hb; unfold goodB at this ⊢; exact this) fun j hj=>?_
 have hk:=good_kind hg j hj
 have egp:∀ a c,gplace (L.setOn i x) a c=gplace L a c:=fun _ _=>rfl
 refine ⟨?_,by rw [egp]; exact hk.2,_,path_same (L:=L) (L':=L.setOn i x) (fun _ _=>Iff.rfl) (fun _ _ _=>rfl) _ _ (good_path hg j hj)⟩
 show gkind (L.kind j) (L.wh j) (if j=i then x else L.on j)=true
 by_cases e:j=i
 ·subst e
  rw [if_pos rfl]
  have hk1:=hk.1
  unfold gkind at hk1 ⊢
  rw [if_neg h0] at hk1 ⊢
  by_cases k2:L.kind j=2
  ·rw [if_pos k2,h2 k2]; simp
  ·rw [if_neg k2] at hk1 ⊢; exact hk1
 ·rw [if_neg e]; exact hk.1
theorem good_shut {L:Ld} (hg:goodL L=true) (r d:Nat) (x:Bool) (h:L.exit r d ≠ 0):goodL (L.setShut r d x)=true:=by
 refine good_mk (fun r' hr=>?_) (fun b hb=>by have:=good_B hg b hb; unfold goodB at this ⊢; exact this) fun j hj=>?_
 ·have:=good_R hg r' hr
  unfold goodR groom at this ⊢
  refine List.all_eq_true.2 fun d' hd=>?_
  have h2:=List.all_eq_true.1 this d' hd
  show (if L.exit r' d'=0 then !(if r'=r∧d'=d then x else L.shut r' d') else amg (L.exit r' d' - 1) 6)=true
  by_cases e:L.exit r' d'=0
  ·rw [if_pos e] at h2 ⊢
   rw [if_neg]
   ·exact h2
   ·rintro ⟨rfl,rfl⟩; exact h e
  ·rw [if_neg e] at h2 ⊢; exact h2
 ·have hk:=good_kind hg j hj
  have egp:∀ a c,gplace (L.setShut r d x) a c=gplace L a c:=fun _ _=>rfl
  exact ⟨hk.1,by rw [egp]; exact hk.2,_,path_same (L:=L) (L':=L.setShut r d x) (fun _ _=>Iff.rfl) (fun _ _ _=>rfl) _ _ (good_path hg j hj)⟩
structure Kp (b:Nat) (L X:Ld):Prop where
 good:goodL X=true
 tname:X.tname=L.tname
 kind:X.kind=L.kind
 rname:X.rname=L.rname
 dark:X.dark=L.dark
 exit:X.exit=L.exit
 thing:∀ i:Nat,i < 9→L.wh i=1→L.loc i ≠ (b:Int)→X.wh i=L.wh i∧X.loc i=L.loc i∧X.on i=L.on i
 being:∀ c:Nat,c < 6→c ≠ b→X.bname c=L.bname c∧X.here c=L.here c∧X.keen c=L.keen c∧X.room c=L.room c∧X.health c=L.health c
theorem Kp.refl {b:Nat} {L:Ld} (hg:goodL L=true):Kp b L L:=⟨hg,rfl,rfl,rfl,rfl,rfl,fun _ _ _ _=>⟨rfl,rfl,rfl⟩,fun _ _ _=>⟨rfl,rfl,rfl,rfl,rfl⟩⟩
structure MvK (b:Nat) (L X:Ld):Prop where
 good:goodL X=true
 mv:Mv L X
 thing:∀ i:Nat,i < 9→L.wh i=1→L.loc i ≠ (b:Int)→X.wh i=L.wh i∧X.loc i=L.loc i
theorem MvK.refl {b:Nat} {L:Ld} (hg:goodL L=true):MvK b L L:=⟨hg,Mv.refl L,fun _ _ _ _=>⟨rfl,rfl⟩⟩
theorem MvK.kp {b:Nat} {L X:Ld} (h:MvK b L X):Kp b L X:=by
 obtain ⟨f,g,e⟩:=h.mv
 refine ⟨h.good,?_,?_,?_,?_,?_,fun i hi h1 h2=>⟨(h.thing i hi h1 h2).1,(h.thing i hi h1 h2).2,?_⟩,fun c hc hn=>?_⟩
 all_goals rw [e]
 exact ⟨rfl,rfl,rfl,rfl,rfl⟩
theorem MvK.move {b:Nat} {L X:Ld} (h:MvK b L X) (i:Nat) (hi:i < 9) (wh loc:Int) (hn:¬ (L.wh i=1∧L.loc i ≠ (b:Int))) (hg:goodL (moveL X i wh loc)=true):MvK b L (moveL X i wh loc):=by
 refine ⟨hg,h.mv.move i wh loc,fun j hj h1 h2=>?_⟩
 have hne:j ≠ i:=by rintro rfl; exact hn ⟨h1,h2⟩
 have:=h.thing j hj h1 h2
 show (if j=i then wh else X.wh j)=L.wh j∧(if j=i then loc else X.loc j)=L.loc j
 rw [if_neg hne,if_neg hne]; exact this
theorem has_iff (L:Ld) (wh loc:Int) (i:Nat) (h:(i:Int) ∈ hasK L wh loc 9):i < 9∧L.wh i=wh∧L.loc i=loc:=by
 obtain ⟨j,hj,hlt,ha⟩:=hasK_mem h
 have:i=j:=by omega
 subst this
 simp [isAt] at ha
 exact ⟨hlt,ha.1,ha.2⟩
theorem sight_iff (L:Ld) (b i:Nat) (h:(i:Int) ∈ sightL L b):i < 9∧L.wh i=0:=by
 unfold sightL at h
 split at h
 ·exact ⟨(has_iff L _ _ i h).1,(has_iff L _ _ i h).2.1⟩
 ·simp at h
theorem reach_iff (L:Ld) (b i:Nat) (h:(i:Int) ∈ reachL L b):i < 9∧(L.wh i=0∨(L.wh i=1∧L.loc i=(b:Int))):=by
 rcases List.mem_append.1 h with h | h
 ·have:=has_iff L 1 (b:Int) i h
  exact ⟨this.1,.inr this.2⟩
 ·have:=sight_iff L b i h
  exact ⟨this.1,.inl this.2⟩
theorem take_mvk {L:Ld} {b:Nat} (hb:b < 6) (hh:L.here b=true) (hg:goodL L=true) (q:List Int) (hq:∀ x ∈ q,∃ i:Nat,x=(i:Int)∧i < 9∧L.wh i ≠ 1):MvK b L (takeS L b q).1:=by
 unfold takeS
 have key:∀ (q:List Int) (s:Ld × List Ev),(∀ x ∈ q,∃ i:Nat,x=(i:Int)∧i < 9∧L.wh i ≠ 1)→MvK b L s.1→MvK b L (q.foldl (gstep b) s).1:=by
  intro q
  induction q with
  | nil=>intro s _ h; exact h
  | cons a q ih =>
   intro s hq h
   rw [List.foldl_cons]
   refine ih _ (fun x hx=>hq x (List.mem_cons_of_mem _ hx)) ?_
   obtain ⟨i,rfl,hi,hw⟩:=hq a (List.mem_cons_self ..)
   show MvK b L (moveL s.1 i 1 (b:Int))
   refine h.move i hi 1 (b:Int) (fun e=>hw e.1) (good_move h.good i hi 1 (b:Int) (.inl rfl) ?_ (fun e=>absurd e (by decide)))
   unfold gplace
   rw [if_neg (by decide),if_pos rfl,amg_mk (by omega) (by omega)]
   rw [(mv_same h.mv).2.1]
   simpa using hh
 exact key q (L,[]) hq (MvK.refl hg)
theorem part_mvk {L:Ld} {b:Nat} (hg:goodL L=true) (O:Od) (wh loc:Int) (E:Ev) (hp:gplace L wh loc=true):MvK b L (partL L b O wh loc E):=by
 unfold partL partS
 have key:∀ (q:List Int) (s:Ld × List Ev),(∀ x ∈ q,x ∈ handL L b)→MvK b L s.1→MvK b L (q.foldl (pstep b wh loc E) s).1:=by
  intro q
  induction q with
  | nil=>intro s _ h; exact h
  | cons a q ih =>
   intro s hq h
   rw [List.foldl_cons]
   refine ih _ (fun x hx=>hq x (List.mem_cons_of_mem _ hx)) ?_
   obtain ⟨i,rfl,hi⟩:=hand_lt (hq a (List.mem_cons_self ..))
   have hh:=has_iff L 1 (b:Int) i (hq _ (List.mem_cons_self ..))
   unfold pstep
   split
   ·exact h
   ·rename_i hc
    split
    ·exact h
    ·rename_i hd
     show MvK b L (moveL s.1 i wh loc)
     refine h.move i hi wh loc (fun e=>e.2 hh.2.2) (good_move h.good i hi wh loc (.inr (by simpa using hc)) ?_ (fun e2 hm=>hd ⟨e2,hm⟩))
     have hs:=mv_same h.mv
     unfold gplace at hp ⊢
     rw [hs.1,hs.2.1]; exact hp
 exact key _ (L,[]) (fun x hx=>meant_mem hx) (MvK.refl hg)
theorem sees_here {L:Ld} {b c:Nat} (h:seesO L b c=true):c ≠ b∧c < 6∧L.here c=true:=by
 unfold seesO seesL at h
 simp only [Bool.and_eq_true,decide_eq_true_eq] at h
 have h2:=h.2.1.2
 unfold abtL at h2
 simp only [Bool.and_eq_true] at h2
 have:=amg_pos h2.1
 exact ⟨h.1,by omega,by simpa using h2.2⟩
theorem turned_kind (v:Int):(turnedC v).kind ≠ 0∧((turnedC v).kind=3∨(turnedC v).kind=1∨(turnedC v).kind=2):=by
 unfold turnedC
 repeat' split
 all_goals exact ⟨by decide,by decide⟩
theorem turn_kp {L:Ld} {b:Nat} (hg:goodL L=true) (O:Od) (v:Int):Kp b L (turnL L b O (turnedC v)):=by
 have hk:=turned_kind v
 unfold turnL
 split
 ·exact Kp.refl hg
 ·rename_i i hi
  obtain ⟨h9,hm,hkk⟩:=turnW_lt hi
  split
  ·exact Kp.refl hg
  ·have hw:L.wh i=0∨(L.wh i=1∧L.loc i=(b:Int)):=by
    unfold turnQ at hm
    split at hm
    ·exact (reach_iff L b i hm).2
    ·exact .inr (has_iff L 1 (b:Int) i hm).2
   refine ⟨good_on hg i h9 _ (by rw [hkk]; exact hk.1) (fun e2=>?_),rfl,rfl,rfl,rfl,rfl,fun j hj h1 h2=>⟨rfl,rfl,?_⟩,fun _ _ _=>⟨rfl,rfl,rfl,rfl,rfl⟩⟩
   ·unfold turnQ at hm
    rw [if_neg (by rw [← hkk,e2]; decide)] at hm
    exact (has_iff L 1 (b:Int) i hm).2.1
   ·show (if j=i then _ else L.on j)=L.on j
    rw [if_neg]
    rintro rfl
    rcases hw with hw | hw
    ·omega
    ·exact h2 hw.2
theorem act_kp {L:Ld} {b:Nat} (hg:goodL L=true) (hb:b < 6) (hh:L.here b=true) (O:Od) (h0:0≤O.verb) (h1:O.verb≤20):Kp b L (actL L b O):=by
 have hB:=good_being hg b hb
 refine act_cases L b O h0 h1 ?_ ?_ ?_ ?_ ?_ ?_ ?_ ?_ ?_ ?_ ?_ ?_ ?_
 ·intro h e1 e2; rw [e1]; exact Kp.refl hg
 ·intro h e1 e2
  rw [e1]
  unfold getAL
  split
  ·refine (take_mvk hb hh hg _ fun x hx=>?_).kp
   have hm:=meant_mem hx
   obtain ⟨i,rfl,hi⟩:=sight_lt hm
   exact ⟨i,rfl,hi,by have:=(sight_iff L b i hm).2; omega⟩
  ·unfold getBL
   split
   ·exact Kp.refl hg
   ·refine (take_mvk hb hh hg _ fun x hx=>?_).kp
    have hm:=meant_mem hx
    obtain ⟨i,rfl,hi⟩:=has_lt hm
    exact ⟨i,rfl,hi,by have:=(has_iff L _ _ i hm).2.1; omega⟩
 ·intro h e1 e2; rw [e1]; exact (part_mvk hg O 0 (L.room b) _ (place_room hB.1)).kp
 ·intro h e1 e2
  rw [e1]
  unfold putL
  split
  ·exact Kp.refl hg
  ·rename_i i hi
   obtain ⟨h9,-,h3,-⟩:=box_lt hi
   refine (part_mvk hg O 2 (i:Int) _ ?_).kp
   unfold gplace
   rw [if_neg (by decide),if_neg (by decide),amg_mk (by omega) (by omega)]
   simp [h3]
 ·intro h e1 e2
  rw [e1]
  unfold giveL
  split
  ·exact Kp.refl hg
  ·rename_i c hc
   obtain ⟨h6,hs⟩:=who_sees hc
   refine (part_mvk hg O 1 (c:Int) _ ?_).kp
   unfold gplace
   rw [if_neg (by decide),if_pos rfl,amg_mk (by omega) (by omega)]
   simpa using (sees_here hs).2.2
 ·intro h e1 e2; rw [e1]; exact Kp.refl hg
 ·intro d hd h hx e1 e2
  rw [e1]
  unfold doorL
  split
  ·exact Kp.refl hg
  ·rename_i hne
   split
   ·exact Kp.refl hg
   ·unfold sideL
    split
    ·rename_i hx2
     refine ⟨good_shut (good_shut hg _ d _ hne) _ _ _ ?_,rfl,rfl,rfl,rfl,rfl,fun _ _ _ _=>⟨rfl,rfl,rfl⟩,fun _ _ _=>⟨rfl,rfl,rfl,rfl,rfl⟩⟩
     show L.exit _ _ ≠ 0
     rw [hx2]; omega
    ·exact ⟨good_shut hg _ d _ hne,rfl,rfl,rfl,rfl,rfl,fun _ _ _ _=>⟨rfl,rfl,rfl⟩,fun _ _ _=>⟨rfl,rfl,rfl,rfl,rfl⟩⟩
 ·intro h hx e1 e2; rw [e1]; exact turn_kp hg O O.verb
 ·intro h e1 e2; rw [e1]; exact turn_kp hg O O.verb
 ·intro h e1 e2
  rw [e1]
  unfold hitsL
  split
  ·exact Kp.refl hg
  ·rename_i c hc
   have hc2:whoL L b O.name=some c:=by
    unfold hitW at hc
    split at hc
    ·exact hc
    ·simp at hc
   obtain ⟨h6,hs⟩:=who_sees hc2
   obtain ⟨-,-,hch⟩:=sees_here hs
   have g1:goodL (L.setFoe b ((c:Int)+1))=true:=good_foe hg b (.inr ⟨hh,by rw [Int.add_sub_cancel]; exact amg_mk (by omega) (by omega)⟩)
   unfold foesL
   split
   ·exact ⟨good_foe g1 c (.inr ⟨hch,by rw [Int.add_sub_cancel]; exact amg_mk (by omega) (by omega)⟩),rfl,rfl,rfl,rfl,rfl,fun _ _ _ _=>⟨rfl,rfl,rfl⟩,fun _ _ _=>⟨rfl,rfl,rfl,rfl,rfl⟩⟩
   ·exact ⟨g1,rfl,rfl,rfl,rfl,rfl,fun _ _ _ _=>⟨rfl,rfl,rfl⟩,fun _ _ _=>⟨rfl,rfl,rfl,rfl,rfl⟩⟩
 ·intro h e1 e2; rw [e1]; exact Kp.refl hg
 ·intro h e1 e2
  rw [e1]
  have hl:=good_letGo hg b hb
  refine ⟨good_zero hl.1 b hb hl.2,rfl,rfl,rfl,rfl,rfl,fun i hi h1 h2=>?_,fun c hc hn=>?_⟩
  ·have hni:(i:Int) ∉ handL L b:=fun hm=>h2 (has_iff L 1 (b:Int) i hm).2.2
   refine ⟨?_,?_,?_⟩
   ·show (if (i:Int) ∈ handL L b then 0 else L.wh i)=L.wh i
    rw [if_neg hni]
   ·show (if (i:Int) ∈ handL L b then L.room b else L.loc i)=L.loc i
    rw [if_neg hni]
   ·show (if (i:Int) ∈ handL L b∧L.kind i=2 then false else L.on i)=L.on i
    rw [if_neg (fun e=>hni e.1)]
  ·simp [zeroB,Ld.setBeing,hn,letGoL,freeK,dropS,Ld.setFoe]
 ·intro d hd h e1 e2
  rw [e1]
  unfold walkL
  split
  ·exact Kp.refl hg
  ·rename_i hne
   split
   ·exact Kp.refl hg
   ·have hr:=amg_pos hB.1
    have hx:=good_exit hg (L.room b).toNat d (by omega) hd
    refine ⟨gone_good hg b ?_,rfl,rfl,rfl,rfl,rfl,fun _ _ _ _=>⟨rfl,rfl,rfl⟩,fun c hc hn=>⟨rfl,rfl,rfl,?_,rfl⟩⟩
    ·rcases hx with hx | hx
     ·exact absurd hx.1 hne
     ·exact hx.2
    ·show (if c=b then _ else L.room c)=L.room c
     rw [if_neg hn]
open Go.RowKit
theorem rbegin_any {w0:World} {L:Ld} {Es:List Ev} {w:World} (hS:Sn 172 [] w0 L Es w) (b:Nat) (hb:b < 6) (hf:Fine (beginL L b)) (hv:Vb w0) (hlen:Es.length≤800000) :
 Calls Tryz.prog 175 #[.pointer (some ⟨w0.heap.size,0,none⟩),.int .i64 (b:Int)] w fun e w'=>e=.returned (.tuple #[])∧Sn 172 [] w0 (beginL L b) (Es++beginE (beginL L b) b) w'∧Stp w0.heap.size 165 w w':=by
 have hbi:(b:Int) < 6:=by omega
 have c3:=hS.being b 3 hb (by omega)
 have c4:=hS.being b 4 hb (by omega)
 have f3:=hS.soft (129+b*6+3)
 have f4:=hS.soft (129+b*6+4)
 simp only [Ld.beingCell] at c3 c4
 have S1:=hide ((hS.set (by omega) (L.up_room b hb 0)).set (by omega) ((L.setRoom b 0).up_health b hb 10))
 have T1:=hide ((hS.step (n:=129+b*6+3) (by omega) (.int .i64 0)).trans (Stp.put (o:=165) (n:=129+b*6+4) (x:=.int .i64 10) (by omega)))
 clear hS
 go_enter Tryz.func175,Tryz.ntmps175
 go_wp2_with fail
 refine (revent_any (L:=beginL L b) S1.out 17 b hb).mono ?_
 rintro e w1 ⟨rfl,hb1⟩
 have S2:=hide (S1.out.below hb1)
 have T2:=hide (T1.out.trans (S1.out.stp hb1 165))
 clear hb1 S1 T1 c3 c4 f3 f4
 go_wp2_with fail
 refine (happens_any (L:=beginL L b) S2.out (evN (beginL L b) 17 b) (by omega)).mono ?_
 rintro e w2 ⟨rfl,S3h,T3h⟩
 have S3:=hide S3h
 have T3:=hide (T2.out.trans T3h)
 clear S3h T3h S2 T2
 go_wp2_with fail
 refine (rlook_any S3.out hf hv b hb (by simp only [List.length_append,List.length_cons,List.length_nil]; omega)).mono ?_
 rintro e w3 ⟨rfl,S4h,T4h⟩
 have S4:=hide S4h
 have T4:=hide (T3.out.trans T4h)
 clear S4h T4h S3 T3
 go_wp2
 go_end0
 exact ⟨rfl,by simpa only [beginE,List.append_assoc,List.cons_append,List.nil_append] using S4.out,T4.out⟩
theorem rdie_any {w0:World} {L:Ld} {Es:List Ev} {w:World} (hS:Sn 172 [] w0 L Es w) (b:Nat) (hb:b < 6) (hf:Fine (L.setHealth b 1)) (hf2:Fine (beginL (letGoL (L.setHealth b 1) b) b)) (hv:Vb w0) (hlen:Es.length≤700000) :
 Calls Tryz.prog 145 #[.pointer (some ⟨w0.heap.size,0,none⟩),.int .i64 (b:Int)] w fun e w'=>e=.returned (.tuple #[])∧Sn 172 [] w0 (dieL L b) (Es++dieE L b) w'∧Stp w0.heap.size 165 w w':=by
 have hbi:(b:Int) < 6:=by omega
 have c4:=hS.being b 4 hb (by omega)
 have f4:=hS.soft (129+b*6+4)
 simp only [Ld.beingCell] at c4
 have S1:=hide (hS.set (by omega) (L.up_health b hb 1))
 have T1:=hide (hS.step (n:=129+b*6+4) (by omega) (.int .i64 1))
 clear hS
 go_enter Tryz.func145,Tryz.ntmps145
 go_wp2_with fail
 refine (revent_any S1.out 15 b hb).mono ?_
 rintro e w1 ⟨rfl,hb1⟩
 have S2:=hide (S1.out.below hb1)
 have T2:=hide (T1.out.trans (S1.out.stp hb1 165))
 clear hb1 S1 T1 c4 f4
 go_wp2_with fail
 refine (happens_any S2.out (evN (L.setHealth b 1) 15 b) (by omega)).mono ?_
 rintro e w2 ⟨rfl,S3h,T3h⟩
 have S3:=hide S3h
 have T3:=hide (T2.out.trans T3h)
 clear S3h T3h S2 T2
 go_wp2_with fail
 refine (letGo_any S3.out hf b hb).mono ?_
 rintro e w3 ⟨rfl,S4h,T4h⟩
 have S4:=hide S4h
 have T4:=hide (T3.out.trans T4h)
 clear S4h T4h S3 T3
 by_cases h2:b < 2
 ·have h2i:decide ((b:Int) < 2)=true:=by simp; omega
  have HL:=hide (show dieL L b=zeroB (letGoL (L.setHealth b 1) b) b by unfold dieL; rw [if_pos h2])
  have HE:=hide (show dieE L b=[allE (L.setHealth b 1) (evN (L.setHealth b 1) 15 b)] by unfold dieE; rw [if_pos h2])
  have hw:=S4.out.whole b hb ⟨#[]⟩ false false 0 0 0
  have X:=hide hw.1
  have Y:=hide (T4.out.trans hw.2)
  clear hw h2
  go_wp2_with (refine wl_whole (.tmp 26) (.tmp 25) rfl rfl b hb ⟨#[]⟩ false false 0 0 0 rfl rfl S4.out ?_)
  exact bodyPost_ret (v:=.tuple #[]) (results_none rfl _ _ _) rfl ⟨rfl,by rw [HL.out,HE.out]; exact X.out,Y.out⟩
 ·have h2i:decide ((b:Int) < 2)=false:=by simp; omega
  have HL:=hide (show dieL L b=beginL (letGoL (L.setHealth b 1) b) b by unfold dieL; rw [if_neg h2])
  have HE:=hide (show dieE L b=allE (L.setHealth b 1) (evN (L.setHealth b 1) 15 b)::beginE (beginL (letGoL (L.setHealth b 1) b) b) b by unfold dieE; rw [if_neg h2])
  clear h2
  go_wp2_with fail
  refine (rbegin_any S4.out b hb hf2 hv (by simp only [List.length_append,List.length_cons,List.length_nil]; omega)).mono ?_
  rintro e w4 ⟨rfl,S5h,T5h⟩
  have S5:=hide S5h
  have T5:=hide (T4.out.trans T5h)
  clear S5h T5h S4 T4
  go_wp2
  go_end0
  exact ⟨rfl,by rw [HL.out,HE.out]; simpa only [List.append_assoc,List.cons_append,List.nil_append] using S5.out,T5.out⟩
open Go.RowKit
theorem rwith_lit {w0:World} {L:Ld} {Es:List Ev} {w:World} (hS:Sn 172 [] w0 L Es w) (kind:Int) (b c:Nat) (hb:b < 6) (hc:c < 6) :
 Calls Tryz.prog 143 #[.pointer (some ⟨w0.heap.size,0,none⟩),.int .i64 kind,.int .i64 (b:Int),.int .i64 (c:Int)] w fun e w'=>e=.returned (.agg #[.int .i64 kind,.int .i64 (L.room b),.int .i64 (b:Int),.int .i64 (c:Int),.int .i64 0,.int .i64 0,.string (L.bname b),.string (L.bname c),.string ⟨#[]⟩,.string ⟨#[]⟩,.int .i64 0,.int .i64 0,.int .i64 0,.int .i64 0,.int .i64 0,.int .i64 0])∧Below w.heap.size w w':=rwith_any hS kind b c hb hc
theorem health_twice (L:Ld) (c:Nat) (x y:Int):(L.setHealth c x).setHealth c y=L.setHealth c y:=by
 unfold Ld.setHealth
 congr 1
 funext j
 by_cases e:j=c <;> simp [e]
theorem rfight_any {w0:World} {L:Ld} {Es:List Ev} {w:World} (hS:Sn 172 [] w0 L Es w) (hf:Fine L) (hg:goodL L=true) (hv:Vb w0) (b:Nat) (hb:b < 6) (n:Int) (hn1:1≤n) (hn3:n≤3) (h0:L.foe b ≠ 0) (hlen:Es.length≤600000) :
 Calls Tryz.prog 129 #[.pointer (some ⟨w0.heap.size,0,none⟩),.int .i64 (b:Int),.int .i64 n] w fun e w'=>e=.returned (.tuple #[])∧Sn 172 [] w0 (fightL L b n) (Es++fightE L b n) w'∧Stp w0.heap.size 165 w w':=by
 obtain ⟨c,hc,ec⟩:∃ c:Nat,c < 6∧L.foe b=(c:Int)+1:=by
  rcases hf.foe b hb with h | h
  ·exact absurd h h0
  ·exact h
 have hfn:foeN L b=c:=by unfold foeN; rw [ec]; omega
 have hbi:(b:Int) < 6:=by omega
 have hci:(c:Int) < 6:=by omega
 have c5:=hS.being b 5 hb (by omega)
 have c3:=hS.being b 3 hb (by omega)
 have d1:=hS.being c 1 hc (by omega)
 have d3:=hS.being c 3 hc (by omega)
 have f5:=hS.soft (129+b*6+5)
 simp only [Ld.beingCell] at c5 c3 d1 d3
 rw [ec] at c5
 have hw:wrap64 ((c:Int)+1 - 1)=(c:Int):=by rw [show (c:Int)+1 - 1=(c:Int) by omega]; simp only [wrap64]; omega
 have hhl:=hf.health c hc
 have HS:=hide hS
 have HF:=hide hf
 have HG:=hide hg
 have hl:=hS.lt
 clear hS hf hg h0 ec
 cases hh:L.here c with
 | false =>
  have hm:meets L b=false:=by unfold meets; rw [hfn,hh]; rfl
  have HL:=hide (show fightL L b n=L.setFoe b 0 by unfold fightL; rw [if_neg (by simp [hm])])
  have HE:=hide (show fightE L b n=[] by unfold fightE; rw [if_neg (by simp [hm])])
  rw [hh] at d1
  clear hh hm hfn
  go_enter Tryz.func129,Tryz.ntmps129
  go_wp2_with fail
  go_quiet (fail)
  have X:=hide ((HS.out.drewN nq).set (by omega) (L.up_foe b hb 0))
  have Y:=hide ((HS.out.stp (below_drewN (Below.refl _ _) nq) 165).trans ((HS.out.drewN nq).step (n:=129+b*6+5) (by omega) (.int .i64 0)))
  go_wp2
  exact bodyPost_ret (v:=.tuple #[]) (results_none rfl _ _ _) rfl ⟨rfl,by rw [HL.out,HE.out,List.append_nil]; exact X.out,Y.out⟩
 | true =>
  rw [hh] at d1
  by_cases hr:L.room c=L.room b
  ·have hm:meets L b=true:=by unfold meets; rw [hfn,hh]; simp [hr]
   have hrb:(L.room c != L.room b)=false:=by simp [hr]
   have hge:=(good_being HG.out c hc).2.2.2.1
   rw [hh] at hge
   have hhp:0 < L.health c:=by simpa using hge.symm
   have HR:=hide hr
   have HM:=hide hm
   have HH:=hide hh
   have HFN:=hide hfn
   clear hr hm hh hfn hge
   go_enter Tryz.func129,Tryz.ntmps129
   go_wp2_with fail
   go_quiet (fail)
   have S0:=hide (HS.out.drewN nq)
   have T0:=hide (HS.out.stp (below_drewN (Below.refl _ _) nq) 165)
   clear c5 c3 d1 d3 f5 HS
   go_wp2_with fail
   refine (rwith_lit S0.out 14 b c hb hc).mono ?_
   rintro e w1 ⟨rfl,hb1⟩
   have S1:=hide (S0.out.below hb1)
   have T1:=hide (T0.out.trans (S0.out.stp hb1 165))
   clear hb1 S0 T0
   go_wp2_with (first | (refine wl_new 71 (.tmp 9) (.tmp 49) rfl rfl _ _ rfl rfl rfl Tryz.sizeEvent rfl (by simp [Value.oneCell']) ?_) | (refine wl_event (.tmp 9) rfl rfl _ { evW L 14 b c with num:=n } rfl (heap_alloc_new w1 _) ?_))
   refine (happens_any (S1.out.alloc _) { evW L 14 b c with num:=n } (by omega)).mono ?_
   rintro e w2 ⟨rfl,S2h,T2h⟩
   have S2:=hide S2h
   have T2:=hide (T1.out.trans ((S1.out.stp (below_box w1 _) 165).trans T2h))
   have e4:=S2h.being c 4 hc (by omega)
   have g4:=S2h.soft (129+c*6+4)
   simp only [Ld.beingCell] at e4
   have hwn:wrap64 (L.health c - n)=L.health c - n:=by simp only [wrap64]; omega
   have S3:=hide (S2h.set (by omega) (L.up_health c hc (L.health c - n)))
   have T3:=hide (T2.out.trans (S2h.step (n:=129+c*6+4) (by omega) (.int .i64 (L.health c - n))))
   clear S2h T2h S1 T1 S2 T2
   by_cases hd:L.health c - n < 1
   ·have HL:=hide (show fightL L b n=dieL (hitL L c n) c by unfold fightL; rw [if_pos HM.out,HFN.out,if_pos hd])
    have HE:=hide (show fightE L b n=allE L { evW L 14 b c with num:=n }::dieE (hitL L c n) c by unfold fightE; rw [if_pos HM.out,HFN.out,if_pos hd])
    have hg1:=good_health HG.out hc HH.out (x:=1) (by omega) (by omega)
    have hg2:goodL ((hitL L c n).setHealth c 1)=true:=by unfold hitL; rw [health_twice]; exact hg1
    have hf1:Fine ((hitL L c n).setHealth c 1):=((al_health L c _).trans (al_health _ c 1)).fine HF.out hg2
    have hg3:=good_begin (good_letGo hg2 c hc).1 c hc (show L.here c=true from HH.out)
    have hf3:Fine (beginL (letGoL ((hitL L c n).setHealth c 1) c) c):=(((al_letGo _ c).trans (al_room _ c 0)).trans (al_health _ c 10)).fine hf1 hg3
    have hdd:decide (L.health c - n < 1)=true:=by simpa using hd
    have HFF:=hide (And.intro hf1 hf3)
    clear hg1 hg2 hf1 hg3 hf3 hd
    go_wp2_with fail
    refine (rdie_any (L:=hitL L c n) S3.out c hc HFF.out.1 HFF.out.2 hv (by simp only [List.length_append,List.length_cons,List.length_nil]; omega)).mono ?_
    rintro e w3 ⟨rfl,S4h,T4h⟩
    have S4:=hide S4h
    have T4:=hide (T3.out.trans T4h)
    clear S4h T4h S3 T3
    go_wp2
    go_end0
    exact ⟨rfl,by rw [HL.out,HE.out]; simpa only [List.append_assoc,List.cons_append,List.nil_append] using S4.out,T4.out⟩
   ·have HL:=hide (show fightL L b n=hitL L c n by unfold fightL; rw [if_pos HM.out,HFN.out,if_neg hd])
    have HE:=hide (show fightE L b n=[allE L { evW L 14 b c with num:=n }] by unfold fightE; rw [if_pos HM.out,HFN.out,if_neg hd])
    have hdd:decide (L.health c - n < 1)=false:=by simpa using hd
    clear hd
    go_wp2
    go_end0
    exact ⟨rfl,by rw [HL.out,HE.out]; exact S3.out,T3.out⟩
  ·have hm:meets L b=false:=by unfold meets; rw [hfn,hh]; simp [hr]
   have hrb:(L.room c != L.room b)=true:=by simp [hr]
   have HL:=hide (show fightL L b n=L.setFoe b 0 by unfold fightL; rw [if_neg (by simp [hm])])
   have HE:=hide (show fightE L b n=[] by unfold fightE; rw [if_neg (by simp [hm])])
   clear hh hm hfn hr
   go_enter Tryz.func129,Tryz.ntmps129
   go_wp2_with fail
   go_quiet (fail)
   have X:=hide ((HS.out.drewN nq).set (by omega) (L.up_foe b hb 0))
   have Y:=hide ((HS.out.stp (below_drewN (Below.refl _ _) nq) 165).trans ((HS.out.drewN nq).step (n:=129+b*6+5) (by omega) (.int .i64 0)))
   go_wp2
   exact bodyPost_ret (v:=.tuple #[]) (results_none rfl _ _ _) rfl ⟨rfl,by rw [HL.out,HE.out,List.append_nil]; exact X.out,Y.out⟩
end Go.Proofs.YtncgcejlkmoliaaGreatDoor
