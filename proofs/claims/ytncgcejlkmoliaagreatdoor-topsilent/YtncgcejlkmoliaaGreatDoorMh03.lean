import Derived.Test.YtncgcejlkmoliaaGreatDoorMh02
set_option linter.unusedVariables false
set_option maxRecDepth 100000
set_option maxHeartbeats 16000000
namespace Go.Proofs.YtncgcejlkmoliaaGreatDoor
open Go.RowKit
structure PvRel (L:Ld) (E:Ev) (w wr:World):Prop where
 cod:Cod wr w.heap.size L
 cev:Cev wr (w.heap.size+1) E
 low:Below w.heap.size w wr
theorem PvRel.call {L:Ld} {E:Ev} {w wr w1:World} (h:PvRel L E w wr) (hb:Below wr.heap.size wr w1):PvRel L E w w1:=⟨h.cod.behind hb (Nat.le_refl _),h.cev.behind hb (Nat.le_refl _),h.low.trans (hb.mono h.low.size)⟩
theorem PvRel.drew {L:Ld} {E:Ev} {w wr:World} (h:PvRel L E w wr):PvRel L E w wr.drew:=⟨h.cod,h.cev,⟨h.low.os,h.low.tape,h.low.output,h.low.size,h.low.block⟩⟩
theorem PvRel.box {L:Ld} {E:Ev} {w wr:World} (h:PvRel L E w wr) (o:Obj):PvRel L E w (wr.alloc o):=⟨h.cod.alloc o,h.cev.alloc o,h.low.alloc h.low.size o⟩
theorem pv_start (L:Ld) (E:Ev) (w:World):PvRel L E w ((w.alloc (.cells L.cells 43)).alloc (.cells E.cells 71)):=by
 refine ⟨(cod_new w L).alloc _,?_,((Below.refl _ _).alloc (Nat.le_refl _) _).alloc (by simp) _⟩
 have:=cev_new (w.alloc (.cells L.cells 43)) E
 rw [World.size_alloc] at this; exact this
section
variable {L:Ld} {b kind room actor other:Int}
theorem perc_gone (h:abtL L b=false):percL L b kind room actor other=0:=by unfold percL; rw [if_pos h]
theorem perc_told (h1:abtL L b=true) (hn:b ≠ actor) (h:kind=16∨L.room b.toNat ≠ room):percL L b kind room actor other=0:=by
 unfold percL; rw [if_neg (by simp [h1]),if_pos ⟨hn,h⟩]
theorem perc_quiet (h1:abtL L b=true) (hn:b ≠ actor) (h2:¬ (kind=16∨L.room b.toNat ≠ room)) (hs:seesL L b actor=false) (hl:loud kind=false):percL L b kind room actor other=0:=by
 unfold percL; rw [if_neg (by simp [h1]),if_neg (fun h=>h2 h.2),if_pos ⟨hn,hs,hl⟩]
theorem perc_own (h1:abtL L b=true) (hn:b=actor):percL L b kind room actor other=1+(if amg other 6=true∧seesL L b other=false then 4 else 0):=by
 unfold percL; rw [if_neg (by simp [h1]),if_neg (fun h=>h.1 hn),if_neg (fun h=>h.1 hn),if_neg (fun h=>h.1 hn)]
theorem perc_seen (h1:abtL L b=true) (hn:b ≠ actor) (h2:¬ (kind=16∨L.room b.toNat ≠ room)) (hs:seesL L b actor=true):percL L b kind room actor other=1+(if amg other 6=true∧seesL L b other=false then 4 else 0):=by
 unfold percL; rw [if_neg (by simp [h1]),if_neg (fun h=>h2 h.2),if_neg (fun h=>by rw [hs] at h; simp at h),if_neg (fun h=>by rw [hs] at h; simp at h)]
theorem perc_heard (h1:abtL L b=true) (hn:b ≠ actor) (h2:¬ (kind=16∨L.room b.toNat ≠ room)) (hs:seesL L b actor=false) (hl:loud kind=true):percL L b kind room actor other=3+(if amg other 6=true∧seesL L b other=false then 4 else 0):=by
 unfold percL; rw [if_neg (by simp [h1]),if_neg (fun h=>h2 h.2),if_neg (fun h=>by rw [hl] at h; simp at h),if_pos ⟨hn,hs⟩]
end
theorem perc_any (L:Ld) (b:Int) (E:Ev) (w:World) :
 Calls Tryz.prog 213 #[.agg L.cells,.int .i64 b,.agg E.cells] w fun e w'=>e=.returned (.int .i64 (percL L b E.kind E.room E.actor E.other))∧Below w.heap.size w w':=by
 have P0:=hide (pv_start L E w)
 cases ha:abtL L b with
 | false =>
  have HV:=hide (perc_gone (kind:=E.kind) (room:=E.room) (actor:=E.actor) (other:=E.other) ha)
  go_enter Tryz.func213,Tryz.ntmps213
  go_wp2_with (refine wl_land (.tmp 3) rfl rfl _ L rfl P0.out.cod ?_)
  refine (shere_any L b _).mono ?_
  rintro e w1 ⟨rfl,hb⟩
  have G1:=hide (P0.out.call hb)
  rw [ha]
  clear hb ha
  go_wp2
  go_ret
  exact ⟨ret_int HV.out.symm,G1.out.low⟩
 | true =>
  have pa:amg b 6=true:=by simp only [abtL,Bool.and_eq_true] at ha; exact ha.1
  obtain ⟨a0,a6⟩:=amg_pos pa
  obtain ⟨b,rfl⟩:=Int.eq_ofNat_of_zero_le a0
  have HA:=hide ha
  clear ha pa
  by_cases hn:(b:Int)=E.actor
  ·have HT:=hide (perc_own (kind:=E.kind) (room:=E.room) (other:=E.other) HA.out hn)
   have e1:((b:Int) != E.actor)=false:=by simp [hn]
   clear hn
   go_enter Tryz.func213,Tryz.ntmps213
   go_wp2_with (refine wl_land (.tmp 3) rfl rfl _ L rfl P0.out.cod ?_)
   refine (shere_any L (b:Int) _).mono ?_
   rintro e w1 ⟨rfl,hb⟩
   have G1:=hide (P0.out.call hb)
   rw [HA.out]
   have k2:=G1.out.cev.actor
   clear hb
   have k3:=G1.out.cev.othr
   cases ho:amg E.other 6 with
   | false =>
    have HN:=hide (show percL L (b:Int) E.kind E.room E.actor E.other=1 by rw [HT.out]; simp [ho])
    go_wp2_with fail
    refine (sbeing_any E.other _).mono ?_
    rintro e w9 ⟨rfl,hw⟩
    rw [hw,ho]
    clear hw w9 ho
    go_wp2
    go_ret
    exact ⟨ret_int HN.out.symm,G1.out.low⟩
   | true =>
    go_wp2_with fail
    refine (sbeing_any E.other _).mono ?_
    rintro e w9 ⟨rfl,hw⟩
    rw [hw,ho]
    clear hw w9
    have HO:=hide ho
    clear ho
    go_wp2_with (refine wl_land (.tmp 3) rfl rfl _ L rfl G1.out.cod ?_)
    refine (sees_any L (b:Int) E.other _).mono ?_
    rintro e w8 ⟨rfl,hb⟩
    have G8:=hide (G1.out.call hb)
    clear hb k3
    cases hs:seesL L (b:Int) E.other with
    | true =>
     have HN:=hide (show percL L (b:Int) E.kind E.room E.actor E.other=1 by rw [HT.out]; simp [hs])
     go_wp2
     go_ret
     exact ⟨ret_int HN.out.symm,G8.out.low⟩
    | false =>
     have HN:=hide (show percL L (b:Int) E.kind E.room E.actor E.other=5 by rw [HT.out]; simp [hs,HO.out])
     have hor:=or14
     go_wp2
     go_ret
     exact ⟨ret_int HN.out.symm,G8.out.low⟩
  ·have e1:((b:Int) != E.actor)=true:=by simp [hn]
   have HNE:=hide hn
   clear hn
   by_cases h16:E.kind=16
   ·have HN:=hide (perc_told (other:=E.other) (room:=E.room) HA.out HNE.out (.inl h16))
    have e16:(E.kind==16)=true:=by simp [h16]
    clear h16
    go_enter Tryz.func213,Tryz.ntmps213
    go_wp2_with (refine wl_land (.tmp 3) rfl rfl _ L rfl P0.out.cod ?_)
    refine (shere_any L (b:Int) _).mono ?_
    rintro e w1 ⟨rfl,hb⟩
    have G1:=hide (P0.out.call hb)
    rw [HA.out]
    have k0:=G1.out.cev.kind
    have k2:=G1.out.cev.actor
    clear hb
    go_wp2_with fail
    go_region
    all_goals go_wp2
    all_goals go_ret
    all_goals exact ⟨ret_int HN.out.symm,G1.out.drew.low⟩
   ·have e16:(E.kind==16)=false:=by simp [h16]
    have H16:=hide h16
    clear h16
    by_cases hr:E.room=L.room b
    ·have er:(E.room != L.room b)=false:=by simp [hr]
     have H2:=hide (show ¬ (E.kind=16∨L.room (b:Int).toNat ≠ E.room) by
      rw [Int.toNat_natCast]; intro h; rcases h with h | h
      ·exact H16.out h
      ·exact h hr.symm)
     clear hr
     go_enter Tryz.func213,Tryz.ntmps213
     go_wp2_with (refine wl_land (.tmp 3) rfl rfl _ L rfl P0.out.cod ?_)
     refine (shere_any L (b:Int) _).mono ?_
     rintro e w1 ⟨rfl,hb⟩
     have G1:=hide (P0.out.call hb)
     rw [HA.out]
     have k0:=G1.out.cev.kind
     have k1:=G1.out.cev.room
     have k2:=G1.out.cev.actor
     have kr:w1.cell? ⟨w.heap.size,129+b*6+3,none⟩=some (.int .i64 (L.room b)):=G1.out.cod.being b 3 (by omega) (by omega)
     clear hb
     go_wp2_with fail
     go_region
     all_goals
      go_wp2_with (refine wl_land (.tmp 3) rfl rfl _ L rfl G1.out.drew.cod ?_)
      refine (sees_any L (b:Int) E.actor _).mono ?_
      rintro e w3 ⟨rfl,hb⟩
      have G3:=hide (G1.out.drew.call hb)
      clear hb k0 k1 k2 kr
      have k0:=G3.out.cev.kind
      cases hs:seesL L (b:Int) E.actor with
      | true =>
       have HT:=hide (perc_seen (other:=E.other) HA.out HNE.out H2.out hs)
       clear hs
       have k3:=G3.out.cev.othr
       cases ho:amg E.other 6 with
       | false =>
        have HN:=hide (show percL L (b:Int) E.kind E.room E.actor E.other=1 by rw [HT.out]; simp [ho])
        go_wp2_with fail
        refine (sbeing_any E.other _).mono ?_
        rintro e w9 ⟨rfl,hw⟩
        rw [hw,ho]
        clear hw w9 ho
        go_wp2
        go_ret
        exact ⟨ret_int HN.out.symm,G3.out.low⟩
       | true =>
        go_wp2_with fail
        refine (sbeing_any E.other _).mono ?_
        rintro e w9 ⟨rfl,hw⟩
        rw [hw,ho]
        clear hw w9
        have HO:=hide ho
        clear ho
        go_wp2_with (refine wl_land (.tmp 3) rfl rfl _ L rfl G3.out.cod ?_)
        refine (sees_any L (b:Int) E.other _).mono ?_
        rintro e w8 ⟨rfl,hb⟩
        have G8:=hide (G3.out.call hb)
        clear hb k3
        cases hs:seesL L (b:Int) E.other with
        | true =>
         have HN:=hide (show percL L (b:Int) E.kind E.room E.actor E.other=1 by rw [HT.out]; simp [hs])
         go_wp2
         go_ret
         exact ⟨ret_int HN.out.symm,G8.out.low⟩
        | false =>
         have HN:=hide (show percL L (b:Int) E.kind E.room E.actor E.other=5 by rw [HT.out]; simp [hs,HO.out])
         have hor:=or14
         go_wp2
         go_ret
         exact ⟨ret_int HN.out.symm,G8.out.low⟩
      | false =>
       have HS:=hide hs
       clear hs
       go_wp2_with fail
       refine (unseen_any E.kind _).mono ?_
       rintro e w4 ⟨rfl,hw⟩
       rw [hw]
       clear hw w4
       cases hl:loud E.kind with
       | false =>
        have HN:=hide (perc_quiet (other:=E.other) HA.out HNE.out H2.out HS.out hl)
        go_wp2
        go_ret
        exact ⟨ret_int HN.out.symm,G3.out.low⟩
       | true =>
        have HT:=hide (perc_heard (other:=E.other) HA.out HNE.out H2.out HS.out hl)
        have hor2:=or12
        clear hl
        have k3:=G3.out.cev.othr
        cases ho:amg E.other 6 with
        | false =>
         have HN:=hide (show percL L (b:Int) E.kind E.room E.actor E.other=3 by rw [HT.out]; simp [ho])
         go_wp2_with fail
         refine (sbeing_any E.other _).mono ?_
         rintro e w9 ⟨rfl,hw⟩
         rw [hw,ho]
         clear hw w9 ho
         go_wp2
         go_ret
         exact ⟨ret_int HN.out.symm,G3.out.low⟩
        | true =>
         go_wp2_with fail
         refine (sbeing_any E.other _).mono ?_
         rintro e w9 ⟨rfl,hw⟩
         rw [hw,ho]
         clear hw w9
         have HO:=hide ho
         clear ho
         go_wp2_with (refine wl_land (.tmp 3) rfl rfl _ L rfl G3.out.cod ?_)
         refine (sees_any L (b:Int) E.other _).mono ?_
         rintro e w8 ⟨rfl,hb⟩
         have G8:=hide (G3.out.call hb)
         clear hb k3
         cases hs:seesL L (b:Int) E.other with
         | true =>
          have HN:=hide (show percL L (b:Int) E.kind E.room E.actor E.other=3 by rw [HT.out]; simp [hs])
          go_wp2
          go_ret
          exact ⟨ret_int HN.out.symm,G8.out.low⟩
         | false =>
          have HN:=hide (show percL L (b:Int) E.kind E.room E.actor E.other=7 by rw [HT.out]; simp [hs,HO.out])
          have hor:=or34
          go_wp2
          go_ret
          exact ⟨ret_int HN.out.symm,G8.out.low⟩
    ·have er:(E.room != L.room b)=true:=by simp [hr]
     have HN:=hide (perc_told (other:=E.other) (kind:=E.kind) (room:=E.room) HA.out HNE.out (.inr (by rw [Int.toNat_natCast]; exact fun h=>hr h.symm)))
     clear hr
     go_enter Tryz.func213,Tryz.ntmps213
     go_wp2_with (refine wl_land (.tmp 3) rfl rfl _ L rfl P0.out.cod ?_)
     refine (shere_any L (b:Int) _).mono ?_
     rintro e w1 ⟨rfl,hb⟩
     have G1:=hide (P0.out.call hb)
     rw [HA.out]
     have k0:=G1.out.cev.kind
     have k1:=G1.out.cev.room
     have k2:=G1.out.cev.actor
     have kr:w1.cell? ⟨w.heap.size,129+b*6+3,none⟩=some (.int .i64 (L.room b)):=G1.out.cod.being b 3 (by omega) (by omega)
     clear hb
     go_wp2_with fail
     go_region
     all_goals go_wp2
     all_goals go_ret
     all_goals exact ⟨ret_int HN.out.symm,G1.out.drew.low⟩
open Go.RowKit
def allE (L:Ld) (E:Ev):Ev:={ E with by':=fun j=>percL L (j:Int) E.kind E.room E.actor E.other }
def allK (L:Ld) (E:Ev) (k:Nat):Ev:={ E with by':=fun j=>if j < k then percL L (j:Int) E.kind E.room E.actor E.other else E.by' j }
theorem allK_zero (L:Ld) (E:Ev):(allK L E 0).cells=E.cells:=Ev.ext_by _ (fun j _=>by simp [allK]) rfl rfl rfl rfl rfl rfl rfl rfl rfl rfl
theorem allK_all (L:Ld) (E:Ev):(allK L E 6).cells=(allE L E).cells:=Ev.ext_by _ (fun j hj=>by simp [allK,allE,hj]) rfl rfl rfl rfl rfl rfl rfl rfl rfl rfl
theorem allK_next (L:Ld) (E:Ev) (k:Nat):((allK L E k).setBy k (percL L (k:Int) E.kind E.room E.actor E.other)).cells=(allK L E (k+1)).cells :=
 Ev.ext_by _ (fun j hj=>by
  simp only [allK,Ev.setBy]
  by_cases e:j=k
  ·subst e; simp
  ·rw [if_neg e]
   by_cases h:j < k
   ·rw [if_pos h,if_pos (by omega)]
   ·rw [if_neg h,if_neg (by omega)]) rfl rfl rfl rfl rfl rfl rfl rfl rfl rfl
theorem Cev.frozen {w:World} {b:Nat} {E:Ev} (h:Cev w b E) (o:Nat):w.frozen? ⟨b,o,none⟩=false:=by
 unfold Cev at h
 simp only [World.frozen?,h]
 simp
theorem Cev.same {w:World} {b:Nat} {E F:Ev} (h:Cev w b E) (e:E.cells=F.cells):Cev w b F:=by
 unfold Cev at h ⊢; rw [← e]; exact h
structure AvRel (L:Ld) (E:Ev) (k:Nat) (w wr:World):Prop where
 pv:PvRel L (allK L E k) w wr
 res:∃ z:Array Value,z.size=16∧wr.heap[w.heap.size+2]?=some (.cells z 71 (0,0))
theorem AvRel.call {L:Ld} {E:Ev} {k:Nat} {w wr w1:World} (h:AvRel L E k w wr) (hb:Below wr.heap.size wr w1):AvRel L E k w w1:=by
 refine ⟨h.pv.call hb,?_⟩
 obtain ⟨z,hz,hr⟩:=h.res
 exact ⟨z,hz,by rw [hb.block _ (Array.getElem?_eq_some_iff.1 hr).1]; exact hr⟩
theorem AvRel.put {L:Ld} {E:Ev} {k:Nat} {w wr:World} (h:AvRel L E k w wr) (hk:k < 6) :
 AvRel L E (k+1) w (wr.setCell ⟨w.heap.size+1,10+k,none⟩ (.int .i64 (percL L (k:Int) E.kind E.room E.actor E.other))):=by
 refine ⟨⟨h.pv.cod.set (by omega) _ _,(h.pv.cev.put k hk _).same (allK_next L E k),h.pv.low.setCell (by simp) _⟩,?_⟩
 obtain ⟨z,hz,hr⟩:=h.res
 exact ⟨z,hz,by rw [Below.heap_setCell _ _ _ _ (by simp)]; exact hr⟩
theorem av_start (L:Ld) (E:Ev) (w:World) (z:Array Value) (hz:z.size=16):AvRel L E 0 w (((w.alloc (.cells L.cells 43)).alloc (.cells E.cells 71)).alloc (.cells z 71)):=by
 have h:=(pv_start L E w).box (.cells z 71)
 refine ⟨⟨h.cod,h.cev.same (allK_zero L E).symm,h.low⟩,z,hz,?_⟩
 have:=heap_alloc_new ((w.alloc (.cells L.cells 43)).alloc (.cells E.cells 71)) (.cells z 71)
 rw [World.size_alloc,World.size_alloc] at this; exact this
theorem all_any (L:Ld) (E:Ev) (w:World) :
 Calls Tryz.prog 183 #[.agg L.cells,.agg E.cells] w fun e w'=>e=.returned (.agg (allE L E).cells)∧Below w.heap.size w w':=by
 go_enter Tryz.func183,Tryz.ntmps183
 go_wp2
 go_loopw [6] (fun c wr=>∃ k:Nat,k≤6∧c=.int .i64 k∧AvRel L E k w wr) (fun c _=>6 - (intOf c).toNat)
 case atStart=>exact ⟨0,by omega,rfl,av_start L E w _ rfl⟩
 case round =>
  obtain ⟨k,hle,rfl,R⟩:=hrel
  have HR:=hide R
  clear R
  by_cases hk:k < 6
  ·have C:=hide (fun W=>perc_any L (k:Int) (allK L E k) W)
   go_wp2_with (first | (refine wl_land (.tmp 2) rfl rfl _ L rfl HR.out.pv.cod ?_) | (refine wl_event (.tmp 3) rfl rfl _ (allK L E k) rfl HR.out.pv.cev ?_))
   refine (C.out _).mono ?_
   rintro e w1 ⟨rfl,hb⟩
   have R1:=hide (HR.out.call hb)
   have hc:=R1.out.pv.cev.by' k hk
   have hf:=R1.out.pv.cev.frozen (10+k)
   clear hb C
   have N:=hide (R1.out.put hk)
   have hp:Hid (percL L (k:Int) (allK L E k).kind (allK L E k).room (allK L E k).actor (allK L E k).other=percL L (k:Int) E.kind E.room E.actor E.other):=rfl
   rw [hp.out]
   go_wp2
   go_roundw
   case rel=>exact ⟨k+1,by omega,by go_num,N.out⟩
   case measure=>simp [intOf]; omega
  ·have hk6:k=6:=by omega
   subst hk6
   have HC:=hide (HR.out.pv.cev.same (allK_all L E))
   obtain ⟨z,hz,hr⟩:=HR.out.res
   have HZ:=hide hr
   have HS:=hide hz
   clear hz hr
   go_wp2_with (first | (refine wl_event (.tmp 3) rfl rfl _ (allE L E) rfl HC.out ?_) | (refine wl_row 71 (.tmp 4) (.tmp 17) rfl rfl (w.heap.size+2) (allE L E).cells rfl rfl 71 z HZ.out ?s1 ?s2 (Ev.one _) ?_))
   case s1=>rw [Ev.size]; exact Tryz.sizeEvent
   case s2=>rw [Ev.size]; exact HS.out
   refine bodyPost_ret (v:=.agg (allE L E).cells) (results_cell_row rfl _ _ (w.heap.size+2) 71 (allE L E).cells (0,0) _ rfl (setRow_heap wr (w.heap.size+2) _ _ _ _ HZ.out) Tryz.underlying71 rfl (by rw [Ev.size]; exact Tryz.sizeEvent)) rfl ⟨rfl,below_setRow HR.out.pv.low (by omega) _⟩
open Go.RowKit
def evc (Es:List Ev):List Value:=Es.flatMap fun E=>E.cells.toList
theorem evc_len (Es:List Ev):(evc Es).length=Es.length*16:=by
 induction Es with
 | nil=>rfl
 | cons E Es ih =>
  simp only [evc,List.flatMap_cons,List.length_append,List.length_cons] at ih ⊢
  rw [ih,Array.length_toList,Ev.size]; omega
theorem evc_snoc (Es:List Ev) (E:Ev):evc (Es++[E])=evc Es++E.cells.toList:=by simp [evc]
def Ld.more (L:Ld) (pre:List Value) (v:Value):Array Value:=L.cells++(pre++[v]).toArray
section
variable (L:Ld) (pre:List Value) (v:Value)
theorem more_size:(L.more pre v).size=166+pre.length:=by simp [Ld.more,L.size]; omega
theorem more_get (n:Nat) (hn:n < 165):(L.more pre v)[n]?=some (L.cellAt n):=by
 unfold Ld.more
 rw [Array.getElem?_append_left (by rw [L.size]; exact hn),L.get n hn]
theorem more_pre (j:Nat) (hj:j < pre.length):(L.more pre v)[165+j]?=pre[j]?:=by
 unfold Ld.more
 rw [Array.getElem?_append_right (by rw [L.size]; omega),L.size,Nat.add_sub_cancel_left,List.getElem?_toArray,List.getElem?_append_left hj]
theorem more_row:(L.more pre v)[165+pre.length]?=some v:=by
 unfold Ld.more
 rw [Array.getElem?_append_right (by rw [L.size]; omega),L.size]
 simp
theorem more_set {n:Nat} {x:Value} {L':Ld} (hn:n < 165) (h:∀ m,m < 165→L'.cellAt m=if m=n then x else L.cellAt m):(L.more pre v).setIfInBounds n x=L'.more pre v:=by
 apply Array.ext_getElem?
 intro m
 rw [Array.getElem?_setIfInBounds]
 by_cases hm:m < 165
 ·rw [more_get L' pre v m hm,h m hm]
  by_cases e:n=m
  ·subst e; rw [if_pos rfl,if_pos (by rw [more_size]; omega),if_pos rfl]
  ·rw [if_neg e,if_neg (fun h=>e h.symm),more_get L pre v m hm]
 ·rw [if_neg (by omega)]
  unfold Ld.more
  rw [Array.getElem?_append_right (by rw [L.size]; omega),Array.getElem?_append_right (by rw [L'.size]; omega),L.size,L'.size]
theorem more_put (u:Value):(L.more pre v).setIfInBounds (165+pre.length) u=L.more pre u:=by
 apply Array.ext_getElem?
 intro m
 rw [Array.getElem?_setIfInBounds]
 by_cases e:165+pre.length=m
 ·subst e; rw [if_pos rfl,if_pos (by rw [more_size]; omega),more_row]
 ·rw [if_neg e]
  unfold Ld.more
  by_cases hm:m < 165
  ·rw [Array.getElem?_append_left (by rw [L.size]; exact hm),Array.getElem?_append_left (by rw [L.size]; exact hm)]
  ·rw [Array.getElem?_append_right (by rw [L.size]; omega),Array.getElem?_append_right (by rw [L.size]; omega),L.size]
   simp only [List.getElem?_toArray]
   by_cases hp:m - 165 < pre.length
   ·rw [List.getElem?_append_left hp,List.getElem?_append_left hp]
   ·rw [List.getElem?_eq_none (by simp; omega),List.getElem?_eq_none (by simp; omega)]
end
def rowB (w:World) (g o:Nat):Option Nat:=match w.cell? ⟨g,o,none⟩ with
 | some v=>v.ownBlock
 | none=>none
structure Stp (g o:Nat) (w w':World):Prop where
 os:w'.os=w.os
 tape:w'.tape=w.tape
 output:w'.output=w.output
 size:w.heap.size≤w'.heap.size
 block:∀ k,k < w.heap.size→k ≠ g→rowB w g o ≠ some k→w'.heap[k]?=w.heap[k]?
 row:rowB w' g o=rowB w g o∨∃ k,rowB w' g o=some k∧w.heap.size≤k
structure Kept (g o:Nat) (w:World) (k:Nat):Prop where
 lt:k < w.heap.size
 ne:k ≠ g
 off:rowB w g o ≠ some k
section
variable {g o:Nat} {w w' w'':World}
theorem Stp.kept (h:Stp g o w w') {k:Nat} (hk:Kept g o w k):Kept g o w' k∧w'.heap[k]?=w.heap[k]?:=by
 refine ⟨⟨Nat.lt_of_lt_of_le hk.lt h.size,hk.ne,?_⟩,h.block k hk.lt hk.ne hk.off⟩
 rcases h.row with e | ⟨j,e,hj⟩
 ·rw [e]; exact hk.off
 ·rw [e]; intro e2; injection e2 with e2; have:=hk.lt; omega
theorem Stp.trans (h:Stp g o w w') (k:Stp g o w' w''):Stp g o w w'':=by
 refine ⟨k.os.trans h.os,k.tape.trans h.tape,k.output.trans h.output,Nat.le_trans h.size k.size,fun i hi hg hr=>?_,?_⟩
 ·have:=h.kept ⟨hi,hg,hr⟩
  rw [k.block i this.1.lt hg this.1.off,this.2]
 ·rcases k.row with e | ⟨j,e,hj⟩
  ·rw [e]; exact h.row
  ·exact .inr ⟨j,e,Nat.le_trans h.size hj⟩
theorem rowB_same (h:w'.heap[g]?=w.heap[g]?):rowB w' g o=rowB w g o:=by simp only [rowB,World.cell?,h]
theorem Stp.below (hb:Below w.heap.size w w') (hg:g < w.heap.size):Stp g o w w' :=
 ⟨hb.os,hb.tape,hb.output,hb.size,fun k hk _ _=>hb.block k hk,.inl (rowB_same (hb.block g hg))⟩
end
structure Sn (T:TypeId) (pre:List Value) (w0:World) (L:Ld) (Es:List Ev) (w:World):Prop where
 ex:∃ v,w.heap[w0.heap.size]?=some (.cells (L.more pre v) T (0,0))∧w.ownsRow (w0.heap.size+1) 71 16 v Es.length (evc Es)
 low:Below w0.heap.size w0 w
section
variable {T:TypeId} {pre:List Value} {w0 w w':World} {L L':Ld} {Es:List Ev}
theorem Sn.lt (h:Sn T pre w0 L Es w):w0.heap.size < w.heap.size:=by
 obtain ⟨v,hv,_⟩:=h.ex
 exact (Array.getElem?_eq_some_iff.1 hv).1
theorem Sn.cell (h:Sn T pre w0 L Es w) (n:Nat) (hn:n < 165):w.cell? ⟨w0.heap.size,n,none⟩=some (L.cellAt n):=by
 obtain ⟨v,hv,_⟩:=h.ex
 rw [cell_of_row w _ n _ _ _ hv,more_get L pre v n hn]
theorem Sn.soft (h:Sn T pre w0 L Es w) (n:Nat):w.frozen? ⟨w0.heap.size,n,none⟩=false:=by
 obtain ⟨v,hv,_⟩:=h.ex
 simp only [World.frozen?,hv]; simp
theorem Sn.thing (h:Sn T pre w0 L Es w) (i j:Nat) (hi:i < 9) (hj:j < 5):w.cell? ⟨w0.heap.size,84+i*5+j,none⟩=some (L.thingCell i j):=by
 rw [h.cell _ (by omega),L.at_thing i j hi hj]
theorem Sn.being (h:Sn T pre w0 L Es w) (i j:Nat) (hi:i < 6) (hj:j < 6):w.cell? ⟨w0.heap.size,129+i*6+j,none⟩=some (L.beingCell i j):=by
 rw [h.cell _ (by omega),L.at_being i j hi hj]
theorem Sn.room (h:Sn T pre w0 L Es w) (r j:Nat) (hr:r < 6) (hj:j < 14):w.cell? ⟨w0.heap.size,r*14+j,none⟩=some (L.roomCell r j):=by
 rw [h.cell _ (by omega),L.at_room r j hr hj]
theorem own_below {base n:Nat} {v:Value} {xs:List Value} (h:w.ownsRow base 71 16 v n xs) (hb:Below w.heap.size w w'):w'.ownsRow base 71 16 v n xs:=by
 refine ⟨h.1,?_⟩
 rcases h.2 with hn | ⟨g,cap,cur,rfl,h1,h2,h3⟩
 ·exact .inl hn
 ·exact .inr ⟨g,cap,cur,rfl,h1,by rw [hb.block _ (Array.getElem?_eq_some_iff.1 h2).1]; exact h2,h3⟩
theorem Sn.below (h:Sn T pre w0 L Es w) (hb:Below w.heap.size w w'):Sn T pre w0 L Es w':=by
 obtain ⟨v,hv,ho⟩:=h.ex
 exact ⟨⟨v,by rw [hb.block _ h.lt]; exact hv,own_below ho hb⟩,h.low.trans (hb.mono h.low.size)⟩
theorem Sn.alloc (h:Sn T pre w0 L Es w) (o:Obj):Sn T pre w0 L Es (w.alloc o):=h.below ((Below.refl _ _).alloc (Nat.le_refl _) _)
theorem Sn.drew (h:Sn T pre w0 L Es w):Sn T pre w0 L Es w.drew:=h.below ⟨rfl,rfl,rfl,Nat.le_refl _,fun _ _=>rfl⟩
theorem Sn.drewN (h:Sn T pre w0 L Es w) (n:Nat):Sn T pre w0 L Es (w.drewN n):=h.below ⟨rfl,rfl,rfl,Nat.le_refl _,fun _ _=>rfl⟩
theorem Sn.stp (h:Sn T pre w0 L Es w) (hb:Below w.heap.size w w') (o:Nat):Stp w0.heap.size o w w':=Stp.below hb h.lt
theorem Sn.rowLt (h:Sn T pre w0 L Es w) {k:Nat} (hk:rowB w w0.heap.size (165+pre.length)=some k):w0.heap.size < k∧k < w.heap.size:=by
 obtain ⟨v,hv,ho⟩:=h.ex
 have hc:w.cell? ⟨w0.heap.size,165+pre.length,none⟩=some v:=by rw [cell_of_row w _ _ _ _ _ hv,more_row]
 simp only [rowB,hc] at hk
 have:=ho.lt k hk
 omega
theorem Sn.kept (h:Sn T pre w0 L Es w) (hb:Below w.heap.size w w') {k:Nat} (hk:w.heap.size≤k) (hk':k < w'.heap.size):Kept w0.heap.size (165+pre.length) w' k:=by
 have h':=h.below hb
 refine ⟨hk',by have:=h.lt; omega,fun e=>?_⟩
 have e2:rowB w' w0.heap.size (165+pre.length)=rowB w w0.heap.size (165+pre.length):=rowB_same (hb.block _ h.lt)
 rw [e2] at e
 have:=h.rowLt e
 omega
theorem Sn.set (h:Sn T pre w0 L Es w) {n:Nat} {x:Value} (hn:n < 165) (hL:∀ m,m < 165→L'.cellAt m=if m=n then x else L.cellAt m):Sn T pre w0 L' Es (w.setCell ⟨w0.heap.size,n,none⟩ x):=by
 obtain ⟨v,hv,ho⟩:=h.ex
 refine ⟨⟨v,?_,ownsRow_setCell_below ho (by simp) x⟩,h.low.setCell (by simp) _⟩
 rw [setCell_eq_setRow w _ n _ _ _ _ hv,setRow_heap w _ _ _ _ _ hv,more_set L pre v hn hL]
theorem Stp.put {g o n:Nat} {x:Value} (hn:n ≠ o):Stp g o w (w.setCell ⟨g,n,none⟩ x):=by
 refine ⟨rfl,rfl,rfl,by simp [World.setCell],fun k _ hk _=>Below.heap_setCell _ _ _ _ (by simpa using hk),.inl ?_⟩
 simp only [rowB]
 rw [World.cell?_setCell_other _ _ _ _ (by intro e; injection e with e1 e2; exact hn e2)]
theorem Sn.step (h:Sn T pre w0 L Es w) {n:Nat} (hn:n < 165) (x:Value):Stp w0.heap.size (165+pre.length) w (w.setCell ⟨w0.heap.size,n,none⟩ x):=Stp.put (by omega)
theorem Sn.append (h:Sn T pre w0 L Es w) {v u:Value} {E:Ev} (hv:w.heap[w0.heap.size]?=some (.cells (L.more pre v) T (0,0))) (ho:w'.ownsRow (w0.heap.size+1) 71 16 u (Es.length+1) (evc Es++E.cells.toList))
 (hrow:w.ownsRow (w0.heap.size+1) 71 16 v Es.length (evc Es)) (hg:w.grownBy w' v.ownBlock) (hu:u.ownBlock=v.ownBlock∨u.ownBlock=some w.heap.size) :
 Sn T pre w0 L (Es++[E]) (w'.setCell ⟨w0.heap.size,165+pre.length,none⟩ u)∧Stp w0.heap.size (165+pre.length) w (w'.setCell ⟨w0.heap.size,165+pre.length,none⟩ u):=by
 have hlt:=h.lt
 have hb:Below (w0.heap.size+1) w w':=(Below.refl _ _:Below (w0.heap.size+1) w w).grown hg (by omega) (fun k hk=>(hrow.lt k (by simpa using hk)).1)
 have hv':w'.heap[w0.heap.size]?=some (.cells (L.more pre v) T (0,0)):=by rw [hb.block _ (by omega)]; exact hv
 have hN:(w'.setCell ⟨w0.heap.size,165+pre.length,none⟩ u).heap[w0.heap.size]?=some (.cells (L.more pre u) T (0,0)):=by
  rw [setCell_eq_setRow w' _ _ _ _ _ _ hv',setRow_heap w' _ _ _ _ _ hv',more_put]
 have hc:(w'.setCell ⟨w0.heap.size,165+pre.length,none⟩ u).cell? ⟨w0.heap.size,165+pre.length,none⟩=some u:=by rw [cell_of_row _ _ _ _ _ _ hN,more_row]
 have hc0:w.cell? ⟨w0.heap.size,165+pre.length,none⟩=some v:=by rw [cell_of_row _ _ _ _ _ _ hv,more_row]
 refine ⟨⟨⟨u,hN,?_⟩,(h.low.trans (hb.mono (by omega))).setCell (by simp) _⟩,?_⟩
 ·have e1:(Es++[E]).length=Es.length+1:=by simp
  rw [e1,evc_snoc]
  exact ownsRow_setCell_below ho (by simp) u
 ·refine ⟨hb.os,hb.tape,hb.output,by simp [World.setCell]; exact hb.size,fun k hk hne hr=>?_,?_⟩
  ·rw [Below.heap_setCell _ _ _ _ (by simpa using hne)]
   refine hg.block k hk ?_
   simp only [rowB,hc0] at hr
   exact fun e=>hr e.symm
  ·simp only [rowB,hc,hc0]
   rcases hu with e | e
   ·exact .inl e
   ·exact .inr ⟨_,e,Nat.le_refl _⟩
theorem Kept.cev {g o k:Nat} {E:Ev} (h:Kept g o w k) (hs:Stp g o w w') (hc:Cev w k E):Cev w' k E:=by
 unfold Cev at hc ⊢; rw [(hs.kept h).2]; exact hc
theorem Sn.land (h:Sn T pre w0 L Es w):w.rangeAt w0.heap.size 0 L.cells.toList:=by
 intro j v hv
 have hj:j < 165:=by
  have:=(List.getElem?_eq_some_iff.1 hv).1; rw [Array.length_toList,L.size] at this; exact this
 rw [Nat.zero_add,h.cell j hj,← hv,Array.getElem?_toList,L.get j hj]
end
theorem wl_scene {ops:Array Oper} {rest:List Oper} {op:Oper} {a:Act} {w:World} {Q:Exit→Act→World→Prop} (x:Operand) (ho:op.op=.load 43 x) (hw:Region.wanted op (yielded ops a.tmps)=true) {T:TypeId} {pre:List Value} {w0:World} {L:Ld} {Es:List Ev}
 (hx:a.eval x=.pointer (some ⟨w0.heap.size,0,none⟩)) (hc:Sn T pre w0 L Es w) (h:wpList Tryz.prog ops Q rest (a.put op.dst (.agg L.cells)) w):wpList Tryz.prog ops Q (op::rest) a w :=
 wl_mid 43 x ho hw w0.heap.size 0 L.cells.toList _ hx hc.land Tryz.underlying43 rfl (by rw [Array.length_toList,L.size]; exact Tryz.sizeLand) (by rw [Array.toArray_toList]; exact h)
end Go.Proofs.YtncgcejlkmoliaaGreatDoor
