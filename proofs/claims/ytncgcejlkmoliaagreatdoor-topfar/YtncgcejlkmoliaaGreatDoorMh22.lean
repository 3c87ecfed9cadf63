import Derived.Test.YtncgcejlkmoliaaGreatDoorMh21
set_option linter.unusedVariables false
set_option maxRecDepth 100000
set_option maxHeartbeats 16000000
namespace Go.Proofs.YtncgcejlkmoliaaGreatDoor.Pa
open Go.RowKit
theorem sent_wait (P:Pg) (s:ByteArray):(sentP P s).wait=P.wait:=by unfold sentP; split <;> rfl
theorem sent_shown (P:Pg) (s:ByteArray):(sentP P s).shown=P.shown:=by unfold sentP; split <;> rfl
theorem sent_asking (P:Pg) (s:ByteArray):(sentP P s).asking=P.asking:=by unfold sentP; split <;> rfl
theorem sent_ring (P:Pg) (s:ByteArray) (h:P.ring.size≤700):(sentP P s).ring.size≤700:=by
 unfold sentP; split
 ·exact h
 ·simp only [ByteArray.size_append]; omega
theorem shown_reads (P:Pg) (f:ByteArray) (r:List ByteArray) (v:Value) (w:World) (hP:P.wait=f::r) (hv:Reads w v P.wait) (hs:P.ring.size≤140737488355328) (h0:0≤P.shown) (h2:P.shown≤200) (hf:f.size≤1048576) :
 Calls Tryz.prog 147 #[.agg (P.cells v)] w fun e w'=>∃ v',e=.returned (.agg ((shownP P f r).cells v'))∧Reads w' v' r∧(∀ B,Far B v→Far B v')∧Below w.heap.size w w':=by
 rw [hP] at hv
 obtain ⟨g,off,cap,rfl,hc0,hlc⟩:=reads_head hv
 by_cases h1:cap=1
 ·subst h1
  obtain rfl:r=[]:=List.eq_nil_of_length_eq_zero (by omega)
  refine (shown_one P f g off w hc0 hs h0 h2 hf).mono ?_
  rintro e w' ⟨rfl,hb⟩
  have ht:=(reads_tail hv).below hb (Nat.le_refl _)
  rw [if_pos rfl] at ht
  refine ⟨_,rfl,ht,fun B hB b o n c e=>?_,hb⟩
  injection e with e1
  injection e1 with e1
  injection e1 with e1
  exact hB b off _ _ (by rw [e1])
 ·refine (shown_more P f r g off cap w hc0 hlc h1 hs h0 h2 hf).mono ?_
  rintro e w' ⟨rfl,hb⟩
  have ht:=(reads_tail hv).below hb (Nat.le_refl _)
  rw [if_neg h1] at ht
  refine ⟨_,rfl,ht,fun B hB b o n c e=>?_,hb⟩
  injection e with e1
  injection e1 with e1
  injection e1 with e1
  exact hB b off _ _ (by rw [e1])
def flowL (h:Int):List ByteArray→Pg→Pg
 | [],P=>P
 | f::r,P=>if P.asking=true∨P.cut=true then P else if h ≠ 0∧h≤P.shown then askedP P else flowL h r (shownP P f r)
def flowP (h:Int) (P:Pg):Pg:=flowL h P.wait P
theorem flow_nil {h:Int} {P:Pg} (hw:P.wait=[]):flowP h P=P:=by simp [flowP,hw,flowL]
theorem flow_stop {h:Int} {P:Pg} (hs:P.asking=true∨P.cut=true):flowP h P=P:=by
 unfold flowP
 cases P.wait with
 | nil=>rfl
 | cons f r=>simp [flowL,hs]
theorem flow_ask {h:Int} {P:Pg} {f:ByteArray} {r:List ByteArray} (hw:P.wait=f::r) (ha:P.asking=false) (hc:P.cut=false) (hh:h ≠ 0∧h≤P.shown):flowP h P=flowP h (askedP P):=by
 rw [flow_stop (P:=askedP P) (.inl (by unfold askedP; rw [sent_asking]))]
 simp [flowP,hw,flowL,ha,hc,hh]
theorem flow_show {h:Int} {P:Pg} {f:ByteArray} {r:List ByteArray} (hw:P.wait=f::r) (ha:P.asking=false) (hc:P.cut=false) (hh:¬ (h ≠ 0∧h≤P.shown)):flowP h P=flowP h (shownP P f r):=by
 have:(shownP P f r).wait=r:=by unfold shownP; rw [sent_wait]
 unfold flowP
 rw [hw,this]
 simp only [flowL,ha,hc]
 rw [if_neg (by simp),if_neg hh]
structure Ok (P:Pg):Prop where
 ring:P.ring.size≤700
 lo:0≤P.shown
 hi:P.shown≤200
 len:P.wait.length≤60
 all:∀ s ∈ P.wait,s.size≤1048576
theorem ok_asked {P:Pg} (h:Ok P):Ok (askedP P):=by
 unfold askedP
 exact ⟨sent_ring _ _ h.ring,by rw [sent_shown]; exact h.lo,by rw [sent_shown]; exact h.hi,by rw [sent_wait]; exact h.len,by rw [sent_wait]; exact h.all⟩
theorem ok_shown {P:Pg} {f:ByteArray} {r:List ByteArray} (h:Ok P) (hw:P.wait=f::r):Ok (shownP P f r):=by
 have h1:=h.lo
 have h2:=h.len
 rw [hw] at h2
 simp only [List.length_cons] at h2
 unfold shownP
 refine ⟨sent_ring _ _ h.ring,?_,?_,?_,?_⟩
 ·rw [sent_shown]; show 0≤min (P.shown+1) 200; omega
 ·rw [sent_shown]; show min (P.shown+1) 200≤200; omega
 ·rw [sent_wait]; show r.length≤60; omega
 ·rw [sent_wait]; intro s hs; exact h.all s (by rw [hw]; exact List.mem_cons_of_mem _ hs)
def left (b:Nat) (w:World):Nat:=(match w.cell? ⟨b,0,none⟩ with | some (.slice _ n _)=>2*n | _=>0)+(match w.cell? ⟨b,2,none⟩ with | some (.bool false)=>1 | _=>0)
theorem left_cod {w:World} {b:Nat} {P:Pg} {v:Value} (h:PCod w b P v) (hr:Reads w v P.wait):left b w=2*P.wait.length+(if P.asking=true then 0 else 1):=by
 obtain ⟨c0,_,c2,_⟩:=h.all
 obtain ⟨av,cap,rfl⟩:=hr.shape
 unfold left
 rw [c0,c2]
 cases P.asking <;> rfl
def flowG (P:Pg) (h:Int):Bool:=goodP P&&gheight h
def flowR (P:Pg) (h:Int):Pg:=if flowG P h=true then flowP h P else P
def flowE (P:Pg) (h:Int):Int:=if flowG P h=true then 0 else 2
theorem two_lay {w w2:World} {P P':Pg} {v v2:Value} (h:Two w P v w2) (hq:Reads w2 v2 P'.wait) (hf:Far (w.heap.size+2) v2) :
 Inv w w.heap.size P' v2 (((((w2.setCell ⟨w.heap.size,0,none⟩ v2).setCell ⟨w.heap.size,1,none⟩ (.int .i64 P'.shown)).setCell ⟨w.heap.size,2,none⟩ (.bool P'.asking)).setCell ⟨w.heap.size,3,none⟩ (.string P'.ring)).setCell ⟨w.heap.size,4,none⟩ (.bool P'.cut)) :=
 ⟨Nat.le_refl _,below_five h.below (Nat.le_refl _),pcod_five h.cod,pcod_five_ne h.other (by omega),reads_five hq (off_far hf (by omega)),hf⟩
theorem flow_any (P:Pg) (h:Int) (v:Value) (w:World) (hv:Reads w v P.wait) (hs:Small P) (hall:goodP P=true→∀ s ∈ P.wait,s.size≤1048576) :
 Calls Tryz.prog 131 #[.agg (P.cells v),.int .i64 h] w fun e w'=>∃ v',e=.returned (.tuple #[.agg ((flowR P h).cells v'),.int .i64 (flowE P h)])∧Reads w' v' (flowR P h).wait∧Far (w.heap.size+2) v'∧Below w.heap.size w w':=by
 have C0:=hide (fun w' h=>pgood_any P v w' h hs)
 have CH:=hide (gh_any h)
 have C1:=hide (fun w' h=>own_any P v w' h hs)
 have hv1:=hide hv
 obtain ⟨av,cap,rfl⟩:=hv.shape
 have HR:Hid (flowR P h=if flowG P h=true then flowP h P else P):=hide rfl
 have HE:Hid (flowE P h=if flowG P h=true then 0 else 2):=hide rfl
 have HO:Hid (flowG P h=true→Ok P):=hide (fun hg=>by
  simp only [flowG,Bool.and_eq_true] at hg
  have:=good_len hg.1
  exact ⟨this.2.1,this.2.2.1,this.2.2.2,this.1,hall hg.1⟩)
 have hT0:=hide (two_new (w:=w) (P:=P) (v:=.slice av P.wait.length cap))
 clear hv hs hall
 generalize flowR P h=R at HR ⊢
 generalize flowE P h=E at HE ⊢
 unfold Pg.cells at C0 C1 ⊢
 go_enter Tryz.func131,Tryz.ntmps131
 go_upto_region 1 with fail
 go_cut [6] (fun g wc=>g=.bool (flowG P h)∧Two w P (.slice av P.wait.length cap) wc∧Reads wc (.slice av P.wait.length cap) P.wait)
 case first =>
  cases hg:goodP P
  ·have HG:=hide (by simp [flowG,hg]:flowG P h=false)
   replace hg:=hide hg
   go_wp2_with fail
   refine (C0.out _ ((hv1.out.alloc _).alloc _)).mono ?_
   rintro e w1 ⟨rfl,hb1⟩
   have hT1:=hide (hT0.out.behind hb1 (Nat.le_refl _))
   have hv2:=hide (((hv1.out.alloc _).alloc _).below hb1 (Nat.le_refl _))
   rw [hg.out]
   clear hb1
   go_wp2_with fail
   go_meet
   exact ⟨by rw [HG.out],hT1.out,hv2.out⟩
  ·have HG:=hide (by simp [flowG,hg]:flowG P h=gheight h)
   replace hg:=hide hg
   go_wp2_with fail
   refine (C0.out _ ((hv1.out.alloc _).alloc _)).mono ?_
   rintro e w1 ⟨rfl,hb1⟩
   have hT1:=hide (hT0.out.behind hb1 (Nat.le_refl _))
   have hv2:=hide (((hv1.out.alloc _).alloc _).below hb1 (Nat.le_refl _))
   rw [hg.out]
   clear hb1
   go_wp2_with fail
   refine (CH.out _).mono ?_
   rintro e w2 ⟨rfl,hw2⟩
   rw [hw2]
   clear hw2
   go_wp2_with fail
   go_meet
   exact ⟨by rw [HG.out],hT1.out,hv2.out⟩
 case rest =>
  obtain ⟨rfl,hT1,hv2⟩:=hcut
  obtain ⟨c0,c1,c2,c3,c4,hfz⟩:=hT1.cod.all
  replace hT1:=hide hT1
  replace hv2:=hide hv2
  clear hT0
  go_upto_region 2 with fail
  go_cut [] (fun wd=>∃ v2,Inv w w.heap.size P v2 wd)
  case first =>
   go_wp2_with fail
   refine (C1.out _ hv2.out).mono ?_
   rintro e w2 ⟨v2,rfl,ho,hf,hb2⟩
   have hT2:=hT1.out.behind hb2 (Nat.le_refl _)
   have hrm:=hT1.out.room
   have hi:=hide (two_lay (P':=P) hT2 ho (hf.mono (by omega)))
   obtain ⟨av2,cap2,rfl⟩:=ho.shape
   clear c0 c1 c2 c3 c4 hfz
   obtain ⟨c0,c1,c2,c3,c4,hfz⟩:=hT2.cod.all
   have hz2:=hT2.room
   clear hT2 hb2 ho hf
   go_wp2_with fail
   go_meet
   exact ⟨_,hi.out⟩
  case rest =>
   obtain ⟨v2,hi⟩:=hcut
   clear c0 c1 c2 c3 c4 hfz hT1 hv2 C0 C1 CH hv1
   cases hG:flowG P h
   ·have HR2:=hide (HR.out.trans (by rw [hG]; rfl):R=P)
    have HE2:=hide (HE.out.trans (by rw [hG]; rfl):E=2)
    obtain ⟨av2,cap2,rfl⟩:=hi.reads.shape
    obtain ⟨c0,c1,c2,c3,c4,hfz⟩:=hi.cod.all
    obtain ⟨d0,d1,d2,d3,d4,hfd⟩:=hi.other.all
    have hz2:=hi.room
    replace hi:=hide hi
    clear HO HR HE hG
    go_wp2
    obtain ⟨f1,f2,f3⟩:=hi.out.done
    exact bodyPost_ret (res2 Tryz.results131 rfl rfl f1) rfl ⟨_,by rw [HR2.out,HE2.out]; rfl,by rw [HR2.out]; exact f2,hi.out.far,f3⟩
   ·have HR2:=hide (HR.out.trans (by rw [hG]; rfl):R=flowP h P)
    have HE2:=hide (HE.out.trans (by rw [hG]; rfl):E=0)
    have hok:=hide (HO.out hG)
    replace hi:=hide hi
    clear HO HR HE hG
    go_wp2_with fail
    go_loopw [] (fun wr=>∃ (Q:Pg) (u:Value),Inv w w.heap.size Q u wr∧Ok Q∧Hid (flowP h Q=R)) (fun wr=>left w.heap.size wr)
    case atStart=>exact ⟨P,v2,hi.out,hok.out,hide HR2.out.symm⟩
    case round =>
     obtain ⟨⟨q,sh,ak,rg,ct⟩,u,hI,hQ,HQ⟩:=hrel
     clear hi hok HR2
     have HL:=hide (left_cod hI.cod hI.reads)
     obtain ⟨av,cap,rfl⟩:=hI.reads.shape
     obtain ⟨c0,c1,c2,c3,c4,hfz⟩:=hI.cod.all
     obtain ⟨d0,d1,d2,d3,d4,hfd⟩:=hI.other.all
     have hz2:=hI.room
     replace hI:=hide hI
     cases q with
     | nil =>
      simp only [List.length_nil] at c0 c1 c2 c3 c4
      have HX:=hide (HQ.out.symm.trans (flow_nil rfl):R=_)
      clear HQ HL hQ
      go_wp2
      obtain ⟨f1,f2,f3⟩:=hI.out.done
      exact bodyPost_ret (res2 Tryz.results131 rfl rfl f1) rfl ⟨_,by rw [HX.out,HE2.out]; rfl,by rw [HX.out]; exact f2,hI.out.far,f3⟩
     | cons f r =>
      simp only [List.length_cons] at c0 c1 c2 c3 c4
      cases ak with
      | true =>
       have HX:=hide (HQ.out.symm.trans (flow_stop (.inl rfl)):R=_)
       clear HQ HL hQ
       go_wp2
       obtain ⟨f1,f2,f3⟩:=hI.out.done
       exact bodyPost_ret (res2 Tryz.results131 rfl rfl f1) rfl ⟨_,by rw [HX.out,HE2.out]; rfl,by rw [HX.out]; exact f2,hI.out.far,f3⟩
      | false =>
       cases ct with
       | true =>
        have HX:=hide (HQ.out.symm.trans (flow_stop (.inr rfl)):R=_)
        clear HQ HL hQ
        go_wp2
        obtain ⟨f1,f2,f3⟩:=hI.out.done
        exact bodyPost_ret (res2 Tryz.results131 rfl rfl f1) rfl ⟨_,by rw [HX.out,HE2.out]; rfl,by rw [HX.out]; exact f2,hI.out.far,f3⟩
       | false =>
        by_cases hh:h ≠ 0∧h≤sh
        ·have CA:=hide (fun w'=>asked_any ⟨f::r,sh,false,rg,false⟩ av (r.length+1) cap w' (Nat.le_trans hQ.ring (by decide)))
         have HF:=hide (HQ.out.symm.trans (flow_ask rfl rfl rfl hh)).symm
         have HK:=hide (ok_asked hQ)
         have HW:Hid ((askedP ⟨f::r,sh,false,rg,false⟩).wait=f::r):=hide (by unfold askedP; rw [sent_wait])
         have HN:Hid ((askedP ⟨f::r,sh,false,rg,false⟩).asking=true):=hide (by unfold askedP; rw [sent_asking])
         generalize askedP ⟨f::r,sh,false,rg,false⟩=A at CA HF HK HW HN
         have hh1:¬ h=0:=hh.1
         have hh2:h≤sh:=hh.2
         clear hQ HQ hh
         unfold Pg.cells at CA
         dsimp only at CA
         go_wp2_with fail
         refine (CA.out _).mono ?_
         rintro e w1 ⟨rfl,hb1⟩
         have hI1:=hI.out.behind hb1 (Nat.le_refl _)
         clear c0 c1 c2 c3 c4 hfz d0 d1 d2 d3 d4 hfd
         obtain ⟨c0,c1,c2,c3,c4,hfz⟩:=hI1.cod.all
         have hI2:=hide (hI1.lay (P':=A) (v':=.slice av (r.length+1) cap) (by rw [HW.out]; exact hI1.reads) hI1.far)
         simp only at c0 c1 c2 c3 c4
         clear hI1 hb1 hI
         go_wp2
         refine ⟨⟨A,_,hI2.out,HK.out,HF⟩,?_⟩
         rw [HL.out,left_cod hI2.out.cod hI2.out.reads,HW.out,HN.out]
         simp
        ·by_cases hz:h=0
         ·have CA:=hide (fun w' hr=>shown_reads ⟨f::r,sh,false,rg,false⟩ f r (.slice av (r.length+1) cap) w' rfl hr (Nat.le_trans hQ.ring (by decide)) hQ.lo hQ.hi (hQ.all f (List.mem_cons_self ..)))
          have HF:=hide (HQ.out.symm.trans (flow_show rfl rfl rfl hh)).symm
          have HK:=hide (ok_shown hQ rfl)
          have HW:Hid ((shownP ⟨f::r,sh,false,rg,false⟩ f r).wait=r):=hide (by unfold shownP; rw [sent_wait])
          generalize shownP ⟨f::r,sh,false,rg,false⟩ f r=A at CA HF HK HW
          subst hz
          clear hQ HQ hh
          unfold Pg.cells at CA
          dsimp only at CA
          go_wp2_with fail
          refine (CA.out _ hI.out.reads).mono ?_
          rintro e w1 ⟨v1,rfl,hr1,hf1,hb1⟩
          have hI1:=hI.out.behind hb1 (Nat.le_refl _)
          clear c0 c1 c2 c3 c4 hfz d0 d1 d2 d3 d4 hfd
          obtain ⟨c0,c1,c2,c3,c4,hfz⟩:=hI1.cod.all
          have hI2:=hide (hI1.lay (P':=A) (v':=v1) (by rw [HW.out]; exact hr1) (hf1 _ hI1.far))
          obtain ⟨av1,cap1,rfl⟩:=hr1.shape
          simp only at c0 c1 c2 c3 c4
          clear hI1 hb1 hI hr1 hf1
          go_wp2
          refine ⟨⟨A,_,hI2.out,HK.out,HF⟩,?_⟩
          rw [HL.out,left_cod hI2.out.cod hI2.out.reads,HW.out]
          simp only [List.length_cons]
          split <;> split <;> omega
         ·have CA:=hide (fun w' hr=>shown_reads ⟨f::r,sh,false,rg,false⟩ f r (.slice av (r.length+1) cap) w' rfl hr (Nat.le_trans hQ.ring (by decide)) hQ.lo hQ.hi (hQ.all f (List.mem_cons_self ..)))
          have HF:=hide (HQ.out.symm.trans (flow_show rfl rfl rfl hh)).symm
          have HK:=hide (ok_shown hQ rfl)
          have HW:Hid ((shownP ⟨f::r,sh,false,rg,false⟩ f r).wait=r):=hide (by unfold shownP; rw [sent_wait])
          generalize shownP ⟨f::r,sh,false,rg,false⟩ f r=A at CA HF HK HW
          have hlt:¬ h≤sh:=fun e=>hh ⟨hz,e⟩
          clear hQ HQ hh
          unfold Pg.cells at CA
          dsimp only at CA
          go_wp2_with fail
          refine (CA.out _ hI.out.reads).mono ?_
          rintro e w1 ⟨v1,rfl,hr1,hf1,hb1⟩
          have hI1:=hI.out.behind hb1 (Nat.le_refl _)
          clear c0 c1 c2 c3 c4 hfz d0 d1 d2 d3 d4 hfd
          obtain ⟨c0,c1,c2,c3,c4,hfz⟩:=hI1.cod.all
          have hI2:=hide (hI1.lay (P':=A) (v':=v1) (by rw [HW.out]; exact hr1) (hf1 _ hI1.far))
          obtain ⟨av1,cap1,rfl⟩:=hr1.shape
          simp only at c0 c1 c2 c3 c4
          clear hI1 hb1 hI hr1 hf1
          go_wp2
          refine ⟨⟨A,_,hI2.out,HK.out,HF⟩,?_⟩
          rw [HL.out,left_cod hI2.out.cod hI2.out.reads,HW.out]
          simp only [List.length_cons]
          split <;> split <;> omega
open Go.RowKit
def sendR (P:Pg) (s:ByteArray):Pg:=if refusal P=0 then sentP P s else P
theorem send_any (P:Pg) (s:ByteArray) (v:Value) (w:World) (hv:Reads w v P.wait) (hs:Small P) (hz:s.size≤maxLen) :
 Calls Tryz.prog 121 #[.agg (P.cells v),.string s] w fun e w'=>∃ v',e=.returned (.tuple #[.agg ((sendR P s).cells v'),.int .i64 (refusal P)])∧Reads w' v' P.wait∧Far (w.heap.size+2) v'∧Below w.heap.size w w':=by
 have C0:=hide (fun w' h=>refused_any P v w' h hs)
 have C1:=hide (fun w' h=>own_all P v w' h hs)
 have hv1:=hide hv
 have hr:=hide hs.ring
 obtain ⟨av,cap,rfl⟩:=hv.shape
 have hT:=two_new (w:=w) (P:=P) (v:=.slice av P.wait.length cap)
 clear hv hs
 generalize hR:refusal P=R at C0 ⊢
 have HT:Hid (sendR P s=if R=0 then sentP P s else P):=hide (by unfold sendR; rw [hR])
 generalize sendR P s=S at HT ⊢
 clear hR
 have HW:∀ w1,Below (w.heap.size+2) ((w.alloc (.cells (P.cells (.slice av P.wait.length cap)) 51)).alloc (.cells (zp.cells (.slice none 0 0)) 51)) w1→Two w P (.slice av P.wait.length cap) w1∧Reads w1 (.slice av P.wait.length cap) P.wait:=fun w1 hb=>⟨hT.behind hb (by simp),((hv1.out.alloc _).alloc _).below hb (by simp)⟩
 replace HW:=hide HW
 clear hT
 unfold Pg.cells at C0 C1 ⊢
 go_enter Tryz.func121,Tryz.ntmps121
 go_upto_region 2 with (go_at_call 135; refine (C0.out _ ((hv1.out.alloc _).alloc _)).mono ?_; rintro e w1 ⟨rfl,hb1⟩)
 rw [World.size_alloc,World.size_alloc] at hb1
 obtain ⟨hT1,hv2⟩:=HW.out w1 hb1
 obtain ⟨c0,c1,c2,c3,c4,hfz⟩:=hT1.cod.all
 have hb1':=hide hb1
 replace hT1:=hide hT1
 replace hv2:=hide hv2
 clear hb1
 go_cut [] (fun wc=>∃ v2,Inv w w.heap.size P v2 wc)
 case first =>
  go_wp2_with fail
  refine (C1.out _ hv2.out).mono ?_
  rintro e w2 ⟨v2,rfl,ho,hb2⟩
  have hrm:=hT1.out.room
  have hT2:=hT1.out.behind hb2 (Nat.le_refl _)
  have hi:=hide (two_lay (P':=P) hT2 (reads_own ho) ((far_own ho).mono (by omega)))
  obtain ⟨av2,cap2,rfl⟩:=own_shape ho
  clear c0 c1 c2 c3 c4 hfz
  obtain ⟨c0,c1,c2,c3,c4,hfz⟩:=hT2.cod.all
  have hzr:=hT2.room
  clear hT2 hb2 ho
  go_wp2_with fail
  go_meet
  exact ⟨_,hi.out⟩
 case rest =>
  obtain ⟨v2,hi⟩:=hcut
  have hi0:=hi
  obtain ⟨av2,cap2,rfl⟩:=hi0.reads.shape
  clear c0 c1 c2 c3 c4 hfz hi0
  obtain ⟨c0,c1,c2,c3,c4,hfz⟩:=hi.cod.all
  obtain ⟨d0,d1,d2,d3,d4,hfd⟩:=hi.other.all
  have hzr:=hi.room
  replace hi:=hide hi
  by_cases hR0:R=0
  ·subst hR0
   have HE:=hide (HT.out.trans (by simp):S=sentP P s)
   have CS:Hid (∀ w',Calls Tryz.prog 136 #[.agg (P.cells (.slice av2 P.wait.length cap2)),.string s] w' fun e w''=>e=.returned (.agg (S.cells (.slice av2 P.wait.length cap2)))∧Below w'.heap.size w' w''):=hide (fun w'=>by rw [HE.out]; exact sent_any P s av2 P.wait.length cap2 w' hr.out hz)
   unfold Pg.cells at CS
   clear HT C0 C1
   go_wp2_with fail
   refine (CS.out _).mono ?_
   rintro e w3 ⟨rfl,hb3⟩
   have hi3:=hi.out.behind hb3 (Nat.le_refl _)
   clear c0 c1 c2 c3 c4 hfz d0 d1 d2 d3 d4 hfd hb3
   obtain ⟨d0,d1,d2,d3,d4,hfd⟩:=hi3.other.all
   have hz3:=hi3.room
   have F1:=hide (pcod_five (P:=S) (v:=.slice av2 P.wait.length cap2) hi3.other)
   have F2:=hide (reads_five (b:=w.heap.size+1) (x0:=.slice av2 P.wait.length cap2) (x1:=.int .i64 S.shown) (x2:=.bool S.asking) (x3:=.string S.ring) (x4:=.bool S.cut) hi3.reads (off_far hi3.far (by omega)))
   have F3:=hide (below_five (b:=w.heap.size+1) (x0:=.slice av2 P.wait.length cap2) (x1:=.int .i64 S.shown) (x2:=.bool S.asking) (x3:=.string S.ring) (x4:=.bool S.cut) hi3.below (by omega))
   have F4:=hide hi3.far
   clear hi3 hi
   go_wp2
   exact bodyPost_ret (res2 Tryz.results121 rfl rfl F1.out) rfl ⟨_,rfl,F2.out,F4.out,F3.out⟩
  ·have HE:=hide (HT.out.trans (by simp [hR0]):S=P)
   have hRb:(R==0)=false:=by simp [hR0]
   clear HT C0 C1
   go_wp2
   obtain ⟨f1,f2,f3⟩:=hi.out.done
   exact bodyPost_ret (res2 Tryz.results121 rfl rfl f1) rfl ⟨_,by rw [HE.out]; rfl,f2,hi.out.far,f3⟩
end Go.Proofs.YtncgcejlkmoliaaGreatDoor.Pa
