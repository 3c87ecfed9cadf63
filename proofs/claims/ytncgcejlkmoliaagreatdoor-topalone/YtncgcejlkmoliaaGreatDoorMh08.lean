import Derived.Test.YtncgcejlkmoliaaGreatDoorMh05
import Derived.Test.YtncgcejlkmoliaaGreatDoorMh01
import Derived.Test.YtncgcejlkmoliaaGreatDoorMh06
import Derived.Laws.CopyOwn
set_option linter.unusedVariables false
set_option maxRecDepth 100000
set_option maxHeartbeats 16000000
namespace Go.Proofs.YtncgcejlkmoliaaGreatDoor
open Go.RowKit
def gplace (L:Ld) (wh loc:Int):Bool :=
 if wh=0 then amg loc 6 else if wh=1 then (amg loc 6&&L.here loc.toNat) else (wh==2&&amg loc 9&&(L.kind loc.toNat==3))
theorem below_box2 (w:World) (o o':Obj):Below w.heap.size w ((w.alloc o).alloc o'):=((Below.refl _ _).alloc (Nat.le_refl _) _).alloc (by simp) _
theorem place_any (L:Ld) (t:ByteArray) (kind wh loc:Int) (on:Bool) (w:World) :
 Calls Tryz.prog 64 #[.agg L.cells,.agg #[.string t,.int .i64 kind,.int .i64 wh,.int .i64 loc,.bool on]] w fun e w'=>e=.returned (.bool (gplace L wh loc))∧Below w.heap.size w w':=by
 have HC:=hide ((cod_new w L).alloc (.cells #[.string t,.int .i64 kind,.int .i64 wh,.int .i64 loc,.bool on] 37))
 by_cases h0:wh=0
 ·have b0:(wh==0)=true:=by simp [h0]
  have HG:=hide (show gplace L wh loc=amg loc 6 by unfold gplace; rw [if_pos h0])
  clear h0
  go_enter Tryz.func64,Tryz.ntmps64
  go_wp2_with fail
  refine (among_any loc 6 _).mono ?_
  rintro r w1 ⟨rfl,hw⟩
  rw [hw]
  clear hw w1
  go_wp2
  go_ret
  exact ⟨ret_bool HG.out.symm,below_box2 _ _ _⟩
 ·have b0:(wh==0)=false:=by simp [h0]
  by_cases h1:wh=1
  ·have b1:(wh==1)=true:=by simp [h1]
   have HG:=hide (show gplace L wh loc=(amg loc 6&&L.here loc.toNat) by unfold gplace; rw [if_neg h0,if_pos h1])
   clear h0 h1
   go_enter Tryz.func64,Tryz.ntmps64
   go_wp2_with fail
   refine (among_any loc 6 _).mono ?_
   rintro r w1 ⟨rfl,hw⟩
   rw [hw]
   clear hw w1
   cases ha:amg loc 6 with
   | false =>
    have HA:=hide ha
    clear ha
    go_wp2
    go_ret
    exact ⟨ret_bool (by rw [HG.out,HA.out]; rfl),below_box2 _ _ _⟩
   | true =>
    have HA:=hide ha
    obtain ⟨g0,g6⟩:=amg_pos ha
    clear ha
    obtain ⟨x,rfl⟩:=Int.eq_ofNat_of_zero_le g0
    have cr:=HC.out.being x 1 (by omega) (by omega)
    simp only [Ld.beingCell] at cr
    go_wp2
    go_ret
    exact ⟨ret_bool (by rw [HG.out,HA.out]; rfl),below_box2 _ _ _⟩
  ·have b1:(wh==1)=false:=by simp [h1]
   by_cases h2:wh=2
   ·have b2:(wh==2)=true:=by simp [h2]
    have HG:=hide (show gplace L wh loc=(amg loc 9&&(L.kind loc.toNat==3)) by unfold gplace; rw [if_neg h0,if_neg h1,b2]; rfl)
    clear h0 h1 h2
    go_enter Tryz.func64,Tryz.ntmps64
    go_wp2_with fail
    refine (among_any loc 9 _).mono ?_
    rintro r w1 ⟨rfl,hw⟩
    rw [hw]
    clear hw w1
    cases ha:amg loc 9 with
    | false =>
     have HA:=hide ha
     clear ha
     go_wp2
     go_ret
     exact ⟨ret_bool (by rw [HG.out,HA.out]; rfl),below_box2 _ _ _⟩
    | true =>
     have HA:=hide ha
     obtain ⟨g0,g6⟩:=amg_pos ha
     clear ha
     obtain ⟨x,rfl⟩:=Int.eq_ofNat_of_zero_le g0
     have cr:=HC.out.thing x 1 (by omega) (by omega)
     simp only [Ld.thingCell] at cr
     go_wp2
     go_ret
     exact ⟨ret_bool (by rw [HG.out,HA.out]; rfl),below_box2 _ _ _⟩
   ·have b2:(wh==2)=false:=by simp [h2]
    have HG:=hide (show gplace L wh loc=false by unfold gplace; rw [if_neg h0,if_neg h1,b2]; rfl)
    clear h0 h1 h2
    go_enter Tryz.func64,Tryz.ntmps64
    go_wp2
    go_ret
    exact ⟨ret_bool HG.out.symm,below_box2 _ _ _⟩
open Go.RowKit
theorem inside_any (L:Ld) (i box:Int) (w:World) :
 Calls Tryz.prog 198 #[.agg L.cells,.int .i64 i,.int .i64 box] w fun e w'=>e=.returned (.bool (decide (box ∈ wayL L i)))∧Below w.heap.size w w':=by
 go_enter Tryz.func198,Tryz.ntmps198
 go_wp2_with (refine wl_land (.tmp 3) rfl rfl _ L rfl (cod_new w L) ?_)
 refine (way_any L i _).mono ?_
 rintro e w1 ⟨v,rfl,hn,hb⟩
 have hb':Below w.heap.size w w1:=((Below.refl _ _).alloc (Nat.le_refl _) _).trans (hb.mono (by simp))
 clear hb
 go_wp2_with fail
 refine (contains_any v _ box _ hn).mono ?_
 rintro e w2 ⟨rfl,hw⟩
 rw [hw]
 clear hw w2
 go_wp2
 go_ret
 exact ⟨rfl,hb'⟩
theorem endless_any (L:Ld) (i:Int) (w:World) (hi:amg i 9=true) :
 Calls Tryz.prog 65 #[.agg L.cells,.int .i64 i] w fun e w'=>e=.returned (.bool (L.wh (lastW L i)==2))∧Below w.heap.size w w':=by
 have hne:=way_pos L hi
 have hll:=last_lt L hne
 have hlen:=way_len L i
 have hpos:0 < (wayL L i).length:=List.length_pos_iff.2 hne
 have HL:=hide hll
 have HP:=hide hpos
 have HN:=hide hlen
 clear hi hne hll hlen hpos
 go_enter Tryz.func65,Tryz.ntmps65
 go_wp2_with (refine wl_land (.tmp 2) rfl rfl _ L rfl (cod_new w L) ?_)
 refine (way_any L i _).mono ?_
 rintro e w1 ⟨v,rfl,hn,hb⟩
 have hb':Below w.heap.size w w1:=((Below.refl _ _).alloc (Nat.le_refl _) _).trans (hb.mono (by simp))
 have hc:Cod w1 w.heap.size L:=(cod_new w L).behind hb (Nat.le_refl _)
 obtain ⟨b,off,cap,rfl,_,_,hcell⟩:=hn.some HP.out
 have c0:=hcell ((wayL L i).length - 1) (by have:=HP.out; omega)
 rw [HL.out.2] at c0
 have hk:=HL.out.1
 have c2:w1.cell? ⟨w.heap.size,84+lastW L i*5+2,none⟩=some (.int .i64 (L.wh (lastW L i))):=hc.thing _ 2 hk (by omega)
 have h0:=HP.out
 have h9:=HN.out
 generalize (wayL L i).length=n at *
 generalize hkk:lastW L i=k at *
 have HK:=hide hkk
 clear hkk
 obtain ⟨m,rfl⟩:∃ m,n=m+1:=⟨n - 1,by omega⟩
 simp only [Nat.add_sub_cancel] at c0
 clear hcell hn hb HL HP HN hc
 go_wp2
 go_ret
 exact ⟨ret_bool (by rw [HK.out]),hb'⟩
open Go.RowKit
def goodR (L:Ld) (r:Nat):Bool:=groom (L.exit r) (L.shut r)
def goodB (L:Ld) (b:Nat):Bool:=gbeing (L.here b) (L.room b) (L.health b) (L.foe b)
def goodT (L:Ld) (i:Nat):Bool:=gkind (L.kind i) (L.wh i) (L.on i)&&gplace L (L.wh i) (L.loc i)&&!(L.wh (lastW L i)==2)
def goodL (L:Ld):Bool:=(List.range 6).all (goodR L)&&(List.range 6).all (goodB L)&&(List.range 9).all (goodT L)
theorem goodR_calls {L:Ld} (hw:Wf L) (k:Nat) (hk:k < 6) (w:World):Calls Tryz.prog 61 #[.agg (L.rcells k)] w fun r w'=>r=.returned (.bool (goodR L k))∧Below w.heap.size w w' :=
 room_good_any (L.rname k) (L.dark k) (L.exit k) (L.shut k) w (fun d hd=>hw.exit k d hk hd)
theorem goodB_calls {L:Ld} (hw:Wf L) (k:Nat) (hk:k < 6) (w:World):Calls Tryz.prog 62 #[.agg (L.bcells k)] w fun r w'=>r=.returned (.bool (goodB L k))∧Below w.heap.size w w' :=
 being_any (L.bname k) (L.here k) (L.keen k) (L.room k) (L.health k) (L.foe k) w (hw.foe k hk).1 (hw.foe k hk).2
theorem good_any (L:Ld) (w:World) (hwf:Wf L):Calls Tryz.prog 27 #[.agg L.cells] w fun e w'=>e=.returned (.bool (goodL L))∧Below w.heap.size w w':=by
 have HF:=hide hwf
 clear hwf
 go_enter Tryz.func27,Tryz.ntmps27
 go_wp2_with (refine wl_rooms (.tmp 9) rfl rfl _ L rfl (cod_new w L) ?_)
 go_loopw [4,11] (fun p c wr=>∃ k:Nat,k≤6∧c=.int .i64 k∧GdRel L w wr∧∀ r,r < k→goodR L r=true) (fun _ c _=>6 - (intOf c).toNat)
 case atStart=>exact ⟨0,by omega,rfl,gd_start L w,fun r h=>by omega⟩
 case round =>
  obtain ⟨k,hle,rfl,R,hall⟩:=hrel
  by_cases hk:k < 6
  ·have HR:=hide R
   have HA:=hide hall
   clear R hall
   go_wp2_with (first | (refine wl_iroom (.tmp 10) (.tmp 11) rfl rfl k L rfl rfl hk ?_) | (refine wl_newR (.tmp 4) (.tmp 13) rfl rfl _ k L rfl rfl rfl rfl ?_) | (refine wl_allR (.tmp 4) rfl rfl wr.heap.size k L rfl (heap_alloc_new wr _) ?_))
   refine (goodR_calls HF.out k hk _).mono ?_
   rintro r w1 ⟨rfl,hb⟩
   have R1:=hide ((HR.out.box (.cells (L.rcells k) 34)).call hb)
   clear hb
   cases hg:goodR L k with
   | false =>
    have HG:=hide (show goodL L=false by unfold goodL; rw [all_bad hk hg]; rfl)
    clear hg
    go_wp2
    go_ret
    exact ⟨ret_bool HG.out.symm,R1.out.low⟩
   | true =>
    have HN:=hide (show ∀ r,r < k+1→goodR L r=true from fun r hr=>by
     rcases Nat.lt_or_ge r k with h | h
     ·exact HA.out r h
     ·rw [show r=k by omega]; exact hg)
    clear hg
    go_wp2
    go_roundw
    case rel=>exact ⟨k+1,by omega,by go_num,R1.out,HN.out⟩
    case measure=>simp [intOf]; omega
  ·have HA:=hide (show (List.range 6).all (goodR L)=true from all_ok fun r hr=>hall r (by omega))
   have HR:=hide R
   clear R hall
   go_wp2_with (refine wl_beings (.tmp 18) rfl rfl _ L rfl HR.out.cod ?_)
   go_loopw [20] (fun c wr=>∃ k:Nat,k≤6∧c=.int .i64 k∧GdRel L w wr∧∀ r,r < k→goodB L r=true) (fun c _=>6 - (intOf c).toNat)
   case atStart=>exact ⟨0,by omega,rfl,HR.out,fun r h=>by omega⟩
   case round =>
    obtain ⟨j,hlj,rfl,R,hall⟩:=hrel
    clear HR
    by_cases hj:j < 6
    ·have HR:=hide R
     have HB:=hide hall
     clear R hall
     go_wp2_with (first | (refine wl_ibeing (.tmp 19) (.tmp 20) rfl rfl j L rfl rfl hj ?_) | (refine wl_newB (.tmp 6) (.tmp 22) rfl rfl _ j L rfl rfl rfl rfl ?_) | (refine wl_allB (.tmp 6) rfl rfl wr.heap.size j L rfl (heap_alloc_new wr _) ?_))
     refine (goodB_calls HF.out j hj _).mono ?_
     rintro r w1 ⟨rfl,hb⟩
     have R1:=hide ((HR.out.box (.cells (L.bcells j) 40)).call hb)
     clear hb
     cases hg:goodB L j with
     | false =>
      have HG:=hide (show goodL L=false by unfold goodL; rw [all_bad hj hg,Bool.and_false]; rfl)
      clear hg
      go_wp2
      go_ret
      exact ⟨ret_bool HG.out.symm,R1.out.low⟩
     | true =>
      have HN:=hide (show ∀ r,r < j+1→goodB L r=true from fun r hr=>by
       rcases Nat.lt_or_ge r j with h | h
       ·exact HB.out r h
       ·rw [show r=j by omega]; exact hg)
      clear hg
      go_wp2
      go_roundw
      case rel=>exact ⟨j+1,by omega,by go_num,R1.out,HN.out⟩
      case measure=>simp [intOf]; omega
    ·have HB:=hide (show (List.range 6).all (goodB L)=true from all_ok fun r hr=>hall r (by omega))
     have HR:=hide R
     clear R hall
     go_wp2_with (refine wl_things (.tmp 27) rfl rfl _ L rfl HR.out.cod ?_)
     go_loopw [29] (fun c wr=>∃ k:Nat,k≤9∧c=.int .i64 k∧GdRel L w wr∧∀ r,r < k→goodT L r=true) (fun c _=>9 - (intOf c).toNat)
     case atStart=>exact ⟨0,by omega,rfl,HR.out,fun r h=>by omega⟩
     case round =>
      obtain ⟨i,hli,rfl,R,hall⟩:=hrel
      clear HR
      by_cases hi:i < 9
      ·have HR:=hide R
       have HT:=hide hall
       clear R hall
       go_wp2_with (first | (refine wl_ithing (.tmp 28) (.tmp 29) rfl rfl i L rfl rfl hi ?_) | (refine wl_newT (.tmp 8) (.tmp 32) rfl rfl _ i L rfl rfl rfl rfl ?_) | (refine wl_allT (.tmp 8) rfl rfl wr.heap.size i L rfl (heap_alloc_new wr _) ?_))
       refine (kind_any (L.tname i) (L.kind i) (L.wh i) (L.loc i) (L.on i) _).mono ?_
       rintro r w1 ⟨rfl,hb⟩
       have R1:=hide ((HR.out.box (.cells (L.tcells i) 37)).call hb)
       have T1:=hide (show w1.heap[wr.heap.size]?=some (.cells (L.tcells i) 37 (0,0)) by rw [hb.block _ (by simp)]; exact heap_alloc_new wr _)
       clear hb
       cases hg:gkind (L.kind i) (L.wh i) (L.on i) with
       | false =>
        have HG:=hide (show goodL L=false by unfold goodL; rw [all_bad (f:=goodT L) hi (by unfold goodT; rw [hg]; rfl),Bool.and_false])
        clear hg
        go_wp2
        go_ret
        exact ⟨ret_bool HG.out.symm,R1.out.low⟩
       | true =>
        have HK:=hide hg
        clear hg
        go_wp2_with (first | (refine wl_land (.tmp 1) rfl rfl _ L rfl R1.out.cod ?_) | (refine wl_allT (.tmp 8) rfl rfl wr.heap.size i L rfl T1.out ?_))
        refine (place_any L (L.tname i) (L.kind i) (L.wh i) (L.loc i) (L.on i) _).mono ?_
        rintro r w2 ⟨rfl,hb⟩
        have R2:=hide (R1.out.call hb)
        clear hb
        cases hg:gplace L (L.wh i) (L.loc i) with
        | false =>
         have HG:=hide (show goodL L=false by unfold goodL; rw [all_bad (f:=goodT L) hi (by unfold goodT; rw [HK.out,hg]; rfl),Bool.and_false])
         clear hg
         go_wp2
         go_ret
         exact ⟨ret_bool HG.out.symm,R2.out.low⟩
        | true =>
         have HP:=hide hg
         clear hg
         go_wp2_with (refine wl_land (.tmp 1) rfl rfl _ L rfl R2.out.cod ?_)
         refine (endless_any L (i:Int) _ (amg_mk (by omega) (by omega))).mono ?_
         rintro r w3 ⟨rfl,hb⟩
         have R3:=hide (R2.out.call hb)
         clear hb
         cases hg:(L.wh (lastW L (i:Int))==2) with
         | true =>
          have HG:=hide (show goodL L=false by unfold goodL; rw [all_bad (f:=goodT L) hi (by unfold goodT; rw [HK.out,HP.out,hg]; rfl),Bool.and_false])
          clear hg
          go_wp2
          go_ret
          exact ⟨ret_bool HG.out.symm,R3.out.low⟩
         | false =>
          have HN:=hide (show ∀ r,r < i+1→goodT L r=true from fun r hr=>by
           rcases Nat.lt_or_ge r i with h | h
           ·exact HT.out r h
           ·rw [show r=i by omega]; unfold goodT; rw [HK.out,HP.out,hg]; rfl)
          clear hg
          go_wp2
          go_roundw
          case rel=>exact ⟨i+1,by omega,by go_num,R3.out,HN.out⟩
          case measure=>simp [intOf]; omega
      ·have HG:=hide (show goodL L=true by unfold goodL; rw [HA.out,HB.out,all_ok fun r hr=>hall r (by omega)]; rfl)
       have HR:=hide R
       clear R hall
       go_wp2
       go_ret
       exact ⟨ret_bool HG.out.symm,HR.out.low⟩
open Go.RowKit
def zl:Ld:={
 rname:=fun _=>⟨#[]⟩
 dark:=fun _=>false
 exit:=fun _ _=>0
 shut:=fun _ _=>false
 tname:=fun _=>⟨#[]⟩
 kind:=fun _=>0
 wh:=fun _=>0
 loc:=fun _=>0
 on:=fun _=>false
 bname:=fun _=>⟨#[]⟩
 here:=fun _=>false
 keen:=fun _=>false
 room:=fun _=>0
 health:=fun _=>0
 foe:=fun _=>0 }
def nl:Ld:={
 rname:=fun r=>[⟨#[104,101,97,114,116,104]⟩,⟨#[121,97,114,100]⟩,⟨#[112,97,110,116,114,121]⟩,⟨#[108,111,102,116]⟩,⟨#[99,101,108,108,97,114]⟩,⟨#[97,116,116,105,99]⟩].getD r ⟨#[]⟩
 dark:=fun r=>[false,false,true,true,true,false].getD r false
 exit:=fun r d=>([[2,3,4,0,0,5],[0,0,0,1,0,0],[0,0,0,0,1,0],[0,6,0,0,0,1],[0,0,1,0,0,0],[0,0,0,0,4,0]].getD r []).getD d 0
 shut:=fun r d=>([[false,false,false,false,false,true],[false,false,false,false,false,false],[false,false,false,false,false,false],[false,false,false,false,false,false],[false,false,true,false,false,false],[false,false,false,false,false,false]].getD r []).getD d false
 tname:=fun i=>[⟨#[108,97,109,112]⟩,⟨#[108,97,109,112]⟩,⟨#[99,108,111,97,107]⟩,⟨#[99,104,101,115,116]⟩,⟨#[99,111,105,110]⟩,⟨#[99,111,105,110]⟩,⟨#[109,117,103]⟩,⟨#[98,111,120]⟩,⟨#[107,101,121]⟩].getD i ⟨#[]⟩
 kind:=fun i=>[1,1,2,3,0,0,0,3,0].getD i 0
 wh:=fun i=>[0,0,0,0,2,0,0,0,1].getD i 0
 loc:=fun i=>[0,3,0,4,3,1,0,0,1].getD i 0
 on:=fun i=>[false,false,false,false,false,false,false,true,false].getD i false
 bname:=fun b=>[⟨#[99,97,116]⟩,⟨#[114,97,116]⟩].getD b ⟨#[]⟩
 here:=fun b=>[true,true].getD b false
 keen:=fun b=>[true,false].getD b false
 room:=fun b=>[0,4].getD b 0
 health:=fun b=>[10,3].getD b 0
 foe:=fun b=>[0,0].getD b 0 }
theorem Tryz.zLand:(Tryz.prog.info? 43).map (fun i=>(i.zero,i.size))=some (some (.agg zl.cells),165):=by kernel_rfl
theorem Tryz.zRooms:(Tryz.prog.info? 35).map (fun i=>(i.zero,i.size))=some (some (.agg zl.roomsA),84):=by kernel_rfl
theorem Tryz.zThings:(Tryz.prog.info? 38).map (fun i=>(i.zero,i.size))=some (some (.agg zl.thingsA),45):=by kernel_rfl
theorem Tryz.zBeings:(Tryz.prog.info? 41).map (fun i=>(i.zero,i.size))=some (some (.agg zl.beingsA),36):=by kernel_rfl
theorem bb:Tryz.prog.built 41 [(0,.agg #[.string ⟨#[99,97,116]⟩,.bool true,.bool true,.int .i64 0,.int .i64 10,.int .i64 0]),(1,.agg #[.string ⟨#[114,97,116]⟩,.bool true,.bool false,.int .i64 4,.int .i64 3,.int .i64 0])]=some (nl.beingsA):=by kernel_rfl
theorem bt:Tryz.prog.built 38 [(0,.agg #[.string ⟨#[108,97,109,112]⟩,.int .i64 1,.int .i64 0,.int .i64 0,.bool false]),(1,.agg #[.string ⟨#[108,97,109,112]⟩,.int .i64 1,.int .i64 0,.int .i64 3,.bool false]),(2,.agg #[.string ⟨#[99,108,111,97,107]⟩,.int .i64 2,.int .i64 0,.int .i64 0,.bool false]),(3,.agg #[.string ⟨#[99,104,101,115,116]⟩,.int .i64 3,.int .i64 0,.int .i64 4,.bool false]),(4,.agg #[.string ⟨#[99,111,105,110]⟩,.int .i64 0,.int .i64 2,.int .i64 3,.bool false]),(5,.agg #[.string ⟨#[99,111,105,110]⟩,.int .i64 0,.int .i64 0,.int .i64 1,.bool false]),(6,.agg #[.string ⟨#[109,117,103]⟩,.int .i64 0,.int .i64 0,.int .i64 0,.bool false]),(7,.agg #[.string ⟨#[98,111,120]⟩,.int .i64 3,.int .i64 0,.int .i64 0,.bool true]),(8,.agg #[.string ⟨#[107,101,121]⟩,.int .i64 0,.int .i64 1,.int .i64 1,.bool false])]=some (nl.thingsA):=by kernel_rfl
theorem br:Tryz.prog.built 35 [(0,.agg #[.string ⟨#[104,101,97,114,116,104]⟩,.bool false,.int .i64 2,.int .i64 3,.int .i64 4,.int .i64 0,.int .i64 0,.int .i64 5,.bool false,.bool false,.bool false,.bool false,.bool false,.bool true]),(1,.agg #[.string ⟨#[121,97,114,100]⟩,.bool false,.int .i64 0,.int .i64 0,.int .i64 0,.int .i64 1,.int .i64 0,.int .i64 0,.bool false,.bool false,.bool false,.bool false,.bool false,.bool false]),(2,.agg #[.string ⟨#[112,97,110,116,114,121]⟩,.bool true,.int .i64 0,.int .i64 0,.int .i64 0,.int .i64 0,.int .i64 1,.int .i64 0,.bool false,.bool false,.bool false,.bool false,.bool false,.bool false]),(3,.agg #[.string ⟨#[108,111,102,116]⟩,.bool true,.int .i64 0,.int .i64 6,.int .i64 0,.int .i64 0,.int .i64 0,.int .i64 1,.bool false,.bool false,.bool false,.bool false,.bool false,.bool false]),(4,.agg #[.string ⟨#[99,101,108,108,97,114]⟩,.bool true,.int .i64 0,.int .i64 0,.int .i64 1,.int .i64 0,.int .i64 0,.int .i64 0,.bool false,.bool false,.bool true,.bool false,.bool false,.bool false]),(5,.agg #[.string ⟨#[97,116,116,105,99]⟩,.bool false,.int .i64 0,.int .i64 0,.int .i64 0,.int .i64 0,.int .i64 4,.int .i64 0,.bool false,.bool false,.bool false,.bool false,.bool false,.bool false])]=some (nl.roomsA):=by kernel_rfl
theorem bl:Tryz.prog.built 43 [(0,.agg nl.roomsA),(1,.agg nl.thingsA),(2,.agg nl.beingsA)]=some (nl.cells):=by kernel_rfl
theorem wl_build {P:Program} {ops:Array Oper} {rest:List Oper} {op:Oper} {a:Act} {w:World} {Q:Exit→Act→World→Prop} (t:TypeId) (parts:Array (Nat × Operand)) (ho:op.op=.build t parts)
 (hw:Region.wanted op (yielded ops a.tmps)=true) (vs:List (Nat × Value)) (cs:Array Value) (hb:P.built t vs=some cs) (hv:(parts.map fun (i,x)=>(i,a.eval x)).toList=vs)
 (h:wpList P ops Q rest (a.put op.dst (.agg cs)) w):wpList P ops Q (op::rest) a w:=by
 subst hv
 refine wl_wanted hw (wp_build t parts ho (by rw [hb]; rfl) ?_)
 rw [hb]; exact h
theorem one_rooms:nl.roomsA.all (·.oneCell')=true:=by kernel_rfl
theorem one_things:nl.thingsA.all (·.oneCell')=true:=by kernel_rfl
theorem one_beings:nl.beingsA.all (·.oneCell')=true:=by kernel_rfl
theorem one_land:nl.cells.all (·.oneCell')=true:=by kernel_rfl
theorem size_rooms (L:Ld):L.roomsA.size=84:=by simp [Ld.roomsA,Ld.size]
theorem size_things (L:Ld):L.thingsA.size=45:=by simp [Ld.thingsA,Ld.size]
theorem size_beings (L:Ld):L.beingsA.size=36:=by simp [Ld.beingsA,Ld.size]
open Go.RowKit
theorem newBeings_any (w:World):Calls Tryz.prog 70 #[] w fun e w'=>e=.returned (.agg nl.beingsA)∧Below w.heap.size w w':=by
 have hz:=(zero_of_info Tryz.zBeings).1
 go_enter Tryz.func70,Tryz.ntmps70
 go_wp2_with (first | (refine wl_build 41 #[(0,.tmp 1),(1,.tmp 2)] rfl ?hh _ _ bb ?hv ?_) | (refine wl_new 41 (.tmp 0) (.tmp 3) rfl rfl zl.beingsA nl.beingsA rfl rfl rfl ?s1 ?s2 one_beings ?_))
 case s1=>rw [size_beings]; exact (zero_of_info Tryz.zBeings).2
 case s2=>rw [size_beings,size_beings]
 refine bodyPost_ret (v:=.agg nl.beingsA) (results_cell_row rfl _ _ w.heap.size 41 nl.beingsA (0,0) _ rfl (heap_alloc_new w _) Tryz.underlying41 rfl (by rw [size_beings]; exact (zero_of_info Tryz.zBeings).2)) rfl ⟨rfl,(Below.refl _ _).alloc (Nat.le_refl _) _⟩
theorem newThings_any (w:World):Calls Tryz.prog 69 #[] w fun e w'=>e=.returned (.agg nl.thingsA)∧Below w.heap.size w w':=by
 have hz:=(zero_of_info Tryz.zThings).1
 go_enter Tryz.func69,Tryz.ntmps69
 go_wp2_with (first | (refine wl_build 38 #[(0,.tmp 1),(1,.tmp 2),(2,.tmp 3),(3,.tmp 4),(4,.tmp 5),(5,.tmp 6),(6,.tmp 7),(7,.tmp 8),(8,.tmp 9)] rfl ?hh _ _ bt ?hv ?_) | (refine wl_new 38 (.tmp 0) (.tmp 10) rfl rfl zl.thingsA nl.thingsA rfl rfl rfl ?s1 ?s2 one_things ?_))
 case s1=>rw [size_things]; exact (zero_of_info Tryz.zThings).2
 case s2=>rw [size_things,size_things]
 refine bodyPost_ret (v:=.agg nl.thingsA) (results_cell_row rfl _ _ w.heap.size 38 nl.thingsA (0,0) _ rfl (heap_alloc_new w _) Tryz.underlying38 rfl (by rw [size_things]; exact (zero_of_info Tryz.zThings).2)) rfl ⟨rfl,(Below.refl _ _).alloc (Nat.le_refl _) _⟩
theorem newRooms_any (w:World):Calls Tryz.prog 68 #[] w fun e w'=>e=.returned (.agg nl.roomsA)∧Below w.heap.size w w':=by
 have hz:=(zero_of_info Tryz.zRooms).1
 go_enter Tryz.func68,Tryz.ntmps68
 go_wp2_with (first | (refine wl_build 35 #[(0,.tmp 3),(1,.tmp 5),(2,.tmp 7),(3,.tmp 9),(4,.tmp 12),(5,.tmp 14)] rfl ?hh _ _ br ?hv ?_) | (refine wl_new 35 (.tmp 0) (.tmp 15) rfl rfl zl.roomsA nl.roomsA rfl rfl rfl ?s1 ?s2 one_rooms ?_))
 case s1=>rw [size_rooms]; exact (zero_of_info Tryz.zRooms).2
 case s2=>rw [size_rooms,size_rooms]
 refine bodyPost_ret (v:=.agg nl.roomsA) (results_cell_row rfl _ _ w.heap.size 35 nl.roomsA (0,0) _ rfl (heap_alloc_new w _) Tryz.underlying35 rfl (by rw [size_rooms]; exact (zero_of_info Tryz.zRooms).2)) rfl ⟨rfl,(Below.refl _ _).alloc (Nat.le_refl _) _⟩
open Go.RowKit
theorem new_any (w:World):Calls Tryz.prog 31 #[] w fun e w'=>e=.returned (.agg nl.cells)∧Below w.heap.size w w':=by
 have hz:=(zero_of_info Tryz.zLand).1
 go_enter Tryz.func31,Tryz.ntmps31
 go_wp2_with fail
 refine (newRooms_any _).mono ?_
 rintro e w1 ⟨rfl,hb1⟩
 have c1:Cod w1 w.heap.size zl:=(cod_new w zl).behind hb1 (Nat.le_refl _)
 have l1:Below w.heap.size w w1:=((Below.refl w.heap.size w).alloc (Nat.le_refl _) _).trans (hb1.mono (by simp))
 clear hb1
 go_wp2_with fail
 refine (newThings_any _).mono ?_
 rintro e w2 ⟨rfl,hb2⟩
 have c2:Cod w2 w.heap.size zl:=c1.behind hb2 (Nat.le_refl _)
 have l2:Below w.heap.size w w2:=l1.trans (hb2.mono l1.size)
 clear hb2 c1 l1
 go_wp2_with fail
 refine (newBeings_any _).mono ?_
 rintro e w3 ⟨rfl,hb3⟩
 have c3:Cod w3 w.heap.size zl:=c2.behind hb3 (Nat.le_refl _)
 have l3:Below w.heap.size w w3:=l2.trans (hb3.mono l2.size)
 clear hb3 c2 l2
 go_wp2_with (first | (refine wl_build 43 #[(0,.tmp 1),(1,.tmp 2),(2,.tmp 3)] rfl ?hh _ _ bl ?hv ?_) | (refine wl_row 43 (.tmp 0) (.tmp 4) rfl rfl w.heap.size nl.cells rfl rfl 43 zl.cells c3 ?s1 ?s2 one_land ?_))
 case s1=>rw [Ld.size]; exact (zero_of_info Tryz.zLand).2
 case s2=>rw [Ld.size,Ld.size]
 refine bodyPost_ret (v:=.agg nl.cells) (results_cell_row rfl _ _ w.heap.size 43 nl.cells (0,0) _ rfl (setRow_heap w3 w.heap.size _ _ _ _ c3) Tryz.underlying43 rfl (by rw [Ld.size]; exact (zero_of_info Tryz.zLand).2)) rfl ⟨rfl,below_setRow l3 (Nat.le_refl _) _⟩
open Go.RowKit
def PathR (L:Ld):List Int→Int→Prop
 | [],_=>False
 | x::r,i=>x=i∧amg i 9=true∧((L.wh i.toNat ≠ 2∧r=[])∨(L.wh i.toNat=2∧PathR L r (L.loc i.toNat)))
def Path (L:Ld) (i:Int) (q:List Int):Prop:=PathR L q i
theorem Path.stop {L:Ld} (i:Int) (ha:amg i 9=true) (hw:L.wh i.toNat ≠ 2):Path L i [i]:=⟨rfl,ha,.inl ⟨hw,rfl⟩⟩
theorem Path.step {L:Ld} (i:Int) (q:List Int) (ha:amg i 9=true) (hw:L.wh i.toNat=2) (h:Path L (L.loc i.toNat) q):Path L i (i::q):=⟨rfl,ha,.inr ⟨hw,h⟩⟩
theorem path_uniq {L:Ld}:∀ (q:List Int) (i:Int),PathR L q i→∀ q',PathR L q' i→q=q':=by
 intro q
 induction q with
 | nil=>intro i h; exact h.elim
 | cons x r ih =>
  intro i h q' h'
  cases q' with
  | nil=>exact h'.elim
  | cons y s =>
   obtain ⟨rfl,_,h⟩:=h
   obtain ⟨rfl,_,h'⟩:=h'
   rcases h with ⟨hw,rfl⟩ | ⟨hw,h⟩
   ·rcases h' with ⟨_,rfl⟩ | ⟨hw',_⟩
    ·rfl
    ·exact absurd hw' hw
   ·rcases h' with ⟨hw',_⟩ | ⟨_,h'⟩
    ·exact absurd hw hw'
    ·rw [ih _ h _ h']
theorem Path.uniq {L:Ld} {i:Int} {q:List Int} (h:Path L i q):∀ q',Path L i q'→q=q':=path_uniq q i h
theorem path_part {L:Ld}:∀ (q:List Int) (i:Int),PathR L q i→∀ j,j ∈ q→∃ p q',q=p++q'∧Path L j q':=by
 intro q
 induction q with
 | nil=>intro i h; exact h.elim
 | cons x r ih =>
  intro i h j hj
  have h0:=h
  obtain ⟨rfl,_,h⟩:=h
  rcases List.mem_cons.1 hj with rfl | hj
  ·exact ⟨[],_,rfl,h0⟩
  ·rcases h with ⟨_,rfl⟩ | ⟨_,h⟩
   ·simp at hj
   ·obtain ⟨p,q',e,hp⟩:=ih _ h j hj
    exact ⟨x::p,q',by rw [e]; rfl,hp⟩
theorem Path.part {L:Ld} {i:Int} {q:List Int} (h:Path L i q):∀ j,j ∈ q→∃ p q',q=p++q'∧Path L j q':=path_part q i h
theorem path_from (L:Ld):∀ (n:Nat) (S:List Int) (i:Int),WIn S→n+S.length=10→(∀ s ∈ S,L.wh s.toNat=2)→S ≠ [] →
 L.wh ((wayFrom L n S i).getD ((wayFrom L n S i).length - 1) 0).toNat ≠ 2→∃ t,wayFrom L n S i=S++t∧Path L i t:=by
 intro n
 induction n with
 | zero =>
  intro S i h hn
  have:=pigeon 9 S h.nodup h.inn
  omega
 | succ n ih =>
  intro S i h hn h2 hne hl
  simp only [wayFrom] at hl ⊢
  by_cases hc:amg i 9=true∧i ∉ S
  ·rw [if_pos hc] at hl ⊢
   have hs:=(h.snoc hc.1 hc.2).1
   by_cases hw:L.wh i.toNat=2
   ·rw [if_pos hw] at hl ⊢
    obtain ⟨t,e,hp⟩:=ih (S++[i]) (L.loc i.toNat) hs (by simp; omega) (by
     intro s hs
     rcases List.mem_append.1 hs with hs | hs
     ·exact h2 s hs
     ·rw [List.mem_singleton.1 hs]; exact hw) (by simp) hl
    exact ⟨i::t,by rw [e]; simp,Path.step i t hc.1 hw hp⟩
   ·rw [if_neg hw]
    exact ⟨[i],rfl,Path.stop i hc.1 hw⟩
  ·rw [if_neg hc] at hl
   have hp:0 < S.length:=List.length_pos_iff.2 hne
   exact absurd (h2 _ (getD_mem (q:=S) (k:=S.length - 1) (by omega))) hl
theorem wayL_eq (L:Ld) (i:Int):wayL L i=if amg i 9=true∧i ∉ ([]:List Int) then (if L.wh i.toNat=2 then wayFrom L 9 ([]++[i]) (L.loc i.toNat) else []++[i]) else []:=rfl
theorem path_way (L:Ld) {i:Int} (hi:amg i 9=true) (hl:L.wh (lastW L i) ≠ 2):Path L i (wayL L i):=by
 unfold lastW at hl
 rw [wayL_eq] at hl ⊢
 have h0:WIn []:=⟨List.nodup_nil,fun s h=>by simp at h⟩
 have hs:=(h0.snoc hi (by simp)).1
 rw [if_pos ⟨hi,by simp⟩] at hl ⊢
 by_cases hw:L.wh i.toNat=2
 ·rw [if_pos hw] at hl ⊢
  obtain ⟨t,e,hp⟩:=path_from L 9 ([]++[i]) (L.loc i.toNat) hs rfl (by
   intro s hs
   simp at hs
   rw [hs]; exact hw) (by simp) hl
  rw [e]
  exact Path.step i t hi hw hp
 ·rw [if_neg hw]
  exact Path.stop i hi hw
theorem good_T {L:Ld} (hg:goodL L=true) (i:Nat) (hi:i < 9):goodT L i=true:=by
 unfold goodL at hg
 simp only [Bool.and_eq_true] at hg
 exact List.all_eq_true.1 hg.2 i (by simp [hi])
theorem good_B {L:Ld} (hg:goodL L=true) (b:Nat) (hb:b < 6):goodB L b=true:=by
 unfold goodL at hg
 simp only [Bool.and_eq_true] at hg
 exact List.all_eq_true.1 hg.1.2 b (by simp [hb])
theorem good_way {L:Ld} (hg:goodL L=true) {i:Int} (hi:amg i 9=true):Path L i (wayL L i):=by
 have h9:=amg_pos hi
 have:=good_T hg i.toNat (by omega)
 unfold goodT at this
 rw [show ((i.toNat:Nat):Int)=i by omega] at this
 refine path_way L hi ?_
 simp only [Bool.and_eq_true,Bool.not_eq_true',beq_eq_false_iff_ne] at this
 exact this.2
theorem good_nl:goodL nl=true:=by kernel_rfl
end Go.Proofs.YtncgcejlkmoliaaGreatDoor
