import Derived.Test.YtncgcejlkmoliaaGreatDoorMh00
import Derived.Test.YtncgcejlkmoliaaGreatDoorMh01
import Derived.Test.YtncgcejlkmoliaaGreatDoorMh02
import Derived.Test.YtncgcejlkmoliaaGreatDoorMh03
import Derived.Test.YtncgcejlkmoliaaGreatDoorMh04
import Derived.Test.YtncgcejlkmoliaaGreatDoorMh05
import Derived.Test.YtncgcejlkmoliaaGreatDoorMh06
import Derived.Test.YtncgcejlkmoliaaGreatDoorMh07
import Derived.Test.YtncgcejlkmoliaaGreatDoorMh08
import Derived.Test.YtncgcejlkmoliaaGreatDoorMh09
import Derived.Test.YtncgcejlkmoliaaGreatDoorMh10
import Derived.Test.YtncgcejlkmoliaaGreatDoorMh11
import Derived.Test.YtncgcejlkmoliaaGreatDoorMh12
import Derived.Test.YtncgcejlkmoliaaGreatDoorMh13
import Derived.Test.YtncgcejlkmoliaaGreatDoorMh14
import Derived.Test.YtncgcejlkmoliaaGreatDoorMh15
import Derived.Test.YtncgcejlkmoliaaGreatDoorMh16
import Derived.Test.YtncgcejlkmoliaaGreatDoorMh17
import Derived.Test.YtncgcejlkmoliaaGreatDoorMh18
import Derived.Test.YtncgcejlkmoliaaGreatDoorMh19
import Derived.Test.YtncgcejlkmoliaaGreatDoorMh20
import Derived.Test.YtncgcejlkmoliaaGreatDoorMh21
import Derived.Test.YtncgcejlkmoliaaGreatDoorMh22
import Derived.Test.YtncgcejlkmoliaaGreatDoorMh46
import Derived.Test.YtncgcejlkmoliaaGreatDoorMh23
import Derived.Test.YtncgcejlkmoliaaGreatDoorMk24
import Derived.Test.YtncgcejlkmoliaaGreatDoorMk25
import Derived.Test.YtncgcejlkmoliaaGreatDoorMh26
import Derived.Test.YtncgcejlkmoliaaGreatDoorMk27
import Derived.Test.YtncgcejlkmoliaaGreatDoorMh28
import Derived.Test.YtncgcejlkmoliaaGreatDoorMk29
import Derived.Test.YtncgcejlkmoliaaGreatDoorMk30
import Derived.Test.YtncgcejlkmoliaaGreatDoorMk31
import Derived.Test.YtncgcejlkmoliaaGreatDoorMk32
import Derived.Test.YtncgcejlkmoliaaGreatDoorMk33
import Derived.Test.YtncgcejlkmoliaaGreatDoorMk34
import Derived.Test.YtncgcejlkmoliaaGreatDoorMk35
import Derived.Test.YtncgcejlkmoliaaGreatDoorMh45
import Derived.Test.YtncgcejlkmoliaaGreatDoorMh36
import Derived.Test.YtncgcejlkmoliaaGreatDoorMh37
import Derived.Test.YtncgcejlkmoliaaGreatDoorMh38
import Derived.Test.YtncgcejlkmoliaaGreatDoorMk39
import Derived.Test.YtncgcejlkmoliaaGreatDoorMk40
import Derived.Test.YtncgcejlkmoliaaGreatDoorMk41
import Derived.Test.YtncgcejlkmoliaaGreatDoorMk42
import Derived.Test.YtncgcejlkmoliaaGreatDoorMk43
import Derived.Test.YtncgcejlkmoliaaGreatDoorMk44
import Derived.Test.YtncgcejlkmoliaaGreatDoorRows
import Derived.Test.YtncgcejlkmoliaaGreatDoorMk47
set_option linter.unusedVariables false
set_option maxRecDepth 100000
set_option maxHeartbeats 16000000
namespace Go.Proofs.YtncgcejlkmoliaaGreatDoor.Ho
open Go.RowKit
theorem ok_good {P:Pa.Pg} (h:Pa.Ok P):Pa.goodP P=true:=by
 have h1:=h.ring
 have h2:=h.lo
 have h3:=h.hi
 have h4:=h.len
 simp only [Pa.goodP,Pa.gheight,Bool.and_eq_true,decide_eq_true_eq]
 exact ⟨⟨h4,h1⟩,h2,h3⟩
section
variable {S:Se}
end
open Go.RowKit
theorem flowL_idem (h:Int):∀ (q:List ByteArray) (P:Pa.Pg),P.wait=q→Pa.flowP h (Pa.flowL h q P)=Pa.flowL h q P:=by
 intro q
 induction q with
 | nil=>intro P hw; exact Pa.flow_nil hw
 | cons f r ih =>
  intro P hw
  unfold Pa.flowL
  by_cases h1:P.asking=true∨P.cut=true
  ·rw [if_pos h1]; exact Pa.flow_stop h1
  ·rw [if_neg h1]
   by_cases h2:h ≠ 0∧h≤P.shown
   ·rw [if_pos h2]; exact Pa.flow_stop (.inl (by unfold Pa.askedP; rw [Pa.sent_asking]))
   ·rw [if_neg h2]; exact ih _ (by unfold Pa.shownP; rw [Pa.sent_wait])
theorem flowR_idem (P:Pa.Pg) (h:Int):Pa.flowR (Pa.flowR P h) h=Pa.flowR P h:=by
 unfold Pa.flowR
 by_cases h1:Pa.flowG P h=true
 ·simp only [if_pos h1]
  have e:Pa.flowP h (Pa.flowP h P)=Pa.flowP h P:=flowL_idem h P.wait P rfl
  rw [e]
  split <;> rfl
 ·simp only [if_neg h1]
theorem flowS_idem (S:Se):flowS (flowS S)=flowS S:=by
 unfold flowS
 simp only [flowR_idem]
theorem cutK_still (M:Hm):∀ k,(cutK M k).2=false→(cutK M k).1={ M with seat:=fun j=>if j < k then (M.seat j).map flowS else M.seat j }∧∀ j S,j < k→M.seat j=some S→(flowS S).pg.cut=false:=by
 intro k
 induction k with
 | zero =>
  intro _
  refine ⟨?_,fun j S hj=>by omega⟩
  have e:(fun j=>if j < 0 then (M.seat j).map flowS else M.seat j)=M.seat:=by funext j; rw [if_neg (by omega)]
  rw [e]; rfl
 | succ k ih =>
  intro h
  simp only [cutK,Bool.or_eq_false_iff] at h
  obtain ⟨h1,h2⟩:=h
  obtain ⟨e1,e2⟩:=ih h1
  simp only [cutK]
  rw [e1] at h2 ⊢
  unfold cutsM at h2 ⊢
  simp only [Nat.lt_irrefl,if_false] at h2 ⊢
  cases hS:M.seat k with
  | none =>
   refine ⟨?_,fun j S hj hj2=>?_⟩
   ·simp only
    congr 1
    funext j
    by_cases hj:j=k
    ·subst hj; rw [if_neg (by omega),if_pos (by omega),hS]; rfl
    ·by_cases hl:j < k
     ·rw [if_pos hl,if_pos (by omega)]
     ·rw [if_neg hl,if_neg (by omega)]
   ·by_cases e:j=k
    ·subst e; rw [hS] at hj2; cases hj2
    ·exact e2 j S (by omega) hj2
  | some S =>
   simp only [hS] at h2 ⊢
   by_cases hc:(flowS S).pg.cut=true
   ·rw [if_pos hc] at h2; cases h2
   ·rw [if_neg hc]
    refine ⟨?_,fun j T hj hj2=>?_⟩
    ·simp only [Hm.put]
     congr 1
     funext j
     by_cases hj:j=k
     ·subst hj; rw [if_pos rfl,if_pos (by omega),hS]; rfl
     ·rw [if_neg hj]
      by_cases hl:j < k
      ·rw [if_pos hl,if_pos (by omega)]
      ·rw [if_neg hl,if_neg (by omega)]
    ·by_cases e:j=k
     ·subst e; rw [hS] at hj2; injection hj2 with hj2; subst hj2; simpa using hc
     ·exact e2 j T (by omega) hj2
theorem flow_fin {Q:Hm→Prop} (hQ:∀ X,Q X→Q (cutM X).1):∀ (n:Nat) {N:Nat} {M:Hm},Iv N M→cnt M < n→Q M→∃ X,Q X∧flowN n M=(cutM X).1∧(cutM X).2=false:=by
 intro n
 induction n with
 | zero=>intro N M h hc; omega
 | succ n ih =>
  intro N M h hc hM
  obtain ⟨N1,h1,h2,h3,h4⟩:=h.cutK 4 (Nat.le_refl _)
  unfold flowN
  by_cases e:(cutM M).2=true
  ·rw [if_pos e]
   have hlt:=h4 e
   exact ih h1 (by show cnt (cutK M 4).1 < n; omega) (hQ M hM)
  ·rw [if_neg e]
   exact ⟨M,hM,rfl,by simpa using e⟩
theorem flow_last {Q:Hm→Prop} (hQ:∀ X,Q X→Q (cutM X).1) {N:Nat} {M:Hm} (h:Iv N M) (hM:Q M):∃ X,Q X∧flowM M={ X with seat:=fun j=>if j < 4 then (X.seat j).map flowS else X.seat j }∧∀ j S,j < 4→X.seat j=some S→(flowS S).pg.cut=false:=by
 obtain ⟨X,h1,h2,h3⟩:=flow_fin hQ 5 h (by have:=cnt_le M; omega) hM
 obtain ⟨e1,e2⟩:=cutK_still X 4 h3
 exact ⟨X,h1,h2.trans e1,e2⟩
def St (M:Hm):Prop:=∀ i S,i < 4→M.seat i=some S→flowS S=S∧S.pg.cut=false
theorem st_new:St newM:=fun i S _ h=>by cases h
theorem st_forget {M:Hm} (h:St M) (n:Nat):St { forgetM M with acts:=n }:=fun i S hi hS=>by
 simp only [forgetM,Option.map_eq_some_iff] at hS
 obtain ⟨T,hT,rfl⟩:=hS
 obtain ⟨h1,h2⟩:=h i T hi hT
 exact ⟨by have:=congrArg Se.pg h1; unfold flowS at this ⊢; simp only at this ⊢; rw [this],h2⟩
theorem st_flow {N:Nat} {M:Hm} (h:Iv N M):St (flowM M):=by
 obtain ⟨X,_,e,hc⟩:=flow_last (Q:=fun _=>True) (fun _ _=>trivial) h trivial
 rw [e]
 intro i S hi hS
 simp only [if_pos hi,Option.map_eq_some_iff] at hS
 obtain ⟨T,hT,rfl⟩:=hS
 exact ⟨flowS_idem T,hc i T hi hT⟩
theorem Iv.st {M:Hm} (h:Iv 1000 M) (hs:St M) (a:Ac):St (doM M a).1:=by
 unfold doM
 split
 ·exact hs
 ·split
  ·rename_i hr
   exact st_flow ((h.forget (M.acts+1)).act (a:=a) hr)
  ·exact st_forget hs _
theorem run_st (l:List Ac):∀ {M:Hm},Iv 1000 M→St M→St (runM M l):=by
 induction l with
 | nil=>intro M _ h; exact h
 | cons a r ih=>intro M h1 h2; exact ih (h1.does a) (h1.st h2 a)
open Go.RowKit
theorem at_nat (M:Hm) {i:Nat} (h:i < 4):seatAt M (i:Int)=M.seat i:=by unfold seatAt; rw [if_pos (by omega),Int.toNat_natCast]
def uK (M:Hm):Nat→Nat→Bool
 | 0=>fun _=>false
 | k+1=>fun b=>uK M k b || (match M.seat k with | some S=>decide (S.being=(b:Int)) | none=>false)
theorem uK_iff (M:Hm) (b:Nat):∀ k,uK M k b=true→∃ i S,i < k∧M.seat i=some S∧S.being=(b:Int):=by
 intro k
 induction k with
 | zero=>intro h; cases h
 | succ k ih =>
  intro h
  simp only [uK,Bool.or_eq_true] at h
  rcases h with h | h
  ·obtain ⟨i,S,hi,h1,h2⟩:=ih h
   exact ⟨i,S,by omega,h1,h2⟩
  ·cases hS:M.seat k with
   | none=>rw [hS] at h; cases h
   | some S=>rw [hS] at h; exact ⟨k,S,by omega,hS,by simpa using h⟩
theorem uK_mk {M:Hm} {b i:Nat} {S:Se} (hS:M.seat i=some S) (hb:S.being=(b:Int)):∀ k,i < k→uK M k b=true:=by
 intro k
 induction k with
 | zero=>intro h; omega
 | succ k ih =>
  intro h
  simp only [uK,Bool.or_eq_true]
  by_cases e:i=k
  ·subst e; right; rw [hS]; simpa using hb
  ·exact .inl (ih (by omega))
def b6 (u:Nat→Bool):Array Value:=#[.bool (u 0),.bool (u 1),.bool (u 2),.bool (u 3),.bool (u 4),.bool (u 5)]
theorem b6_set (f:Nat→Bool) {k:Nat} (hk:k < 6) (x:Bool):(b6 f).setIfInBounds k (.bool x)=b6 (fun j=>if j=k then x else f j):=by
 match k,hk with
 | 0,_=>rfl
 | 1,_=>rfl
 | 2,_=>rfl
 | 3,_=>rfl
 | 4,_=>rfl
 | 5,_=>rfl
theorem b6_cell {w:World} {g T:Nat} {f:Nat→Bool} (h:w.heap[g]?=some (.cells (b6 f) T (0,0))) {k:Nat} (hk:k < 6):w.cell? ⟨g,k,none⟩=some (.bool (f k)):=by
 rw [cell_of_row _ _ _ _ _ _ h]
 match k,hk with
 | 0,_=>rfl
 | 1,_=>rfl
 | 2,_=>rfl
 | 3,_=>rfl
 | 4,_=>rfl
 | 5,_=>rfl
theorem b6_congr {f g:Nat→Bool} (h:∀ i,i < 6→f i=g i):b6 f=b6 g:=by
 unfold b6
 rw [h 0 (by omega),h 1 (by omega),h 2 (by omega),h 3 (by omega),h 4 (by omega),h 5 (by omega)]
theorem seat_facts {M:Hm} (h:Iv 1000 M) (hs:St M) {k:Nat} (hk:k < 4):Pa.goodP (pageOf (seatAt M k))=true∧(pageOf (seatAt M k)).cut=false∧Pa.Small (pageOf (seatAt M k))∧Li.good (lineOf (seatAt M k))=true∧Li.Small (lineOf (seatAt M k))∧(pageOf (seatAt M k)).wait.length≤1000000∧(lineOf (seatAt M k)).q.length≤1000000:=by
 have hsm:=iv_small h k hk
 rw [at_nat M hk] at hsm ⊢
 cases hS:M.seat k with
 | none=>exact ⟨ok_good ok_zp,rfl,ok_small ok_zp,(Li.fine_iff _).2 fine_zl,Li.small_of fine_zl,by decide,by decide⟩
 | some S =>
  rw [hS] at hsm
  have hSo:=(h.sv.seat k S hk hS).1
  exact ⟨ok_good hSo.pg,(hs k S hk hS).2,ok_small hSo.pg,(Li.fine_iff _).2 hSo.lin,Li.small_of hSo.lin,hsm.1,hsm.2⟩
theorem state_facts {M:Hm} (h:Iv 1000 M) {k:Nat} (hk:k < 4) :
 ((stateOf (seatAt M k)).1 ≠ 2∧∀ b,b < 6→uK M (k+1) b=uK M k b)∨∃ b:Nat,stateOf (seatAt M k)=(2,(b:Int))∧2≤b∧b < 6∧M.L.here b=true∧namedB (M.L.bname b)=true∧uK M k b=false∧(∀ j,j < 6→(if j=b then true else uK M k j)=uK M (k+1) j)∧∀ c,c < 6→c ≠ b→M.L.here c=true→M.L.bname c ≠ M.L.bname b:=by
 rw [at_nat M hk]
 cases hS:M.seat k with
 | none=>exact .inl ⟨by decide,fun b _=>by simp only [uK,hS,Bool.or_false]⟩
 | some S =>
  cases hp:plays S with
  | false =>
   refine .inl ⟨by simp [stateOf,hp],fun b _=>?_⟩
   have:S.being=-1:=by simpa [plays] using hp
   simp only [uK,hS,this]
   have e:decide ((-1:Int)=(b:Int))=false:=by rw [decide_eq_false_iff_not]; omega
   rw [e,Bool.or_false]
  | true =>
   obtain ⟨b,hb,h2,h6,hh⟩:=h.play k S hk hS hp
   refine .inr ⟨b,by simp only [stateOf,hp,if_true,hb],h2,h6,hh,h.named b h2 h6 hh,?_,fun j _=>?_,fun c hc hne hhc e=>h.uniq b c h2 h6 hc (fun x=>hne x.symm) hh hhc e.symm⟩
   ·cases e:uK M k b with
    | false=>rfl
    | true =>
     obtain ⟨i,T,hi,hT,hTb⟩:=uK_iff M b k e
     have:=h.one k i S T hk (by omega) hS hT hp (hb.trans hTb.symm)
     omega
   ·simp only [uK,hS,hb]
    by_cases e:j=b
    ·subst e; simp
    ·rw [if_neg e]
     have:decide ((b:Int)=(j:Int))=false:=by rw [decide_eq_false_iff_not]; omega
     rw [this,Bool.or_false]
theorem all_used {M:Hm} (h:Iv 1000 M) {b:Nat} (h2:2≤b) (h6:b < 6) (hh:M.L.here b=true):uK M 4 b=true:=by
 obtain ⟨i,S,hi,hS,hb⟩:=h.all b h2 h6 hh
 exact uK_mk hS hb 4 hi
theorem field_cut (P:Pa.Pg) (v:Value) (w:World):(Instr.field 51 (.agg (P.cells v)) 4).run Tryz.prog w=.ok (.bool P.cut) w:=by
 unfold Instr.field
 rw [Sem.run_bind,run_underlying Tryz.underlying51 w]
 have hp:=part1 (w:=w) 4 _ Tryz.underlying4 rfl 4 (.bool P.cut) (P.cells v) rfl
 simp [asAgg,hp]
theorem wl_cut {ops:Array Oper} {rest:List Oper} {op:Oper} {x:Act} {w:World} {Q:Exit→Act→World→Prop} {P:Pa.Pg} {v:Value} (y:Operand) (ho:op.op=.field 51 y 4) (hw:Region.wanted op (yielded ops x.tmps)=true) (hx:x.eval y=.agg (P.cells v))
 (h:wpList Tryz.prog ops Q rest (x.put op.dst (.bool P.cut)) w):wpList Tryz.prog ops Q (op::rest) x w:=by
 refine wl_wanted hw ?_
 unfold Oper.wp execOp
 simp only [ho,hx,Sem.run_bind,field_cut,Result.andThen_ok,Sem.run_pure]
 exact h
theorem Tryz.sizeBool:(Tryz.prog.info? 4).map (·.size)=some 1:=by kernel_rfl
theorem goodC {W0:World} {lab:Nat→Nat} {w:World} {hb:Nat} {M:Hm} (H:HoC W0 lab w hb M) (hI:Iv 1000 M) (hSt:St M) (a:Ac) (c:Int) (s:ByteArray) :
 Calls Tryz.prog 26 (#[.pointer (some ⟨hb,0,none⟩),.agg a.cells,.agg #[.int .i64 c,.string s]]++#[]) w fun e w'=>e=.returned (.bool true)∧Below w.heap.size w w':=by
 have e:(#[.pointer (some ⟨hb,0,none⟩),.agg a.cells,.agg #[.int .i64 c,.string s]]++#[]:Array Value)=#[.pointer (some ⟨hb,0,none⟩),.agg a.cells,.agg #[.int .i64 c,.string s]]:=by simp
 rw [e]
 clear e
 have hz:=(zero_of_info Tryz.zLand).1
 have B0:=((Below.refl w.heap.size w).alloc (Nat.le_refl _) (.cells a.cells 23)).alloc (by simp) (.cells #[.int .i64 c,.string s] 29)
 have CL:=hide (land_any (H.below B0))
 have HB:=hide B0
 have HH:=hide H
 have HI:=hide hI
 have HS:=hide hSt
 have WF:=hide (wf_of hI.fine)
 have GD:=hide hI.good
 clear H B0 hI hSt
 generalize hL:M.L=L at *
 have HL:=hide hL
 clear hL
 go_enter Tryz.func26,Tryz.ntmps26
 go_upto_region 2 with (first | (go_at_call 18; refine CL.out.mono ?_; rintro e w1 ⟨rfl,b1⟩) | (refine wl_new 43 (.tmp 7) (.tmp 15) rfl rfl _ _ rfl rfl rfl (by rw [L.size]; exact Tryz.sizeLand) (by rw [L.size,zl.size]) (land_one L) ?_))
 have B1:=HB.out.trans (b1.mono HB.out.size)
 have B2:=hide (B1.alloc B1.size (.cells L.cells 43))
 have KL:=hide (cod_new w1 L)
 clear CL b1 B1 HB
 generalize w1.heap.size=bl at *
 generalize w1.alloc (.cells L.cells 43)=w2 at *
 have CG:=hide (good_any L w2 WF.out)
 rw [GD.out] at CG
 go_upto_region 4 with (first | (refine wl_land (.tmp 7) rfl rfl _ L rfl KL.out ?_) | (go_at_call 27; refine CG.out.mono ?_; rintro e w3 ⟨rfl,b3⟩))
 have B3:=hide (B2.out.trans (b3.mono B2.out.size))
 have KL3:=hide (KL.out.behind b3 (Nat.le_refl _))
 clear CG b3 B2 KL
 go_upto_region 6 with fail
 have U0:=hide (show (w3.alloc (.cells #[.bool false,.bool false,.bool false,.bool false,.bool false,.bool false] 32)).heap[w3.heap.size]?=some (.cells (b6 (uK M 0)) 32 (0,0)) from heap_alloc_new w3 _)
 have B4:=hide (B3.out.alloc B3.out.size (.cells #[.bool false,.bool false,.bool false,.bool false,.bool false,.bool false] 32))
 have KL4:=hide (KL3.out.alloc (.cells #[.bool false,.bool false,.bool false,.bool false,.bool false,.bool false] 32))
 have hub:w.heap.size≤w3.heap.size:=B3.out.size
 have hbu:bl < w3.heap.size:=KL3.out.lt
 clear B3 KL3 w2
 generalize w3.heap.size=ub at *
 generalize w3.alloc (.cells #[.bool false,.bool false,.bool false,.bool false,.bool false,.bool false] 32)=w4 at *
 go_loopw [20] (fun i wr=>∃ k:Nat,k≤4∧i=.int .i64 (k:Int)∧Below w.heap.size w wr∧Cod wr bl L∧wr.heap[ub]?=some (.cells (b6 (uK M k)) 32 (0,0))) (fun i _=>4 - (intOf i).toNat)
 case atStart=>exact ⟨0,by omega,rfl,B4.out,KL4.out,U0.out⟩
 case round =>
  obtain ⟨k,hk,rfl,Bk,Ck,Uk⟩:=hrel
  clear B4 KL4 U0
  by_cases hk4:k < 4
  ·have hki:(k:Int) < 4:=by omega
   obtain ⟨f1,f2,f3,f4,f5,f6,f7⟩:=seat_facts HI.out HS.out hk4
   have SF:=hide (state_facts HI.out hk4)
   rw [HL.out] at SF
   have B:=hide Bk
   have C:=hide Ck
   have U:=hide Uk
   have F1:=hide f1
   have F2:=hide f2
   have F4:=hide f4
   clear Bk Ck Uk f1 f2 f4
   go_wp2_with fail
   refine (page_any (HH.out.below B.out) (k:Int) f6).mono ?_
   rintro e w5 ⟨v5,rfl,o5,b5⟩
   go_wp2_with fail
   refine (Pa.pgood_any _ v5 w5 (reads_own o5) f3).mono ?_
   rintro e w6 ⟨rfl,b6'⟩
   rw [F1.out]
   have B6:=hide (B.out.trans ((b5.trans (b6'.mono b5.size)).mono B.out.size))
   have C6:=hide ((C.out.behind b5 (Nat.le_refl _)).behind b6' (Nat.le_refl _))
   have U6:=hide ((b6'.block _ (Nat.lt_of_lt_of_le (Array.getElem?_eq_some_iff.1 U.out).1 b5.size)).trans ((b5.block _ (Array.getElem?_eq_some_iff.1 U.out).1).trans U.out))
   clear B C U o5 b5 b6'
   go_wp2_with fail
   refine (page_any (HH.out.below B6.out) (k:Int) f6).mono ?_
   rintro e w7 ⟨v7,rfl,o7,b7⟩
   have B7:=hide (B6.out.trans (b7.mono B6.out.size))
   have C7:=hide (C6.out.behind b7 (Nat.le_refl _))
   have U7:=hide ((b7.block _ (Array.getElem?_eq_some_iff.1 U6.out).1).trans U6.out)
   clear B6 C6 U6 o7 b7
   go_wp2_with (refine wl_cut (.tmp 31) rfl rfl rfl ?_; rw [F2.out])
   refine (line_any (HH.out.below B7.out) (k:Int) f7).mono ?_
   rintro e w8 ⟨v8,rfl,o8,b8⟩
   go_wp2_with fail
   refine (Li.good_any _ v8 w8 (reads_own o8) f5).mono ?_
   rintro e w9 ⟨rfl,b9⟩
   rw [F4.out]
   have bb:=b8.trans (b9.mono b8.size)
   have B9:=hide (B7.out.trans (bb.mono B7.out.size))
   have C9:=hide (C7.out.behind bb (Nat.le_refl _))
   have U9:=hide ((bb.block _ (Array.getElem?_eq_some_iff.1 U7.out).1).trans U7.out)
   clear B7 C7 U7 o8 b8 b9 bb
   go_wp2_with fail
   refine (state_any (HH.out.below B9.out) (k:Int)).mono ?_
   rintro e w10 ⟨rfl,b10⟩
   have B10:=hide (B9.out.trans (b10.mono B9.out.size))
   have C10:=hide (C9.out.behind b10 (Nat.le_refl _))
   have U10:=hide ((b10.block _ (Array.getElem?_eq_some_iff.1 U9.out).1).trans U9.out)
   clear B9 C9 U9 b10 F1 F2 F4 f3 f5 f6 f7
   generalize stateOf (seatAt M (k:Int))=st at *
   rcases SF.out with ⟨n2,hsame⟩ | ⟨b,rfl,hb2,hb6,hbh,hbn,hbu',hnext,huniq⟩
   ·have n2b:(st.1 != 2)=true:=by simp [n2]
    have UU:=hide ((show w10.heap[ub]?=some (.cells (b6 (uK M (k+1))) 32 (0,0)) by rw [b6_congr hsame]; exact U10.out))
    clear SF n2 hsame U10
    go_wp2
    exact ⟨⟨k+1,by omega,by go_num,B10.out,C10.out,UU.out⟩,by simp [intOf]; omega⟩
   ·have cu:=b6_cell U10.out hb6
    rw [hbu'] at cu
    have ch:=C10.out.being b 1 hb6 (by omega)
    have cn:=C10.out.being b 0 hb6 (by omega)
    simp only [Ld.beingCell,Nat.add_zero] at ch cn
    rw [hbh] at ch
    have hbi2:¬ (b:Int) < 2:=by omega
    have hbi6:¬ 6≤(b:Int):=by omega
    have hbi6':(b:Int) < 6:=by omega
    have HU:=hide huniq
    have HNX:=hide hnext
    have HBN:=hide hbn
    have hsz:(L.bname b).size≤140737488355328:=by
     have:=(HI.out.nm.bz b hb6)
     rw [HL.out] at this; omega
    clear SF huniq hnext hbn hbu'
    go_wp2_with fail
    refine (rnamed_any (L.bname b) w10 hsz).mono ?_
    rintro e w11 ⟨rfl,rfl⟩
    rw [HBN.out]
    go_upto_region 16 with (refine wl_over1 4 (.tmp 78) _ rfl rfl ub b (.bool true) _ _ 32 rfl rfl U10.out (by show b < 6; omega) Tryz.sizeBool rfl (b6_set _ hb6 _) ?_; intro W1 g1 u1)
    have B11:=hide (Upd.below B10.out u1 hub)
    have C11:=hide (show Cod W1 bl L from (u1.block _ (by omega)).trans C10.out)
    have U11:=hide (show W1.heap[ub]?=some (.cells (b6 (uK M (k+1))) 32 (0,0)) by rw [g1,b6_congr HNX.out])
    clear B10 C10 U10 g1 u1 cu ch cn HNX HBN
    have HK:=hide hk4
    clear wr hk4 hk hki
    go_loopw [79] (fun i wr=>∃ c:Nat,c≤6∧i=.int .i64 (c:Int)∧Below w.heap.size w wr∧Cod wr bl L∧wr.heap[ub]?=some (.cells (b6 (uK M (k+1))) 32 (0,0))) (fun i _=>6 - (intOf i).toNat)
    case atStart=>exact ⟨0,by omega,rfl,B11.out,C11.out,U11.out⟩
    case round =>
     obtain ⟨d,hd,rfl,Bd,Cd,Ud⟩:=hrel
     clear B11 C11 U11
     by_cases hd6:d < 6
     ·have hdi:(d:Int) < 6:=by omega
      have ch:=Cd.being d 1 hd6 (by omega)
      have cn:=Cd.being d 0 hd6 (by omega)
      have bn:=Cd.being b 0 hb6 (by omega)
      simp only [Ld.beingCell,Nat.add_zero] at ch cn bn
      have B:=hide Bd
      have C:=hide Cd
      have U:=hide Ud
      clear Bd Cd Ud
      by_cases e:d=b
      ·subst e
       clear ch cn bn
       go_upto_region 18 with fail
       go_quiet (fail)
       go_wp2
       exact ⟨⟨d+1,by omega,by go_num,below_drewN B.out _,C.out,U.out⟩,by simp [intOf]; omega⟩
      ·have hne:((d:Int) != (b:Int))=true:=by simp; omega
       cases hh:L.here d with
       | false =>
        rw [hh] at ch
        clear cn bn
        go_upto_region 18 with fail
        go_quiet (fail)
        go_wp2
        exact ⟨⟨d+1,by omega,by go_num,below_drewN B.out _,C.out,U.out⟩,by simp [intOf]; omega⟩
       | true =>
        rw [hh] at ch
        have hs:=str_ne (HU.out d hd6 e hh)
        go_upto_region 18 with fail
        go_quiet (fail)
        go_wp2
        exact ⟨⟨d+1,by omega,by go_num,below_drewN B.out _,C.out,U.out⟩,by simp [intOf]; omega⟩
     ·obtain rfl:d=6:=by omega
      have B:=hide Bd
      have C:=hide Cd
      have U:=hide Ud
      have hk4:=HK.out
      clear Bd Cd Ud
      go_wp2
      exact ⟨⟨k+1,by omega,by go_num,B.out,C.out,U.out⟩,by simp [intOf]; omega⟩
  ·obtain rfl:k=4:=by omega
   have B:=hide Bk
   have C:=hide Ck
   have U:=hide Uk
   have AU:=hide (fun b h2 h6 hh=>all_used (M:=M) HI.out (b:=b) h2 h6 hh)
   rw [HL.out] at AU
   clear Bk Ck Uk
   go_upto_region 23 with fail
   generalize wr=wz at *
   clear wr
   go_loopw [13] (fun i wr=>∃ d:Nat,2≤d∧d≤6∧i=.int .i64 (d:Int)∧Below w.heap.size w wr∧Cod wr bl L∧wr.heap[ub]?=some (.cells (b6 (uK M 4)) 32 (0,0))) (fun i _=>6 - (intOf i).toNat)
   case atStart=>exact ⟨2,by omega,by omega,rfl,B.out,C.out,U.out⟩
   case round =>
    obtain ⟨d,hd2,hd,rfl,Bd,Cd,Ud⟩:=hrel
    clear B C U
    by_cases hd6:d < 6
    ·have hdi:(d:Int) < 6:=by omega
     have ch:=Cd.being d 1 hd6 (by omega)
     have cu:=b6_cell Ud hd6
     simp only [Ld.beingCell] at ch
     have B:=hide Bd
     have C:=hide Cd
     have U:=hide Ud
     clear Bd Cd Ud
     cases hh:L.here d with
     | false =>
      rw [hh] at ch
      clear cu
      go_wp2
      exact ⟨⟨d+1,by omega,by omega,by go_num,B.out,C.out,U.out⟩,by simp [intOf]; omega⟩
     | true =>
      rw [hh] at ch
      rw [AU.out d hd2 hd6 hh] at cu
      go_wp2
      exact ⟨⟨d+1,by omega,by omega,by go_num,B.out,C.out,U.out⟩,by simp [intOf]; omega⟩
    ·obtain rfl:d=6:=by omega
     have B:=hide Bd
     clear Bd Cd Ud
     go_wp2
     go_ret
     exact ⟨rfl,B.out⟩
open Go.RowKit
theorem gd_enter (args:Array Value) (w:World):(callFunc 26 args).run Tryz.prog w=.ok (.enter 26 args) w:=by kernel_rfl
theorem goodW {v:Value} {l:List Ac} {w:World} (hvb:Vb w) (hai:Ai w) (hl:Rac w v l) (hsz:∀ a ∈ l,a.bytes.size≤140737488351232) :
 Calls Tryz.prog 4 #[v] w fun e w'=>e=.returned (.bool true)∧Below w.heap.size w w':=by
 have P:=hide (play_any hvb hai hl hsz 26 #[] (fun _ _ _ _=>True) (Below.refl _ _) gd_enter (fun _ _ _ _ _=>trivial) (fun _ _ _ _ _ _ _ _ _=>trivial)
  (fun hb done a lab W hlen hsz H hJ=>by
   obtain ⟨iv,_⟩:=run_iv (done++[a]) iv_new (by decide)
   exact (goodC H iv (run_st (done++[a]) iv_new st_new) a _ _).mono fun e W' ⟨he,h1⟩=>⟨he,lab,H.below h1,trivial⟩))
 obtain ⟨av,cap,rfl,_⟩:=hl
 clear hvb hai hsz
 go_enter Tryz.func4,Tryz.ntmps4
 go_wp2_with fail
 refine P.out.mono ?_
 rintro e w2 ⟨hb,lab,rfl,_,H,_⟩
 have B:=hide H.low
 clear P H
 go_wp2
 go_ret
 exact ⟨rfl,B.out⟩
end Go.Proofs.YtncgcejlkmoliaaGreatDoor.Ho
namespace Go.Proofs.YtncgcejlkmoliaaGreatDoor.topGood
open Go.ChangeShapes Go.WideShapes Go.ChangeAt Go.RowKit
theorem c_place:(Rows.topGoodRow.inPlace==Tryz.prog.inPlace 4)=true:=by kernel_rfl
theorem c_unf:(Rows.topGoodRow.unfollowed==Tryz.prog.unfollowed 4)=true:=by kernel_rfl
theorem c_rec:(Rows.topGoodRow.recurses==Tryz.prog.recurses 4)=true:=by kernel_rfl
theorem c_named:(Rows.topGoodRow.named==Tryz.prog.varsNamed 4)=true:=by kernel_rfl
theorem c_tie:namedTie Tryz.prog Rows.topGoodRow.named Rows.topGoodSpec.vars=true:=by kernel_rfl
theorem c_enter:Tryz.prog.mayEnter=true:=by kernel_rfl
theorem c_lift:(Rows.topGoodRow.lifted==Tryz.prog.liftsFinal)=true:=by kernel_rfl
theorem c_heard:Tryz.prog.stopsHeard=true:=by kernel_rfl
theorem closed:joinedFacts Tryz.prog 4 Tryz.f4 Rows.topGoodSpec Rows.topGoodRow=true:=by
 unfold joinedFacts
 rw [c_place,c_unf,c_rec,c_named,c_tie,c_enter,c_lift,c_heard,Tryz.laidOut]
 kernel_rfl
end Go.Proofs.YtncgcejlkmoliaaGreatDoor.topGood
