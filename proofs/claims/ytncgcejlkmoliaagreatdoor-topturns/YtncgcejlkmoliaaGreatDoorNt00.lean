import Derived.Test.YtncgcejlkmoliaaGreatDoorMh00
import Derived.Test.YtncgcejlkmoliaaGreatDoorMh01
import Derived.Test.YtncgcejlkmoliaaGreatDoorMh02
import Derived.Test.YtncgcejlkmoliaaGreatDoorMh03
import Derived.Test.YtncgcejlkmoliaaGreatDoorMh04
import Derived.Test.YtncgcejlkmoliaaGreatDoorMh05
import Derived.Test.YtncgcejlkmoliaaGreatDoorMh06
import Derived.Test.YtncgcejlkmoliaaGreatDoorMh07
import Derived.Test.YtncgcejlkmoliaaGreatDoorMh08
import Derived.Test.YtncgcejlkmoliaaGreatDoorMh09
import Derived.Test.YtncgcejlkmoliaaGreatDoorMh10
import Derived.Test.YtncgcejlkmoliaaGreatDoorMh11
import Derived.Test.YtncgcejlkmoliaaGreatDoorMh12
import Derived.Test.YtncgcejlkmoliaaGreatDoorMh13
import Derived.Test.YtncgcejlkmoliaaGreatDoorMh14
import Derived.Test.YtncgcejlkmoliaaGreatDoorMh15
import Derived.Test.YtncgcejlkmoliaaGreatDoorMh16
import Derived.Test.YtncgcejlkmoliaaGreatDoorMh17
import Derived.Test.YtncgcejlkmoliaaGreatDoorMh18
import Derived.Test.YtncgcejlkmoliaaGreatDoorMh19
import Derived.Test.YtncgcejlkmoliaaGreatDoorMh20
import Derived.Test.YtncgcejlkmoliaaGreatDoorMh21
import Derived.Test.YtncgcejlkmoliaaGreatDoorMh22
import Derived.Test.YtncgcejlkmoliaaGreatDoorMh46
import Derived.Test.YtncgcejlkmoliaaGreatDoorMh23
import Derived.Test.YtncgcejlkmoliaaGreatDoorMk24
import Derived.Test.YtncgcejlkmoliaaGreatDoorMk25
import Derived.Test.YtncgcejlkmoliaaGreatDoorMh26
import Derived.Test.YtncgcejlkmoliaaGreatDoorMk27
import Derived.Test.YtncgcejlkmoliaaGreatDoorMh28
import Derived.Test.YtncgcejlkmoliaaGreatDoorMk29
import Derived.Test.YtncgcejlkmoliaaGreatDoorMk30
import Derived.Test.YtncgcejlkmoliaaGreatDoorMk31
import Derived.Test.YtncgcejlkmoliaaGreatDoorMk32
import Derived.Test.YtncgcejlkmoliaaGreatDoorMk33
import Derived.Test.YtncgcejlkmoliaaGreatDoorMk34
import Derived.Test.YtncgcejlkmoliaaGreatDoorMk35
import Derived.Test.YtncgcejlkmoliaaGreatDoorMh45
import Derived.Test.YtncgcejlkmoliaaGreatDoorMh36
import Derived.Test.YtncgcejlkmoliaaGreatDoorMh37
import Derived.Test.YtncgcejlkmoliaaGreatDoorMh38
import Derived.Test.YtncgcejlkmoliaaGreatDoorMk39
import Derived.Test.YtncgcejlkmoliaaGreatDoorMk40
import Derived.Test.YtncgcejlkmoliaaGreatDoorMk41
import Derived.Test.YtncgcejlkmoliaaGreatDoorMk42
import Derived.Test.YtncgcejlkmoliaaGreatDoorMk43
import Derived.Test.YtncgcejlkmoliaaGreatDoorMk44
import Derived.Test.YtncgcejlkmoliaaGreatDoorRows
import Derived.Test.YtncgcejlkmoliaaGreatDoorMk47
set_option linter.unusedVariables false
set_option maxRecDepth 100000
set_option maxHeartbeats 16000000
namespace Go.Proofs.YtncgcejlkmoliaaGreatDoor
def Sps (g:List UInt8):Prop:=∀ b ∈ g,b=32
theorem Sps.tail {b:UInt8} {g:List UInt8} (h:Sps (b::g)):Sps g:=fun c hc=>h c (List.mem_cons_of_mem _ hc)
end Go.Proofs.YtncgcejlkmoliaaGreatDoor
namespace Go.Proofs.YtncgcejlkmoliaaGreatDoor.Ho
open Go.RowKit
def Kq (M M':Hm):Prop:=∀ i S',M'.seat i=some S'→∃ S,M.seat i=some S∧S'.lin=S.lin
theorem Kq.refl (M:Hm):Kq M M:=fun i S h=>⟨S,h,rfl⟩
theorem Kq.trans {M M' M'':Hm} (h:Kq M M') (g:Kq M' M''):Kq M M'':=fun i S'' hS=>by
 obtain ⟨S',h1,e1⟩:=g i S'' hS
 obtain ⟨S,h2,e2⟩:=h i S' h1
 exact ⟨S,h2,e1.trans e2⟩
theorem heard_lin (E:Ev) (S:Se):(heardS E S).lin=S.lin:=by
 unfold heardS; split
 ·unfold hearS; split <;> rfl
 ·rfl
theorem kq_hears (Es:List Ev):∀ M:Hm,Kq M (hearsM M Es):=by
 induction Es with
 | nil=>intro M; exact Kq.refl M
 | cons E r ih =>
  intro M
  have h1:Kq M (hearM E M):=fun i S' hS=>by
   simp only [hearM,Option.map_eq_some_iff] at hS
   obtain ⟨S,hS,rfl⟩:=hS
   exact ⟨S,hS,heard_lin E S⟩
  exact h1.trans (ih (hearM E M))
theorem kq_hap (M:Hm) (X:Ld) (Es:List Ev):Kq M (hapM M X Es):=fun i S' hS=>kq_hears Es { M with L:=X } i S' hS
theorem kq_order (M:Hm) (b:Int) (O:Od):Kq M (orderM M b O):=by
 unfold orderM; split
 ·exact kq_hap _ _ _
 ·exact Kq.refl M
theorem kq_put {M:Hm} {i:Nat} {S T:Se} (h:M.seat i=some S) (e:T.lin=S.lin):Kq M (M.put i (some T)):=fun j S' hS=>by
 simp only [Hm.put] at hS
 by_cases hj:j=i
 ·rw [if_pos hj] at hS; injection hS with hS; subst hS; subst hj; exact ⟨S,h,e⟩
 ·rw [if_neg hj] at hS; exact ⟨S',hS,rfl⟩
theorem kq_none (M:Hm) (i:Nat):Kq M (M.put i none):=fun j S' hS=>by
 simp only [Hm.put] at hS
 by_cases hj:j=i
 ·rw [if_pos hj] at hS; cases hS
 ·rw [if_neg hj] at hS; exact ⟨S',hS,rfl⟩
theorem kq_leave (M:Hm) (i:Nat):Kq M (leaveM M i):=by
 unfold leaveM; split
 ·exact Kq.refl M
 ·split
  ·exact (kq_none M i).trans (kq_order _ _ _)
  ·exact kq_none M i
theorem kq_enter {M:Hm} {i:Nat} {S:Se} (h:M.seat i=some S) (nm:ByteArray):Kq M (enterM M i S nm):=by
 unfold enterM; split
 ·exact (kq_put (T:={ S with being:=(vacA M.L).1 }) h rfl).trans (kq_hap _ _ _)
 ·split
  ·exact kq_put h rfl
  ·exact kq_put h rfl
theorem kq_obey {M:Hm} {i:Nat} {S:Se} (h:M.seat i=some S) (l:List UInt8):Kq M (obeyM M i S l):=by
 unfold obeyM; split
 ·exact kq_put h rfl
 ·split
  ·exact kq_leave M i
  ·exact kq_order _ _ _
theorem kq_cuts (M:Hm) (i:Nat):Kq M (cutsM M i).1:=by
 unfold cutsM; split
 ·exact Kq.refl M
 ·rename_i S hS
  split
  ·exact (kq_put (T:=flowS S) hS rfl).trans (kq_leave _ _)
  ·exact kq_put hS rfl
theorem kq_cutK (M:Hm):∀ k,Kq M (cutK M k).1
 | 0=>Kq.refl M
 | k+1=>(kq_cutK M k).trans (kq_cuts _ k)
theorem kq_flowN:∀ (n:Nat) (M:Hm),Kq M (flowN n M)
 | 0,M=>Kq.refl M
 | n+1,M=>by
  unfold flowN; split
  ·exact (kq_cutK M 4).trans (kq_flowN n _)
  ·exact kq_cutK M 4
theorem kq_forget (M:Hm) (n:Nat):Kq M { forgetM M with acts:=n }:=fun i S' hS=>by
 simp only [forgetM,Option.map_eq_some_iff] at hS
 obtain ⟨S,hS,rfl⟩:=hS
 exact ⟨S,hS,rfl⟩
theorem turn_q (M:Hm) (i:Nat):∀ j S',(turnM M i).seat j=some S'→∃ S,M.seat j=some S∧S'.lin.q=if j=i then S.lin.q.tail else S.lin.q:=by
 have keep:∀ {M':Hm},Kq M M'→(∀ S,M.seat i=some S→S.lin.q.tail=S.lin.q)→∀ j S',M'.seat j=some S'→∃ S,M.seat j=some S∧S'.lin.q=if j=i then S.lin.q.tail else S.lin.q:=by
  intro M' hK he j S' hS
  obtain ⟨S,h1,h2⟩:=hK j S' hS
  refine ⟨S,h1,?_⟩
  by_cases hj:j=i
  ·subst hj; rw [if_pos rfl,he S h1,h2]
  ·rw [if_neg hj,h2]
 have pop:∀ {S:Se} {f:ByteArray} {r:List ByteArray} {M':Hm},M.seat i=some S→S.lin.q=f::r→Kq (M.put i (some (popS S r))) M'→∀ j S',M'.seat j=some S'→∃ S,M.seat j=some S∧S'.lin.q=if j=i then S.lin.q.tail else S.lin.q:=by
  intro S f r M' hS hq hK j S' hS'
  obtain ⟨T,h1,h2⟩:=hK j S' hS'
  simp only [Hm.put] at h1
  by_cases hj:j=i
  ·subst hj
   rw [if_pos rfl] at h1
   injection h1 with h1
   subst h1
   exact ⟨S,hS,by rw [if_pos rfl,h2,hq]; rfl⟩
  ·rw [if_neg hj] at h1
   exact ⟨T,h1,by rw [if_neg hj,h2]⟩
 have hput:∀ {S:Se} {r:List ByteArray},(M.put i (some (popS S r))).seat i=some (popS S r):=by intro S r; simp [Hm.put]
 unfold turnM
 cases hS:M.seat i with
 | none=>exact keep (Kq.refl M) (fun S h=>by rw [hS] at h; cases h)
 | some S =>
  cases hq:S.lin.q with
  | nil=>simp only [hq]; exact keep (Kq.refl M) (fun T h=>by rw [hS] at h; injection h with h; rw [← h,hq]; rfl)
  | cons f r =>
   simp only [hq]
   split
   ·exact pop hS hq (Kq.refl _)
   ·split
    ·exact pop hS hq (kq_obey hput _)
    ·exact pop hS hq (kq_enter hput _)
theorem turns_q (M:Hm):∀ k,∀ j S',(turnsM M k).seat j=some S'→∃ S,M.seat j=some S∧S'.lin.q=if j < k then S.lin.q.tail else S.lin.q
 | 0=>fun j S' hS=>⟨S',hS,by rw [if_neg (by omega)]⟩
 | k+1=>fun j S' hS=>by
  obtain ⟨T,h1,h2⟩:=turn_q (turnsM M k) k j S' hS
  obtain ⟨S,h3,h4⟩:=turns_q M k j T h1
  refine ⟨S,h3,?_⟩
  rw [h2,h4]
  by_cases hj:j=k
  ·subst hj; rw [if_pos rfl,if_neg (by omega),if_pos (by omega)]
  ·rw [if_neg hj]
   by_cases hl:j < k
   ·rw [if_pos hl,if_pos (by omega)]
   ·rw [if_neg hl,if_neg (by omega)]
theorem pulse_q (M:Hm) (n:Int) {j:Nat} (hj:j < 4) {S':Se} (hS:(pulseM M n).seat j=some S'):∃ S,M.seat j=some S∧S'.lin.q=S.lin.q.tail:=by
 obtain ⟨T,h1,h2⟩:=kq_hap (turnsM M 4) _ _ j S' hS
 obtain ⟨S,h3,h4⟩:=turns_q M 4 j T h1
 rw [if_pos hj] at h4
 exact ⟨S,h3,by rw [h2,h4]⟩
open Go.RowKit
theorem step_len (L:Li.Lin) (b:UInt8):L.q.length≤(Li.step L b).1.q.length:=by
 unfold Li.step
 repeat' split
 all_goals first
  | exact Nat.le_refl _
  | (simp only [Li.endL]; split <;> simp)
theorem feed_len (l:List UInt8):∀ L:Li.Lin,L.q.length≤(Li.feedL L l).1.q.length:=by
 induction l with
 | nil=>intro L; exact Nat.le_refl _
 | cons b r ih=>intro L; exact Nat.le_trans (step_len L b) (ih (Li.step L b).1)
theorem feedS_len (S:Se) (l:List UInt8):S.lin.q.length≤(feedS S l).lin.q.length:=by
 unfold feedS
 split
 ·exact feed_len _ _
 ·exact feed_len _ _
theorem kq_len {M M':Hm} (h:Kq M M') {i:Nat} {S':Se} (hS:M'.seat i=some S'):(lineOf (M.seat i)).q.length=S'.lin.q.length:=by
 obtain ⟨S,h1,h2⟩:=h i S' hS
 rw [h1,h2]; rfl
theorem put_len {M:Hm} {k i:Nat} {S T S':Se} (hk:M.seat k=some S) (hl:S.lin.q.length≤T.lin.q.length) (hS:(M.put k (some T)).seat i=some S'):(lineOf (M.seat i)).q.length≤S'.lin.q.length:=by
 simp only [Hm.put] at hS
 by_cases h:i=k
 ·rw [if_pos h] at hS; injection hS with hS; subst hS; rw [h,hk]; exact hl
 ·rw [if_neg h] at hS; rw [hS]; exact Nat.le_refl _
theorem act_q {M:Hm} {a:Ac} (hr:refusedM M a=0) (h5:a.kind ≠ 5) {i:Nat} {S':Se} (hS:(actM M a).1.seat i=some S'):(lineOf (M.seat i)).q.length≤S'.lin.q.length:=by
 unfold actM at hS
 rw [if_neg h5] at hS
 by_cases h1:a.kind=1
 ·rw [if_pos h1] at hS
  simp only [Hm.put] at hS
  by_cases h:i=a.seat.toNat
  ·rw [if_pos h] at hS
   unfold refusedM at hr
   rw [if_neg (by omega),if_neg h5] at hr
   by_cases hs:a.seat < 0∨3 < a.seat
   ·rw [if_pos hs] at hr; cases hr
   ·rw [if_neg hs] at hr
    split at hr
    ·rename_i hn
     rw [decide_eq_true h1,Option.isNone_iff_eq_none] at hn
     rw [h,hn]; exact Nat.zero_le _
    ·cases hr
  ·rw [if_neg h] at hS; rw [hS]; exact Nat.le_refl _
 ·rw [if_neg h1] at hS
  cases hk:M.seat a.seat.toNat with
  | none=>rw [hk] at hS; simp only at hS; rw [hS]; exact Nat.le_refl _
  | some S =>
   rw [hk] at hS
   simp only at hS
   split at hS
   ·exact put_len hk (feedS_len _ _) hS
   ·split at hS
    ·exact put_len (T:=takeS S a.num) hk (Nat.le_refl _) hS
    ·exact Nat.le_of_eq (kq_len (kq_leave _ _) hS)
theorem do_q {M:Hm} (ha:M.acts < 400) (a:Ac) {i:Nat} (hi:i < 4) {S':Se} (hS:(doM M a).1.seat i=some S') :
 (a.kind=5→S'.lin.q.length=(lineOf (M.seat i)).q.length - 1)∧(a.kind ≠ 5→(lineOf (M.seat i)).q.length≤S'.lin.q.length):=by
 unfold doM at hS
 rw [if_neg (by omega)] at hS
 have hf:∀ j,(lineOf (({ forgetM M with acts:=M.acts+1 }:Hm).seat j))=lineOf (M.seat j):=by
  intro j
  show lineOf ((M.seat j).map _)=_
  cases M.seat j <;> rfl
 by_cases hr:refusedM (forgetM M) a=0
 ·rw [if_pos hr] at hS
  obtain ⟨T,hT,eT⟩:=kq_flowN 5 _ i S' hS
  refine ⟨fun h5=>?_,fun h5=>?_⟩
  ·unfold actM at hT
   rw [if_pos h5] at hT
   obtain ⟨S,h1,h2⟩:=pulse_q _ _ hi hT
   rw [eT,h2,← hf i,h1]
   simp [lineOf]
  ·rw [eT,← hf i]
   exact act_q (M:={ forgetM M with acts:=M.acts+1 }) hr h5 hT
 ·rw [if_neg hr] at hS
  refine ⟨fun h5=>?_,fun h5=>?_⟩
  ·exact absurd (show refusedM (forgetM M) a=0 by unfold refusedM; rw [if_neg (by omega),if_pos h5]) hr
  ·rw [kq_len (kq_forget M _) hS]; exact Nat.le_refl _
open Go.RowKit
def i4 (f:Nat→Int):Array Value:=#[.int .i64 (f 0),.int .i64 (f 1),.int .i64 (f 2),.int .i64 (f 3)]
theorem i4_set (f:Nat→Int) {k:Nat} (hk:k < 4) (x:Int):(i4 f).setIfInBounds k (.int .i64 x)=i4 (fun j=>if j=k then x else f j):=by
 match k,hk with
 | 0,_=>rfl
 | 1,_=>rfl
 | 2,_=>rfl
 | 3,_=>rfl
theorem i4_cell {w:World} {g T:Nat} {f:Nat→Int} (h:w.heap[g]?=some (.cells (i4 f) T (0,0))) {k:Nat} (hk:k < 4):w.cell? ⟨g,k,none⟩=some (.int .i64 (f k)):=by
 rw [cell_of_row _ _ _ _ _ _ h]
 match k,hk with
 | 0,_=>rfl
 | 1,_=>rfl
 | 2,_=>rfl
 | 3,_=>rfl
theorem i4_congr {f g:Nat→Int} (h:∀ i,i < 4→f i=g i):i4 f=i4 g:=by
 unfold i4
 rw [h 0 (by omega),h 1 (by omega),h 2 (by omega),h 3 (by omega)]
theorem field_queue (P:Li.Lin) (v:Value) (w:World):(Instr.field 55 (.agg (P.cells v)) 3).run Tryz.prog w=.ok v w:=by
 unfold Instr.field
 rw [Sem.run_bind,run_underlying Tryz.underlying55 w]
 have hp:=part1 (w:=w) 47 _ Tryz.underlying47 rfl 3 v (P.cells v) rfl
 simp [asAgg,hp]
theorem wl_queue {ops:Array Oper} {rest:List Oper} {op:Oper} {x:Act} {w:World} {Q:Exit→Act→World→Prop} {P:Li.Lin} {v:Value} (y:Operand) (ho:op.op=.field 55 y 3) (hw:Region.wanted op (yielded ops x.tmps)=true) (hx:x.eval y=.agg (P.cells v))
 (h:wpList Tryz.prog ops Q rest (x.put op.dst v) w):wpList Tryz.prog ops Q (op::rest) x w:=by
 refine wl_wanted hw ?_
 unfold Oper.wp execOp
 simp only [ho,hx,Sem.run_bind,field_queue,Result.andThen_ok,Sem.run_pure]
 exact h
theorem act_cell {w:World} {g:Nat} {a:Ac} (h:w.heap[g]?=some (.cells a.cells 23 (0,0))):w.cell? ⟨g,0,none⟩=some (.int .i64 a.kind)∧w.cell? ⟨g,1,none⟩=some (.int .i64 a.seat):=by
 rw [cell_of_row _ _ _ _ _ _ h,cell_of_row _ _ _ _ _ _ h]; exact ⟨rfl,rfl⟩
theorem turnsC {W0:World} {lab:Nat→Nat} {w:World} {hb:Nat} {M:Hm} {f:Nat→Int} (H:HoC W0 lab w hb M) (hg:lab W0.heap.size=9) (hc:w.heap[W0.heap.size]?=some (.cells (i4 f) 69 (0,0))) (a:Ac) (c:Int) (s:ByteArray)
 (hsm:∀ i:Nat,i < 4→(lineOf (seatAt M i)).q.length≤1000000)
 (hq:∀ i:Nat,i < 4→(stateOf (seatAt M i)).1 ≠ 0→(a.kind=5→max 0 (f i - 1)=((lineOf (seatAt M i)).q.length:Int))∧(a.kind ≠ 5→f i≤((lineOf (seatAt M i)).q.length:Int)))
 (hf:∀ i:Nat,i < 4→(stateOf (seatAt M i)).1=0→(lineOf (seatAt M i)).q.length=0) (hfb:∀ i:Nat,i < 4→0≤f i∧f i≤1000000) :
 Calls Tryz.prog 47 (#[.pointer (some ⟨hb,0,none⟩),.agg a.cells,.agg #[.int .i64 c,.string s]]++#[.pointer (some ⟨W0.heap.size,0,none⟩)]) w fun e w'=>e=.returned (.bool true)∧HoC W0 lab w' hb M∧w'.heap[W0.heap.size]?=some (.cells (i4 fun i=>((lineOf (seatAt M i)).q.length:Int)) 69 (0,0)):=by
 have e:(#[.pointer (some ⟨hb,0,none⟩),.agg a.cells,.agg #[.int .i64 c,.string s]]++#[.pointer (some ⟨W0.heap.size,0,none⟩)]:Array Value)=#[.pointer (some ⟨hb,0,none⟩),.agg a.cells,.agg #[.int .i64 c,.string s],.pointer (some ⟨W0.heap.size,0,none⟩)]:=by simp
 rw [e]
 clear e
 have B0:=((Below.refl w.heap.size w).alloc (Nat.le_refl _) (.cells a.cells 23)).alloc (by simp) (.cells #[.int .i64 c,.string s] 29)
 have hgw:W0.heap.size < w.heap.size:=(Array.getElem?_eq_some_iff.1 hc).1
 have A0:=hide ((Below.heap_alloc (w.alloc (.cells a.cells 23)) (.cells #[.int .i64 c,.string s] 29) w.heap.size (by simp)).trans (heap_alloc_new w (.cells a.cells 23)))
 have H0:=hide (H.below B0)
 have C0:=hide ((B0.block _ hgw).trans hc)
 have HSM:=hide hsm
 have HQ:=hide hq
 have HF:=hide hf
 have HFB:=hide hfb
 have HG:=hide hg
 clear H hc B0 hsm hq hf hg hfb
 generalize hgg:W0.heap.size=g at *
 have HGG:=hide hgg
 clear hgg
 go_enter Tryz.func47,Tryz.ntmps47
 go_upto_region 2 with fail
 generalize hbb:w.heap.size=ba at *
 generalize (w.alloc (.cells a.cells 23)).alloc (.cells #[.int .i64 c,.string s] 29)=w0 at *
 clear hbb
 go_loopw [12] (fun i wr=>∃ k:Nat,k≤4∧i=.int .i64 (k:Int)∧HoC W0 lab wr hb M∧wr.heap[g]?=some (.cells (i4 fun j=>if j < k then ((lineOf (seatAt M j)).q.length:Int) else f j) 69 (0,0))∧wr.heap[ba]?=some (.cells a.cells 23 (0,0))) (fun i _=>4 - (intOf i).toNat)
 case atStart=>exact ⟨0,by omega,rfl,H0.out,by rw [C0.out]; simp,A0.out⟩
 case round =>
  obtain ⟨k,hk,rfl,Hk,Ck,Ak⟩:=hrel
  clear H0 C0 A0
  by_cases hk4:k < 4
  ·have hki:(k:Int) < 4:=by omega
   have CL:=hide (line_any Hk (k:Int) (HSM.out k hk4))
   have CS:=hide (fun (w':World) (hb':Below wr.heap.size wr w')=>state_any (Hk.below hb') (k:Int))
   have hgr:g < wr.heap.size:=(Array.getElem?_eq_some_iff.1 Ck).1
   have har:ba < wr.heap.size:=(Array.getElem?_eq_some_iff.1 Ak).1
   have KH:=hide Hk
   have KC:=hide Ck
   have KA:=hide Ak
   have Q:=hide (HQ.out k hk4)
   have F:=hide (HF.out k hk4)
   clear Hk Ck Ak
   generalize hst:stateOf (seatAt M (k:Int))=st at *
   generalize hn:(lineOf (seatAt M (k:Int)))=P at *
   generalize hN:P.q.length=n at *
   go_upto_region 6 with (first | (go_at_call 24; refine CL.out.mono ?_; rintro e w2 ⟨v2,rfl,o2,b2⟩; obtain ⟨av2,cap2,rfl⟩:=own_shape o2) | (refine wl_queue (.tmp 17) rfl rfl rfl ?_) | (go_at_call 16; refine (CS.out _ b2).mono ?_; rintro e w3 ⟨rfl,b3⟩))
   have b:=b2.trans (b3.mono b2.size)
   have H3:=KH.out.below b
   have C3:=(b.block _ hgr).trans KC.out
   have A3:=(b.block _ har).trans KA.out
   have hgr3:g < w3.heap.size:=(Array.getElem?_eq_some_iff.1 C3).1
   have cg:=i4_cell C3 hk4
   rw [if_neg (Nat.lt_irrefl k)] at cg
   have ca:=(act_cell A3).1
   have KH3:=hide H3
   have KC3:=hide C3
   have KA3:=hide A3
   have hne:(ba:Nat) ≠ g:=by omega
   clear KH KC KA CL CS o2 b2 b3 b H3 C3 A3
   have fin:∀ (x:Int),x=(n:Int)→i4 (fun j=>if j=k then x else if j < k then ((lineOf (seatAt M j)).q.length:Int) else f j)=i4 (fun j=>if j < k+1 then ((lineOf (seatAt M j)).q.length:Int) else f j):=by
    intro x hx
    refine i4_congr fun j hj=>?_
    by_cases e:j=k
    ·subst e; rw [if_pos rfl,if_pos (by omega),hn,hx,hN]
    ·rw [if_neg e]
     by_cases e2:j < k
     ·rw [if_pos e2,if_pos (by omega)]
     ·rw [if_neg e2,if_neg (by omega)]
   have FIN:=hide fin
   clear fin
   by_cases h0:st.1=0
   ·have hn0:=F.out h0
    have h0b:(st.1 != 0)=false:=by simp [h0]
    have h0c:(st.1==0)=true:=by simp [h0]
    clear Q F ca
    go_wp2_with (first | (refine wl_over1 3 (.tmp 54) (.tmp 53) rfl rfl g k (.int .i64 (n:Int)) _ _ 69 rfl rfl KC3.out (by show k < 4; omega) Tryz.sizeInt rfl (i4_set _ hk4 _) ?_; intro W1 g1 u1) | (refine wl_over1 3 (.tmp 58) _ rfl rfl g k (.int .i64 0) _ _ 69 rfl rfl g1 (by show k < 4; omega) Tryz.sizeInt rfl (i4_set _ hk4 _) ?_; intro W2 g2 u2))
    have uu:=u1.trans u2
    refine ⟨⟨k+1,by omega,by go_num,KH3.out.other uu HG.out (by rw [HGG.out]; exact Nat.le_refl _),?_,(uu.block _ hne).trans KA3.out⟩,by simp [intOf]; omega⟩
    rw [g2,← FIN.out 0 (by omega)]
    congr 2
    refine i4_congr fun j hj=>?_
    by_cases e:j=k
    ·rw [if_pos e,if_pos e]
    ·rw [if_neg e,if_neg e,if_neg e]
   ·obtain ⟨q1,q2⟩:=Q.out h0
    have h0b:(st.1 != 0)=true:=by simp [h0]
    have h0c:(st.1==0)=false:=by simp [h0]
    clear Q F
    by_cases h5:a.kind=5
    ·rw [h5] at ca
     have hmx:=q1 h5
     obtain ⟨fb1,fb2⟩:=HFB.out k hk4
     clear q1 q2
     go_wp2_with (refine wl_over1 3 (.tmp 54) (.tmp 53) rfl rfl g k (.int .i64 (n:Int)) _ _ 69 rfl rfl KC3.out (by show k < 4; omega) Tryz.sizeInt rfl (i4_set _ hk4 _) ?_; intro W1 g1 u1)
     exact ⟨⟨k+1,by omega,by go_num,KH3.out.other u1 HG.out (by rw [HGG.out]; exact Nat.le_refl _),by rw [g1,FIN.out n rfl],(u1.block _ hne).trans KA3.out⟩,by simp [intOf]; omega⟩
    ·have hle:=q2 h5
     have hlt:¬ (n:Int) < f k:=by omega
     have h5b:(a.kind==5)=false:=by simp [h5]
     have h5c:(a.kind != 5)=true:=by simp [h5]
     clear q1 q2 hle
     go_wp2_with (refine wl_over1 3 (.tmp 54) (.tmp 53) rfl rfl g k (.int .i64 (n:Int)) _ _ 69 rfl rfl KC3.out (by show k < 4; omega) Tryz.sizeInt rfl (i4_set _ hk4 _) ?_; intro W1 g1 u1)
     exact ⟨⟨k+1,by omega,by go_num,KH3.out.other u1 HG.out (by rw [HGG.out]; exact Nat.le_refl _),by rw [g1,FIN.out n rfl],(u1.block _ hne).trans KA3.out⟩,by simp [intOf]; omega⟩
  ·obtain rfl:k=4:=by omega
   have KH:=hide Hk
   have KC:=hide Ck
   clear Hk Ck Ak
   go_wp2
   go_ret
   refine ⟨rfl,KH.out,?_⟩
   rw [KC.out]
   congr 2
def qs (M:Hm) (i:Nat):Int:=((lineOf (seatAt M i)).q.length:Int)
theorem tur_enter (args:Array Value) (w:World):(callFunc 47 args).run Tryz.prog w=.ok (.enter 47 args) w:=by kernel_rfl
open Go.RowKit
theorem acts_lt {done:List Ac} (h:done.length < 150):(runM newM done).acts < 400:=by
 have h1:=run_acts done newM
 have h2:newM.acts=0:=rfl
 omega
theorem Tryz.zInts4:(Tryz.prog.info? 69).map (fun i=>(i.zero,i.size))=some (some (.agg (i4 fun _=>0)),4):=by kernel_rfl
theorem qs_bound {M:Hm} (h:Iv 1000 M) {i:Nat} (hi:i < 4):0≤qs M i∧qs M i≤1000000:=by
 have:=(iv_small h i hi).2
 unfold qs; omega
theorem tur_law {M:Hm} (h:Iv 1000 M) (ha:M.acts < 400) (a:Ac) {i:Nat} (hi:i < 4) (hs:(stateOf (seatAt (doM M a).1 i)).1 ≠ 0):(a.kind=5→max 0 (qs M i - 1)=qs (doM M a).1 i)∧(a.kind ≠ 5→qs M i≤qs (doM M a).1 i):=by
 have e:∀ X:Hm,seatAt X (i:Int)=X.seat i:=fun X=>by unfold seatAt; rw [if_pos (by omega),Int.toNat_natCast]
 unfold qs
 rw [e] at hs
 rw [e,e]
 cases hS:(doM M a).1.seat i with
 | none=>rw [hS] at hs; exact absurd rfl hs
 | some S' =>
  obtain ⟨q1,q2⟩:=do_q ha a hi hS
  refine ⟨fun h5=>?_,fun h5=>?_⟩
  ·have:=q1 h5
   show max 0 (((lineOf (M.seat i)).q.length:Int) - 1)=(S'.lin.q.length:Int)
   omega
  ·have:=q2 h5
   show ((lineOf (M.seat i)).q.length:Int)≤(S'.lin.q.length:Int)
   omega
theorem tur_free {M:Hm} {i:Nat} (hs:(stateOf (seatAt M i)).1=0):(lineOf (seatAt M i)).q.length=0:=by
 cases hS:seatAt M (i:Int) with
 | none=>rfl
 | some S =>
  rw [hS] at hs
  simp only [stateOf] at hs
  split at hs
  ·exact absurd hs (show ¬ (2:Int)=0 by decide)
  ·exact absurd hs (show ¬ (1:Int)=0 by decide)
theorem turnsW {v:Value} {l:List Ac} {w:World} (hvb:Vb w) (hai:Ai w) (hl:Rac w v l) (hsz:∀ a ∈ l,a.bytes.size≤140737488351232) :
 Calls Tryz.prog 10 #[v] w fun e w'=>e=.returned (.bool true)∧Below w.heap.size w w':=by
 have hz:=(zero_of_info Tryz.zInts4).1
 have B0:=below_box w (.cells (i4 fun _=>0) 69)
 have P:=hide (play_any hvb hai hl hsz 47 #[.pointer (some ⟨w.heap.size,0,none⟩)] (fun _ done lab W=>lab w.heap.size=9∧W.heap[w.heap.size]?=some (.cells (i4 (qs (runM newM done))) 69 (0,0))) (w:=w.alloc (.cells (i4 fun _=>0) 69)) B0 tur_enter
  (fun hb w' hh hB hH=>by
   have hlt:w.heap.size < hb:=by rw [World.size_alloc] at hh; omega
   exact ⟨if_neg (by omega),(hB.block _ (by simp)).trans (heap_alloc_new w _)⟩)
  (fun hb done lab lab' W W' hJ ho hG=>by
   have hlt:=(Array.getElem?_eq_some_iff.1 hJ.2).1
   exact ⟨(hG.old _ hlt).trans hJ.1,(hG.same _ hlt (.inr hJ.1)).trans hJ.2⟩)
  (fun hb done a lab W hlen hsz H hJ=>by
   obtain ⟨iv,_⟩:=run_iv done iv_new (by decide)
   have iv2:=iv.does a
   rw [run_snoc] at H ⊢
   exact (turnsC H hJ.1 hJ.2 a _ _ (fun i hi=>(iv_small iv2 i hi).2) (fun i hi hs=>tur_law iv (acts_lt hlen) a hi hs) (fun i hi hs=>tur_free hs) (fun i hi=>qs_bound iv hi)).mono fun e W' ⟨he,h1,h2⟩=>⟨he,lab,h1,hJ.1,h2⟩))
 obtain ⟨av,cap,rfl,_⟩:=hl
 clear hvb hai hsz
 unfold i4 at hz P
 go_enter Tryz.func10,Tryz.ntmps10
 go_wp2_with fail
 refine P.out.mono ?_
 rintro e w2 ⟨hb,lab,rfl,_,H,_⟩
 have B:=hide H.low
 clear P H
 go_wp2
 go_ret
 exact ⟨rfl,B.out⟩
end Go.Proofs.YtncgcejlkmoliaaGreatDoor.Ho
namespace Go.Proofs.YtncgcejlkmoliaaGreatDoor.topTurns
open Go.ChangeShapes Go.WideShapes Go.ChangeAt Go.RowKit
theorem c_place:(Rows.topTurnsRow.inPlace==Tryz.prog.inPlace 10)=true:=by kernel_rfl
theorem c_unf:(Rows.topTurnsRow.unfollowed==Tryz.prog.unfollowed 10)=true:=by kernel_rfl
theorem c_rec:(Rows.topTurnsRow.recurses==Tryz.prog.recurses 10)=true:=by kernel_rfl
theorem c_named:(Rows.topTurnsRow.named==Tryz.prog.varsNamed 10)=true:=by kernel_rfl
theorem c_tie:namedTie Tryz.prog Rows.topTurnsRow.named Rows.topTurnsSpec.vars=true:=by kernel_rfl
theorem c_enter:Tryz.prog.mayEnter=true:=by kernel_rfl
theorem c_lift:(Rows.topTurnsRow.lifted==Tryz.prog.liftsFinal)=true:=by kernel_rfl
theorem c_heard:Tryz.prog.stopsHeard=true:=by kernel_rfl
theorem closed:joinedFacts Tryz.prog 10 Tryz.f10 Rows.topTurnsSpec Rows.topTurnsRow=true:=by
 unfold joinedFacts
 rw [c_place,c_unf,c_rec,c_named,c_tie,c_enter,c_lift,c_heard,Tryz.laidOut]
 kernel_rfl
end Go.Proofs.YtncgcejlkmoliaaGreatDoor.topTurns
