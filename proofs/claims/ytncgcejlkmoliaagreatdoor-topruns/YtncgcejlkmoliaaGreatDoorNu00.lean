import Derived.Test.YtncgcejlkmoliaaGreatDoorMh00
import Derived.Test.YtncgcejlkmoliaaGreatDoorMh01
import Derived.Test.YtncgcejlkmoliaaGreatDoorMh02
import Derived.Test.YtncgcejlkmoliaaGreatDoorMh03
import Derived.Test.YtncgcejlkmoliaaGreatDoorMh04
import Derived.Test.YtncgcejlkmoliaaGreatDoorMh05
import Derived.Test.YtncgcejlkmoliaaGreatDoorMh06
import Derived.Test.YtncgcejlkmoliaaGreatDoorMh07
import Derived.Test.YtncgcejlkmoliaaGreatDoorMh08
import Derived.Test.YtncgcejlkmoliaaGreatDoorMh09
import Derived.Test.YtncgcejlkmoliaaGreatDoorMh10
import Derived.Test.YtncgcejlkmoliaaGreatDoorMh11
import Derived.Test.YtncgcejlkmoliaaGreatDoorMh12
import Derived.Test.YtncgcejlkmoliaaGreatDoorMh13
import Derived.Test.YtncgcejlkmoliaaGreatDoorMh14
import Derived.Test.YtncgcejlkmoliaaGreatDoorMh15
import Derived.Test.YtncgcejlkmoliaaGreatDoorMh16
import Derived.Test.YtncgcejlkmoliaaGreatDoorMh17
import Derived.Test.YtncgcejlkmoliaaGreatDoorMh18
import Derived.Test.YtncgcejlkmoliaaGreatDoorMh19
import Derived.Test.YtncgcejlkmoliaaGreatDoorMh20
import Derived.Test.YtncgcejlkmoliaaGreatDoorMh21
import Derived.Test.YtncgcejlkmoliaaGreatDoorMh22
import Derived.Test.YtncgcejlkmoliaaGreatDoorMh46
import Derived.Test.YtncgcejlkmoliaaGreatDoorMh23
import Derived.Test.YtncgcejlkmoliaaGreatDoorMk24
import Derived.Test.YtncgcejlkmoliaaGreatDoorMk25
import Derived.Test.YtncgcejlkmoliaaGreatDoorMh26
import Derived.Test.YtncgcejlkmoliaaGreatDoorMk27
import Derived.Test.YtncgcejlkmoliaaGreatDoorMh28
import Derived.Test.YtncgcejlkmoliaaGreatDoorMk29
import Derived.Test.YtncgcejlkmoliaaGreatDoorMk30
import Derived.Test.YtncgcejlkmoliaaGreatDoorMk31
import Derived.Test.YtncgcejlkmoliaaGreatDoorMk32
import Derived.Test.YtncgcejlkmoliaaGreatDoorMk33
import Derived.Test.YtncgcejlkmoliaaGreatDoorMk34
import Derived.Test.YtncgcejlkmoliaaGreatDoorMk35
import Derived.Test.YtncgcejlkmoliaaGreatDoorMh45
import Derived.Test.YtncgcejlkmoliaaGreatDoorMh36
import Derived.Test.YtncgcejlkmoliaaGreatDoorMh37
import Derived.Test.YtncgcejlkmoliaaGreatDoorMh38
import Derived.Test.YtncgcejlkmoliaaGreatDoorMk39
import Derived.Test.YtncgcejlkmoliaaGreatDoorMk40
import Derived.Test.YtncgcejlkmoliaaGreatDoorMk41
import Derived.Test.YtncgcejlkmoliaaGreatDoorMk42
import Derived.Test.YtncgcejlkmoliaaGreatDoorMk43
import Derived.Test.YtncgcejlkmoliaaGreatDoorMk44
import Derived.JoinedCond
import Derived.SizedLaws
import Derived.Test.YtncgcejlkmoliaaGreatDoorMk47
import Derived.Test.YtncgcejlkmoliaaGreatDoorRows
set_option linter.unusedVariables false
set_option maxRecDepth 100000
set_option maxHeartbeats 16000000
namespace Go.Proofs.YtncgcejlkmoliaaGreatDoor.Ho
open Go.RowKit
def repsM (M:Hm):List Ac→List (Int × ByteArray)
 | []=>[]
 | a::l=>(doM M a).2::repsM (doM M a).1 l
theorem reps_snoc (l:List Ac):∀ (M:Hm) (a:Ac),repsM M (l++[a])=repsM M l++[(doM (runM M l) a).2]:=by
 induction l with
 | nil=>intro M a; rfl
 | cons b r ih=>intro M a; show (doM M b).2::repsM (doM M b).1 (r++[a])=_; rw [ih]; rfl
theorem reps_len (l:List Ac):∀ M:Hm,(repsM M l).length=l.length:=by
 induction l with
 | nil=>intro M; rfl
 | cons a r ih=>intro M; show (repsM (doM M a).1 r).length+1=r.length+1; rw [ih]
theorem reps_take (l:List Ac):∀ (M:Hm) (k:Nat),repsM M (l.take k)=(repsM M l).take k:=by
 induction l with
 | nil=>intro M k; simp [repsM]
 | cons a r ih =>
  intro M k
  cases k with
  | zero=>simp [repsM]
  | succ k=>simp only [List.take_succ_cons,repsM]; rw [ih]
def rcells (q:List (Int × ByteArray)):List Value:=q.flatMap fun r=>[.int .i64 r.1,.string r.2]
theorem rcells_snoc (q:List (Int × ByteArray)) (r:Int × ByteArray):rcells (q++[r])=rcells q++[.int .i64 r.1,.string r.2]:=by simp [rcells]
theorem rcells_get (q:List (Int × ByteArray)):∀ (i:Nat) (r:Int × ByteArray),q[i]?=some r→(rcells q)[i*2]?=some (.int .i64 r.1)∧(rcells q)[i*2+1]?=some (.string r.2):=by
 induction q with
 | nil=>intro i r h; simp at h
 | cons x q ih =>
  intro i r h
  cases i with
  | zero=>simp at h; subst h; exact ⟨rfl,rfl⟩
  | succ i =>
   have:=ih i r (by simpa using h)
   have e:rcells (x::q)=.int .i64 x.1::.string x.2::rcells q:=rfl
   rw [e]
   rw [show (i+1)*2=i*2+1+1 by omega,show i*2+1+1+1=(i*2+1)+1+1 by omega]
   simpa using this
theorem Tryz.infoReply:(Tryz.prog.info? 29).map (fun i=>(i.zero,i.size,i.bytes))=some (some (.agg #[.int .i64 0,.string ⟨#[]⟩]),2,24):=by kernel_rfl
theorem Tryz.zAct4:(Tryz.prog.info? 23).map (fun i=>(i.zero,i.size))=some (some (.agg #[.int .i64 0,.int .i64 0,.int .i64 0,.string ⟨#[]⟩]),4):=by kernel_rfl
theorem act_one (a:Ac):a.cells.all (·.oneCell')=true:=by simp [Ac.cells,Value.oneCell']
theorem shapeR {w:World} {base n T sz:Nat} {v:Value} {xs:List Value} (h:w.ownsRow base T sz v n xs):∃ (av:Option Addr) (cap:Nat),v=.slice av n cap:=by
 rcases h.2 with ⟨rfl,rfl⟩ | ⟨g,cap,cur,rfl,_⟩
 ·exact ⟨_,_,rfl⟩
 ·exact ⟨_,_,rfl⟩
section
variable {W0:World} {lab lab':Nat→Nat} {w w':World} {hb:Nat} {M:Hm}
theorem HoC.grown (h:HoC W0 lab w hb M) {o:Option Nat} (hg:w.grownBy w' o) (hl:∀ g,o=some g→lab g=9∧W0.heap.size≤g):HoC W0 lab w' hb M:=by
 have hs:=h.low.size
 obtain ⟨p,vl,h⟩:=h
 refine ⟨p,vl,h.frame hg.os hg.tape hg.output hg.size (fun n hn=>hg.block n (by omega) fun e=>?_) fun n hn hn9=>hg.block n hn fun e=>?_⟩
 ·have:=(hl n e.symm).2; omega
 ·exact hn9 (hl n e.symm).1
end
theorem run_any {w:World} (hvb:Vb w) (hai:Ai w) {v:Value} {l:List Ac} (hl:Rac w v l) (hsz:∀ a ∈ l,a.bytes.size≤140737488351232) (hlen:l.length≤400) :
 Calls Tryz.prog 50 #[v] w fun e w'=>∃ u,e=.returned (.tuple #[u,.int .i64 0])∧w'.ownsRow w.heap.size 29 2 u l.length (rcells (repsM newM l))∧Below w.heap.size w w':=by
 obtain ⟨av,cap,rfl,hm,hcells⟩:=hl
 have hz:=(zero_of_info Tryz.zAct4).1
 obtain ⟨i0,hi0,hz0,hz1,hz2⟩:=info_parts Tryz.infoReply
 have HVB:=hide hvb
 have HAI:=hide hai
 have HSZ:=hide hsz
 have HC:=hide hcells
 clear hvb hai hsz hcells hm
 go_enter Tryz.func50,Tryz.ntmps50
 have hl4:¬ 400 < (l.length:Int):=by omega
 go_wp2_with fail
 refine (new_house (W0:=w) (Below.refl _ _)).mono ?_
 rintro e w2 ⟨hb,rfl,hh1,hh2,H2,B2⟩
 have H2':=hide H2
 clear H2 B2 hh1 hh2
 go_upto_region 6 with fail
 go_loopw [14,5] (fun i u wr=>∃ (k:Nat) (lab:Nat→Nat),k≤l.length∧i=.int .i64 (k:Int)∧HoC w lab wr hb (runM newM (l.take k))∧wr.ownsRow w.heap.size 29 2 u k (rcells (repsM newM (l.take k)))∧∀ g,u.ownBlock=some g→lab g=9) (fun i _ _=>l.length - (intOf i).toNat)
 case atStart=>exact ⟨0,_,Nat.zero_le _,rfl,H2'.out,World.ownsRow_nil _ _ _ _,fun g hg=>by cases hg⟩
 case round =>
  obtain ⟨k,lab,hk,rfl,Hk,Ok,Lk⟩:=hrel
  clear H2'
  obtain ⟨avk,capk,rfl⟩:=shapeR Ok
  by_cases hlt:k < l.length
  ·have hki:(k:Int) < (l.length:Int):=by omega
   obtain ⟨b,off,rfl,hbl,hrow⟩:=HC.out (by omega)
   obtain ⟨a,hka⟩:∃ a,l[k]?=some a:=⟨_,List.getElem?_eq_getElem hlt⟩
   have HR:=hide (rac_range (hl:=hrow) Hk.low hka)
   have HT:Hid (l.take (k+1)=l.take k++[a]):=hide (by rw [List.take_add_one,hka]; rfl)
   obtain ⟨iv,hacts⟩:=run_iv (l.take k) iv_new (by decide)
   have BX:=below_box wr (.cells a.cells 23)
   have D:=hide (do_house HVB.out HAI.out (Hk.below BX) iv hacts a (HSZ.out a (List.mem_of_getElem? hka)))
   have AB:=hide (heap_alloc_new wr (.cells a.cells 23))
   have O1:=hide (own_same Ok (w':=wr.alloc (.cells a.cells 23)) fun g hg=>BX.block g (own_lt Ok g hg).2)
   have L1:=hide Lk
   have NX:Hid (repsM newM (l.take (k+1))=repsM newM (l.take k)++[(doM (runM newM (l.take k)) a).2]):=hide (by rw [HT.out,reps_snoc])
   have NR:Hid (runM newM (l.take (k+1))=(doM (runM newM (l.take k)) a).1):=hide (by rw [HT.out,run_snoc])
   clear Hk Ok Lk BX iv hacts hrow hka HC HT
   generalize runM newM (l.take k)=Mk at *
   generalize repsM newM (l.take k)=Rk at *
   go_upto_region 8 with (first | (refine wl_actat (.tmp 16) rfl rfl rfl HR.out ?_) | (refine wl_new 23 (.tmp 7) (.tmp 17) rfl rfl _ _ rfl rfl rfl Tryz.sizeAct rfl (act_one a) ?_))
   simp only [Act.put]
   generalize wr.heap.size=ga at *
   generalize wr.alloc (.cells a.cells 23)=w3 at *
   go_wp2_with (refine wl_wanted rfl (wp_load_row 23 (.tmp 7) rfl ga rfl 23 a.cells (0,0) _ AB.out Tryz.underlying23 rfl Tryz.sizeAct ?_))
   refine D.out.mono ?_
   rintro e w4 ⟨rfl,lab4,H4,G4⟩
   simp only [repC]
   have O4:=hide (own_same O1.out (w':=w4) fun g hg=>G4.same g (own_lt O1.out g hg).2 (.inr (L1.out g hg)))
   have L4:Hid (∀ g,(Value.slice avk k capk).ownBlock=some g→lab4 g=9∧w.heap.size≤g):=hide (fun g hg=>⟨(G4.old g (own_lt O1.out g hg).2).trans (L1.out g hg),(own_lt O1.out g hg).1⟩)
   have H4':=hide H4
   have hs4:=H4.low.size
   clear D AB O1 L1 H4 G4
   generalize hcc:(doM Mk a).2=rr at *
   go_wp2_with (at_builtin; refine wpList_append_own_at _ rfl (.tmp 18) (.tmp 22) 92 rfl w.heap.size 29 i0 (.agg #[.int .i64 0,.string ⟨#[]⟩]) 2 24 Tryz.underlying92 hi0 hz0 hz1 hz2 rfl (by decide) _ k (rcells Rk) rfl (O4.out.alloc _) ⟨w4.heap.size,0,none⟩ 1 1 [.int .i64 rr.1,.string rr.2] rfl ?c1 ?c2 ?c3 ?c4 ?c5 ?c6 ?_)
   case c1=>rfl
   case c2 =>
    intro j u hj
    match j,hj with
    | 0,hj=>simp at hj; subst hj; exact (cell_of_row _ _ _ _ _ _ (heap_alloc_new w4 (.cells #[.int .i64 rr.1,.string rr.2] 29))).trans rfl
    | 1,hj=>simp at hj; subst hj; exact (cell_of_row _ _ 1 _ _ _ (heap_alloc_new w4 (.cells #[.int .i64 rr.1,.string rr.2] 29))).trans rfl
    | j+2,hj=>simp at hj
   case c3=>intro u hu; simp at hu; rcases hu with rfl | rfl <;> rfl
   case c4=>unfold maxLen; omega
   case c5=>omega
   case c6=>simp; omega
   intro v' w' ho hg' _ hown
   have ho':Hid (w'.ownsRow w.heap.size 29 2 v' (k+1) (rcells (repsM newM (l.take (k+1))))):=hide (by rw [NX.out,rcells_snoc]; exact ho)
   have HB:=H4'.out.below (below_box w4 (.cells #[.int .i64 rr.1,.string rr.2] 29))
   have H5:=hide (HB.grown hg' L4.out)
   have L5:Hid (∀ g,v'.ownBlock=some g→lab4 g=9):=hide (fun g hg=>by
    rcases hown with e | e
    ·exact (L4.out g (e ▸ hg)).1
    ·rw [e] at hg
     injection hg with hg
     exact HB.outs g (by rw [World.size_alloc]; exact Nat.le_of_eq hg))
   clear ho hg' hown HB L4 H4' O4
   go_wp2
   exact ⟨⟨k+1,lab4,by omega,by go_num,by rw [NR.out]; exact H5.out,ho'.out,L5.out⟩,by simp [intOf]; omega⟩
  ·obtain rfl:k=l.length:=by omega
   have hki:¬ (l.length:Int) < (l.length:Int):=by omega
   rw [List.take_length] at Hk Ok
   have O:=hide Ok
   have B:=hide Hk.low
   clear Hk Ok Lk HC
   go_wp2
   go_ret2
   exact ⟨_,rfl,O.out,B.out⟩
open Go.RowKit
def acells (l:List Ac):List Value:=l.flatMap fun a=>a.cells.toList
theorem acells_len (l:List Ac):(acells l).length=l.length*4:=by
 induction l with
 | nil=>rfl
 | cons a l ih =>
  have e:acells (a::l)=a.cells.toList++acells l:=rfl
  have h4:a.cells.toList.length=4:=rfl
  rw [e,List.length_append,ih,h4,List.length_cons]; omega
theorem acells_one (l:List Ac):∀ u ∈ acells l,u.oneCell'=true:=by
 intro u hu
 simp only [acells,List.mem_flatMap] at hu
 obtain ⟨a,_,ha⟩:=hu
 simp [Ac.cells] at ha
 rcases ha with rfl | rfl | rfl | rfl <;> rfl
theorem acells_at (l:List Ac):∀ (j:Nat) (u:Value),(acells l)[j]?=some u→∃ a,l[j / 4]?=some a∧a.cells.toList[j % 4]?=some u:=by
 induction l with
 | nil=>intro j u h; simp [acells] at h
 | cons a l ih =>
  intro j u h
  have e:acells (a::l)=a.cells.toList++acells l:=rfl
  have h4:a.cells.toList.length=4:=rfl
  rw [e] at h
  by_cases hj:j < 4
  ·rw [List.getElem?_append_left (by omega)] at h
   exact ⟨a,by rw [Nat.div_eq_of_lt hj]; rfl,by rw [Nat.mod_eq_of_lt hj]; exact h⟩
  ·rw [List.getElem?_append_right (by omega),h4] at h
   obtain ⟨b,h1,h2⟩:=ih (j - 4) u h
   have e1:j / 4=(j - 4) / 4+1:=by omega
   have e2:j % 4=(j - 4) % 4:=by omega
   exact ⟨b,by rw [e1,List.getElem?_cons_succ]; exact h1,by rw [e2]; exact h2⟩
theorem acells_get (l:List Ac):∀ (i:Nat) (a:Ac),l[i]?=some a→∀ (j:Nat) (u:Value),a.cells.toList[j]?=some u→(acells l)[i*4+j]?=some u:=by
 induction l with
 | nil=>intro i a h; simp at h
 | cons b l ih =>
  intro i a h j u hu
  have e:acells (b::l)=b.cells.toList++acells l:=rfl
  have h4:b.cells.toList.length=4:=rfl
  have h4a:a.cells.toList.length=4:=rfl
  have hj:j < 4:=by have:=(List.getElem?_eq_some_iff.1 hu).1; omega
  cases i with
  | zero =>
   simp at h; subst h
   rw [e,List.getElem?_append_left (by omega),Nat.zero_mul,Nat.zero_add]; exact hu
  | succ i =>
   rw [e,List.getElem?_append_right (by omega),h4,show (i+1)*4+j - 4=i*4+j by omega]
   exact ih i a (by simpa using h) j u hu
theorem Tryz.infoAct:(Tryz.prog.info? 23).map (fun i=>(i.zero,i.size,i.bytes))=some (some (.agg #[.int .i64 0,.int .i64 0,.int .i64 0,.string ⟨#[]⟩]),4,40):=by kernel_rfl
theorem rac_own {w:World} {base:Nat} {v:Value} {l:List Ac} (h:w.ownsRow base 23 4 v l.length (acells l)) (hm:l.length≤maxLen):Rac w v l:=by
 have hlt:=own_lt h
 rcases h.2 with ⟨rfl,h0⟩ | ⟨g,cap,cur,rfl,_⟩
 ·rw [List.eq_nil_of_length_eq_zero h0]
  exact ⟨none,0,rfl,Nat.zero_le _,fun h=>by simp at h⟩
 ·refine ⟨some ⟨g,0,none⟩,cap,rfl,hm,fun _=>⟨g,0,rfl,(hlt g rfl).2,fun i a hi j u hj=>?_⟩⟩
  have:=h.cells (g:=g) rfl (i*4+j) u (acells_get l i a hi j u hj)
  rw [Nat.zero_add]
  by_cases h0:i*4+j=0
  ·rw [h0] at this ⊢; simpa [Addr.add] using this
  ·unfold Addr.add at this
   rw [if_neg h0] at this
   simpa using this
theorem rac_cells {w:World} {l:List Ac} {b off:Nat} (h:∀ i a,l[i]?=some a→w.rangeAt b (off+i*4) a.cells.toList):∀ j u,(acells l)[j]?=some u→w.cell? ((⟨b,off,none⟩:Addr).add j)=some u:=by
 intro j u hj
 obtain ⟨a,h1,h2⟩:=acells_at l j u hj
 have:=h (j / 4) a h1 (j % 4) u h2
 rw [show off+j / 4*4+j % 4=off+j by omega] at this
 by_cases h0:j=0
 ·subst h0; simpa [Addr.add] using this
 ·simpa [Addr.add,h0] using this
theorem rac_take {w:World} {av:Option Addr} {cap:Nat} {l:List Ac} (h:Rac w (.slice av l.length cap) l) (k:Nat) (hk:k≤l.length):Rac w (.slice av k cap) (l.take k):=by
 obtain ⟨av',cap',e,hm,hc⟩:=h
 injection e with e1 e2 e3
 subst e1 e3
 have hlen:(l.take k).length=k:=by rw [List.length_take]; omega
 refine ⟨av,cap,by rw [hlen],by rw [hlen]; omega,fun h0=>?_⟩
 rw [hlen] at h0
 obtain ⟨b,off,e1,hlt,hr⟩:=hc (by omega)
 exact ⟨b,off,e1,hlt,fun i a hi=>hr i a (by
  rw [List.getElem?_take] at hi
  split at hi
  ·exact hi
  ·cases hi)⟩
theorem mod_pos (k:Int) (n:Nat):∃ m:Nat,m≤n∧Int.tmod (Int.tmod k ((n:Int)+1)+(n:Int)+1) ((n:Int)+1)=(m:Int)∧-((n:Int)+1) < Int.tmod k ((n:Int)+1)∧Int.tmod k ((n:Int)+1) < (n:Int)+1:=by
 have h1:Int.tmod k ((n:Int)+1) < (n:Int)+1:=Int.tmod_lt_of_pos _ (by omega)
 have h2:-((n:Int)+1) < Int.tmod k ((n:Int)+1):=by
  have:=Int.tmod_lt_of_pos (-k) (show (0:Int) < (n:Int)+1 by omega)
  rw [Int.neg_tmod] at this; omega
 have h3:0≤Int.tmod k ((n:Int)+1)+(n:Int)+1:=by omega
 have h4:=Int.tmod_lt_of_pos (Int.tmod k ((n:Int)+1)+(n:Int)+1) (show (0:Int) < (n:Int)+1 by omega)
 have h5:=Int.tmod_nonneg ((n:Int)+1) h3
 exact ⟨(Int.tmod (Int.tmod k ((n:Int)+1)+(n:Int)+1) ((n:Int)+1)).toNat,by omega,by omega,h2,h1⟩
theorem exec_nerep {x:Act} {op:Oper} {w:World} (y z:Operand) (t:TypeId) (ho:op.op=.binOp .neq 29 y z t) {c:Int} {s:ByteArray} (hy:x.eval y=.agg #[.int .i64 c,.string s]) (hz:x.eval z=.agg #[.int .i64 c,.string s]):(execOp x.eval op).run Tryz.prog w=.ok (.value (.bool false)) w:=by
 have hg:(eqGuard .neq 29 y z (.agg #[.int .i64 c,.string s]) (.agg #[.int .i64 c,.string s])).run Tryz.prog w=.ok () w:=by
  have hg:=Tryz.guardReply
  simp [eqGuard,hg]
 have he:(binOp .neq 29 (.agg #[.int .i64 c,.string s]) (.agg #[.int .i64 c,.string s])).run Tryz.prog w=.ok (.bool false) w:=by
  rw [run_neq_struct]
  show ((Op.equalIn 10000 29 _ _).run Tryz.prog w).andThen _=_
  rw [eqReply]; rfl
 unfold execOp
 simp only [ho,hy,hz,Sem.run_bind,hg,he,Result.andThen_ok,Sem.run_pure]
theorem run_app0 (a:Option Addr) (c:Nat) (ty:TypeId) (w:World):(Builtin.append_ #[58,58] ty #[.slice none 0 0,.slice a 0 c]).run Tryz.prog w=.ok (.slice none 0 0) w:=by
 obtain ⟨i,hi,hz,h1,h2⟩:=info_parts Tryz.infoAct
 cases a with
 | none=>simp [Builtin.append_,run_underlying Tryz.underlying58,sizeOf,typeInfo,zeroValue,hi,hz,Builtin.lenOf,run_firstCells_none]
 | some a =>
  have hf:=run_firstCells_some (P:=Tryz.prog) w i.size 0 a 0 c [] (by simp) (by simp)
  simp [Builtin.append_,run_underlying Tryz.underlying58,sizeOf,typeInfo,zeroValue,hi,hz,Builtin.lenOf,hf]
theorem wl_copy {ops:Array Oper} {rest:List Oper} {op:Oper} {x:Act} {w:World} {Q:Exit→Act→World→Prop} (hgd:op.guard=none) (s y:Operand) (ho:op.op=.call { callee:=.builtin .append,args:=#[s,y],argTypes:=#[58,58] }) {v:Value} {l:List Ac} (hs:x.eval s=.slice none 0 0) (hy:x.eval y=v) (hl:Rac w v l) (hlen:l.length≤1000)
 (h:∀ v' w',w'.ownsRow w.heap.size 23 4 v' l.length (acells l)→Below w.heap.size w w'→wpList Tryz.prog ops Q rest (x.put op.dst v') w'):wpList Tryz.prog ops Q (op::rest) x w:=by
 obtain ⟨i,hi,hz,h1,h2⟩:=info_parts Tryz.infoAct
 obtain ⟨av,cap,rfl,hm,hc⟩:=hl
 by_cases h0:l.length=0
 ·have hl0:l=[]:=List.eq_nil_of_length_eq_zero h0
  subst hl0
  refine wpList_plain hgd fun K hK=>?_
  unfold Oper.wp execOp
  have hr:=run_app0 av cap op.type w
  have hy':x.eval y=.slice av 0 cap:=hy
  simp only [ho,resolve,invoke,builtin,Sem.run_bind,Sem.run_pure,Result.andThen_ok,List.map_toArray,List.map_cons,List.map_nil,hs,hy',hr]
  exact hK _ _ (h _ _ (World.ownsRow_nil _ _ _ _) (Below.refl _ _))
 ·obtain ⟨b,off,rfl,hlt,hr⟩:=hc (by omega)
  refine wpList_append_own_at _ hgd s y 58 ho w.heap.size 23 i _ 4 40 Tryz.underlying58 hi hz h1 h2 rfl (by decide) _ 0 [] hs (World.ownsRow_nil _ _ _ _) ⟨b,off,none⟩ l.length cap (acells l) hy (acells_len l) (rac_cells hr) (acells_one l) (by unfold maxLen; omega) (by omega) (Nat.le_refl _) fun v' w' ho' hg _ _=>h v' w' (by rw [Nat.zero_add,List.nil_append] at ho'; exact ho') ((Below.refl _ _).grown hg (Nat.le_refl _) fun k e=>by cases e)
theorem add_zero (av:Option Addr):av.map (fun a=>a.add 0)=av:=by
 cases av with
 | none=>rfl
 | some a=>simp [Addr.add]
theorem run_upto (av:Option Addr) (n cap:Nat) (m:Nat) (h1:m≤cap) (w:World):(Instr.sliceAt 58 (.slice av n cap) none (some (.int .i64 (m:Int))) none).run Tryz.prog w=.ok (.slice av m cap) w:=by
 have hu:Tryz.prog.underlying 58=some (.slice (Tryz.prog.elem 58)):=by simp [Program.elem,Tryz.underlying58]
 have he:Tryz.prog.elem 58=23:=by simp [Program.elem,Tryz.underlying58]
 obtain ⟨i,hi,hz,h1',h2⟩:=info_parts Tryz.infoAct
 rw [run_sliceAt_slice (h:=hu),run_slice_h (ht:=hu) (kh:=.i64) (h:=(m:Int)) (h0:=by omega) (h2:=by omega),he]
 simp only [sizeOf,typeInfo,Sem.run_bind,Sem.run_pure,sliced,Int.toNat_natCast,Nat.zero_mul,Nat.sub_zero]
 simp [hi,add_zero]
theorem wl_upto {ops:Array Oper} {rest:List Oper} {op:Oper} {x:Act} {w:World} {Q:Exit→Act→World→Prop} (y z:Operand) (ho:op.op=.slice 58 y none (some z) none) (hw:Region.wanted op (yielded ops x.tmps)=true) {av:Option Addr} {n cap m:Nat} (hy:x.eval y=.slice av n cap) (hz:x.eval z=.int .i64 (m:Int)) (h1:m≤cap)
 (h:wpList Tryz.prog ops Q rest (x.put op.dst (.slice av m cap)) w):wpList Tryz.prog ops Q (op::rest) x w:=by
 refine wl_wanted hw ?_
 have hr:=run_upto av n cap m h1 w
 unfold Oper.wp execOp
 simp only [ho,hy,hz,Option.map,hr,Sem.run_bind,Sem.run_pure,Result.andThen_ok]
 exact h
theorem exec_repat {x:Act} {op:Oper} {w:World} {r:Int × ByteArray} (y:Operand) (ho:op.op=.load 29 y) {b o:Nat} (hx:x.eval y=.pointer (some ⟨b,o,none⟩)) (hc:w.rangeAt b o [.int .i64 r.1,.string r.2]):(execOp x.eval op).run Tryz.prog w=.ok (.value (.agg #[.int .i64 r.1,.string r.2])) w:=by
 have:=run_loadVar_mid (P:=Tryz.prog) w b o 29 [.int .i64 r.1,.string r.2] _ hc Tryz.underlying29 rfl Tryz.sizeReply
 unfold execOp
 simp only [ho,hx,Instr.loadAt,Instr.sureAddr,Sem.run_bind,Sem.run_pure,Result.andThen_ok,this]
theorem rep_range {w:World} {base:Nat} {v:Value} {q:List (Int × ByteArray)} {n:Nat} (h:w.ownsRow base 29 2 v n (rcells q)) {i:Nat} {r:Int × ByteArray} (hi:q[i]?=some r) (hq:q.length=n):∃ g cap,v=.slice (some ⟨g,0,none⟩) n cap∧w.rangeAt g (i*2) [.int .i64 r.1,.string r.2]:=by
 have hlt:=(List.getElem?_eq_some_iff.1 hi).1
 obtain ⟨g1,g2⟩:=rcells_get q i r hi
 rcases h.2 with ⟨rfl,h0⟩ | ⟨g,cap,cur,rfl,_⟩
 ·omega
 ·refine ⟨g,cap,rfl,fun j u hj=>?_⟩
  have key:∀ k x,(rcells q)[k]?=some x→w.cell? ⟨g,k,none⟩=some x:=by
   intro k x hx
   have:=h.cells (g:=g) rfl k x hx
   by_cases h0:k=0
   ·subst h0; simpa [Addr.add] using this
   ·unfold Addr.add at this; rw [if_neg h0] at this; simpa using this
  match j,hj with
  | 0,hj=>simp at hj; subst hj; exact key _ _ g1
  | 1,hj=>simp at hj; subst hj; exact key _ _ g2
  | j+2,hj=>simp at hj
theorem runsW {v:Value} {l:List Ac} {w:World} (hvb:Vb w) (hai:Ai w) (hl:Rac w v l) (hsz:∀ a ∈ l,a.bytes.size≤140737488351232) (k:Int) (hk0:-9223372036854775808≤k) (hk1:k≤9223372036854775807) (hcap:∀ av n cap,v=.slice av n cap→n≤cap) :
 Calls Tryz.prog 13 #[v,.int .i64 k] w fun e w'=>e=.returned (.bool true)∧Below w.heap.size w w':=by
 have CA:=hide (fun w' (hb:Below w.heap.size w w')=>alive_any (hvb.below hb (Nat.le_refl _)) (hai.below hb))
 have HVB:=hide hvb
 have HAI:=hide hai
 have HSZ:=hide hsz
 have HL:=hide hl
 have hm:=hl.choose_spec.choose_spec.2.1
 unfold maxLen at hm
 obtain ⟨av,cap,rfl,_⟩:=hl
 have hcp:=hcap av l.length cap rfl
 clear hvb hai hsz hcap
 by_cases hbig:150 < l.length
 ·have hbi:(150:Int) < (l.length:Int):=by omega
  go_enter Tryz.func13,Tryz.ntmps13
  go_wp2_with fail
  refine (CA.out w (Below.refl _ _)).mono ?_
  rintro e w1 ⟨rfl,b1⟩
  go_wp2_with fail
  refine (CA.out w1 b1).mono ?_
  rintro e w2 ⟨rfl,b2⟩
  go_wp2
  go_ret
  exact ⟨rfl,b1.trans (b2.mono b1.size)⟩
 ·have hbi:¬ (150:Int) < (l.length:Int):=by omega
  have hll:l.length≤150:=by omega
  obtain ⟨m,hm1,hm2,hm3,hm4⟩:=mod_pos k l.length
  obtain ⟨j0,hj0,jz0,jz1,jz2⟩:=info_parts Tryz.infoAct
  have hd0:¬ (l.length:Int)+1=0:=by omega
  clear hbig hm
  go_enter Tryz.func13,Tryz.ntmps13
  go_wp2_with fail
  refine (CA.out w (Below.refl _ _)).mono ?_
  rintro e w1 ⟨rfl,b1⟩
  go_upto_region 4 with fail
  have HL1:=hide (HL.out.below b1)
  have hlt:(l.take m).length=m:=by rw [List.length_take]; omega
  have HT:=hide (rac_take HL.out m hm1)
  clear hm2 hm3 hm4 hd0 HL
  go_upto_region 5 with (first | (at_builtin; refine wl_copy rfl _ (.tmp 32) rfl rfl rfl HL1.out (by omega) ?_; intro v2 w2 o2 b2; obtain ⟨av2,cap2,rfl⟩:=shapeR o2) | (go_at_call 50; refine (run_any (HVB.out.below (b1.trans (b2.mono b1.size)) (Nat.le_refl _)) (HAI.out.below (b1.trans (b2.mono b1.size))) (rac_own o2 (by unfold maxLen; omega)) HSZ.out (by omega)).mono ?_; rintro e w3 ⟨u3,rfl,o3,b3⟩; obtain ⟨av3,cap3,rfl⟩:=shapeR o3))
  have B3:=hide ((b1.trans (b2.mono b1.size)).trans (b3.mono (b1.trans (b2.mono b1.size)).size))
  have O3:=hide o3
  have HT3:=hide (HT.out.below B3.out)
  clear HL1 HT CA b1 b2 b3 o2 o3
  have hmi:(m:Int)≤(l.length:Int):=by omega
  have hmn:0≤(m:Int):=by omega
  have hmc:(m:Int)≤(cap:Int):=by omega
  have hmc':m≤cap:=by omega
  clear hmi
  have TK:Hid (repsM newM (l.take m)=(repsM newM l).take m):=hide (reps_take l newM m)
  have RL:=hide (reps_len l newM)
  have HSM:Hid (∀ a ∈ l.take m,a.bytes.size≤140737488351232):=hide (fun a ha=>HSZ.out a (List.mem_of_mem_take ha))
  have HLT:=hide hlt
  have hlm:(l.take m).length≤150:=by omega
  clear hlt
  generalize l.take m=lm at *
  go_upto_region 6 with (first | (refine wl_upto (.tmp 38) (.tmp 39) rfl rfl rfl rfl hmc' ?_) | (at_builtin; refine wl_copy rfl _ (.tmp 40) rfl rfl rfl HT3.out (by omega) ?_; intro v4 w4 o4 b4; obtain ⟨av4,cap4,rfl⟩:=shapeR o4) | (go_at_call 50; refine (run_any (HVB.out.below (B3.out.trans (b4.mono B3.out.size)) (Nat.le_refl _)) (HAI.out.below (B3.out.trans (b4.mono B3.out.size))) (rac_own o4 (by unfold maxLen; omega)) HSM.out (by omega)).mono ?_; rintro e w5 ⟨u5,rfl,o5,b5⟩; obtain ⟨av5,cap5,rfl⟩:=shapeR o5))
  have b45:=b4.trans (b5.mono b4.size)
  have B5:=hide (B3.out.trans (b45.mono B3.out.size))
  have R3:=hide (own_same O3.out (w':=w5) fun g hg=>b45.block g (own_lt O3.out g hg).2)
  have R5:=hide o5
  rw [HLT.out,TK.out] at R5
  rw [HLT.out]
  clear b45 b4 b5 o4 o5 O3 HT3 B3 HVB HAI HSZ hcp hmc hmc' TK
  generalize repsM newM l=R at *
  go_upto_region 9 with fail
  have hRm:(R.take m).length=m:=by rw [List.length_take,RL.out]; omega
  have HRM:=hide hRm
  clear hRm
  go_loopw [9] (fun i wr=>∃ (n d:Nat),n≤m∧i=.int .i64 (n:Int)∧wr=w5.drewN d) (fun i _=>m - (intOf i).toNat)
  case atStart=>exact ⟨0,0,Nat.zero_le _,rfl,rfl⟩
  case round =>
   obtain ⟨n,d,hn,rfl,rfl⟩:=hrel
   by_cases hnm:n < m
   ·have hni:(n:Int) < (m:Int):=by omega
    have hnl:(n:Int) < (l.length:Int):=by omega
    obtain ⟨r,hr⟩:∃ r,R[n]?=some r:=⟨_,List.getElem?_eq_getElem (by rw [RL.out]; omega)⟩
    have hr2:(R.take m)[n]?=some r:=by rw [List.getElem?_take,if_pos hnm]; exact hr
    obtain ⟨g3,c3,e3,r3⟩:=rep_range R3.out hr RL.out
    obtain ⟨g5,c5,e5,r5⟩:=rep_range R5.out hr2 HRM.out
    injection e3 with e31 e32 e33
    injection e5 with e51 e52 e53
    subst e31 e33 e51 e53
    clear e32 e52 hr hr2
    have hS0:(w5.drewN d).drew.rangeAt g3 (n*2) [.int .i64 r.1,.string r.2]∧(w5.drewN d).drew.rangeAt g5 (n*2) [.int .i64 r.1,.string r.2]:=⟨r3,r5⟩
    have HD:Hid ((w5.drewN d).drew=w5.drewN (d+1)):=hide rfl
    clear r3 r5
    go_upto_region 11 with fail
    refine wp_region_held (S:=fun W=>W.rangeAt g3 (n*2) [.int .i64 r.1,.string r.2]∧W.rangeAt g5 (n*2) [.int .i64 r.1,.string r.2]) (by kernel_rfl) ?_
    change wpAnyH _ _ _ _ _ _ _ _ (w5.drewN d).drew
    generalize (w5.drewN d).drew=W4 at *
    have HS:(fun W:World=>W.rangeAt g3 (n*2) [.int .i64 r.1,.string r.2]∧W.rangeAt g5 (n*2) [.int .i64 r.1,.string r.2]) W4:=hS0
    clear hS0
    refine tw (i:=0) (d:=some 69) (fuel:=8) (v:=?_) rfl rfl ?_ HS ?_
    rotate_left
    ·intro W hW
     go_simp
     try with_reducible rfl
    simp only [Act.put,sT,List.set]
    refine tw (i:=1) (d:=some 70) (fuel:=7) (v:=?_) rfl rfl ?_ HS ?_
    rotate_left
    ·intro W hW
     go_simp
     try with_reducible rfl
    simp only [Act.put,sT,List.set]
    refine tw (i:=2) (d:=some 71) (fuel:=6) (v:=?_) rfl rfl ?_ HS ?_
    rotate_left
    ·intro W hW
     go_simp
     try with_reducible rfl
    simp only [Act.put,sT,List.set]
    refine tk (i:=3) (d:=some 72) (fuel:=5) (v:=.agg #[.int .i64 r.1,.string r.2]) rfl rfl (Or.inl ⟨by rfl,fun W hW=>exec_repat (.tmp 71) rfl rfl hW.1⟩) HS ?_
    simp only [Act.put,sT,List.set]
    refine tw (i:=4) (d:=some 73) (fuel:=4) (v:=?_) rfl rfl ?_ HS ?_
    rotate_left
    ·intro W hW
     go_simp
     try with_reducible rfl
    simp only [Act.put,sT,List.set]
    refine tw (i:=5) (d:=some 74) (fuel:=3) (v:=?_) rfl rfl ?_ HS ?_
    rotate_left
    ·intro W hW
     go_simp
     try with_reducible rfl
    simp only [Act.put,sT,List.set]
    refine tw (i:=6) (d:=some 75) (fuel:=2) (v:=?_) rfl rfl ?_ HS ?_
    rotate_left
    ·intro W hW
     go_simp
     try with_reducible rfl
    simp only [Act.put,sT,List.set]
    refine tk (i:=7) (d:=some 76) (fuel:=1) (v:=.agg #[.int .i64 r.1,.string r.2]) rfl rfl (Or.inl ⟨by rfl,fun W hW=>exec_repat (.tmp 75) rfl rfl hW.2⟩) HS ?_
    simp only [Act.put,sT,List.set]
    refine tk (i:=8) (d:=some 77) (fuel:=0) (v:=.bool false) rfl rfl (Or.inl ⟨by rfl,fun W hW=>exec_nerep (.tmp 72) (.tmp 76) _ rfl rfl rfl⟩) HS ?_
    simp only [Act.put,sT,List.set]
    refine wpAnyH_done (by kernel_rfl) ?_ _
    go_wp2
    exact ⟨⟨n+1,d+1,by omega,by go_num,HD.out⟩,by simp [intOf]; omega⟩
   ·obtain rfl:n=m:=by omega
    have hni:¬ (n:Int) < (n:Int):=by omega
    clear R3 R5
    go_wp2
    go_ret
    exact ⟨rfl,below_drewN B5.out d⟩
end Go.Proofs.YtncgcejlkmoliaaGreatDoor.Ho
namespace Go.Proofs.YtncgcejlkmoliaaGreatDoor
open Go.ChangeShapes Go.WideShapes Go.ChangeAt Go.RowKit
open Go.ChangeMaps (open_string shut_string)
theorem Tryz.rec3:Tryz.prog.readableRec 3=true:=by kernel_rfl
end Go.Proofs.YtncgcejlkmoliaaGreatDoor
namespace Go.Proofs.YtncgcejlkmoliaaGreatDoor.Ho
open Go.ChangeShapes Go.WideShapes Go.ChangeAt Go.RowKit Go.Deep
open Go.ChangeMaps (open_string shut_string)
theorem acts_cap {H:Type} {enc:TypeId × Value→H} {w:World} {base:Nat} {spare:Nat→Bool} {held:Bool} {v:Value} {d:DataW H} {p:List MemPlace} (h:DataW.Trod enc Tryz.prog w base spare held 58 v d p):∀ av n cap,v=.slice av n cap→n≤cap:=by
 rintro av n cap rfl
 obtain ⟨fuel,hf⟩:=h
 rcases open_slice Tryz.underlying58 hf with ⟨e,_⟩ | ⟨a,len',cap',m,n',D,Pl,e,hb,hl,hm,hmm,hd,hx⟩
 ·injection e with e1
  injection e1 with e1 e2 e3
  omega
 ·injection e with e1
  injection e1 with e1 e2 e3
  omega
end Go.Proofs.YtncgcejlkmoliaaGreatDoor.Ho
namespace Go.Proofs.YtncgcejlkmoliaaGreatDoor.topRuns
open Go.ChangeShapes Go.WideShapes Go.ChangeAt Go.RowKit
theorem c_place:(Rows.topRunsRow.inPlace==Tryz.prog.inPlace 13)=true:=by kernel_rfl
theorem c_unf:(Rows.topRunsRow.unfollowed==Tryz.prog.unfollowed 13)=true:=by kernel_rfl
theorem c_rec:(Rows.topRunsRow.recurses==Tryz.prog.recurses 13)=true:=by kernel_rfl
theorem c_named:(Rows.topRunsRow.named==Tryz.prog.varsNamed 13)=true:=by kernel_rfl
theorem c_tie:namedTie Tryz.prog Rows.topRunsRow.named Rows.topRunsSpec.vars=true:=by kernel_rfl
theorem c_enter:Tryz.prog.mayEnter=true:=by kernel_rfl
theorem c_lift:(Rows.topRunsRow.lifted==Tryz.prog.liftsFinal)=true:=by kernel_rfl
theorem c_heard:Tryz.prog.stopsHeard=true:=by kernel_rfl
theorem closed:joinedFacts Tryz.prog 13 Tryz.f13 Rows.topRunsSpec Rows.topRunsRow=true:=by
 unfold joinedFacts
 rw [c_place,c_unf,c_rec,c_named,c_tie,c_enter,c_lift,c_heard,Tryz.laidOut]
 kernel_rfl
end Go.Proofs.YtncgcejlkmoliaaGreatDoor.topRuns
