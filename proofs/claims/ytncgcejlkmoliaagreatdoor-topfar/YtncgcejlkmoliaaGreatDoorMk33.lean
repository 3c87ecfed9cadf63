import Derived.Test.YtncgcejlkmoliaaGreatDoorMk32
set_option linter.unusedVariables false
set_option maxRecDepth 100000
set_option maxHeartbeats 16000000
namespace Go.Proofs.YtncgcejlkmoliaaGreatDoor.Ho
open Go.RowKit
def vz (n:Nat) (s:ByteArray):Prop:=s.size≤n∧∀ c ∈ s.data.toList,Li.vis c=true
structure NameT (s:ByteArray):Prop where
 len:1≤s.size
 max:s.size≤8
 all:∀ c ∈ s.data.toList,okC c=true
def prefs:List (List UInt8):=[[89,111,117,32],[84,104,101,32],[87,97,121,115,58],[72,101,114,101,32,105,115],[73,116,32,105,115,32],[84,104,101,114,101,32,105,115,32,110,111,32,115],[84,104,101,114,101,32,105,115,32,110,111,98],[84,104,97,116,32,99],[66,101,32]]
def okP (l:List UInt8):Bool:=(match l with | c::_=>okC c | []=>false) || prefs.any (fun p=>p.isPrefixOf l)
theorem okp_app {a:List UInt8} (h:okP a=true) (r:List UInt8):okP (a++r)=true:=by
 unfold okP at h ⊢
 rw [Bool.or_eq_true] at h ⊢
 rcases h with h | h
 ·left
  cases a with
  | nil=>simp at h
  | cons c a=>exact h
 ·right
  rw [List.any_eq_true] at h ⊢
  obtain ⟨p,hp,hx⟩:=h
  refine ⟨p,hp,?_⟩
  rw [List.isPrefixOf_iff_prefix] at hx ⊢
  exact List.IsPrefix.trans hx (List.prefix_append _ _)
theorem okc_vis {c:UInt8} (h:okC c=true):Li.vis c=true:=by
 unfold okC at h
 unfold Li.vis
 simp only [Bool.and_eq_true,decide_eq_true_eq] at h ⊢
 omega
theorem vz_app {n m:Nat} {a b:ByteArray} (h:vz n a) (k:vz m b):vz (n+m) (a++b):=by
 refine ⟨by rw [ByteArray.size_append]; have:=h.1; have:=k.1; omega,fun c hc=>?_⟩
 have e:(a++b).data.toList=a.data.toList++b.data.toList:=by simp
 rw [e,List.mem_append] at hc
 rcases hc with hc | hc
 ·exact h.2 c hc
 ·exact k.2 c hc
theorem vz_mono {n m:Nat} {a:ByteArray} (h:vz n a) (k:n≤m):vz m a:=⟨Nat.le_trans h.1 k,h.2⟩
def vzb (n:Nat) (s:ByteArray):Bool:=decide (s.size≤n)&&s.data.toList.all Li.vis
theorem vz_of {n:Nat} {s:ByteArray} (h:vzb n s=true):vz n s:=by
 unfold vzb at h
 simp only [Bool.and_eq_true,decide_eq_true_eq,List.all_eq_true] at h
 exact h
theorem vz_nil (n:Nat):vz n ⟨#[]⟩:=⟨Nat.zero_le _,fun c hc=>by simp at hc⟩
theorem NameT.vz {s:ByteArray} (h:NameT s):vz 8 s:=⟨h.max,fun c hc=>okc_vis (h.all c hc)⟩
theorem NameT.ok {s:ByteArray} (h:NameT s):okP s.data.toList=true:=by
 have h1:=h.len
 have h2:=h.all
 have e:s.data.toList.length=s.size:=by rw [Array.length_toList]; rfl
 cases hl:s.data.toList with
 | nil=>rw [hl] at e; simp at e; omega
 | cons c r =>
  rw [hl] at h2
  show (okC c || prefs.any (fun p=>p.isPrefixOf (c::r)))=true
  rw [h2 c (List.mem_cons_self ..)]; rfl
theorem okp_data {a b:ByteArray} (h:okP a.data.toList=true):okP (a++b).data.toList=true:=by
 have e:(a++b).data.toList=a.data.toList++b.data.toList:=by simp
 rw [e]; exact okp_app h _
structure Tx (E:Ev):Prop where
 num:0≤E.num∧E.num≤9
 who:NameT E.who
 whom:vz 8 E.whom
 thing:vz 8 E.thing
 text:vz 400 E.text
 k16:E.kind=16→okP E.text.data.toList=true
theorem Tx.all {E:Ev} (h:Tx E) (L:Ld):Tx (allE L E):=⟨h.num,h.who,h.whom,h.thing,h.text,h.k16⟩
theorem Tx.fit {E:Ev} (h:Tx E):Fit E:=by
 have h1:=h.num
 have h2:=h.who.max
 have h3:=h.whom.1
 have h4:=h.thing.1
 have h5:=h.text.1
 exact ⟨by omega,by omega,by omega,by omega,by omega,by omega⟩
theorem itoa_digit (n:Int) (h0:0≤n) (h9:n≤9):(Lib.itoa n).length≤1∧∀ c ∈ Lib.itoa n,Li.vis c=true:=by
 rcases (show n=0∨n=1∨n=2∨n=3∨n=4∨n=5∨n=6∨n=7∨n=8∨n=9 by omega) with rfl | rfl | rfl | rfl | rfl | rfl | rfl | rfl | rfl | rfl
 all_goals exact ⟨of_decide_eq_true (by kernel_rfl),List.all_eq_true.1 (by kernel_rfl)⟩
theorem called_vis (d:Int):∀ c ∈ calledI d,Li.vis c=true:=by
 unfold calledI
 split
 ·unfold calledL
  split
  ·rename_i h
   rcases (show d.toNat=0∨d.toNat=1∨d.toNat=2∨d.toNat=3∨d.toNat=4∨d.toNat=5 by omega) with e | e | e | e | e | e <;> rw [e] <;> exact List.all_eq_true.1 (by kernel_rfl)
  ·intro c hc; simp at hc
 ·intro c hc; simp at hc
theorem form_vis (k:Int):(∀ c ∈ formA k,Li.vis c=true)∧(∀ c ∈ formO k,Li.vis c=true):=by
 rcases kind_cases k with rfl | rfl | rfl | rfl | rfl | rfl | rfl | rfl | rfl | rfl | rfl | rfl | rfl | rfl | rfl | rfl | rfl | rfl | h
 iterate 18 (exact ⟨List.all_eq_true.1 (by kernel_rfl),List.all_eq_true.1 (by kernel_rfl)⟩)
 rw [formA_none h,formO_none h]; exact ⟨fun c hc=>by simp at hc,fun c hc=>by simp at hc⟩
theorem len_size (s:ByteArray):s.data.toList.length=s.size:=by rw [Array.length_toList]; rfl
theorem mark_ok {E:Ev} (h:Tx E) (c:UInt8) (hc:Li.vis c=true):(markL E c).length≤400∧∀ x ∈ markL E c,Li.vis x=true:=by
 unfold markL
 have h1:=h.num
 have h2:=h.who.vz
 split
 ·exact ⟨by rw [len_size]; have:=h2.1; omega,h2.2⟩
 split
 ·exact ⟨by rw [len_size]; have:=h.whom.1; omega,h.whom.2⟩
 split
 ·exact ⟨by rw [len_size]; have:=h.thing.1; omega,h.thing.2⟩
 split
 ·exact ⟨by have:=called_lenR E.dir; omega,called_vis E.dir⟩
 split
 ·exact ⟨by rw [len_size]; have:=h.text.1; omega,h.text.2⟩
 split
 ·have:=itoa_digit E.num h1.1 h1.2
  exact ⟨by omega,this.2⟩
 ·exact ⟨by simp,fun x hx=>by simp at hx; subst hx; exact hc⟩
theorem fill_ok {E:Ev} (h:Tx E):∀ f:List UInt8,(∀ c ∈ f,Li.vis c=true)→(fillL E f).length≤f.length*400∧∀ x ∈ fillL E f,Li.vis x=true:=by
 intro f
 induction f with
 | nil=>intro _; exact ⟨by simp [fillL],fun x hx=>by simp [fillL] at hx⟩
 | cons c f ih =>
  intro hf
  have h1:=mark_ok h c (hf c (List.mem_cons_self ..))
  have h2:=ih fun x hx=>hf x (List.mem_cons_of_mem _ hx)
  have e:fillL E (c::f)=markL E c++fillL E f:=rfl
  refine ⟨by rw [e,List.length_append,List.length_cons]; omega,fun x hx=>?_⟩
  rw [e,List.mem_append] at hx
  rcases hx with hx | hx
  ·exact h1.2 x hx
  ·exact h2.2 x hx
theorem name_someone:NameT (bs someoneL):=⟨by decide,by decide,List.all_eq_true.1 (by kernel_rfl)⟩
theorem Tx.known {E:Ev} (h:Tx E) (k:Nat):Tx (asKnown E k):=by
 refine ⟨h.num,?_,?_,h.thing,h.text,h.k16⟩
 ·show NameT (if bitB (E.by' k) 2=true then bs someoneL else E.who)
  split
  ·exact name_someone
  ·exact h.who
 ·show vz 8 (if (k:Int)=E.other then bs youL else if bitB (E.by' k) 4=true then bs someoneL else E.whom)
  split
  ·exact vz_of (by kernel_rfl)
  ·split
   ·exact name_someone.vz
   ·exact h.whom
theorem fill_cons (E:Ev) (c:UInt8) (f:List UInt8):fillL E (c::f)=markL E c++fillL E f:=rfl
theorem mark_A (E:Ev):markL E 65=E.who.data.toList:=rfl
theorem mark_X (E:Ev):markL E 88=E.text.data.toList:=rfl
theorem mark_plain (E:Ev) (c:UInt8) (h:(c==65 || c==79 || c==84 || c==68 || c==88 || c==78)=false):markL E c=[c]:=by
 simp only [Bool.or_eq_false_iff,beq_eq_false_iff_ne,ne_eq] at h
 unfold markL
 rw [if_neg h.1.1.1.1.1,if_neg h.1.1.1.1.2,if_neg h.1.1.1.2,if_neg h.1.1.2,if_neg h.1.2,if_neg h.2]
theorem formA_ok {E:Ev} (h:Tx E) (hk:E.kind=E.kind) (hn:formA E.kind ≠ []):okP (fillL E (formA E.kind))=true:=by
 have key:∀ f:List UInt8,okP (fillL E (89::111::117::32::f))=true:=fun f=>by
  rw [fill_cons,fill_cons,fill_cons,fill_cons,mark_plain E 89 rfl,mark_plain E 111 rfl,mark_plain E 117 rfl,mark_plain E 32 rfl]
  exact okp_app (a:=[89,111,117,32]) (by decide) _
 have h16:=h.k16
 generalize E.kind=k at *
 rcases kind_cases k with rfl | rfl | rfl | rfl | rfl | rfl | rfl | rfl | rfl | rfl | rfl | rfl | rfl | rfl | rfl | rfl | rfl | rfl | hx
 ·exact key _
 ·exact absurd rfl hn
 iterate 13 (exact key _)
 ·rw [show formA 16=[88] from rfl,fill_cons,mark_X]
  exact okp_app (h16 rfl) _
 ·rw [show formA 17=[66,101,32,119,101,108,99,111,109,101,46] from rfl,fill_cons,fill_cons,fill_cons,mark_plain E 66 rfl,mark_plain E 101 rfl,mark_plain E 32 rfl]
  exact okp_app (a:=[66,101,32]) (by decide) _
 ·exact absurd rfl hn
 ·exact absurd (formA_none hx) hn
theorem formO_ok {E:Ev} (h:Tx E) (hn:formO E.kind ≠ []):okP (fillL E (formO E.kind))=true:=by
 have key:∀ f:List UInt8,okP (fillL E (65::f))=true:=fun f=>by
  rw [fill_cons,mark_A]; exact okp_app h.who.ok _
 generalize E.kind=k at *
 rcases kind_cases k with rfl | rfl | rfl | rfl | rfl | rfl | rfl | rfl | rfl | rfl | rfl | rfl | rfl | rfl | rfl | rfl | rfl | rfl | hx
 iterate 15 (exact key _)
 ·exact absurd rfl hn
 ·exact key _
 ·exact key _
 ·exact absurd (formO_none hx) hn
structure Ln (s:ByteArray):Prop where
 vz:vz 10000 s
 ok:okP s.data.toList=true
theorem Tx.line {E:Ev} (h:Tx E) {b:Int} {t:List UInt8} (ht:tellL E b=some t):Ln (bs t):=by
 unfold tellL at ht
 split at ht
 ·rename_i hx
  have hK:=h.known b.toNat
  have e:(asKnown E b.toNat).kind=E.kind:=rfl
  injection ht with ht
  have hv:∀ c ∈ formOf E b.toNat,Li.vis c=true:=by
   unfold formOf; split
   ·exact (form_vis E.kind).1
   ·exact (form_vis E.kind).2
  have hl:(formOf E b.toNat).length≤25:=by
   unfold formOf; split
   ·exact (form_len E.kind).1
   ·exact (form_len E.kind).2
  have hf:=fill_ok hK _ hv
  have hb:(bs t).data.toList=t:=by simp [bs]
  refine ⟨⟨by rw [← len_size,hb,← ht]; omega,by rw [hb,← ht]; exact hf.2⟩,?_⟩
  rw [hb,← ht]
  have hn:=hx.2.2
  unfold formOf at hn ⊢
  split at hn
  ·rename_i hc
   rw [if_pos hc,← e]
   exact formA_ok hK rfl (by rw [e]; exact hn)
  ·rename_i hc
   rw [if_neg hc,← e]
   exact formO_ok hK (by rw [e]; exact hn)
 ·simp at ht
theorem Tx.hr {E:Ev} (h:Tx E):Hr E:=⟨h.fit,fun b t ht=>by
 have:=(h.line ht).vz.1
 rw [← len_size,show (bs t).data.toList=t by simp [bs]] at this
 omega⟩
structure Nm (L:Ld):Prop where
 rn:∀ r,r < 6→vz 8 (L.rname r)
 tn:∀ i,i < 9→vz 8 (L.tname i)
 bz:∀ b,b < 6→(L.bname b).size≤8
 bn:∀ b,b < 6→L.here b=true→NameT (L.bname b)
theorem Nm.fine {L:Ld} (h:Nm L) (hg:goodL L=true):Fine L :=
 fine_of hg (fun r hr=>by have:=(h.rn r hr).1; omega) (fun i hi=>by have:=(h.tn i hi).1; omega) (fun b hb=>by have:=h.bz b hb; omega)
theorem names_vz {L:Ld} (h:Nm L):∀ q:List Int,(∀ x ∈ q,∃ i:Nat,x=(i:Int)∧i < 9)→vz (q.length*10) (namesK L q):=by
 intro q
 induction q with
 | nil=>intro _; exact vz_nil _
 | cons a q ih =>
  intro hq
  obtain ⟨i,rfl,hi⟩:=hq a (List.mem_cons_self ..)
  have h1:vz 1 ⟨#[32]⟩:=vz_of (by kernel_rfl)
  have h2:vz 1 (starT (L.on i)):=by cases L.on i <;> exact vz_of (by kernel_rfl)
  have:=vz_app (vz_app (vz_app h1 (h.tn i hi)) h2) (ih fun x hx=>hq x (List.mem_cons_of_mem _ hx))
  exact vz_mono this (by simp only [List.length_cons]; omega)
theorem listed_vz {L:Ld} (h:Nm L) {q:List Int} (hq:∀ x ∈ q,∃ i:Nat,x=(i:Int)∧i < 9) (hl:q.length≤18):vz 200 (listedT L q):=by
 unfold listedT
 have h1:=names_vz h q hq
 have h2:vz 1 dotT:=vz_of (by kernel_rfl)
 have h3:vz 8 nothingT:=vz_of (by kernel_rfl)
 refine vz_mono (vz_app (n:=190) (m:=1) ?_ h2) (by omega)
 split
 ·exact vz_mono h3 (by omega)
 ·exact vz_mono h1 (by omega)
theorem ways_vz (L:Ld) (r:Nat):∀ k,vz (k*7) (waysK L r k):=by
 intro k
 induction k with
 | zero=>exact vz_nil _
 | succ k ih =>
  unfold waysK
  split
  ·exact vz_mono ih (by omega)
  ·have h1:vz 1 ⟨#[32]⟩:=vz_of (by kernel_rfl)
   have h2:vz 5 (bs (calledI (k:Int))):=⟨by rw [← len_size,show (bs (calledI (k:Int))).data.toList=calledI (k:Int) by simp [bs]]; exact called_lenR _,by rw [show (bs (calledI (k:Int))).data.toList=calledI (k:Int) by simp [bs]]; exact called_vis _⟩
   have h3:vz 1 (starT (L.shut r k)):=by cases L.shut r k <;> exact vz_of (by kernel_rfl)
   exact vz_mono (vz_app ih (vz_app (vz_app h1 h2) h3)) (by omega)
def All (Fs:List Ev):Prop:=∀ E ∈ Fs,Tx E
theorem All.nil:All []:=fun E h=>by simp at h
theorem All.cons {E:Ev} {Fs:List Ev} (h:Tx E) (k:All Fs):All (E::Fs):=fun F hF=>by
 rcases List.mem_cons.1 hF with rfl | hF
 ·exact h
 ·exact k F hF
theorem All.app {As Bs:List Ev} (h:All As) (k:All Bs):All (As++Bs):=fun F hF=>by
 rcases List.mem_append.1 hF with hF | hF
 ·exact h F hF
 ·exact k F hF
theorem All.one {E:Ev} (h:Tx E):All [E]:=All.cons h All.nil
theorem tx_ev {K M:Ld} {b:Nat} (hn:NameT (K.bname b)) (kind dir:Int) (hk:kind ≠ 16) (thing text:ByteArray) (h1:vz 8 thing) (h2:vz 400 text):Tx (allE M { evN K kind b with dir:=dir,thing:=thing,text:=text }) :=
 Tx.all ⟨⟨by show (0:Int)≤0; omega,by show (0:Int)≤9; omega⟩,hn,vz_nil 8,h1,h2,fun e=>absurd e hk⟩ M
theorem tx_tell {M:Ld} {b:Nat} (hn:NameT (M.bname b)) (s:ByteArray) (h1:vz 400 s) (h2:okP s.data.toList=true):Tx (tellE M b s) :=
 Tx.all ⟨⟨by show (0:Int)≤0; omega,by show (0:Int)≤9; omega⟩,hn,vz_nil 8,vz_nil 8,h1,fun _=>h2⟩ M
theorem tx_say {M:Ld} {b:Nat} (hn:NameT (M.bname b)) (s:ByteArray) (h:(vzb 400 s&&okP s.data.toList)=true):Tx (tellE M b s):=by
 rw [Bool.and_eq_true] at h
 exact tx_tell hn s (vz_of h.1) h.2
theorem all_look {M:Ld} {b:Nat} (hb:b < 6) (hN:Nm M) (hg:goodL M=true) (hh:M.here b=true):All (lookE M b):=by
 have hn:=hN.bn b hb hh
 have hf:=hN.fine hg
 obtain ⟨r,hr,er⟩:=hf.room b hb
 unfold lookE
 split
 ·refine All.app (All.app (All.cons (tx_tell hn _ ?_ ?_) (All.one (tx_tell hn _ ?_ ?_))) ?_) ?_
  ·rw [er,Int.toNat_natCast]
   exact vz_mono (vz_app (vz_app (vz_of (n:=4) (by kernel_rfl)) (hN.rn r hr)) (vz_of (n:=1) (by kernel_rfl))) (by omega)
  ·exact okp_data (okp_data (by kernel_rfl))
  ·exact vz_mono (vz_app (vz_of (n:=5) (by kernel_rfl)) (ways_vz M _ 6)) (by omega)
  ·exact okp_data (by kernel_rfl)
  ·split
   ·exact All.nil
   ·have hl:=sight_len M b
    exact All.one (tx_tell hn _ (vz_mono (vz_app (vz_of (n:=7) (by kernel_rfl)) (listed_vz hN (fun x (hx:x ∈ sightL M b)=>sight_lt hx) (by omega))) (by omega)) (okp_data (by kernel_rfl)))
  ·intro E hE
   unfold othersK at hE
   obtain ⟨c,hc,rfl⟩:=List.mem_map.1 hE
   have hs:=sees_here (List.mem_filter.1 hc).2
   have hcn:=hN.bn c hs.2.1 hs.2.2
   exact tx_tell hn _ (vz_mono (vz_app hcn.vz (vz_of (n:=9) (by kernel_rfl))) (by omega)) (okp_data hcn.ok)
 ·exact All.one (tx_say hn _ (by kernel_rfl))
theorem all_take {L:Ld} {b:Nat} (hb:b < 6) (hN:Nm L) (hh:L.here b=true) (q:List Int) (hq:∀ x ∈ q,∃ i:Nat,x=(i:Int)∧i < 9):All (Go.Proofs.YtncgcejlkmoliaaGreatDoor.takeS L b q).2:=by
 unfold Go.Proofs.YtncgcejlkmoliaaGreatDoor.takeS
 have key:∀ (q:List Int) (s:Ld × List Ev),(∀ x ∈ q,∃ i:Nat,x=(i:Int)∧i < 9)→Mv L s.1→All s.2→All (q.foldl (gstep b) s).2:=by
  intro q
  induction q with
  | nil=>intro s _ _ h; exact h
  | cons a q ih =>
   intro s hq hm h
   rw [List.foldl_cons]
   obtain ⟨i,rfl,hi⟩:=hq a (List.mem_cons_self ..)
   have hs:=mv_same hm
   refine ih _ (fun x hx=>hq x (List.mem_cons_of_mem _ hx)) (hm.move i 1 (b:Int)) (All.app h (All.one (tx_ev (K:=s.1) ?_ 3 0 (by decide) _ ⟨#[]⟩ ?_ (vz_nil _))))
   ·rw [hs.2.2.2.2.2]; exact hN.bn b hb hh
   ·show vz 8 (s.1.tname i)
    rw [hs.2.2.2.2.1]; exact hN.tn i hi
 exact key q (L,[]) hq (Mv.refl L) All.nil
theorem all_sig {L:Ld} {b:Nat} (hn:NameT (L.bname b)) (q:List Int) (s:ByteArray) (h:(vzb 400 s&&okP s.data.toList)=true):All (sigE L b q s):=by
 unfold sigE
 split
 ·exact All.one (tx_say hn s h)
 ·exact All.nil
theorem all_part {L:Ld} {b:Nat} (hb:b < 6) (hN:Nm L) (hh:L.here b=true) (O:Od) (wh loc:Int) (E:Ev) (hE:∀ th,vz 8 th→Tx { E with thing:=th }):All (partE L b O wh loc E):=by
 have hn:=hN.bn b hb hh
 unfold partE
 refine All.app (all_sig hn _ _ (by kernel_rfl)) ?_
 unfold partS
 have key:∀ (q:List Int) (s:Ld × List Ev),(∀ x ∈ q,∃ i:Nat,x=(i:Int)∧i < 9)→Mv L s.1→All s.2→All (q.foldl (pstep b wh loc E) s).2:=by
  intro q
  induction q with
  | nil=>intro s _ _ h; exact h
  | cons a q ih =>
   intro s hq hm h
   rw [List.foldl_cons]
   obtain ⟨i,rfl,hi⟩:=hq a (List.mem_cons_self ..)
   have hs:=mv_same hm
   have hB:NameT (s.1.bname b):=by rw [hs.2.2.2.2.2]; exact hn
   unfold pstep
   by_cases hc:s.1.kind ((i:Int).toNat)=2∧s.1.on ((i:Int).toNat)=true
   ·rw [if_pos hc]
    exact ih _ (fun x hx=>hq x (List.mem_cons_of_mem _ hx)) hm (All.app h (All.one (tx_say hB _ (by kernel_rfl))))
   ·rw [if_neg hc]
    by_cases hd:wh=2∧(i:Int) ∈ wayL s.1 loc
    ·rw [if_pos hd]
     exact ih _ (fun x hx=>hq x (List.mem_cons_of_mem _ hx)) hm (All.app h (All.one (tx_say hB _ (by kernel_rfl))))
    ·rw [if_neg hd]
     refine ih _ (fun x hx=>hq x (List.mem_cons_of_mem _ hx)) (hm.move i wh loc) (All.app h (All.one (Tx.all (hE _ ?_) _)))
     show vz 8 (s.1.tname i)
     rw [hs.2.2.2.2.1]; exact hN.tn i hi
 exact key _ (L,[]) (fun x hx=>had_lt hx) (Mv.refl L) All.nil
theorem turned_event (v:Int):(turnedC v).event ≠ 16:=by
 unfold turnedC
 repeat' split
 all_goals decide
theorem all_turn {L:Ld} {b:Nat} (hn:NameT (L.bname b)) (hN:Nm L) (O:Od) (v:Int):All (turnE L b O (turnedC v)):=by
 unfold turnE
 split
 ·exact All.one (tx_say hn _ (by kernel_rfl))
 ·rename_i i hi
  obtain ⟨h9,-,-⟩:=turnW_lt hi
  split
  ·exact All.one (tx_say hn _ (by kernel_rfl))
  ·exact All.one (tx_ev (K:=L) hn _ 0 (turned_event v) _ ⟨#[]⟩ (hN.tn i h9) (vz_nil _))
theorem box_say (L:Ld) (b:Nat) (word:ByteArray) (h:(boxL L b word).1=none):(vzb 400 (boxL L b word).2&&okP (boxL L b word).2.data.toList)=true:=by
 unfold boxL at h ⊢
 repeat' split at h
 all_goals first | (simp at h; done) | skip
 all_goals simp_all
 all_goals first | exact ⟨by kernel_rfl,by kernel_rfl⟩ | kernel_rfl
structure OdT (O:Od):Prop where
 ok:OdOk O
 text:vz 400 O.text
 v0:0≤O.verb
 v1:O.verb≤20
theorem act_tx {L:Ld} {b:Nat} (hg:goodL L=true) (hN:Nm L) (hb:b < 6) (hh:L.here b=true) (O:Od) (hO:OdT O):All (actE L b O):=by
 have hn:=hN.bn b hb hh
 refine act_cases L b O hO.v0 hO.v1 ?_ ?_ ?_ ?_ ?_ ?_ ?_ ?_ ?_ ?_ ?_ ?_ ?_
 ·intro h e1 e2; rw [e2]; exact all_look hb hN hg hh
 ·intro h e1 e2
  rw [e2]
  unfold getAE
  split
  ·exact All.app (all_sig hn _ _ (by kernel_rfl)) (all_take hb hN hh _ fun x hx=>sight_lt (meant_mem hx))
  ·unfold getBE
   split
   ·rename_i hx
    exact All.one (tx_say hn _ (box_say L b O.second hx))
   ·exact All.app (all_sig hn _ _ (by kernel_rfl)) (all_take hb hN hh _ fun x hx=>has_lt (meant_mem hx))
 ·intro h e1 e2; rw [e2]
  exact all_part hb hN hh O 0 (L.room b) _ fun th hth=>⟨⟨by show (0:Int)≤0; omega,by show (0:Int)≤9; omega⟩,hn,vz_nil 8,hth,vz_nil _,fun e=>absurd (show (4:Int)=16 from e) (by decide)⟩
 ·intro h e1 e2
  rw [e2]
  unfold putE
  split
  ·rename_i hx
   exact All.one (tx_say hn _ (box_say L b O.second hx))
  ·rename_i i hi
   obtain ⟨h9,-,-,-⟩:=box_lt hi
   exact all_part hb hN hh O 2 (i:Int) _ fun th hth=>⟨⟨by show (0:Int)≤0; omega,by show (0:Int)≤9; omega⟩,hn,vz_nil 8,hth,vz_mono (hN.tn i h9) (by omega),fun e=>absurd (show (5:Int)=16 from e) (by decide)⟩
 ·intro h e1 e2
  rw [e2]
  unfold giveE
  split
  ·exact All.one (tx_say hn _ (by kernel_rfl))
  ·rename_i c hc
   have hw:=who_sees hc
   have hs:=sees_here hw.2
   exact all_part hb hN hh O 1 (c:Int) _ fun th hth=>⟨⟨by show (0:Int)≤0; omega,by show (0:Int)≤9; omega⟩,hn,(hN.bn c hs.2.1 hs.2.2).vz,hth,vz_nil _,fun e=>absurd (show (6:Int)=16 from e) (by decide)⟩
 ·intro h e1 e2; rw [e2]; exact All.one (tx_ev (K:=L) hn 7 0 (by decide) ⟨#[]⟩ O.text (vz_nil _) hO.text)
 ·intro d hd h hx e1 e2
  rw [e2]
  unfold doorE
  split
  ·exact All.one (tx_say hn _ (by kernel_rfl))
  ·split
   ·exact All.one (tx_say hn _ (by kernel_rfl))
   ·have hr:(doorL L b d (turnedC O.verb)).bname b=L.bname b:=by
     unfold doorL sideL
     repeat' split
     all_goals rfl
    exact All.one (tx_ev (K:=doorL L b d (turnedC O.verb)) (by rw [hr]; exact hn) _ 0 (turned_event _) doorT ⟨#[]⟩ (vz_of (by kernel_rfl)) (vz_nil _))
 ·intro h hx e1 e2; rw [e2]; exact all_turn hn hN O _
 ·intro h e1 e2; rw [e2]; exact all_turn hn hN O _
 ·intro h e1 e2
  rw [e2]
  unfold hitsE
  split
  ·exact All.one (tx_say hn _ (by kernel_rfl))
  ·rename_i c hc
   have hr:(foesL L b c).bname b=L.bname b:=by
    unfold foesL
    split <;> rfl
   exact All.one (tx_say (by rw [hr]; exact hn) _ (by kernel_rfl))
 ·intro h e1 e2
  rw [e2]
  have hl:=hand_len L b
  exact All.one (tx_tell hn _ (vz_mono (vz_app (vz_of (n:=8) (by kernel_rfl)) (listed_vz hN (fun x (hx:x ∈ handL L b)=>hand_lt hx) (by omega))) (by omega)) (okp_data (by kernel_rfl)))
 ·intro h e1 e2; rw [e2]; exact All.one (tx_ev (K:=L) hn 18 0 (by decide) ⟨#[]⟩ ⟨#[]⟩ (vz_nil _) (vz_nil _))
 ·intro d hd h e1 e2
  have hkp:=(act_kp hg hb hh O hO.v0 hO.v1)
  rw [e1] at hkp
  rw [e2]
  unfold walkE
  split
  ·exact All.one (tx_say hn _ (by kernel_rfl))
  ·split
   ·exact All.one (tx_say hn _ (by kernel_rfl))
   ·have hbn:(walkL L b d).bname=L.bname∧(walkL L b d).here=L.here:=by
     unfold walkL
     repeat' split
     all_goals exact ⟨rfl,rfl⟩
    have hNx:Nm (walkL L b d):=⟨fun r hr=>by rw [hkp.rname]; exact hN.rn r hr,fun i hi=>by rw [hkp.tname]; exact hN.tn i hi,fun c hc=>by rw [hbn.1]; exact hN.bz c hc,fun c hc h=>by rw [hbn.1]; exact hN.bn c hc (by rw [← hbn.2]; exact h)⟩
    refine All.app (All.cons ?_ (All.one ?_)) (all_look hb hNx hkp.good (by rw [hbn.2]; exact hh))
    ·exact tx_ev (K:=L) hn 1 d (by decide) ⟨#[]⟩ ⟨#[]⟩ (vz_nil _) (vz_nil _)
    ·exact tx_ev (K:=walkL L b d) (by rw [hbn.1]; exact hn) 2 _ (by decide) ⟨#[]⟩ ⟨#[]⟩ (vz_nil _) (vz_nil _)
open Go.RowKit
theorem take_bh (L:Ld) (b:Nat) (q:List Int):(Go.Proofs.YtncgcejlkmoliaaGreatDoor.takeS L b q).1.bname=L.bname∧(Go.Proofs.YtncgcejlkmoliaaGreatDoor.takeS L b q).1.here=L.here:=by
 unfold Go.Proofs.YtncgcejlkmoliaaGreatDoor.takeS
 have key:∀ (q:List Int) (s:Ld × List Ev),s.1.bname=L.bname∧s.1.here=L.here→(q.foldl (gstep b) s).1.bname=L.bname∧(q.foldl (gstep b) s).1.here=L.here:=by
  intro q
  induction q with
  | nil=>intro s h; exact h
  | cons a q ih=>intro s h; rw [List.foldl_cons]; exact ih _ h
 exact key q (L,[]) ⟨rfl,rfl⟩
theorem part_bh (L:Ld) (b:Nat) (O:Od) (wh loc:Int) (E:Ev):(partL L b O wh loc E).bname=L.bname∧(partL L b O wh loc E).here=L.here:=by
 unfold partL partS
 have key:∀ (q:List Int) (s:Ld × List Ev),s.1.bname=L.bname∧s.1.here=L.here→(q.foldl (pstep b wh loc E) s).1.bname=L.bname∧(q.foldl (pstep b wh loc E) s).1.here=L.here:=by
  intro q
  induction q with
  | nil=>intro s h; exact h
  | cons a q ih =>
   intro s h
   rw [List.foldl_cons]
   refine ih _ ?_
   unfold pstep
   repeat' split
   all_goals exact h
 exact key _ (L,[]) ⟨rfl,rfl⟩
theorem turn_bh (L:Ld) (b:Nat) (O:Od) (C:Chg):(turnL L b O C).bname=L.bname∧(turnL L b O C).here=L.here:=by
 unfold turnL
 repeat' split
 all_goals exact ⟨rfl,rfl⟩
theorem act_bh {L:Ld} {b:Nat} {O:Od} (h0:0≤O.verb) (h1:O.verb≤20) (hq:O.verb ≠ 20):(actL L b O).bname=L.bname∧(actL L b O).here=L.here:=by
 refine act_cases L b O h0 h1 ?_ ?_ ?_ ?_ ?_ ?_ ?_ ?_ ?_ ?_ ?_ ?_ ?_
 ·intro h e1 e2; rw [e1]; exact ⟨rfl,rfl⟩
 ·intro h e1 e2
  rw [e1]
  unfold getAL getL getBL
  split
  ·exact take_bh ..
  ·split
   ·exact ⟨rfl,rfl⟩
   ·exact take_bh ..
 ·intro h e1 e2; rw [e1]; exact part_bh ..
 ·intro h e1 e2
  rw [e1]
  unfold putL
  split
  ·exact ⟨rfl,rfl⟩
  ·exact part_bh ..
 ·intro h e1 e2
  rw [e1]
  unfold giveL
  split
  ·exact ⟨rfl,rfl⟩
  ·exact part_bh ..
 ·intro h e1 e2; rw [e1]; exact ⟨rfl,rfl⟩
 ·intro d hd h hx e1 e2
  rw [e1]
  unfold doorL sideL
  repeat' split
  all_goals exact ⟨rfl,rfl⟩
 ·intro h hx e1 e2; rw [e1]; exact turn_bh ..
 ·intro h e1 e2; rw [e1]; exact turn_bh ..
 ·intro h e1 e2
  rw [e1]
  unfold hitsL foesL
  repeat' split
  all_goals exact ⟨rfl,rfl⟩
 ·intro h e1 e2; rw [e1]; exact ⟨rfl,rfl⟩
 ·intro h; exact absurd h hq
 ·intro d hd h e1 e2
  rw [e1]
  unfold walkL
  repeat' split
  all_goals exact ⟨rfl,rfl⟩
theorem quit_bh (L:Ld) (b:Nat):∀ c,(actL L b quitO).bname c=(if c=b then ⟨#[]⟩ else L.bname c)∧(actL L b quitO).here c=(if c=b then false else L.here c):=by
 intro c
 have e:actL L b quitO=zeroB (letGoL L b) b:=by
  refine act_cases L b quitO (by decide) (by decide) ?_ ?_ ?_ ?_ ?_ ?_ ?_ ?_ ?_ ?_ ?_ ?_ ?_
  all_goals first | (intro h; exact absurd h (by decide)) | skip
  ·intro d _ h; exact absurd h (by decide)
  ·intro h e1 e2; exact e1
  ·intro d hd h
   exact absurd (show (20:Int)=(d:Int) from h) (by omega)
 rw [e]
 exact ⟨rfl,rfl⟩
theorem act_nm {L:Ld} {b:Nat} (hN:Nm L) (hg:goodL L=true) (hb:b < 6) (hh:L.here b=true) {O:Od} (hO:OdT O) (hq:O.verb ≠ 20):Nm (actL L b O):=by
 have hk:=act_kp hg hb hh O hO.v0 hO.v1
 have hx:=act_bh (L:=L) (b:=b) hO.v0 hO.v1 hq
 exact ⟨fun r hr=>by rw [hk.rname]; exact hN.rn r hr,fun i hi=>by rw [hk.tname]; exact hN.tn i hi,fun c hc=>by rw [hx.1]; exact hN.bz c hc,fun c hc h=>by rw [hx.1]; exact hN.bn c hc (by rw [← hx.2]; exact h)⟩
theorem odt_quit:OdT quitO:=⟨⟨by decide,by decide,by decide,by decide⟩,vz_of (by kernel_rfl),by decide,by decide⟩
theorem quit_nm {L:Ld} {b:Nat} (hN:Nm L) (hg:goodL L=true) (hb:b < 6) (hh:L.here b=true):Nm (actL L b quitO):=by
 have hk:=act_kp hg hb hh quitO (by decide) (by decide)
 have hx:=quit_bh L b
 refine ⟨fun r hr=>by rw [hk.rname]; exact hN.rn r hr,fun i hi=>by rw [hk.tname]; exact hN.tn i hi,fun c hc=>?_,fun c hc h=>?_⟩
 ·rw [(hx c).1]
  split
  ·decide
  ·exact hN.bz c hc
 ·rw [(hx c).2] at h
  rw [(hx c).1]
  by_cases e:c=b
  ·rw [if_pos e] at h; simp at h
  ·rw [if_neg e] at h ⊢; exact hN.bn c hc h
def Bh (L X:Ld):Prop:=∀ c,c < 6→(X.bname c=L.bname c∧X.here c=L.here c)∨(c < 2∧X.bname c=⟨#[]⟩∧X.here c=false)
theorem Bh.refl (L:Ld):Bh L L:=fun c _=>.inl ⟨rfl,rfl⟩
theorem Bh.trans {A B C:Ld} (h:Bh A B) (k:Bh B C):Bh A C:=fun c hc=>by
 rcases k c hc with ⟨e1,e2⟩ | ⟨e0,e1,e2⟩
 ·rw [e1,e2]; exact h c hc
 ·exact .inr ⟨e0,e1,e2⟩
theorem fight_bh (L:Ld) (b:Nat) (n:Int):Bh L (fightL L b n):=by
 intro c hc
 unfold fightL dieL
 split
 ·split
  ·split
   ·rename_i h2
    by_cases e:c=foeN L b
    ·exact .inr ⟨by omega,by subst e; simp [zeroB,Ld.setBeing],by subst e; simp [zeroB,Ld.setBeing]⟩
    ·exact .inl ⟨by simp [zeroB,Ld.setBeing,e]; rfl,by simp [zeroB,Ld.setBeing,e]; rfl⟩
   ·exact .inl ⟨rfl,rfl⟩
  ·exact .inl ⟨rfl,rfl⟩
 ·exact .inl ⟨rfl,rfl⟩
theorem round_bh (L:Ld) (dr:Nat):∀ k,Bh L (roundK L dr k).1:=by
 intro k
 induction k with
 | zero=>exact Bh.refl L
 | succ k ih =>
  simp only [roundK]
  split
  ·exact ih
  ·exact ih.trans (fight_bh _ _ _)
theorem bh_nm {L X:Ld} (hN:Nm L) (h:Bh L X) (ha:Alike L X):Nm X:=by
 refine ⟨fun r hr=>by rw [ha.rname]; exact hN.rn r hr,fun i hi=>by rw [ha.tname]; exact hN.tn i hi,fun c hc=>?_,fun c hc hh=>?_⟩
 ·rcases h c hc with ⟨e1,e2⟩ | ⟨_,e1,e2⟩
  ·rw [e1]; exact hN.bz c hc
  ·rw [e1]; decide
 ·rcases h c hc with ⟨e1,e2⟩ | ⟨_,e1,e2⟩
  ·rw [e1]; exact hN.bn c hc (by rw [← e2]; exact hh)
  ·rw [e2] at hh; simp at hh
theorem round_tx {L:Ld} (hN:Nm L) (hg:goodL L=true) (dr:Nat):∀ k,k≤6→All (roundK L dr k).2:=by
 intro k
 induction k with
 | zero=>intro _; exact All.nil
 | succ k ih =>
  intro hk
  have hG:=round_good hg dr k (by omega)
  have hM:=bh_nm hN (round_bh L dr k) hG.2
  have ih:=ih (by omega)
  simp only [roundK]
  generalize (roundK L dr k).1=M at *
  split
  ·exact ih
  ·rename_i h0
   refine All.app ih ?_
   have hB:=good_being hG.1 k (by omega)
   have hhere:M.here k=true:=by
    rcases hB.2.2.2.2 with e | e
    ·exact absurd e h0
    ·exact e.1
   have hfo:foeN M k < 6:=by
    rcases hB.2.2.2.2 with e | e
    ·exact absurd e h0
    ·have:=amg_pos e.2; unfold foeN; omega
   have hbl:=blow_pos dr k
   unfold fightE
   split
   ·rename_i hm
    unfold meets at hm
    rw [Bool.and_eq_true] at hm
    have hfh:=hm.1
    have hwho:=hM.bn k (by omega) hhere
    have hwm:=hM.bn _ hfo hfh
    refine All.cons (Tx.all ⟨⟨by show (0:Int)≤blowN dr k; omega,by show blowN dr k≤9; omega⟩,hwho,hwm.vz,vz_nil _,vz_nil _,fun e=>absurd (show (14:Int)=16 from e) (by decide)⟩ M) ?_
    split
    ·rename_i hd
     unfold dieE
     refine All.cons (Tx.all ⟨⟨by show (0:Int)≤0; omega,by show (0:Int)≤9; omega⟩,hwm,vz_nil _,vz_nil _,vz_nil _,fun e=>absurd (show (15:Int)=16 from e) (by decide)⟩ _) ?_
     split
     ·exact All.nil
     ·rename_i h2
      have hg2:goodL ((hitL M (foeN M k) (blowN dr k)).setHealth (foeN M k) 1)=true:=by unfold hitL; rw [health_twice]; exact good_health hG.1 hfo hfh (by omega) (by omega)
      have hg3:=good_begin (good_letGo hg2 (foeN M k) hfo).1 (foeN M k) hfo hfh
      have hN3:Nm (beginL (letGoL ((hitL M (foeN M k) (blowN dr k)).setHealth (foeN M k) 1) (foeN M k)) (foeN M k)):=⟨hM.rn,hM.tn,hM.bz,hM.bn⟩
      unfold beginE
      exact All.cons (Tx.all ⟨⟨by show (0:Int)≤0; omega,by show (0:Int)≤9; omega⟩,hwm,vz_nil _,vz_nil _,vz_nil _,fun e=>absurd (show (17:Int)=16 from e) (by decide)⟩ _) (all_look hfo hN3 hg3 hfh)
    ·exact All.nil
   ·exact All.nil
def entL (L:Ld) (nm:ByteArray) (k:Nat):Ld:=beginL (L.setBeing k nm true false 0 0 0) k
theorem named_T {s:ByteArray} (h:namedB s=true):NameT s:=by
 unfold namedB at h
 repeat' split at h
 all_goals first | (simp at h; done) | skip
 rename_i h1 h2 h3 h4
 rw [List.all_eq_true] at h
 refine ⟨?_,by omega,h⟩
 by_cases h0:s.size=0
 ·exfalso; apply h1
  apply ByteArray.ext
  exact Array.eq_empty_of_size_eq_zero h0
 ·omega
theorem ent_bh (L:Ld) (nm:ByteArray) (k:Nat):∀ c,(entL L nm k).bname c=(if c=k then nm else L.bname c)∧(entL L nm k).here c=(if c=k then true else L.here c):=fun c=>⟨rfl,rfl⟩
theorem ent_good {L:Ld} (hg:goodL L=true) {k:Nat} (hk:k < 6) (hh:L.here k=false) (nm:ByteArray):goodL (entL L nm k)=true:=by
 refine good_beings hg rfl rfl rfl rfl rfl rfl (fun c hc=>?_) (fun i hi h1=>?_)
 ·have h:=good_being hg c hc
  by_cases e:c=k
  ·subst e
   refine being_mk ?_ ?_ ?_ ?_ ?_ <;> simp [entL,beginL,Ld.setBeing,Ld.setRoom,Ld.setHealth,amg]
  ·refine being_mk ?_ ?_ ?_ ?_ ?_ <;> simp [entL,beginL,Ld.setBeing,Ld.setRoom,Ld.setHealth,e]
   ·exact h.1
   ·exact h.2.1
   ·exact h.2.2.1
   ·simpa using h.2.2.2.1
   ·exact h.2.2.2.2
 ·have hp:=(good_kind hg i hi).2
  unfold gplace at hp
  rw [if_neg (by omega),if_pos h1] at hp
  simp only [Bool.and_eq_true] at hp
  have hne:(L.loc i).toNat ≠ k:=by
   intro e
   have h2:=hp.2
   rw [e,hh] at h2
   simp at h2
  simp [entL,beginL,Ld.setBeing,Ld.setRoom,Ld.setHealth,hne]
theorem ent_nm {L:Ld} (hN:Nm L) {nm:ByteArray} (hn:NameT nm) (k:Nat):Nm (entL L nm k):=by
 refine ⟨hN.rn,hN.tn,fun c hc=>?_,fun c hc h=>?_⟩
 ·rw [(ent_bh L nm k c).1]
  split
  ·exact hn.max
  ·exact hN.bz c hc
 ·rw [(ent_bh L nm k c).2] at h
  rw [(ent_bh L nm k c).1]
  split
  ·exact hn
  ·rename_i e
   rw [if_neg e] at h
   exact hN.bn c hc h
theorem ent_tx {L:Ld} (hN:Nm L) (hg:goodL L=true) {nm:ByteArray} (hn:NameT nm) {k:Nat} (hk:k < 6) (hh:L.here k=false):All (beginE (entL L nm k) k):=by
 have hb:(entL L nm k).bname k=nm:=by rw [(ent_bh L nm k k).1,if_pos rfl]
 have hhe:(entL L nm k).here k=true:=by rw [(ent_bh L nm k k).2,if_pos rfl]
 unfold beginE
 exact All.cons (Tx.all ⟨⟨by show (0:Int)≤0; omega,by show (0:Int)≤9; omega⟩,by show NameT ((entL L nm k).bname k); rw [hb]; exact hn,vz_nil _,vz_nil _,vz_nil _,fun e=>absurd (show (17:Int)=16 from e) (by decide)⟩ _) (all_look hk (ent_nm hN hn k) (ent_good hg hk hh nm) hhe)
theorem bars_nil {L:Ld} {nm:ByteArray} (h:bars L nm=0):goodL L=true∧namedB nm=true∧takenL L nm=false∧∃ k:Nat,vacA L=((k:Int),true)∧2≤k∧k < 6∧L.here k=false:=by
 unfold bars at h
 by_cases h1:goodL L=false
 ·rw [if_pos h1] at h; omega
 rw [if_neg h1] at h
 by_cases h2:namedB nm=false
 ·rw [if_pos h2] at h; omega
 rw [if_neg h2] at h
 by_cases h3:takenL L nm=true
 ·rw [if_pos h3] at h; omega
 rw [if_neg h3] at h
 by_cases h4:(vacA L).2=false
 ·rw [if_pos h4] at h; omega
 refine ⟨by simpa using h1,by simpa using h2,by simpa using h3,?_⟩
 unfold vacA at h4 ⊢
 by_cases e2:L.here 2=false
 ·exact ⟨2,by rw [if_pos e2]; rfl,by omega,by omega,e2⟩
 rw [if_neg e2] at h4 ⊢
 by_cases e3:L.here 3=false
 ·exact ⟨3,by rw [if_pos e3]; rfl,by omega,by omega,e3⟩
 rw [if_neg e3] at h4 ⊢
 by_cases e4:L.here 4=false
 ·exact ⟨4,by rw [if_pos e4]; rfl,by omega,by omega,e4⟩
 rw [if_neg e4] at h4 ⊢
 by_cases e5:L.here 5=false
 ·exact ⟨5,by rw [if_pos e5]; rfl,by omega,by omega,e5⟩
 rw [if_neg e5] at h4
 simp at h4
end Go.Proofs.YtncgcejlkmoliaaGreatDoor.Ho
