import Derived.Test.YtncgcejlkmoliaaGreatDoorMk31
import Derived.Test.YtncgcejlkmoliaaGreatDoorMh16
import Derived.Test.YtncgcejlkmoliaaGreatDoorMh18
import Derived.Lib.ItoaLen
set_option linter.unusedVariables false
set_option maxRecDepth 100000
set_option maxHeartbeats 16000000
namespace Go.Proofs.YtncgcejlkmoliaaGreatDoor.Ho
open Go.RowKit
section
variable {W0:World} {lab:Nat→Nat} {w:World} {hb:Nat} {M:Hm} {p:Nat→Value} {vl:Value}
theorem HoV.land (h:HoV W0 lab w hb M p vl):w.rangeAt hb 0 M.L.cells.toList:=by
 refine range_of h.cell fun j v hj=>?_
 have hlt:j < 165:=by have:=(List.getElem?_eq_some_iff.1 hj).1; rw [Array.length_toList,M.L.size] at this; exact this
 rw [Nat.zero_add,more_get _ _ _ j hlt,← hj,Array.getElem?_toList,M.L.get j hlt]
theorem HoV.ptr (h:HoV W0 lab w hb M p vl) (i:Nat) (hi:i < 4):w.cell? ⟨hb,165+i,none⟩=some (p i):=by
 rw [cell_of_row w _ _ _ _ _ h.cell,more_pre _ _ _ i (by simp [pre]; omega)]
 match i,hi with
 | 0,_ | 1,_ | 2,_ | 3,_=>rfl
theorem HoV.acts (h:HoV W0 lab w hb M p vl):w.cell? ⟨hb,169,none⟩=some (.int .i64 M.acts):=by
 rw [cell_of_row w _ _ _ _ _ h.cell]; exact more_pre M.L (pre p M.acts) vl 4 (by simp [pre])
theorem HoV.last (h:HoV W0 lab w hb M p vl):w.cell? ⟨hb,170,none⟩=some vl:=by
 rw [cell_of_row w _ _ _ _ _ h.cell]; exact more_row M.L (pre p M.acts) vl
theorem HoV.ptrs (h:HoV W0 lab w hb M p vl):w.rangeAt hb 165 [p 0,p 1,p 2,p 3]:=by
 intro j v hj
 match j,hj with
 | 0,hj=>rw [h.ptr 0 (by omega)]; exact hj
 | 1,hj=>rw [h.ptr 1 (by omega)]; exact hj
 | 2,hj=>rw [h.ptr 2 (by omega)]; exact hj
 | 3,hj=>rw [h.ptr 3 (by omega)]; exact hj
 | j+4,hj=>simp at hj
end
theorem over_row (L:Ld) (p:Nat→Value) (n:Nat) (v u:Value):over (L.more (pre p n) v) 170 [u]=L.more (pre p n) u:=more_put L (pre p n) v u
theorem exec_last {a:Act} {op:Oper} {w:World} (x y:Operand) (ho:op.op=.store 45 x y) {hb:Nat} {v:Value} (hx:a.eval x=.pointer (some ⟨hb,170,none⟩)) (hy:a.eval y=v) {L:Ld} {p:Nat→Value} {n:Nat} {u:Value} (hc:w.heap[hb]?=some (.cells (L.more (pre p n) u) 102 (0,0))) (hv:v.oneCell'=true) :
 (execOp a.eval op).run Tryz.prog w=.ok .skip (w.setCells hb 170 [v]):=by
 have ht:=there_of (n:=1) (o:=170) hc (by rw [more_size]; simp [pre])
 have hr:(storeVar 45 ⟨hb,170,none⟩ v).run Tryz.prog w=.ok () (w.setCells hb 170 [v]):=by
  have:=run_storeCells_cells (P:=Tryz.prog) hb 170 [v] 0 w (fun j hj=>by simpa using (ht j (by simpa using hj)).1) (fun j hj=>by simpa using (ht j (by simpa using hj)).2) (fun u hu=>by simp at hu; subst hu; exact hv)
  have hi:=Tryz.sizeEvents
  cases hq:Tryz.prog.info? 45 with
  | none=>simp [hq] at hi
  | some i =>
   have hs:1=i.size:=by simp [hq] at hi; omega
   simp only [Nat.add_zero] at this
   simp [storeVar,sizeOf,typeInfo,hq,cells_one hv,← hs,this]
 unfold execOp
 simp only [ho,hx,hy,Instr.storeAt,Instr.sureAddr,Sem.run_bind,Sem.run_pure,Result.andThen_ok,hr]
def hearK (E:Ev) (M:Hm) (k:Nat):Hm:={ M with seat:=fun j=>if j < k then (M.seat j).map (heardS E) else M.seat j }
structure Hr (E:Ev):Prop where
 fit:Fit E
 len:∀ b t,tellL E b=some t→t.length≤1048576
structure Sv (N:Nat) (M:Hm):Prop where
 seat:∀ i S,i < 4→M.seat i=some S→SeOk S∧S.told.length≤N
 last:M.last.length≤N
theorem heard_ok {E:Ev} {S:Se} {N:Nat} (hE:Hr E) (h:SeOk S∧S.told.length≤N):SeOk (heardS E S)∧(heardS E S).told.length≤N+1:=by
 unfold heardS
 split
 ·unfold hearS
  split
  ·rename_i t ht
   refine ⟨h.1.tell (by show (bs t).size≤_; rw [show (bs t).size=t.length from by simp [bs,ByteArray.size]]; exact hE.len _ t ht),?_⟩
   unfold tellS
   simp only
   split
   ·have:=h.2; omega
   ·have:=h.2; simp; omega
  ·exact ⟨h.1,by have:=h.2; omega⟩
 ·exact ⟨h.1,by have:=h.2; omega⟩
theorem Sv.hear {E:Ev} {N:Nat} {M:Hm} (h:Sv N M) (hE:Hr E):Sv (N+1) (hearM E M):=by
 refine ⟨fun i S hi hS=>?_,by have:=h.last; simp [hearM]; omega⟩
 simp only [hearM,Option.map_eq_some_iff] at hS
 obtain ⟨S',hS',rfl⟩:=hS
 exact heard_ok hE (h.seat i S' hi hS')
theorem Sv.hears {N:Nat} {M:Hm} (h:Sv N M):∀ (Es:List Ev),(∀ E ∈ Es,Hr E)→Sv (N+Es.length) (hearsM M Es):=by
 intro Es
 induction Es generalizing N M with
 | nil=>intro _; exact h
 | cons E Es ih =>
  intro hE
  have:=ih (h.hear (hE E (List.mem_cons_self ..))) (fun F hF=>hE F (List.mem_cons_of_mem _ hF))
  simp only [hearsM,List.foldl_cons,List.length_cons] at this ⊢
  rw [show N+(Es.length+1)=N+1+Es.length by omega]
  exact this
theorem hears_take {M:Hm} {Es:List Ev} {n:Nat} (hn:n < Es.length):hearsM M (Es.take (n+1))=hearM Es[n] (hearsM M (Es.take n)):=by
 unfold hearsM
 rw [List.take_succ_eq_append_getElem hn,List.foldl_append]
 rfl
theorem hearK_zero (E:Ev) (M:Hm):hearK E M 0=M:=by simp [hearK]
theorem hearK_all (E:Ev) (M:Hm) {W0:World} {lab:Nat→Nat} {w:World} {hb:Nat} {p:Nat→Value} {vl:Value} (h:HoV W0 lab w hb (hearK E { M with last:=M.last++[E] } 4) p vl):HoV W0 lab w hb (hearM E M) p vl:=by
 refine ⟨h.low,h.base,h.out,h.cell,h.row,h.lh,h.lr,fun i hi=>?_⟩
 have:=h.seats i hi
 simp only [hearK,if_pos hi] at this
 exact this
theorem put_congr {M M':Hm} {W0:World} {lab:Nat→Nat} {w:World} {hb:Nat} {p:Nat→Value} {vl:Value} (h:HoV W0 lab w hb M p vl) (e1:M'.L=M.L) (e2:M'.acts=M.acts) (e3:M'.last=M.last) (e4:∀ i,i < 4→M'.seat i=M.seat i):HoV W0 lab w hb M' p vl :=
 ⟨h.low,h.base,h.out,by rw [e1,e2]; exact h.cell,by rw [e3]; exact h.row,h.lh,h.lr,fun i hi=>by rw [e4 i hi]; exact h.seats i hi⟩
section
variable {P:Program} {ops:Array Oper} {rest:List Oper} {op:Oper} {a:Act} {w:World} {Q:Exit→Act→World→Prop}
theorem wl_index1 (t e:TypeId) (x y:Operand) (ho:op.op=.index t x y) (hw:Region.wanted op (yielded ops a.tmps)=true) (n k:Nat) (cs:Array Value) (d:TypeDesc) (v:Value)
 (hx:a.eval x=.agg cs) (hy:a.eval y=.int .i64 (k:Int)) (hu:P.underlying t=some (.array n e)) (he:P.underlying e=some d) (hd:(match d with | .struct _ | .array _ _=>true | _=>false)=false) (hi:(P.info? e).map (·.size)=some 1) (hk:k < n) (hv:cs[k]?=some v)
 (h:wpList P ops Q rest (a.put op.dst v) w):wpList P ops Q (op::rest) a w:=by
 refine wl_wanted hw ?_
 have hagg:(isAgg e).run P w=.ok false w:=by
  unfold isAgg
  rw [Sem.run_bind,run_underlying he w]
  cases d <;> simp_all
 have hsz:(sizeOf e).run P w=.ok 1 w:=by
  cases hq:P.info? e with
  | none=>simp [hq] at hi
  | some i =>
   have:i.size=1:=by simpa [hq] using hi
   simp [sizeOf,typeInfo,hq,this]
 unfold Oper.wp execOp
 have hk':(k:Int) < (n:Int):=by omega
 have h0:(0:Int)≤(k:Int):=by omega
 simp only [ho,hx,hy,Instr.index,asIntOf,Sem.run_bind,Sem.run_pure,Result.andThen_ok,run_underlying hu,hk',h0,and_self,if_true,hsz,part,hagg,Int.toNat_natCast,Nat.mul_one,hv]
 exact h
end
theorem four_get (p:Nat→Value) (k:Nat) (hk:k < 4):(#[p 0,p 1,p 2,p 3]:Array Value)[k]?=some (p k):=by
 match k,hk with
 | 0,_ | 1,_ | 2,_ | 3,_=>rfl
theorem ev_range {w:World} {base:Nat} {v:Value} {Fs:List Ev} (h:w.ownsRow base 71 16 v Fs.length (evc Fs)) (k:Nat) (hk:k < Fs.length):∃ g cap,v=.slice (some ⟨g,0,none⟩) Fs.length cap∧g < w.heap.size∧w.rangeAt g (k*16) Fs[k].cells.toList:=by
 obtain ⟨g,cap,e,_,hc⟩:=event_of h k hk
 refine ⟨g,cap,e,(own_lt h g (by rw [e]; rfl)).2,fun j x hj=>?_⟩
 have hlt:j < 16:=by have:=(List.getElem?_eq_some_iff.1 hj).1; rw [Array.length_toList,Ev.size] at this; exact this
 rw [hc j hlt,← hj,Array.getElem?_toList]
theorem map_some {M:Hm} {i:Nat} {S:Se} {f:Se→Se} (h:M.seat i=some S):(M.seat i).map f=some (f S):=by rw [h]; rfl
theorem happens_any {W0:World} (hvb:Vb W0) (hai:Ai W0) {lab:Nat→Nat} {w:World} {hb:Nat} {M:Hm} (h:HoC W0 lab w hb M) (X:Ld) (Es:List Ev) (v:Value) {base:Nat} (hrow:w.ownsRow base 71 16 v Es.length (evc Es)) (hlv:∀ g,v.ownBlock=some g→lab g=9)
 (hE:∀ E ∈ Es,Hr E) {N:Nat} (hs:Sv N M) (hN:N+Es.length≤1000000) :
 Calls Tryz.prog 109 #[.pointer (some ⟨hb,0,none⟩),.agg X.cells,v] w fun e w'=>e=.returned (.tuple #[])∧∃ lab',HoC W0 lab' w' hb (hapM M X Es)∧Gr lab lab' w w':=by
 obtain ⟨p,vl,hV⟩:=h
 have B1:=below_box w (.cells X.cells 43)
 have A1:=hide (hV.below B1)
 have C1:=hide A1.out.cell
 have L1:=hide (cod_new w X)
 have R1:=hide (own_same hrow (w':=w.alloc (.cells X.cells 43)) fun g hg=>B1.block g (own_lt hrow g hg).2)
 obtain ⟨av,cap,rfl⟩:=shapeE hrow
 have HH:Hid (hapM M X Es=hearsM { M with L:=X } Es):=hide rfl
 have HE:=hide hE
 have HS:=hide hs
 have HLV:=hide (fun g hg=>(⟨hlv g hg,(own_lt hrow g hg).2⟩:lab g=9∧g < w.heap.size))
 have G1:=hide (Gr.below (lab:=lab) B1)
 clear hrow hV B1 hE hs hlv
 go_enter Tryz.func109,Tryz.ntmps109
 go_upto_region 2 with (first | (refine wl_land (.tmp 4) rfl rfl _ X rfl L1.out ?_) | (refine wl_over 43 (.tmp 13) (.tmp 11) rfl rfl hb 0 X.cells _ _ 102 rfl rfl C1.out (by rw [X.size,more_size]; omega) (by rw [X.size]; exact Tryz.sizeLand) (land_one X) (over_land _ _ _ _) ?_; intro W1 g1 u1))
 obtain ⟨A2,G2⟩:=A1.out.own (M':={ M with L:=X }) u1 g1 A1.out.row A1.out.lr A1.out.seats
 have G3:=hide (G1.out.trans G2)
 have R3:=hide (own_same R1.out (w':=W1) fun g hg=>u1.block g (by intro e; subst e; have:=(HLV.out _ hg).1; rw [A1.out.lh] at this; omega))
 have S3:Hid (Sv N { M with L:=X }):=hide ⟨HS.out.seat,HS.out.last⟩
 replace A2:=hide A2
 clear g1 u1 A1 C1 L1 R1 G1 G2 HS
 generalize ({ M with L:=X }:Hm)=M1 at *
 go_upto_region 3 with fail
 go_loopw [16] (fun i wr=>∃ (n:Nat) (lab':Nat→Nat) (p':Nat→Value) (vl':Value),i=.int .i64 n∧n≤Es.length∧HoV W0 lab' wr hb (hearsM M1 (Es.take n)) p' vl'∧Gr lab lab' w wr∧Hid (wr.ownsRow base 71 16 (.slice av Es.length cap) Es.length (evc Es))) (fun i _=>Es.length - (intOf i).toNat)
 case atStart=>exact ⟨0,lab,p,vl,rfl,Nat.zero_le _,A2.out,G3.out,R3⟩
 case round =>
  obtain ⟨wo,hwo⟩:∃ x,x=wr:=⟨_,rfl⟩
  subst hwo
  obtain ⟨n,lab',p',vl',rfl,hn,hV,hG,hR⟩:=hrel
  clear A2 G3 R3
  by_cases hlt:n < Es.length
  ·obtain ⟨g,cap',e,hgl,hrg⟩:=ev_range hR.out n hlt
   injection e with e1 e2 e3
   subst e1
   subst e3
   have HEn:=hide (HE.out Es[n] (List.getElem_mem hlt))
   have HTK:=hide (hears_take (M:=M1) hlt)
   have SV:=hide (S3.out.hears (Es.take n) (fun F hF=>HE.out F (List.mem_of_mem_take hF)))
   have hlast:(hearsM M1 (Es.take n)).last.length≤1000000:=by
    have:=SV.out.last
    have h2:(Es.take n).length≤Es.length:=by simp; omega
    omega
   generalize hEE:Es[n]=E at *
   generalize hMM:hearsM M1 (Es.take n)=Mn at *
   have hltn:(n:Int) < (Es.length:Int):=by omega
   have hBx:=below_box wo (.cells E.cells 71)
   have A0:=hide ((hV.below hBx).below ((Below.refl _ _).drew):HoV W0 lab' (wo.alloc (.cells E.cells 71)).drew hb Mn p' vl')
   have HR:Cev (wo.alloc (.cells E.cells 71)).drew wo.heap.size E:=cev_new wo E
   have hbe9:lab' wo.heap.size=9:=hV.out _ (Nat.le_refl _)
   have hbeh:wo.heap.size ≠ hb:=by have:=hV.lt; omega
   have hbe4:vl'.ownBlock ≠ some wo.heap.size:=fun e=>by have:=hV.lr _ e; omega
   have hG0:=hide (hG.trans (Gr.below (lab:=lab') (hBx.drew)))
   have hR0:=hide (own_same hR.out (w':=(wo.alloc (.cells E.cells 71)).drew) fun b hb2=>hBx.drew.block b (own_lt hR.out b hb2).2)
   clear hV hG hR
   go_upto_region 5 with (first | (refine wl_mid 71 (.tmp 18) rfl rfl g (n*16) E.cells.toList _ rfl hrg Tryz.underlying71 rfl (by rw [Array.length_toList,E.size]; exact Tryz.sizeEvent) ?_; rw [Array.toArray_toList]) | (refine wl_new 71 (.tmp 7) (.tmp 19) rfl rfl _ _ rfl rfl rfl (by rw [E.size]; exact Tryz.sizeEvent) (by rw [E.size]; rfl) (Ev.one E) ?_))
   simp only [Act.put]
   go_cut [] from 17 to 47 (fun wc=>(∃ lab'' vl'',HoV W0 lab'' wc hb { Mn with last:=Mn.last++[E] } p' vl''∧Gr lab' lab'' (wo.alloc (.cells E.cells 71)).drew wc)∧Cev wc wo.heap.size E)
   case first =>
    have hlen:=hlast
    have A1:=hide (A0.out.below (below_box _ (.cells E.cells 71)))
    have hbl:=A0.out.lt
    have hbel:wo.heap.size < (wo.alloc (.cells E.cells 71)).drew.heap.size:=by show _ < (wo.alloc _).heap.size; simp
    go_wp2_with fail
    refine wp_region_held (S:=fun W=>Cev W wo.heap.size E) (by kernel_rfl) ?_
    change wpAnyH _ _ _ _ _ _ _ _ (wo.alloc (.cells E.cells 71)).drew
    generalize (wo.alloc (.cells E.cells 71)).drew=Z at *
    generalize wo.heap.size=be at *
    refine tw (i:=0) (d:=some 20) (fuel:=10) (v:=?_) rfl rfl ?_ HR ?_
    rotate_left
    ·intro W hW
     go_simp
     try with_reducible rfl
    simp only [Act.put,sT,List.set]
    refine tw (i:=1) (d:=some 21) (fuel:=9) (v:=?_) rfl rfl ?_ HR ?_
    rotate_left
    ·intro W hW
     go_simp
     try with_reducible rfl
    simp only [Act.put,sT,List.set]
    refine tw (i:=2) (d:=some 22) (fuel:=8) (v:=?_) rfl rfl ?_ HR ?_
    rotate_left
    ·intro W hW
     go_simp
     try with_reducible rfl
    simp only [Act.put,sT,List.set]
    refine tw (i:=3) (d:=some 23) (fuel:=7) (v:=?_) rfl rfl ?_ HR ?_
    rotate_left
    ·intro W hW
     go_simp
     try with_reducible rfl
    simp only [Act.put,sT,List.set]
    refine tk (i:=5) (d:=some 25) (fuel:=6) (v:=.agg E.cells) rfl rfl (Or.inl ⟨by rfl,fun W hW=>exec_event (.tmp 7) rfl _ rfl hW⟩) HR ?_
    simp only [Act.put,sT,List.set]
    refine wpAnyH_all (fuel:=5) (rs:=[4,6]) (by kernel_rfl) (by simp) ?_
    intro i hi
    have hi2:i=4∨i=6:=by simpa using hi
    clear hi
    rcases hi2 with rfl | rfl
    ·refine run_at (d:=some 24) (v:=vl') (w':=Z) rfl rfl (by rfl) ?_ ?_
     ·have hc:Z.cell? ⟨hb,170,none⟩=some vl':=by exact A0.out.last
      revert hc
      generalize Z=WW
      intro hc
      go_simp
      try with_reducible rfl
     refine ⟨HR,?_⟩
     simp only [Act.put,sT,List.set]
     refine wpAnyH_all (fuel:=4) (rs:=[6]) (by kernel_rfl) (by simp) ?_
     intro i hi
     obtain rfl:i=6:=by simpa using hi
     clear hi
     refine run_at (d:=some 26) rfl rfl (by rfl) (exec_row (.tmp 25) rfl (E:=E) rfl) ?_
     refine ⟨HR.alloc (.cells E.cells 71),?_⟩
     simp only [Act.put,sT,List.set]
     obtain ⟨u,y1,hr,o1,o2,o3⟩:=exec_append (w:=Z.alloc (.cells E.cells 71)) 45 (base:=hb+1) (E:=E) A1.out.row (heap_alloc_new Z _) hlen (by have:=A1.out.lt; omega)
     refine wpAnyH_all (fuel:=3) (rs:=[7]) (by kernel_rfl) (by simp) ?_
     intro i hi
     obtain rfl:i=7:=by simpa using hi
     clear hi
     refine run_at (d:=some 27) rfl rfl (by rfl) (hr _ _ (.tmp 24) (.tmp 26) rfl rfl rfl rfl) ?_
     have R2:Cev y1 be E:=by unfold Cev; rw [o2.block be (by simp; omega) (fun e=>hbe4 e.symm)]; exact (HR.alloc (.cells E.cells 71))
     have C2:=(o2.block hb (by simp; omega) (fun e=>by have:=own_lt A1.out.row hb e.symm; omega)).trans A1.out.cell
     have hu1:=own_one o1
     refine ⟨R2,?_⟩
     simp only [Act.put,sT,List.set]
     refine tw (i:=8) (d:=some 28) (fuel:=2) (v:=?_) rfl rfl ?_ R2 ?_
     rotate_left
     ·intro W hW; go_simp; try with_reducible rfl
     simp only [Act.put,sT,List.set]
     refine tw (i:=9) (d:=some 29) (fuel:=1) (v:=?_) rfl rfl ?_ R2 ?_
     rotate_left
     ·intro W hW; go_simp; try with_reducible rfl
     simp only [Act.put,sT,List.set]
     refine wpAnyH_all (fuel:=0) (rs:=[10]) (by kernel_rfl) (by simp) ?_
     intro i hi
     obtain rfl:i=10:=by simpa using hi
     clear hi
     refine skip_at (d:=none) rfl rfl (by rfl) (exec_last (v:=u) (.tmp 29) (.tmp 27) rfl rfl rfl C2 hu1) ?_
     have g3:=over_heap hb 102 [u] y1 _ 170 C2
     rw [over_row] at g3
     have u3:=over_upd hb [u] y1 170
     generalize y1.setCells hb 170 [u]=W3 at *
     have R3:Cev W3 be E:=by unfold Cev; rw [u3.block be hbeh]; exact R2
     refine ⟨R3,?_⟩
     simp only [Act.put]
     have HM:=hide (A0.out.more (W:=W3) (E:=E) (below_box Z _) o1 o2 o3 g3 u3)
     clear o1 o2 o3 g3 u3 C2 hr R2 A1
     refine wpAnyH_done (by kernel_rfl) ?_ _
     go_wp2_with fail
     go_meet
     exact ⟨⟨_,_,HM.out.choose_spec⟩,R3⟩
    ·refine run_at (d:=some 26) rfl rfl (by rfl) (exec_row (.tmp 25) rfl (E:=E) rfl) ?_
     refine ⟨HR.alloc (.cells E.cells 71),?_⟩
     simp only [Act.put,sT,List.set]
     refine wpAnyH_all (fuel:=4) (rs:=[4]) (by kernel_rfl) (by simp) ?_
     intro i hi
     obtain rfl:i=4:=by simpa using hi
     clear hi
     refine run_at (d:=some 24) (v:=vl') (w':=(Z.alloc (.cells E.cells 71))) rfl rfl (by rfl) ?_ ?_
     ·have hc:(Z.alloc (.cells E.cells 71)).cell? ⟨hb,170,none⟩=some vl':=by exact A1.out.last
      revert hc
      generalize (Z.alloc (.cells E.cells 71))=WW
      intro hc
      go_simp
      try with_reducible rfl
     refine ⟨HR.alloc (.cells E.cells 71),?_⟩
     simp only [Act.put,sT,List.set]
     obtain ⟨u,y1,hr,o1,o2,o3⟩:=exec_append (w:=Z.alloc (.cells E.cells 71)) 45 (base:=hb+1) (E:=E) A1.out.row (heap_alloc_new Z _) hlen (by have:=A1.out.lt; omega)
     refine wpAnyH_all (fuel:=3) (rs:=[7]) (by kernel_rfl) (by simp) ?_
     intro i hi
     obtain rfl:i=7:=by simpa using hi
     clear hi
     refine run_at (d:=some 27) rfl rfl (by rfl) (hr _ _ (.tmp 24) (.tmp 26) rfl rfl rfl rfl) ?_
     have R2:Cev y1 be E:=by unfold Cev; rw [o2.block be (by simp; omega) (fun e=>hbe4 e.symm)]; exact (HR.alloc (.cells E.cells 71))
     have C2:=(o2.block hb (by simp; omega) (fun e=>by have:=own_lt A1.out.row hb e.symm; omega)).trans A1.out.cell
     have hu1:=own_one o1
     refine ⟨R2,?_⟩
     simp only [Act.put,sT,List.set]
     refine tw (i:=8) (d:=some 28) (fuel:=2) (v:=?_) rfl rfl ?_ R2 ?_
     rotate_left
     ·intro W hW; go_simp; try with_reducible rfl
     simp only [Act.put,sT,List.set]
     refine tw (i:=9) (d:=some 29) (fuel:=1) (v:=?_) rfl rfl ?_ R2 ?_
     rotate_left
     ·intro W hW; go_simp; try with_reducible rfl
     simp only [Act.put,sT,List.set]
     refine wpAnyH_all (fuel:=0) (rs:=[10]) (by kernel_rfl) (by simp) ?_
     intro i hi
     obtain rfl:i=10:=by simpa using hi
     clear hi
     refine skip_at (d:=none) rfl rfl (by rfl) (exec_last (v:=u) (.tmp 29) (.tmp 27) rfl rfl rfl C2 hu1) ?_
     have g3:=over_heap hb 102 [u] y1 _ 170 C2
     rw [over_row] at g3
     have u3:=over_upd hb [u] y1 170
     generalize y1.setCells hb 170 [u]=W3 at *
     have R3:Cev W3 be E:=by unfold Cev; rw [u3.block be hbeh]; exact R2
     refine ⟨R3,?_⟩
     simp only [Act.put]
     have HM:=hide (A0.out.more (W:=W3) (E:=E) (below_box Z _) o1 o2 o3 g3 u3)
     clear o1 o2 o3 g3 u3 C2 hr R2 A1
     refine wpAnyH_done (by kernel_rfl) ?_ _
     go_wp2_with fail
     go_meet
     exact ⟨⟨_,_,HM.out.choose_spec⟩,R3⟩
   case rest =>
    obtain ⟨⟨lab2,vl2,hV2,hG2⟩,hC2⟩:=hcut
    have hg9:=HLV.out g rfl
    have hR2:=hide (own_same hR0.out (w':=wc) fun b hb2=>by
     obtain rfl:g=b:=by simpa [Value.ownBlock] using hb2
     exact hG2.same g (own_lt hR0.out g hb2).2 (.inr ((hG0.out.old g hg9.2).trans hg9.1)))
    have hG2':=hide (hG0.out.trans hG2)
    have hlb2:lab2 wo.heap.size=9:=(hG2.old _ (by show _ < (wo.alloc _).heap.size; simp)).trans hbe9
    have P2:=hide hV2.ptrs
    have V2:=hide hV2
    clear hG2 hV2 A0 HR hR0 hG0 hrg
    generalize hM2:({ Mn with last:=Mn.last++[E] }:Hm)=M2 at *
    go_upto_region 7 with (refine wl_mid 100 (.tmp 32) rfl rfl hb 165 [p' 0,p' 1,p' 2,p' 3] _ rfl P2.out Tryz.underlying100 rfl Tryz.sizeSeats ?_)
    clear P2
    go_loopw [34] (fun i w4=>∃ (k:Nat) (lab4:Nat→Nat),i=.int .i64 k∧k≤4∧HoV W0 lab4 w4 hb (hearK E M2 k) p' vl2∧Gr lab2 lab4 wc w4∧Cev w4 wo.heap.size E) (fun i _=>4 - (intOf i).toNat)
    case atStart=>exact ⟨0,lab2,rfl,by omega,by rw [hearK_zero]; exact V2.out,Gr.refl _ _,hC2⟩
    case round =>
     obtain ⟨k,lab4,rfl,hk,hV4,hG4,hC4⟩:=hrel
     have hC2lt:=hC2.lt
     clear V2 hC2
     by_cases hk4:k < 4
     ·have hki:(k:Int) < 4:=by omega
      have hseat:(hearK E M2 k).seat k=Mn.seat k:=by rw [← hM2]; simp [hearK]
      rcases hV4.seats k hk4 with ⟨e1,e2⟩ | ⟨kk,S,vq,vp,vt,e1,e2,hS⟩
      ·have V5:=hide (put_congr (M':=hearK E M2 (k+1)) hV4 rfl rfl rfl fun j hj=>by
        simp only [hearK]
        by_cases hjk:j=k
        ·subst hjk
         rw [if_pos (by omega),if_neg (by omega)]
         have:M2.seat j=none:=by simpa [hearK] using e1
         rw [this]; rfl
        ·by_cases hlt:j < k
         ·rw [if_pos (by omega),if_pos hlt]
         ·rw [if_neg (by omega),if_neg hlt])
       have hf:=four_get p' k hk4
       rw [e2] at hf
       clear e1 e2 hV4 hseat
       go_wp2_with (refine wl_index1 100 96 (.tmp 33) (.tmp 34) rfl rfl 4 k _ _ (.pointer none) rfl rfl Tryz.underlying100 Tryz.underlying96 rfl Tryz.sizePSeat hk4 hf ?_)
       refine ⟨⟨k+1,lab4,by go_num,by omega,V5.out,hG4,hC4⟩,by simp [intOf]; omega⟩
      ·have hSe:SeOk S∧S.told.length≤N+(Es.take n).length:=SV.out.seat k S hk4 (by rw [← hseat]; exact e1)
       have hln:(Es.take n).length≤Es.length:=by simp; omega
       have hf:=four_get p' k hk4
       rw [e2] at hf
       have HPut:Hid (∀ S',heardS E S=S'→∀ {lab5:Nat→Nat} {w5:World},HoV W0 lab5 w5 hb ((hearK E M2 k).put k (some S')) p' vl2→HoV W0 lab5 w5 hb (hearK E M2 (k+1)) p' vl2):=hide (fun S' hS' lab5 w5 h=>put_congr h rfl rfl rfl fun j hj=>by
        simp only [hearK,Hm.put]
        by_cases hjk:j=k
        ·subst hjk
         rw [if_pos (by omega),if_pos rfl]
         have:M2.seat j=some S:=by simpa [hearK] using e1
         rw [this]; simp [hS']
        ·rw [if_neg hjk]
         by_cases hlt:j < k
         ·rw [if_pos (by omega),if_pos hlt]
         ·rw [if_neg (by omega),if_neg hlt])
       have HX:=hide e2
       have HSL:=hide hS
       have V4:=hide hV4
       have CP:=hide (plays_any hS.v.cell)
       have HHr:Hid (heardS E S=if plays S=true then hearS E S else S):=hide rfl
       have HE1:=hide e1
       clear e1 e2 hV4 hS hseat
       cases hp:plays S with
       | false =>
        rw [hp] at CP
        have hE1:heardS E S=S:=by rw [HHr.out,hp]; rfl
        have V5:=hide (HPut.out S hE1 (put_congr V4.out rfl rfl rfl fun j hj=>by
         simp only [Hm.put]
         by_cases hjk:j=k
         ·subst hjk; rw [if_pos rfl,HE1.out]
         ·rw [if_neg hjk]))
        clear HPut V4 HSL HX HHr hE1 hp HE1
        go_wp2_with (refine wl_index1 100 96 (.tmp 33) (.tmp 34) rfl rfl 4 k _ _ (.pointer (some ⟨kk,0,none⟩)) rfl rfl Tryz.underlying100 Tryz.underlying96 rfl Tryz.sizePSeat hk4 hf ?_)
        refine CP.out.mono ?_
        rintro e w5 ⟨rfl,hw5⟩
        subst hw5
        clear CP
        go_wp2
        refine ⟨⟨k+1,lab4,by go_num,by omega,V5.out,hG4,hC4⟩,by simp [intOf]; omega⟩
       | true =>
        rw [hp] at CP
        have hE1:heardS E S=hearS E S:=by rw [HHr.out,hp]; rfl
        have CH:=hide (hear_any HSL.out.v (ok_small hSe.1.pg) (by omega) E HEn.out.fit (hvb.below V4.out.low (Nat.le_refl _)) (fun w' hb'=>hai.below (V4.out.low.trans (hb'.mono V4.out.low.size))))
        have hlb4:lab4 wo.heap.size=9:=(hG4.old _ hC2lt).trans hlb2
        clear hp
        go_wp2_with (refine wl_index1 100 96 (.tmp 33) (.tmp 34) rfl rfl 4 k _ _ (.pointer (some ⟨kk,0,none⟩)) rfl rfl Tryz.underlying100 Tryz.underlying96 rfl Tryz.sizePSeat hk4 hf ?_)
        refine CP.out.mono ?_
        rintro e w5 ⟨rfl,hw5⟩
        subst hw5
        clear CP
        go_wp2_with (refine wl_wanted rfl (wp_load_row 71 (.tmp 7) rfl wo.heap.size rfl 71 E.cells (0,0) _ hC4 Tryz.underlying71 rfl (by rw [E.size]; exact Tryz.sizeEvent) ?_))
        refine CH.out.mono ?_
        rintro e w6 ⟨rfl,vp6,vt6,K6⟩
        obtain ⟨lab6,V6,G6⟩:=V4.out.step hk4 HX.out HSL.out K6
        have V7:=hide (HPut.out _ hE1 V6)
        have hC7:Cev w6 wo.heap.size E:=by unfold Cev; rw [G6.same _ hC4.lt (.inr hlb4)]; exact hC4
        have hG7:=hide (hG4.trans G6)
        clear HPut V4 HSL HX HHr hE1 HE1 K6 V6 G6 hC4 hG4 CH
        go_wp2
        refine ⟨⟨k+1,lab6,by go_num,by omega,V7.out,hG7.out,hC7⟩,by simp [intOf]; omega⟩
     ·have hk44:k=4:=by omega
      subst hk44
      have V5:=hide (hearK_all E Mn (by rw [hM2]; exact hV4))
      have hR5:=hide (own_same hR2.out (w':=wr) fun b hb2=>by
       obtain rfl:g=b:=by simpa [Value.ownBlock] using hb2
       exact hG4.same g (own_lt hR2.out g hb2).2 (.inr ((hG2'.out.old g hg9.2).trans hg9.1)))
      have hG5:=hide (hG2'.out.trans hG4)
      rw [← HTK.out] at V5
      clear hV4 hG4 hC4
      go_wp2
      refine ⟨⟨n+1,lab4,p',vl2,by go_num,by omega,V5.out,hG5.out,hR5⟩,by simp [intOf]; omega⟩
  ·have hnn:n=Es.length:=by omega
   subst hnn
   rw [List.take_length] at hV
   go_wp2
   go_end0
   exact ⟨rfl,lab',⟨p',vl',by rw [HH.out]; exact hV⟩,hG⟩
end Go.Proofs.YtncgcejlkmoliaaGreatDoor.Ho
namespace Go.Proofs.YtncgcejlkmoliaaGreatDoor
open Go.RowKit
structure EvOk (L X:Ld) (b:Nat) (E:Ev):Prop where
 actor:E.actor=(b:Int)
 told:∀ c:Nat,c < 6→c ≠ b→E.kind=16→E.by' c=0
 far:∀ c:Nat,c < 6→c ≠ b→L.room c ≠ L.room b→L.room c ≠ X.room b→E.by' c=0
 near:∀ c:Nat,c < 6→c ≠ b→E.by' c=0∨E.room=L.room c
 num:E.num=0
 who:E.who.size≤50000000
 whom:E.whom.size≤50000000
 thing:E.thing.size≤50000000
 text:E.text.size≤50000000
theorem all_near (M:Ld) (E:Ev) (c:Nat):(allE M E).by' c=0∨E.actor=(c:Int)∨E.room=M.room c:=by
 show percL M (c:Int) E.kind E.room E.actor E.other=0∨_
 by_cases h1:E.actor=(c:Int)
 ·exact .inr (.inl h1)
 by_cases h2:E.room=M.room c
 ·exact .inr (.inr h2)
 refine .inl ?_
 unfold percL
 by_cases hab:abtL M (c:Int)=false
 ·rw [if_pos hab]
 ·rw [if_neg hab,if_pos ⟨fun e=>h1 e.symm,.inr (by rw [Int.toNat_natCast]; exact fun e=>h2 e.symm)⟩]
theorem ok_all {L X M:Ld} {b:Nat} {E:Ev} (hM:∀ c:Nat,c < 6→c ≠ b→M.room c=L.room c) (ha:E.actor=(b:Int)) (hr:E.room=L.room b∨E.room=X.room b) (hn:E.num=0) (h1:E.who.size≤50000000) (h2:E.whom.size≤50000000) (h3:E.thing.size≤50000000) (h4:E.text.size≤50000000):EvOk L X b (allE M E):=by
 refine ⟨ha,fun c hc hne hk=>?_,fun c hc hne f1 f2=>?_,fun c hc hne=>?_,hn,h1,h2,h3,h4⟩
 ·show percL M (c:Int) E.kind E.room E.actor E.other=0
  unfold percL
  by_cases hab:abtL M (c:Int)=false
  ·rw [if_pos hab]
  ·rw [if_neg hab,if_pos ⟨by rw [ha]; omega,.inl hk⟩]
 ·show percL M (c:Int) E.kind E.room E.actor E.other=0
  unfold percL
  by_cases hab:abtL M (c:Int)=false
  ·rw [if_pos hab]
  ·rw [if_neg hab,if_pos ⟨by rw [ha]; omega,.inr (by
    show M.room ((c:Int).toNat) ≠ E.room
    rw [Int.toNat_natCast,hM c hc hne]
    rcases hr with h | h
    ·rw [h]; exact f1
    ·rw [h]; exact f2)⟩]
 ·rcases all_near M E c with h | h | h
  ·exact .inl h
  ·rw [ha] at h; omega
  ·exact .inr (by rw [← hM c hc hne]; exact h)
theorem empty_small:(⟨#[]⟩:ByteArray).size≤50000000:=by decide
theorem ok_tell {L X M:Ld} {b:Nat} (hb:b < 6) (hM:∀ c:Nat,c < 6→c ≠ b→M.room c=L.room c) (hK:M.room b=L.room b∨M.room b=X.room b) (hn:(M.bname b).size≤1048576) (s:ByteArray) (h:s.size≤50000000):EvOk L X b (tellE M b s) :=
 ok_all hM rfl hK rfl (by show (M.bname b).size≤_; omega) empty_small empty_small h
theorem called_lenR (d:Int):(calledI d).length≤5:=by
 unfold calledI
 split
 ·unfold calledL
  split
  ·rename_i h
   rcases (show d.toNat=0∨d.toNat=1∨d.toNat=2∨d.toNat=3∨d.toNat=4∨d.toNat=5 by omega) with e | e | e | e | e | e <;> rw [e] <;> decide
  ·simp
 ·simp
open Go.RowKit
theorem act_len (L:Ld) (b:Nat) (O:Od):(actE L b O).length≤100:=by
 have hl:=look_len L b
 have hp:∀ (wh loc:Int) (E:Ev),(partE L b O wh loc E).length≤11:=fun wh loc E=>by
  have:=had_len L b O
  unfold partE
  rw [List.length_append,part_len]
  unfold sigE
  split <;> simp <;> omega
 have hsg:∀ (q:List Int) (s:ByteArray),(sigE L b q s).length≤1:=fun q s=>by unfold sigE; split <;> simp
 have hgt:(getE L b O).length≤20:=by
  unfold getE
  rw [List.length_append,take_len]
  have h1:=hsg (meantL L (sightL L b) O.nth O.all O.name) noThingS
  have h2:(meantL L (sightL L b) O.nth O.all O.name).length≤9:=by
   have h0:=sight_len L b
   have h1:=List.length_filter_le (fits L O.name) (sightL L b)
   unfold meantL nthL
   split
   ·omega
   ·split <;> simp
  omega
 have hgb:(getBE L b O).length≤20:=by
  unfold getBE
  split
  ·simp
  ·rename_i i _
   have h2:=in_len L i O
   have h1:=hsg (inL L i O) noThingS
   rw [List.length_append,take_len]
   omega
 unfold actE
 split
 ·omega
 split
 ·unfold getAE; split <;> omega
 split
 ·have:=hp 0 (L.room b) (evN L 4 b); omega
 split
 ·unfold putE
  split
  ·simp
  ·rename_i i _
   have:=hp 2 (i:Int) (stowE L b i); omega
 split
 ·unfold giveE
  split
  ·simp
  ·rename_i i _
   have:=hp 1 (i:Int) (evW L 6 b i); omega
 split
 ·simp
 have hd:∀ (d:Nat) (C:Chg),(doorE L b d C).length≤1:=by
  intro d C
  unfold doorE
  repeat' split
  all_goals simp
 have ht:∀ (C:Chg),(turnE L b O C).length≤1:=by
  intro C
  unfold turnE
  repeat' split
  all_goals simp
 split
 ·split
  ·have:=hd (dirA O.name.data.toList).1.toNat (turnedC O.verb); omega
  ·have:=ht (turnedC O.verb); omega
 split
 ·have:=ht (turnedC O.verb); omega
 split
 ·unfold hitsE; split <;> simp
 split
 ·simp
 split
 ·simp
 unfold walkE
 have hw:=look_len (walkL L b O.verb.toNat) b
 repeat' split
 all_goals simp
 omega
end Go.Proofs.YtncgcejlkmoliaaGreatDoor
