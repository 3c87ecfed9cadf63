import Derived.Test.YtncgcejlkmoliaaGreatDoorMk39
set_option linter.unusedVariables false
set_option maxRecDepth 100000
set_option maxHeartbeats 16000000
namespace Go.Proofs.YtncgcejlkmoliaaGreatDoor.Ho
open Go.RowKit
theorem zOrder:(Tryz.prog.info? 149).map (fun i=>(i.zero,i.size))=some (some (.agg zo.cells),6):=by kernel_rfl
theorem exec_int {a:Act} {op:Oper} {w:World} (x:Operand) (ho:op.op=.load 3 x) {k o:Nat} {n:Int} (hx:a.eval x=.pointer (some ⟨k,o,none⟩)) (hc:w.cell? ⟨k,o,none⟩=some (.int .i64 n)) :
 (execOp a.eval op).run Tryz.prog w=.ok (.value (.int .i64 n)) w:=by
 unfold execOp
 simp only [ho,hx]
 go_simp
theorem one_ord (O:Od):O.cells.all (·.oneCell')=true:=by
 rw [Array.all_eq_true_iff_forall_mem]
 intro u hu
 simp only [Od.cells,List.mem_toArray,List.mem_cons,List.not_mem_nil,or_false] at hu
 rcases hu with rfl | rfl | rfl | rfl | rfl | rfl <;> rfl
theorem obey_any {W0:World} (hvb:Vb W0) (hai:Ai W0) {lab:Nat→Nat} {w:World} {hb:Nat} {M:Hm} {p:Nat→Value} {vl:Value} (hV:HoV W0 lab w hb M p vl) {N:Nat} (hI:Iv N M) (hN:N+100≤1000000) {i:Nat} (hi:i < 4) {S:Se} (hS:M.seat i=some S) (hp:plays S=true) (f:ByteArray) (hl:f.data.toList.length≤60) (hv:∀ c ∈ f.data.toList,Li.vis c=true) :
 Calls Tryz.prog 127 #[.pointer (some ⟨hb,0,none⟩),.int .i64 (i:Int),.string f] w fun e w'=>e=.returned (.tuple #[])∧∃ lab',HoC W0 lab' w' hb (obeyM M i S f.data.toList)∧Gr lab lab' w w':=by
 obtain ⟨kk,vq,vp,vt,hpt,hSL⟩:=hV.at' hi hS
 have c0:w.cell? ⟨hb,165+i,none⟩=some (.pointer (some ⟨kk,0,none⟩)):=by rw [hV.ptr i hi,hpt]
 have hz:=(zero_of_info zOrder).1
 have hii:(i:Int) < 4:=by omega
 have hOT:=hide (parse_odt hl hv)
 have hfs:f.size≤8796093022207:=by have:=len_size f; omega
 have CW:=hide (Go.Proofs.YtncgcejlkmoliaaGreatDoor.parse_any f w hfs (hvb.below hV.low (Nat.le_refl _)))
 have HOB:Hid (obeyM M i S f.data.toList=if (parseL f.data.toList).2 ≠ 0 then M.put i (some (tellS S whatT)) else if (parseL f.data.toList).1.verb=20 then leaveM M i else orderM M S.being (odOf (parseL f.data.toList).1)):=hide rfl
 generalize hR:parseL f.data.toList=R at *
 obtain ⟨o,code⟩:=R
 simp only at hOT HOB CW
 generalize hO:odOf o=O at *
 have HC:Hid (o.cells=O.cells):=hide (by rw [← hO]; rfl)
 have hve:Hid ((o.verb:Int)=O.verb):=hide (by rw [← hO]; rfl)
 have V:=hide hV
 have SL:=hide hSL
 have HI:=hide hI
 have HP:=hide hpt
 have HS:=hide hS
 clear hV hSL hI hpt hR hO
 go_enter Tryz.func127,Tryz.ntmps127
 go_upto_region 3 with fail
 refine CW.out.mono ?_
 rintro e w1 ⟨rfl,hb1⟩
 rw [HC.out]
 have B1:=hb1.alloc hb1.size (.cells O.cells 149)
 have V1:=hide (V.out.below B1)
 have S1:=hide (SL.out.frame (w':=w1.alloc (.cells O.cells 149)) (lab':=lab) hi (fun n hn _=>B1.block n hn) fun _ _=>rfl)
 have G1:=hide (Gr.below (lab:=lab) B1)
 have O1:=hide (heap_alloc_new w1 (.cells O.cells 149))
 have hSo:=HI.out.sv.seat i S hi HS.out
 have c1:(w1.alloc (.cells O.cells 149)).cell? ⟨w1.heap.size,0,none⟩=some (.int .i64 O.verb):=by rw [cell_of_row _ _ _ _ _ _ O1.out]; rfl
 have hl9:lab w1.heap.size=9:=V.out.out _ hb1.size
 clear c0 CW hb1 B1 V SL
 by_cases h0:code=0
 ·subst h0
  rw [if_neg (by simp)] at HOB
  by_cases h20:O.verb=20
  ·have hvv:o.verb=20:=by have:=hve.out; omega
   rw [if_pos hvv] at HOB
   have hvb2:(O.verb==20)=true:=by rw [h20]; rfl
   have CL:=hide (leave_any hvb hai ⟨_,_,V1.out⟩ HI.out hN hi HS.out)
   clear h20 hvv
   go_wp2_with (refine wl_new 149 (.tmp 7) (.tmp 18) rfl rfl _ _ rfl rfl rfl Tryz.sizeOrder rfl (one_ord O) ?_)
   refine CL.out.mono ?_
   rintro e w3 ⟨rfl,lab',H',G'⟩
   have G2:=hide (G1.out.trans G')
   clear CL G' G1 V1 S1 O1 c1
   go_wp2
   go_end0
   exact ⟨rfl,lab',by rw [HOB.out]; exact H',G2.out⟩
  ·have hvv:¬ o.verb=20:=by have:=hve.out; omega
   rw [if_neg hvv] at HOB
   have hvb2:(O.verb==20)=false:=by simpa using h20
   obtain ⟨b,hbe,h2,h6,hh⟩:=HI.out.play i S hi HS.out hp
   rw [hbe] at HOB
   rw [order_eq HI.out.good h6 hh hOT.out.v0 hOT.out.v1] at HOB
   have BD:=(Below.refl (w1.alloc (.cells O.cells 149)).heap.size (w1.alloc (.cells O.cells 149))).drew
   have CO:=hide (order_any hvb hai (M:=M) (w:=(w1.alloc (.cells O.cells 149)).drew) ⟨_,_,V1.out.below BD⟩ b O h6 hh HI.out.good HI.out.fine hOT.out.ok hOT.out.v0 hOT.out.v1 (fun E hE=>(act_tx HI.out.good HI.out.nm h6 hh O hOT.out E hE).hr) HI.out.sv (by have:=act_len M.L b O; omega))
   have G1':=hide (G1.out.trans (Gr.below (lab:=lab) BD))
   have HBE:(w1.alloc (.cells O.cells 149)).drew.cell? ⟨kk,19,none⟩=some (.int .i64 (b:Int)):=by rw [← hbe]; exact SeV.one S1.out.v.cell 19
   have HR:(w1.alloc (.cells O.cells 149)).drew.heap[w1.heap.size]?=some (.cells O.cells 149 (0,0)):=O1.out
   clear h20 hvv BD
   go_wp2_with (refine wl_new 149 (.tmp 7) (.tmp 18) rfl rfl _ _ rfl rfl rfl Tryz.sizeOrder rfl (one_ord O) ?_)
   clear c1
   refine wp_region_held (S:=fun W=>W.heap[w1.heap.size]?=some (.cells O.cells 149 (0,0))) (by kernel_rfl) ?_
   change wpAnyH _ _ _ _ _ _ _ _ (w1.alloc (.cells O.cells 149)).drew
   generalize (w1.alloc (.cells O.cells 149)).drew=Z at *
   refine tw (i:=0) (d:=some 20) (fuel:=6) (v:=?_) rfl rfl ?_ HR ?_
   rotate_left
   ·intro W hW
    go_simp
    try with_reducible rfl
   simp only [Act.put,sT,List.set]
   refine tw (i:=1) (d:=some 21) (fuel:=5) (v:=?_) rfl rfl ?_ HR ?_
   rotate_left
   ·intro W hW
    go_simp
    try with_reducible rfl
   simp only [Act.put,sT,List.set]
   refine tw (i:=2) (d:=some 22) (fuel:=4) (v:=?_) rfl rfl ?_ HR ?_
   rotate_left
   ·intro W hW
    go_simp
    try with_reducible rfl
   simp only [Act.put,sT,List.set]
   refine tw (i:=3) (d:=some 23) (fuel:=3) (v:=?_) rfl rfl ?_ HR ?_
   rotate_left
   ·intro W hW
    go_simp
    try with_reducible rfl
   simp only [Act.put,sT,List.set]
   refine tk (i:=5) (d:=some 25) (fuel:=2) (v:=.agg O.cells) rfl rfl (Or.inl ⟨by rfl,fun W hW=>exec_order (.tmp 7) rfl rfl hW⟩) HR ?_
   simp only [Act.put,sT,List.set]
   refine wpAnyH_all (fuel:=1) (rs:=[4]) (by kernel_rfl) (by simp) ?_
   intro i hi
   obtain rfl:i=4:=by simpa using hi
   clear hi
   refine run_at (d:=some 24) rfl rfl (by rfl) (exec_int (.tmp 23) rfl rfl HBE) ?_
   refine ⟨HR,?_⟩
   simp only [Act.put,sT,List.set]
   refine wpAnyH_all (fuel:=0) (rs:=[6]) (by kernel_rfl) (by simp) ?_
   intro i hi
   obtain rfl:i=6:=by simpa using hi
   clear hi
   refine call_at (d:=some 26) rfl rfl (by rfl) 106 #[.pointer (some ⟨hb,0,none⟩),.int .i64 (b:Int),.agg O.cells] (by kernel_rfl) ?_
   refine (CO.out).mono ?_
   rintro e x1 ⟨rfl,lab',H',G'⟩
   have HRz:=(G'.same _ (Array.getElem?_eq_some_iff.1 HR).1 (.inr hl9)).trans HR
   refine ⟨_,rfl,HRz,?_⟩
   simp only [Act.put,sT,List.set]
   refine wpAnyH_done (by kernel_rfl) ?_ _
   have G2:=hide (G1'.out.trans G')
   clear CO G' G1 G1'
   go_wp2
   go_end0
   exact ⟨rfl,lab',by rw [HOB.out]; exact H',G2.out⟩
 ·rw [if_pos (by simpa using h0)] at HOB
  have hcb:(code != 0)=true:=by simpa using h0
  clear h0
  go_wp2_with (refine wl_new 149 (.tmp 7) (.tmp 18) rfl rfl _ _ rfl rfl rfl Tryz.sizeOrder rfl (one_ord O) ?_)
  refine (tell_any S1.out.v (ok_small hSo.1.pg) (by omega) whatT).mono ?_
  rintro e w3 ⟨rfl,vp3,vt3,K3⟩
  obtain ⟨lab1,V2,G2⟩:=V1.out.step hi HP.out S1.out K3
  have V3:=hide V2
  have G3:=hide (G1.out.trans G2)
  clear K3 V2 G2 V1 S1 G1 O1 c1
  go_wp2
  go_end0
  exact ⟨rfl,lab1,⟨_,_,by rw [HOB.out]; exact V3.out⟩,G3.out⟩
theorem turn_nil {M:Hm} {i:Nat} {S:Se} (hS:M.seat i=some S) (hq:S.lin.q=[]):turnM M i=M:=by simp [turnM,hS,hq]
theorem turn_cons {M:Hm} {i:Nat} {S:Se} (hS:M.seat i=some S) {f:ByteArray} {r:List ByteArray} (hq:S.lin.q=f::r):turnM M i=if S.pg.asking=true then M.put i (some (popS S r)) else if plays S=true then obeyM (M.put i (some (popS S r))) i (popS S r) f.data.toList else enterM (M.put i (some (popS S r))) i (popS S r) (trimB f):=by
 simp only [turnM,hS,hq]
theorem turn_any {W0:World} (hvb:Vb W0) (hai:Ai W0) {lab:Nat→Nat} {w:World} {hb:Nat} {M:Hm} (h:HoC W0 lab w hb M) {N:Nat} (hI:Iv N M) (hN:N+100≤1000000) {i:Nat} (hi:i < 4) {S:Se} (hS:M.seat i=some S) :
 Calls Tryz.prog 107 #[.pointer (some ⟨hb,0,none⟩),.int .i64 (i:Int)] w fun e w'=>e=.returned (.tuple #[])∧∃ lab',HoC W0 lab' w' hb (turnM M i)∧Gr lab lab' w w':=by
 obtain ⟨p,vl,hV⟩:=h
 obtain ⟨kk,vq,vp,vt,hpt,hSL⟩:=hV.at' hi hS
 have c0:w.cell? ⟨hb,165+i,none⟩=some (.pointer (some ⟨kk,0,none⟩)):=by rw [hV.ptr i hi,hpt]
 have hii:(i:Int) < 4:=by omega
 have hSo:=hI.sv.seat i S hi hS
 have V:=hide hV
 have SL:=hide hSL
 have HI:=hide hI
 have HP:=hide hpt
 have HS:=hide hS
 clear hV hSL hI hpt hS
 cases hq:S.lin.q with
 | nil =>
  have HT:=hide (turn_nil HS.out hq)
  have CN:=hide (next_none SL.out.v hq)
  clear hq
  go_enter Tryz.func107,Tryz.ntmps107
  go_wp2_with fail
  refine CN.out.mono ?_
  rintro e w1 ⟨rfl,K1⟩
  obtain ⟨lab1,V2,G2⟩:=V.out.step hi HP.out SL.out K1
  have V3:=hide (put_congr (M':=M) V2 rfl rfl rfl fun j hj=>by
   simp only [Hm.put]
   by_cases e:j=i
   ·rw [if_pos e,e,HS.out]
   ·rw [if_neg e])
  have G3:=hide G2
  clear CN K1 V2 G2 V SL c0
  go_wp2
  go_end0
  exact ⟨rfl,lab1,⟨_,_,by rw [HT.out]; exact V3.out⟩,G3.out⟩
 | cons f r =>
  have HT:=hide (turn_cons HS.out hq)
  have hl:=line_ok hSo.1 hq
  have hI1:=hide (HI.out.put (S':=popS S r) hi HS.out rfl (hSo.1.pop hq) (Nat.le_refl _) hSo.2)
  have hfz:f.size≤140737488355328:=by have:=len_size f; omega
  cases ha:S.pg.asking with
  | true =>
   rw [ha,if_pos rfl] at HT
   have CN:=hide (next_some SL.out.v (ok_small hSo.1.pg) f r hq hSo.1.lin.len true ha)
   clear hq ha
   go_enter Tryz.func107,Tryz.ntmps107
   go_wp2_with fail
   refine CN.out.mono ?_
   rintro e w1 ⟨rfl,vq1,vp1,K1⟩
   (first | rw [if_pos rfl] | rw [if_pos trivial])
   obtain ⟨lab1,V2,G2⟩:=V.out.step hi HP.out SL.out K1
   have V3:=hide V2
   have G3:=hide G2
   clear CN K1 V2 G2 V SL c0
   go_wp2
   go_end0
   exact ⟨rfl,lab1,⟨_,_,by rw [HT.out]; exact V3.out⟩,G3.out⟩
  | false =>
   rw [ha,if_neg (by simp)] at HT
   have CN:=hide (next_some SL.out.v (ok_small hSo.1.pg) f r hq hSo.1.lin.len false ha)
   clear hq ha
   go_enter Tryz.func107,Tryz.ntmps107
   go_wp2_with fail
   refine CN.out.mono ?_
   rintro e w1 ⟨rfl,vq1,vp1,K1⟩
   (first | rw [if_neg (by simp)] | skip)
   obtain ⟨lab1,V2,G2⟩:=V.out.step hi HP.out SL.out K1
   have V3:=hide V2
   have G3:=hide G2
   have CP:=hide (plays_any K1.v.cell)
   have hpp:plays (popS S r)=plays S:=rfl
   rw [hpp] at CP
   clear CN K1 V2 G2 V SL c0
   cases hpl:plays S with
   | true =>
    rw [hpl] at CP
    rw [hpl,if_pos rfl] at HT
    have CB:=hide (obey_any hvb hai V3.out hI1.out hN hi (put_seat M i _) (hpp.trans hpl) f hl.1 hl.2)
    clear hpl
    go_wp2_with fail
    refine CP.out.mono ?_
    rintro e w2 ⟨rfl,hw2⟩
    subst hw2
    clear CP
    go_wp2_with fail
    refine CB.out.mono ?_
    rintro e w3 ⟨rfl,lab',H',G'⟩
    have G4:=hide (G3.out.trans G')
    clear CB G' G3 V3
    go_wp2
    go_end0
    exact ⟨rfl,lab',by rw [HT.out]; exact H',G4.out⟩
   | false =>
    rw [hpl] at CP
    rw [hpl,if_neg (by simp)] at HT
    have CB:=hide (enter_any hvb hai V3.out hI1.out hN hi (put_seat M i _) (hpp.trans hpl) HP.out f hfz)
    clear hpl
    go_wp2_with fail
    refine CP.out.mono ?_
    rintro e w2 ⟨rfl,hw2⟩
    subst hw2
    clear CP
    go_wp2_with fail
    refine CB.out.mono ?_
    rintro e w3 ⟨rfl,lab',H',G'⟩
    have G4:=hide (G3.out.trans G')
    clear CB G' G3 V3
    go_wp2
    go_end0
    exact ⟨rfl,lab',by rw [HT.out]; exact H',G4.out⟩
open Go.RowKit
theorem turn_free {M:Hm} {i:Nat} (h:M.seat i=none):turnM M i=M:=by simp [turnM,h]
theorem HoV.free {W0:World} {lab:Nat→Nat} {w:World} {hb:Nat} {M:Hm} {p:Nat→Value} {vl:Value} (h:HoV W0 lab w hb M p vl) {i:Nat} (hi:i < 4) (hS:M.seat i=none):p i=.pointer none:=by
 rcases h.seats i hi with ⟨_,e⟩ | ⟨k,S',vq,vp,vt,e1,e2,h'⟩
 ·exact e
 ·rw [hS] at e1; simp at e1
theorem pulse_any {W0:World} (hvb:Vb W0) (hai:Ai W0) {lab:Nat→Nat} {w:World} {hb:Nat} {M:Hm} (h:HoC W0 lab w hb M) {N:Nat} (hI:Iv N M) (hN:N+1000≤1000000) (n:Int) :
 Calls Tryz.prog 87 #[.pointer (some ⟨hb,0,none⟩),.int .i64 n] w fun e w'=>e=.returned (.tuple #[])∧∃ lab',HoC W0 lab' w' hb (pulseM M n)∧Gr lab lab' w w':=by
 have H:=hide h
 have HI:=hide hI
 have hz:=(zero_of_info Tryz.zLand).1
 have HP:Hid (pulseM M n=hapM (turnsM M 4) (roundK (turnsM M 4).L (drawN n) 6).1 (roundK (turnsM M 4).L (drawN n) 6).2):=hide rfl
 clear h hI
 go_enter Tryz.func87,Tryz.ntmps87
 go_upto_region 1 with fail
 go_loopw [8] (fun i wr=>∃ (k:Nat) (lab':Nat→Nat),i=.int .i64 k∧k≤4∧HoC W0 lab' wr hb (turnsM M k)∧Gr lab lab' w wr) (fun i _=>4 - (intOf i).toNat)
 case atStart=>exact ⟨0,lab,rfl,by omega,H.out,Gr.refl _ _⟩
 case round =>
  obtain ⟨k,lab',rfl,hk,hC,hG⟩:=hrel
  have hIk:=HI.out.turns k hk
  clear H
  obtain ⟨p,vl,hV⟩:=hC
  by_cases hk4:k < 4
  ·have hki:(k:Int) < 4:=by omega
   have HTS:Hid (turnsM M (k+1)=turnM (turnsM M k) k):=hide rfl
   have c0:=hV.ptr k hk4
   cases hS:(turnsM M k).seat k with
   | none =>
    rw [hV.free hk4 hS] at c0
    have V:=hide hV
    have HTF:=hide (turn_free hS)
    clear hV hS
    go_wp2
    exact ⟨⟨k+1,lab',by go_num,by omega,⟨p,vl,by rw [HTS.out,HTF.out]; exact V.out⟩,hG⟩,by simp [intOf]; omega⟩
   | some S =>
    obtain ⟨kk,vq,vp,vt,hp,hSL⟩:=hV.at' hk4 hS
    rw [hp] at c0
    have CT:=hide (turn_any hvb hai ⟨p,vl,hV⟩ hIk (by omega) hk4 hS)
    clear hV hS hp hSL
    go_wp2_with fail
    refine CT.out.mono ?_
    rintro e w2 ⟨rfl,lab2,H2,G2⟩
    have G3:=hide (hG.trans G2)
    clear CT G2 hG c0
    go_wp2
    exact ⟨⟨k+1,lab2,by go_num,by omega,by rw [HTS.out]; exact H2,G3.out⟩,by simp [intOf]; omega⟩
  ·have hk44:k=4:=by omega
   subst hk44
   have hgd:=hIk.good
   have hfn:=hIk.fine
   have hrl:=round_len (turnsM M 4).L (drawN n) 6
   have hrx:=round_tx hIk.nm hIk.good (drawN n) 6 (Nat.le_refl _)
   have V:=hide hV
   have LD:=hide hV.land
   have CR:=hide (round_any (turnsM M 4).L n wr _ _ rfl rfl (hvb.below hV.low (Nat.le_refl _)) (wf_of hfn) hfn hgd)
   clear hV
   generalize hXX:(roundK (turnsM M 4).L (drawN n) 6).1=X at *
   generalize hFF:(roundK (turnsM M 4).L (drawN n) 6).2=Fs at *
   go_upto_region 7 with (refine wl_mid 43 (.tmp 25) rfl rfl hb 0 (turnsM M 4).L.cells.toList _ rfl LD.out Tryz.underlying43 rfl (by rw [Array.length_toList,Ld.size]; exact Tryz.sizeLand) ?_; rw [Array.toArray_toList])
   refine CR.out.mono ?_
   rintro e w2 ⟨v,rfl,ho,hb2⟩
   obtain ⟨av,cap,rfl⟩:=shapeE ho
   have B2:=hb2.alloc hb2.size (.cells X.cells 43)
   have L2:=hide (cod_new w2 X)
   have CH:=hide (happens_any hvb hai (lab:=lab') (w:=w2.alloc (.cells X.cells 43)) (hb:=hb) (M:=turnsM M 4) ⟨_,_,V.out.below B2⟩ X Fs _ (own_same ho fun g hg=>Below.heap_alloc _ _ _ (own_lt ho g hg).2) (fun g hg=>V.out.out g (own_lt ho g hg).1) (fun E hE=>(hrx E hE).hr) hIk.sv (by omega))
   have G2:=hide (hG.trans (Gr.below (lab:=lab') B2))
   clear CR ho hb2 B2 V LD hG
   go_wp2_with (first | (refine wl_new 43 (.tmp 5) (.tmp 29) rfl rfl _ _ rfl rfl rfl (by rw [X.size]; exact Tryz.sizeLand) (by rw [X.size,zl.size]) (land_one X) ?_) | (refine wl_land (.tmp 5) rfl rfl _ X rfl L2.out ?_))
   refine CH.out.mono ?_
   rintro e w3 ⟨rfl,lab3,H3,G3⟩
   have G4:=hide (G2.out.trans G3)
   clear CH G3 G2 L2
   go_wp2
   go_end0
   exact ⟨rfl,lab3,by rw [HP.out]; exact H3,G4.out⟩
theorem cuts_free {M:Hm} {i:Nat} (h:M.seat i=none):cutsM M i=(M,false):=by simp [cutsM,h]
theorem cuts_some {M:Hm} {i:Nat} {S:Se} (h:M.seat i=some S):cutsM M i=if (flowS S).pg.cut=true then (leaveM (M.put i (some (flowS S))) i,true) else (M.put i (some (flowS S)),false):=by simp [cutsM,h]
theorem cut_any {W0:World} (hvb:Vb W0) (hai:Ai W0) {lab:Nat→Nat} {w:World} {hb:Nat} {M:Hm} (h:HoC W0 lab w hb M) {N:Nat} (hI:Iv N M) (hN:N+1000≤1000000) :
 Calls Tryz.prog 88 #[.pointer (some ⟨hb,0,none⟩)] w fun e w'=>e=.returned (.bool (cutM M).2)∧∃ lab',HoC W0 lab' w' hb (cutM M).1∧Gr lab lab' w w':=by
 have H:=hide h
 have HI:=hide hI
 have HC:Hid (cutM M=cutK M 4):=hide rfl
 generalize cutM M=R at *
 clear h hI
 go_enter Tryz.func88,Tryz.ntmps88
 go_upto_region 3 with fail
 go_loopw [3,6] (fun l i wr=>∃ (k:Nat) (lab':Nat→Nat),l=.bool (cutK M k).2∧i=.int .i64 k∧k≤4∧HoC W0 lab' wr hb (cutK M k).1∧Gr lab lab' w wr) (fun _ i _=>4 - (intOf i).toNat)
 case atStart=>exact ⟨0,lab,rfl,rfl,by omega,H.out,Gr.refl _ _⟩
 case round =>
  obtain ⟨k,lab',rfl,rfl,hk,hC,hG⟩:=hrel
  obtain ⟨N1,hIk,hN1,hN2,_⟩:=HI.out.cutK k hk
  have hc4:=cnt_le M
  clear H
  obtain ⟨p,vl,hV⟩:=hC
  by_cases hk4:k < 4
  ·have hki:(k:Int) < 4:=by omega
   have HKS:Hid (cutK M (k+1)=((cutsM (cutK M k).1 k).1,(cutK M k).2 || (cutsM (cutK M k).1 k).2)):=hide rfl
   have c0:=hV.ptr k hk4
   generalize hLK:(cutK M k).2=bl at *
   generalize hMK:(cutK M k).1=Mk at *
   cases hS:Mk.seat k with
   | none =>
    rw [hV.free hk4 hS] at c0
    have V:=hide hV
    have HTF:=hide (cuts_free hS)
    rw [HTF.out] at HKS
    simp only [Bool.or_false] at HKS
    clear hV hS HTF
    go_wp2
    exact ⟨⟨k+1,lab',by rw [HKS.out],by go_num,by omega,⟨p,vl,by rw [HKS.out]; exact V.out⟩,hG⟩,by simp [intOf]; omega⟩
   | some S =>
    obtain ⟨kk,vq,vp,vt,hp,hSL⟩:=hV.at' hk4 hS
    rw [hp] at c0
    have hSo:=hIk.sv.seat k S hk4 hS
    have HTF:=hide (cuts_some hS)
    rw [HTF.out] at HKS
    have hI2:=hide (hIk.put (S':=flowS S) hk4 hS rfl hSo.1.flow (Nat.le_refl _) hSo.2)
    have CF:=hide (flow_any hSL.v (ok_small hSo.1.pg) (fun _=>hSo.1.pg.all))
    have V:=hide hV
    have SL:=hide hSL
    have HP:=hide hp
    clear hV hS hp hSL HTF
    cases hct:(flowS S).pg.cut with
    | false =>
     rw [hct] at CF
     rw [hct,if_neg (by simp)] at HKS
     simp only [Bool.or_false] at HKS
     clear hct
     go_wp2_with fail
     refine CF.out.mono ?_
     rintro e w2 ⟨rfl,vp2,K2⟩
     obtain ⟨lab2,V2,G2⟩:=V.out.step hk4 HP.out SL.out K2
     have V3:=hide V2
     have G3:=hide (hG.trans G2)
     clear CF K2 V2 G2 hG V SL c0
     go_wp2
     exact ⟨⟨k+1,lab2,by rw [HKS.out],by go_num,by omega,⟨_,_,by rw [HKS.out]; exact V3.out⟩,G3.out⟩,by simp [intOf]; omega⟩
    | true =>
     rw [hct] at CF
     rw [hct,if_pos rfl] at HKS
     simp only [Bool.or_true] at HKS
     clear hct
     go_wp2_with fail
     refine CF.out.mono ?_
     rintro e w2 ⟨rfl,vp2,K2⟩
     obtain ⟨lab2,V2,G2⟩:=V.out.step hk4 HP.out SL.out K2
     have CL:=hide (leave_any hvb hai ⟨_,_,V2⟩ hI2.out (by omega) hk4 (put_seat Mk k _))
     have G3:=hide (hG.trans G2)
     clear CF K2 V2 G2 hG V SL c0
     go_wp2_with fail
     refine CL.out.mono ?_
     rintro e w3 ⟨rfl,lab3,H3,G4⟩
     have G5:=hide (G3.out.trans G4)
     clear CL G4 G3
     go_wp2
     exact ⟨⟨k+1,lab3,by rw [HKS.out],by go_num,by omega,by rw [HKS.out]; exact H3,G5.out⟩,by simp [intOf]; omega⟩
  ·have hk44:k=4:=by omega
   subst hk44
   rw [← HC.out] at hV ⊢
   have V:=hide hV
   clear hV
   go_wp2
   go_ret
   exact ⟨rfl,lab',⟨p,vl,V.out⟩,hG⟩
def ptrN (hb j:Nat) (w:World):Nat:=match w.cell? ⟨hb,165+j,none⟩ with
 | some (.pointer (some _))=>1
 | _=>0
def cntW (hb:Nat) (w:World):Nat:=ptrN hb 0 w+ptrN hb 1 w+ptrN hb 2 w+ptrN hb 3 w
theorem cnt_w {W0:World} {lab:Nat→Nat} {w:World} {hb:Nat} {M:Hm} (h:HoC W0 lab w hb M):cntW hb w=cnt M:=by
 obtain ⟨p,vl,hV⟩:=h
 have key:∀ j,j < 4→ptrN hb j w=sits M j:=fun j hj=>by
  unfold ptrN sits
  rw [hV.ptr j hj]
  rcases hV.seats j hj with ⟨e1,e2⟩ | ⟨k,S,vq,vp,vt,e1,e2,_⟩
  ·rw [e1,e2]; rfl
  ·rw [e1,e2]; rfl
 unfold cntW cnt
 rw [key 0 (by omega),key 1 (by omega),key 2 (by omega),key 3 (by omega)]
theorem flows_any {W0:World} (hvb:Vb W0) (hai:Ai W0) {lab:Nat→Nat} {w:World} {hb:Nat} {M:Hm} (h:HoC W0 lab w hb M) {N:Nat} (hI:Iv N M) (hN:N+2000≤1000000) :
 Calls Tryz.prog 57 #[.pointer (some ⟨hb,0,none⟩)] w fun e w'=>e=.returned (.tuple #[])∧∃ lab',HoC W0 lab' w' hb (flowM M)∧Gr lab lab' w w':=by
 have H:=hide h
 have HI:=hide hI
 have hcM:=cnt_le M
 obtain ⟨R,hR⟩:∃ R,R=flowM M:=⟨_,rfl⟩
 rw [← hR]
 have HR:Hid (flowN 5 M=R):=hide hR.symm
 clear h hI hR
 go_enter Tryz.func57,Tryz.ntmps57
 go_wp2_with fail
 go_loopw [] (fun wr=>∃ (n N':Nat) (M':Hm) (lab':Nat→Nat),HoC W0 lab' wr hb M'∧Iv N' M'∧cnt M' < n∧N'+100*cnt M'≤N+100*cnt M∧Hid (flowN n M'=R)∧Gr lab lab' w wr) (fun wr=>cntW hb wr)
 case atStart=>exact ⟨5,N,M,lab,H.out,HI.out,by omega,Nat.le_refl _,HR,Gr.refl _ _⟩
 case round =>
  obtain ⟨n,N',M',lab',hC,hI',hcn,hNN,hRR,hG⟩:=hrel
  clear H HI HR
  obtain ⟨n,rfl⟩:∃ m,n=m+1:=⟨n - 1,by omega⟩
  have CC:=hide (cut_any hvb hai hC hI' (by omega))
  have hcw:=cnt_w hC
  obtain ⟨N2,g1,g2,g3,g4⟩:=hI'.cutK 4 (Nat.le_refl _)
  have HF:Hid (flowN (n+1) M'=if (cutM M').2=true then flowN n (cutM M').1 else (cutM M').1):=hide rfl
  have E1:cutK M' 4=cutM M':=rfl
  rw [E1] at g1 g2 g3 g4
  generalize cutM M'=R1 at *
  obtain ⟨M1,bl⟩:=R1
  simp only at g1 g2 g3 g4 HF CC
  rw [hRR.out] at HF
  have GG:=hide g4
  clear hC E1 hRR g4
  cases bl with
  | false =>
   rw [if_neg (by simp)] at HF
   go_wp2_with fail
   refine CC.out.mono ?_
   rintro e w2 ⟨rfl,lab2,H2,G2⟩
   have G3:=hide (hG.trans G2)
   clear CC G2 hG GG
   go_wp2
   go_end0
   exact ⟨rfl,lab2,by rw [HF.out]; exact H2,G3.out⟩
  | true =>
   rw [if_pos rfl] at HF
   have hlt:=GG.out rfl
   go_wp2_with fail
   refine CC.out.mono ?_
   rintro e w2 ⟨rfl,lab2,H2,G2⟩
   have G3:=hide (hG.trans G2)
   clear CC G2 hG GG
   go_wp2
   refine ⟨⟨n,N2,M1,lab2,H2,g1,by omega,by omega,hide HF.out.symm,G3.out⟩,?_⟩
   rw [cnt_w H2,hcw]; exact hlt
def untold (S:Se):Se:={ S with told:=[] }
def forgetK (M:Hm) (k:Nat):Hm:={ M with last:=[],seat:=fun j=>if j < k then (M.seat j).map untold else M.seat j }
theorem SeV.untold {w W:World} {k:Nat} {S:Se} {vq vp vt:Value} (h:SeV w k S vq vp vt) (hW:W.heap[k]?=some (.cells (S.cells vq vp (.slice none 0 0)) 99 (0,0))) (hu:Upd k w W):SeP k w vq vp vt W (Ho.untold S) vq vp (.slice none 0 0) :=
 ⟨⟨hW,Reads.same h.q fun h0 b off n c e=>hu.block b (h.qk h0 b off n c e),Reads.same h.p fun h0 b off n c e=>hu.block b (h.pk h0 b off n c e),World.ownsRow_nil _ _ _ _,h.qk,h.pk,fun g e=>by simp [Value.ownBlock] at e,fun g e=>by simp [Value.ownBlock] at e⟩,
   hu.os,hu.tape,hu.output,by rw [hu.size]; exact Nat.le_refl _,fun n hn hk _=>hu.block n hk,.inr (.inl rfl),.inl rfl,.inl rfl⟩
theorem forget_any {W0:World} {lab:Nat→Nat} {w:World} {hb:Nat} {M:Hm} (h:HoC W0 lab w hb M) :
 Calls Tryz.prog 54 #[.pointer (some ⟨hb,0,none⟩)] w fun e w'=>e=.returned (.tuple #[])∧∃ lab',HoC W0 lab' w' hb (forgetM M)∧Gr lab lab' w w':=by
 obtain ⟨p,vl,hV⟩:=h
 have V:=hide hV
 have C0:=hide hV.cell
 clear hV
 go_enter Tryz.func54,Tryz.ntmps54
 go_upto_region 1 with (refine wl_over1 45 (.tmp 6) (.const (.slice none 0 0)) rfl rfl hb 170 (.slice none 0 0) _ _ 102 rfl rfl C0.out (by rw [more_size]; simp [pre]) Tryz.sizeEvents rfl (more_put _ (pre p M.acts) _ _) ?_; intro W1 g1 u1)
 obtain ⟨A1,G1⟩:=V.out.own (M':=forgetK M 0) (p':=p) (vl':=.slice none 0 0) u1 g1 (World.ownsRow_nil _ _ _ _) (fun g e=>by simp [Value.ownBlock] at e) (fun j hj=>by
  have:=V.out.seats j hj
  simp only [forgetK]
  rw [if_neg (by omega)]; exact this)
 have P1:=hide A1.ptrs
 replace A1:=hide A1
 replace G1:=hide G1
 clear V C0 g1 u1
 go_upto_region 2 with (refine wl_mid 100 (.tmp 9) rfl rfl hb 165 [p 0,p 1,p 2,p 3] _ rfl P1.out Tryz.underlying100 rfl Tryz.sizeSeats ?_)
 clear P1
 go_loopw [11] (fun i wr=>∃ (k:Nat) (lab':Nat→Nat),i=.int .i64 k∧k≤4∧HoV W0 lab' wr hb (forgetK M k) p (.slice none 0 0)∧Gr lab lab' w wr) (fun i _=>4 - (intOf i).toNat)
 case atStart=>exact ⟨0,lab,rfl,by omega,A1.out,G1.out⟩
 case round =>
  obtain ⟨k,lab',rfl,hk,hV,hG⟩:=hrel
  clear A1 G1
  by_cases hk4:k < 4
  ·have hki:(k:Int) < 4:=by omega
   have hf:=four_get p k hk4
   rcases hV.seats k hk4 with ⟨e1,e2⟩ | ⟨kk,S,vq,vp,vt,e1,e2,hS⟩
   ·rw [e2] at hf
    have V5:=hide (put_congr (M':=forgetK M (k+1)) hV rfl rfl rfl fun j hj=>by
     simp only [forgetK]
     by_cases hjk:j=k
     ·subst hjk
      rw [if_pos (by omega),if_neg (by omega)]
      have:M.seat j=none:=by simpa [forgetK] using e1
      rw [this]; rfl
     ·by_cases hlt:j < k
      ·rw [if_pos (by omega),if_pos hlt]
      ·rw [if_neg (by omega),if_neg hlt])
    clear e1 e2 hV
    go_wp2_with (refine wl_index1 100 96 (.tmp 10) (.tmp 11) rfl rfl 4 k _ _ (.pointer none) rfl rfl Tryz.underlying100 Tryz.underlying96 rfl Tryz.sizePSeat hk4 hf ?_)
    exact ⟨⟨k+1,lab',by go_num,by omega,V5.out,hG⟩,by simp [intOf]; omega⟩
   ·rw [e2] at hf
    have C4:=hide hS.v.cell
    have HX:=hide e2
    have SL:=hide hS
    have V4:=hide hV
    have HE1:=hide e1
    clear e1 e2 hV hS
    go_wp2_with (first | (refine wl_index1 100 96 (.tmp 10) (.tmp 11) rfl rfl 4 k _ _ (.pointer (some ⟨kk,0,none⟩)) rfl rfl Tryz.underlying100 Tryz.underlying96 rfl Tryz.sizePSeat hk4 hf ?_) | (refine wl_stold (.tmp 18) (.const (.slice none 0 0)) rfl rfl _ rfl rfl rfl C4.out ?_; intro W2 g2 u2))
    obtain ⟨lab5,V5,G5⟩:=V4.out.step hk4 HX.out SL.out (SL.out.v.untold g2 u2)
    have V6:=put_congr (M':=forgetK M (k+1)) V5 rfl rfl rfl fun j hj=>by
     simp only [forgetK,Hm.put]
     by_cases hjk:j=k
     ·subst hjk
      rw [if_pos (by omega),if_pos rfl]
      have:M.seat j=some S:=by simpa [forgetK] using HE1.out
      rw [this]; rfl
     ·rw [if_neg hjk]
      by_cases hlt:j < k
      ·rw [if_pos (by omega),if_pos hlt]
      ·rw [if_neg (by omega),if_neg hlt]
    exact ⟨⟨k+1,lab5,by go_num,by omega,V6,hG.trans G5⟩,by simp [intOf]; omega⟩
  ·have hk44:k=4:=by omega
   subst hk44
   have V5:=hide (put_congr (M':=forgetM M) hV rfl rfl rfl fun j hj=>by
    simp only [forgetK,forgetM]
    rw [if_pos hj]; rfl)
   clear hV
   go_wp2
   go_end0
   exact ⟨rfl,lab',⟨_,_,V5.out⟩,hG⟩
end Go.Proofs.YtncgcejlkmoliaaGreatDoor.Ho
