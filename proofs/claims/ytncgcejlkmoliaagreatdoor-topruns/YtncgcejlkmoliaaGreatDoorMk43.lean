import Derived.Test.YtncgcejlkmoliaaGreatDoorMk42
import Derived.Test.YtncgcejlkmoliaaGreatDoorMh00
import Derived.Test.YtncgcejlkmoliaaGreatDoorMh08
set_option linter.unusedVariables false
set_option maxRecDepth 100000
set_option maxHeartbeats 16000000
namespace Go.Proofs.YtncgcejlkmoliaaGreatDoor.Ho
open Go.RowKit
def Rac (w:World) (v:Value) (l:List Ac):Prop :=
 ∃ av cap,v=.slice av l.length cap∧l.length≤maxLen∧(0 < l.length→∃ b off,av=some ⟨b,off,none⟩∧b < w.heap.size∧∀ i a,l[i]?=some a→w.rangeAt b (off+i*4) a.cells.toList)
theorem Rac.below {w w':World} {v:Value} {l:List Ac} (h:Rac w v l) (hb:Below w.heap.size w w'):Rac w' v l:=by
 obtain ⟨av,cap,e,hm,hc⟩:=h
 refine ⟨av,cap,e,hm,fun h0=>?_⟩
 obtain ⟨b,off,e1,hlt,hr⟩:=hc h0
 exact ⟨b,off,e1,Nat.lt_of_lt_of_le hlt hb.size,fun i a hi j u hj=>by rw [hb.cell (by exact hlt)]; exact hr i a hi j u hj⟩
theorem rac_range {W0 w:World} {l:List Ac} {b off:Nat} (hl:∀ i a,l[i]?=some a→W0.rangeAt b (off+i*4) a.cells.toList) (hlow:Below W0.heap.size W0 w) {i:Nat} {a:Ac} (hi:l[i]?=some a):w.rangeAt b (off+i*4) a.cells.toList:=by
 intro j u hj
 have h:=hl i a hi j u hj
 rw [hlow.cell (cell_lt h)]; exact h
theorem exec_actat {x:Act} {op:Oper} {w:World} {c:Ac} (y:Operand) (ho:op.op=.load 23 y) {b o:Nat} (hx:x.eval y=.pointer (some ⟨b,o,none⟩)) (hc:w.rangeAt b o c.cells.toList):(execOp x.eval op).run Tryz.prog w=.ok (.value (.agg c.cells)) w:=by
 have:=run_loadVar_mid (P:=Tryz.prog) w b o 23 c.cells.toList _ hc Tryz.underlying23 rfl Tryz.sizeAct
 rw [Array.toArray_toList] at this
 unfold execOp
 simp only [ho,hx,Instr.loadAt,Instr.sureAddr,Sem.run_bind,Sem.run_pure,Result.andThen_ok,this]
theorem exec_rep {x:Act} {op:Oper} {w:World} {c:Int} {s:ByteArray} (y:Operand) (ho:op.op=.load 29 y) {g:Nat} (hx:x.eval y=.pointer (some ⟨g,0,none⟩)) (hc:w.heap[g]?=some (.cells #[.int .i64 c,.string s] 29 (0,0))):(execOp x.eval op).run Tryz.prog w=.ok (.value (.agg #[.int .i64 c,.string s])) w:=by
 have:=run_loadVar_row (P:=Tryz.prog) w g 29 29 #[.int .i64 c,.string s] (0,0) _ hc Tryz.underlying29 rfl Tryz.sizeReply
 unfold execOp
 simp only [ho,hx,Instr.loadAt,Instr.sureAddr,Sem.run_bind,Sem.run_pure,Result.andThen_ok,this]
theorem exec_look {x:Act} {op:Oper} {w:World} {K:FuncId} {caps:Array Value} {u1 u2 u3:Value} (y y1 y2 y3:Operand) (T:Array TypeId) (ho:op.op=.call { callee:=.value y,args:=#[y1,y2,y3],argTypes:=T }) (hy:x.eval y=.func (.func K) #[] caps) (h1:x.eval y1=u1) (h2:x.eval y2=u2) (h3:x.eval y3=u3)
 (hE:∀ (args:Array Value) (w:World),(callFunc K args).run Tryz.prog w=.ok (.enter K args) w):(execOp x.eval op).run Tryz.prog w=.ok (.enter K (#[u1,u2,u3]++caps)) w:=by
 unfold execOp
 simp [ho,resolve,Deferred.ofValue,invoke,hy,h1,h2,h3,hE]
theorem wl_actat {ops:Array Oper} {rest:List Oper} {op:Oper} {x:Act} {w:World} {Q:Exit→Act→World→Prop} {c:Ac} (y:Operand) (ho:op.op=.load 23 y) (hw:Region.wanted op (yielded ops x.tmps)=true) {b o:Nat} (hx:x.eval y=.pointer (some ⟨b,o,none⟩)) (hc:w.rangeAt b o c.cells.toList)
 (h:wpList Tryz.prog ops Q rest (x.put op.dst (.agg c.cells)) w):wpList Tryz.prog ops Q (op::rest) x w :=
 wl_mid 23 y ho hw b o c.cells.toList _ hx hc Tryz.underlying23 rfl Tryz.sizeAct (by rw [Array.toArray_toList]; exact h)
theorem run_snoc (M:Hm) (l:List Ac):∀ (a:Ac),runM M (l++[a])=(doM (runM M l) a).1:=by
 induction l generalizing M with
 | nil=>intro a; rfl
 | cons b r ih=>intro a; exact ih (doM M b).1 a
theorem run_iv (l:List Ac):∀ {M:Hm},Iv 1000 M→M.acts≤400→Iv 1000 (runM M l)∧(runM M l).acts≤400:=by
 induction l with
 | nil=>intro M h1 h2; exact ⟨h1,h2⟩
 | cons a r ih=>intro M h1 h2; exact ih (h1.does a) (do_le a h2)
def lab0 (hb:Nat):Nat→Nat:=fun n=>if n=hb then 4 else 9
theorem play_any {W0:World} (hvb:Vb W0) (hai:Ai W0) {v:Value} {l:List Ac} (hl:Rac W0 v l) (hsz:∀ a ∈ l,a.bytes.size≤140737488351232) (K:FuncId) (caps:Array Value) (J:Nat→List Ac→(Nat→Nat)→World→Prop) {w:World} (hlow:Below W0.heap.size W0 w)
 (hE:∀ (args:Array Value) (w:World),(callFunc K args).run Tryz.prog w=.ok (.enter K args) w)
 (h0:∀ hb w',w.heap.size≤hb→Below w.heap.size w w'→HoC W0 (lab0 hb) w' hb newM→J hb [] (lab0 hb) w')
 (hG:∀ hb done lab lab' w w',J hb done lab w→(∀ n,w.heap.size≤n→lab n=9)→Gr lab lab' w w'→J hb done lab' w')
 (hL:∀ hb done a lab w,done.length < 150→a.bytes.size≤140737488351232→HoC W0 lab w hb (runM newM (done++[a]))→J hb done lab w →
  Calls Tryz.prog K (#[.pointer (some ⟨hb,0,none⟩),.agg a.cells,.agg #[.int .i64 (doM (runM newM done) a).2.1,.string (doM (runM newM done) a).2.2]]++caps) w fun e w'=>e=.returned (.bool true)∧∃ lab',HoC W0 lab' w' hb (runM newM (done++[a]))∧J hb (done++[a]) lab' w') :
 Calls Tryz.prog 25 #[v,.func (.func K) #[] caps] w fun e w'=>∃ hb lab,e=.returned (.tuple #[.pointer (some ⟨hb,0,none⟩),.bool true])∧w.heap.size≤hb∧HoC W0 lab w' hb (runM newM (l.take 150))∧J hb (l.take 150) lab w':=by
 obtain ⟨av,cap,rfl,hm,hcells⟩:=hl
 have CA:=hide (alive_any (hvb.below hlow (Nat.le_refl _)) (hai.below hlow))
 have HE:=hide hE
 have HH0:=hide h0
 have HHG:=hide hG
 have HHL:=hide hL
 have HVB:=hide hvb
 have HAI:=hide hai
 have HSZ:=hide hsz
 have HC:=hide hcells
 unfold maxLen at hm
 clear hE h0 hG hL hvb hai hsz hcells
 go_enter Tryz.func25,Tryz.ntmps25
 go_wp2_with fail
 refine CA.out.mono ?_
 rintro e w1 ⟨rfl,hb1⟩
 have hs1:=hb1.size
 have low1:=hlow.trans (hb1.mono hlow.size)
 clear CA
 go_wp2_with fail
 refine (new_house (W0:=W0) low1).mono ?_
 rintro e w2 ⟨hb,rfl,hh1,hh2,H2,B2⟩
 have J2:=HH0.out hb w2 (by omega) (hb1.trans (B2.mono hs1)) H2
 have H2':=hide H2
 have J2':=hide J2
 have hbw:w.heap.size≤hb:=by omega
 clear HH0 H2 J2 B2 low1 hb1 hs1 hh1 hh2
 go_wp2
 go_loopw [7] (fun i wr=>∃ k lab,k≤l.length∧k≤150∧i=.int .i64 (k:Nat)∧HoC W0 lab wr hb (runM newM (l.take k))∧J hb (l.take k) lab wr) (fun i _=>150 - (intOf i).toNat)
 case atStart=>exact ⟨0,lab0 hb,Nat.zero_le _,by omega,rfl,H2'.out,J2'.out⟩
 case round =>
  obtain ⟨k,lab,hk1,hk2,rfl,H,JJ⟩:=hrel
  by_cases hk3:k < l.length
  ·by_cases hk4:k < 150
   ·obtain ⟨b,off,rfl,hbl,hrow⟩:=HC.out (by omega)
    obtain ⟨a,hka⟩:∃ a,l[k]?=some a:=⟨_,List.getElem?_eq_getElem hk3⟩
    have HL:=hide hrow
    have HR0:=hide (rac_range (hl:=HL.out) H.low hka)
    obtain ⟨iv,hacts⟩:=run_iv (l.take k) iv_new (by decide)
    have D:=hide (do_house HVB.out HAI.out H iv hacts a (HSZ.out a (List.mem_of_getElem? hka)))
    have HZA:=hide (HSZ.out a (List.mem_of_getElem? hka))
    have HT:Hid (l.take (k+1)=l.take k++[a]):=hide (by rw [List.take_add_one,hka]; rfl)
    have hout:=H.outs
    have JJ':=hide JJ
    have HO:=hide hout
    have hki3:(k:Int) < (l.length:Int):=by omega
    have hki4:(k:Int) < 150:=by omega
    clear HC hrow H JJ hout iv hacts H2' J2' hk2 hk1
    replace hka:=hide hka
    go_upto_region 8 with (first | (refine wl_actat (.tmp 25) rfl rfl rfl HR0.out ?_) | (go_at_call 17; refine D.out.mono ?_; rintro e w3 ⟨rfl,lab3,H3,G3⟩; simp only [repC]))
    have RB:=hide (show Rb w3.heap.size (doM (runM newM (l.take k)) a).2.1 (doM (runM newM (l.take k)) a).2.2 lab3 (w3.alloc (.cells #[.int .i64 (doM (runM newM (l.take k)) a).2.1,.string (doM (runM newM (l.take k)) a).2.2] 29)) from ⟨H3.outs _ (Nat.le_refl _),heap_alloc_new w3 _⟩)
    have J3:=HHG.out _ _ _ _ _ _ JJ'.out HO.out G3
    have H4:=hide (H3.below (below_box w3 (.cells #[.int .i64 (doM (runM newM (l.take k)) a).2.1,.string (doM (runM newM (l.take k)) a).2.2] 29)))
    have J4:=hide (HHG.out _ _ _ _ _ _ J3 H3.outs (Gr.below (lab:=lab3) (below_box w3 (.cells #[.int .i64 (doM (runM newM (l.take k)) a).2.1,.string (doM (runM newM (l.take k)) a).2.2] 29))))
    rw [← run_snoc] at H4
    have CL:=hide (fun w=>HHL.out hb (l.take k) a lab3 w (by rw [List.length_take]; omega) HZA.out)
    have HS:=rac_range (hl:=HL.out) H4.out.low hka.out
    clear D J3 G3 H3 JJ' HO HR0
    replace HS:=hide HS
    generalize w3.heap.size=g3 at *
    generalize w3.alloc (.cells #[.int .i64 (doM (runM newM (l.take k)) a).2.1,.string (doM (runM newM (l.take k)) a).2.2] 29)=W3 at *
    have B3:=(Below.refl W3.heap.size W3).drew
    have H5:=hide (H4.out.below B3)
    have J5:=hide (HHG.out _ _ _ _ _ _ J4.out H4.out.outs (Gr.below (lab:=lab3) B3))
    have RB5:=hide (RB.out.step (Gr.below (lab:=lab3) B3))
    have hS0:W3.drew.rangeAt b (off+k*4) a.cells.toList:=HS.out
    clear B3 H4 J4 RB HS
    have H4:=H5
    have J4:=J5
    have RB:=RB5
    clear H5 J5 RB5
    refine wp_region_held (S:=fun W=>W.rangeAt b (off+k*4) a.cells.toList) (by kernel_rfl) ?_
    change wpAnyH _ _ _ _ _ _ _ _ W3.drew
    generalize W3.drew=W4 at *
    have HS:(fun W:World=>W.rangeAt b (off+k*4) a.cells.toList) W4:=hS0
    clear hS0
    replace HS:=hide HS
    replace HS:=HS.out
    refine tw (i:=0) (d:=some 28) (fuel:=8) (v:=?_) rfl rfl ?_ HS ?_
    rotate_left
    ·intro W hW
     have hc1:=hW
     go_simp
     try with_reducible rfl
    simp only [Act.put,sT,List.set]
    refine tw (i:=1) (d:=some 29) (fuel:=7) (v:=?_) rfl rfl ?_ HS ?_
    rotate_left
    ·intro W hW
     have hc1:=hW
     go_simp
     try with_reducible rfl
    simp only [Act.put,sT,List.set]
    refine tw (i:=2) (d:=some 30) (fuel:=6) (v:=?_) rfl rfl ?_ HS ?_
    rotate_left
    ·intro W hW
     have hc1:=hW
     go_simp
     try with_reducible rfl
    simp only [Act.put,sT,List.set]
    refine tw (i:=3) (d:=some 31) (fuel:=5) (v:=?_) rfl rfl ?_ HS ?_
    rotate_left
    ·intro W hW
     have hc1:=hW
     go_simp
     try with_reducible rfl
    simp only [Act.put,sT,List.set]
    refine tw (i:=4) (d:=some 32) (fuel:=4) (v:=?_) rfl rfl ?_ HS ?_
    rotate_left
    ·intro W hW
     have hc1:=hW
     go_simp
     try with_reducible rfl
    simp only [Act.put,sT,List.set]
    refine tk (i:=5) (d:=some 33) (fuel:=3) (v:=.agg a.cells) rfl rfl (Or.inl ⟨by rfl,fun W hW=>exec_actat (.tmp 32) rfl rfl hW⟩) HS ?_
    simp only [Act.put,sT,List.set]
    refine wpAnyH_all (fuel:=2) (rs:=[6]) (by kernel_rfl) (by simp) ?_
    intro i hi
    obtain rfl:i=6:=by simpa using hi
    clear hi
    refine run_at (d:=some 34) rfl rfl (by rfl) (exec_rep (.tmp 8) rfl rfl RB.out.h) ?_
    refine ⟨HS,?_⟩
    simp only [Act.put,sT,List.set]
    refine wpAnyH_all (fuel:=1) (rs:=[7]) (by kernel_rfl) (by simp) ?_
    intro i hi
    obtain rfl:i=7:=by simpa using hi
    clear hi
    refine call_at (d:=some 35) rfl rfl (by rfl) K (#[.pointer (some ⟨hb,0,none⟩),.agg a.cells,.agg #[.int .i64 (doM (runM newM (l.take k)) a).2.1,.string (doM (runM newM (l.take k)) a).2.2]]++caps) (exec_look (.tmp 28) (.tmp 29) (.tmp 33) (.tmp 34) _ rfl rfl rfl rfl rfl HE.out) ?_
    refine (CL.out _ H4.out J4.out).mono ?_
    rintro e x1 ⟨rfl,lab5,H5,J5⟩
    have HS1:=rac_range (hl:=HL.out) H5.low hka.out
    refine ⟨_,rfl,HS1,?_⟩
    simp only [Act.put,sT,List.set]
    refine tw (i:=8) (d:=some 36) (fuel:=0) (v:=?_) rfl rfl ?_ HS1 ?_
    rotate_left
    ·intro W hW
     go_simp
     try with_reducible rfl
    simp only [Act.put,sT,List.set]
    refine wpAnyH_done (by kernel_rfl) ?_ _
    go_wp2
    exact ⟨⟨k+1,lab5,by omega,by omega,by go_num,by rw [HT.out]; exact H5,by rw [HT.out]; exact J5⟩,by simp [intOf]; omega⟩
   ·obtain rfl:k=150:=by omega
    have H':=hide H
    have J':=hide JJ
    clear H JJ HC H2' J2'
    go_wp2
    go_ret2
    exact ⟨hb,lab,rfl,hbw,H'.out,J'.out⟩
  ·obtain rfl:k=l.length:=by omega
   have H':=hide H
   have J':=hide JJ
   have HT:Hid (l.take 150=l.take l.length):=hide (by rw [List.take_length,List.take_of_length_le (by omega)])
   clear H JJ HC H2' J2'
   go_wp2
   go_ret2
   exact ⟨hb,lab,rfl,hbw,by rw [HT.out]; exact H'.out,by rw [HT.out]; exact J'.out⟩
end Go.Proofs.YtncgcejlkmoliaaGreatDoor.Ho
namespace Go.Proofs.YtncgcejlkmoliaaGreatDoor
open Go.RowKit
section
variable {P:Program} {w:World}
theorem eq_items {d:Nat} {e:TypeId} {c:Nat} {xs:Array Value}:∀ (is:List Nat),(∀ i ∈ is,∃ v,(part e xs (i*c)).run P w=.ok v w∧(Op.equalIn d e v v).run P w=.ok true w)→(Op.eqItems d e c xs xs is).run P w=.ok true w
 | [],_=>by simp [Op.eqItems]
 | i::is,h=>by
  obtain ⟨v,h1,h2⟩:=h i (List.mem_cons_self ..)
  have ih:=eq_items is (fun j hj=>h j (List.mem_cons_of_mem _ hj))
  simp only [Op.eqItems,Sem.run_bind,h1,h2,Result.andThen_ok]
  simpa using ih
theorem part_agg {e:TypeId} {d:TypeDesc} {s:Nat} (he:P.underlying e=some d) (hd:d.isRow=true) (hi:(P.info? e).map (·.size)=some s) (xs:Array Value) (o:Nat):(part e xs o).run P w=.ok (.agg (xs.extract o (o+s))) w:=by
 have hagg:(isAgg e).run P w=.ok true w:=by
  unfold isAgg
  rw [Sem.run_bind,run_underlying he w]
  cases d <;> simp_all
 have hsz:(sizeOf e).run P w=.ok s w:=by
  cases hq:P.info? e with
  | none=>simp [hq] at hi
  | some i =>
   have:i.size=s:=by simpa [hq] using hi
   simp [sizeOf,typeInfo,hq,this]
 simp only [part,Sem.run_bind,hagg,Result.andThen_ok,if_true,hsz,Sem.run_pure]
end
open Go.RowKit
theorem Tryz.cellsOfInt:Tryz.prog.cellsOf 3=1:=by kernel_rfl
theorem Tryz.cellsOfRoom:Tryz.prog.cellsOf 34=14:=by kernel_rfl
theorem Tryz.cellsOfThing:Tryz.prog.cellsOf 37=5:=by kernel_rfl
theorem Tryz.cellsOfBeing:Tryz.prog.cellsOf 40=6:=by kernel_rfl
section
variable {w:World}
theorem part9 (i:Nat) (x:ByteArray) (xs:Array Value) (h:xs[i]?=some (.string x)) (w:World):(part 9 xs i).run Tryz.prog w=.ok (.string x) w:=by
 have ha:(isAgg 9).run Tryz.prog w=.ok false w:=by unfold isAgg; rw [Sem.run_bind,run_underlying Tryz.underlying9 w]; rfl
 simp [part,ha,h]
theorem eqThing (L:Ld) (k d:Nat):(Op.equalIn (d+2) 37 (.agg (L.tcells k)) (.agg (L.tcells k))).run Tryz.prog w=.ok true w:=by
 have hf:Tryz.prog.underlying 37=some (.struct (Tryz.prog.fieldsOf 37)):=by simp [Program.fieldsOf,Tryz.underlying37]
 rw [run_equalIn_struct w (d+1) 37 _ _ hf (by kernel_rfl)]
 refine eq_fields _ ?_
 simp only [Program.fieldsOf,Tryz.underlying37]
 intro f hfm
 simp at hfm
 rcases hfm with rfl | rfl | rfl | rfl | rfl
 ·exact ⟨_,part9 0 _ _ (L.tcells_get k 0 (by omega)) w,eqs d _⟩
 ·exact ⟨_,part3 1 _ _ (L.tcells_get k 1 (by omega)) w,eqi d _⟩
 ·exact ⟨_,part3 2 _ _ (L.tcells_get k 2 (by omega)) w,eqi d _⟩
 ·exact ⟨_,part3 3 _ _ (L.tcells_get k 3 (by omega)) w,eqi d _⟩
 ·exact ⟨_,part4 4 _ _ (L.tcells_get k 4 (by omega)) w,eqb d _⟩
theorem eqBeing (L:Ld) (k d:Nat):(Op.equalIn (d+2) 40 (.agg (L.bcells k)) (.agg (L.bcells k))).run Tryz.prog w=.ok true w:=by
 have hf:Tryz.prog.underlying 40=some (.struct (Tryz.prog.fieldsOf 40)):=by simp [Program.fieldsOf,Tryz.underlying40]
 rw [run_equalIn_struct w (d+1) 40 _ _ hf (by kernel_rfl)]
 refine eq_fields _ ?_
 simp only [Program.fieldsOf,Tryz.underlying40]
 intro f hfm
 simp at hfm
 rcases hfm with rfl | rfl | rfl | rfl | rfl | rfl
 ·exact ⟨_,part9 0 _ _ (L.bcells_get k 0 (by omega)) w,eqs d _⟩
 ·exact ⟨_,part4 1 _ _ (L.bcells_get k 1 (by omega)) w,eqb d _⟩
 ·exact ⟨_,part4 2 _ _ (L.bcells_get k 2 (by omega)) w,eqb d _⟩
 ·exact ⟨_,part3 3 _ _ (L.bcells_get k 3 (by omega)) w,eqi d _⟩
 ·exact ⟨_,part3 4 _ _ (L.bcells_get k 4 (by omega)) w,eqi d _⟩
 ·exact ⟨_,part3 5 _ _ (L.bcells_get k 5 (by omega)) w,eqi d _⟩
theorem eqInts (f:Nat→Int) (d:Nat):(Op.equalIn (d+2) 31 (.agg (ints f)) (.agg (ints f))).run Tryz.prog w=.ok true w:=by
 obtain ⟨i0,hi,_,_,_⟩:=info_parts Tryz.info3
 rw [run_equalIn_array (P:=Tryz.prog) w (d+1) _ _ Tryz.underlying31 hi,Tryz.cellsOfInt]
 refine eq_items _ fun i hi=>⟨_,?_,eqi d (f i)⟩
 rw [Nat.mul_one]
 exact part3 i _ _ (ints_get f i (by simpa using hi)) w
theorem eqBools (f:Nat→Bool) (d:Nat):(Op.equalIn (d+2) 32 (.agg (bools f)) (.agg (bools f))).run Tryz.prog w=.ok true w:=by
 obtain ⟨i0,hi,_,_,_⟩:=info_parts Tryz.info4
 rw [run_equalIn_array (P:=Tryz.prog) w (d+1) _ _ Tryz.underlying32 hi,Tryz.cells4]
 refine eq_items _ fun i hi=>⟨_,?_,eqb d (f i)⟩
 rw [Nat.mul_one]
 exact part4 i _ _ (bools_get f i (by simpa using hi)) w
theorem eqRoom (L:Ld) (k d:Nat):(Op.equalIn (d+3) 34 (.agg (L.rcells k)) (.agg (L.rcells k))).run Tryz.prog w=.ok true w:=by
 have hf:Tryz.prog.underlying 34=some (.struct (Tryz.prog.fieldsOf 34)):=by simp [Program.fieldsOf,Tryz.underlying34]
 rw [run_equalIn_struct w (d+2) 34 _ _ hf (by kernel_rfl)]
 refine eq_fields _ ?_
 simp only [Program.fieldsOf,Tryz.underlying34]
 intro f hfm
 simp at hfm
 rcases hfm with rfl | rfl | rfl | rfl
 ·exact ⟨_,part9 0 _ _ (L.rcells_get k 0 (by omega)) w,eqs (d+1) _⟩
 ·exact ⟨_,part4 1 _ _ (L.rcells_get k 1 (by omega)) w,eqb (d+1) _⟩
 ·exact ⟨_,part_agg Tryz.underlying31 rfl Tryz.sizeInts _ 2,eqInts (L.exit k) d⟩
 ·exact ⟨_,part_agg Tryz.underlying32 rfl Tryz.sizeBools _ 8,eqBools (L.shut k) d⟩
theorem eqLand (L:Ld):(Op.equalIn 10000 43 (.agg L.cells) (.agg L.cells)).run Tryz.prog w=.ok true w:=by
 have hf:Tryz.prog.underlying 43=some (.struct (Tryz.prog.fieldsOf 43)):=by simp [Program.fieldsOf,Tryz.underlying43]
 rw [run_equalIn_struct w 9999 43 _ _ hf (by kernel_rfl)]
 refine eq_fields _ ?_
 simp only [Program.fieldsOf,Tryz.underlying43]
 intro f hfm
 simp at hfm
 rcases hfm with rfl | rfl | rfl
 ·refine ⟨_,part_agg Tryz.underlying35 rfl Tryz.sizeRooms _ 0,?_⟩
  obtain ⟨i0,hi⟩:=info_of_underlying Tryz.underlying34
  show (Op.equalIn 9999 35 (.agg L.roomsA) (.agg L.roomsA)).run Tryz.prog w=_
  rw [run_equalIn_array (P:=Tryz.prog) w 9998 _ _ Tryz.underlying35 hi,Tryz.cellsOfRoom]
  refine eq_items _ fun k hk=>⟨_,part_agg Tryz.underlying34 rfl Tryz.sizeRoom _ _,?_⟩
  rw [L.rooms_at k (by simpa using hk)]
  exact eqRoom L k 9995
 ·refine ⟨_,part_agg Tryz.underlying38 rfl Tryz.sizeThings _ 84,?_⟩
  obtain ⟨i0,hi⟩:=info_of_underlying Tryz.underlying37
  show (Op.equalIn 9999 38 (.agg L.thingsA) (.agg L.thingsA)).run Tryz.prog w=_
  rw [run_equalIn_array (P:=Tryz.prog) w 9998 _ _ Tryz.underlying38 hi,Tryz.cellsOfThing]
  refine eq_items _ fun k hk=>⟨_,part_agg Tryz.underlying37 rfl Tryz.sizeThing _ _,?_⟩
  rw [L.things_at k (by simpa using hk)]
  exact eqThing L k 9996
 ·refine ⟨_,part_agg Tryz.underlying41 rfl Tryz.sizeBeings _ 129,?_⟩
  obtain ⟨i0,hi⟩:=info_of_underlying Tryz.underlying40
  show (Op.equalIn 9999 41 (.agg L.beingsA) (.agg L.beingsA)).run Tryz.prog w=_
  rw [run_equalIn_array (P:=Tryz.prog) w 9998 _ _ Tryz.underlying41 hi,Tryz.cellsOfBeing]
  refine eq_items _ fun k hk=>⟨_,part_agg Tryz.underlying40 rfl Tryz.sizeBeing _ _,?_⟩
  rw [L.beings_at k (by simpa using hk)]
  exact eqBeing L k 9996
end
end Go.Proofs.YtncgcejlkmoliaaGreatDoor
namespace Go.Proofs.YtncgcejlkmoliaaGreatDoor.Ho
open Go.RowKit
section
variable {w:World}
theorem eqe (d:Nat) (a:Int):(Op.equalIn (d+1) 27 (.int .i64 a) (.int .i64 a)).run Tryz.prog w=.ok true w:=by
 rw [run_equalIn_int w d 27 .i64 .i64 a a Tryz.underlying27]; simp
theorem eqReply (a:Int) (s:ByteArray) (w:World):(Op.equalIn 10000 29 (.agg #[.int .i64 a,.string s]) (.agg #[.int .i64 a,.string s])).run Tryz.prog w=.ok true w:=by
 have hf:Tryz.prog.underlying 29=some (.struct (Tryz.prog.fieldsOf 29)):=by simp [Program.fieldsOf,Tryz.underlying29]
 rw [run_equalIn_struct w 9999 29 _ _ hf (by kernel_rfl)]
 refine eq_fields _ ?_
 simp only [Program.fieldsOf,Tryz.underlying29]
 intro f hfm
 simp at hfm
 rcases hfm with rfl | rfl
 ·exact ⟨_,part1 27 _ Tryz.underlying27 rfl _ _ _ rfl,eqe _ _⟩
 ·exact ⟨_,part1 9 _ Tryz.underlying9 rfl _ _ _ rfl,eqs _ _⟩
theorem Tryz.guardReply:Tryz.prog.eqGuardType Tryz.prog.depth 29=false:=by kernel_rfl
theorem Tryz.guardLandH:Tryz.prog.eqGuardType Tryz.prog.depth 43=false:=by kernel_rfl
variable {ops:Array Oper} {rest:List Oper} {op:Oper} {a:Act} {Q:Exit→Act→World→Prop}
theorem wl_eqreply (x y:Operand) (t:TypeId) (ho:op.op=.binOp .eql 29 x y t) (hw:Region.wanted op (yielded ops a.tmps)=true) {c:Int} {s:ByteArray} (hx:a.eval x=.agg #[.int .i64 c,.string s]) (hy:a.eval y=.agg #[.int .i64 c,.string s])
 (h:wpList Tryz.prog ops Q rest (a.put op.dst (.bool true)) w):wpList Tryz.prog ops Q (op::rest) a w:=by
 refine wl_wanted hw ?_
 have hg:(eqGuard .eql 29 x y (.agg #[.int .i64 c,.string s]) (.agg #[.int .i64 c,.string s])).run Tryz.prog w=.ok () w:=by
  have hg:=Tryz.guardReply
  simp [eqGuard,hg]
 have he:(binOp .eql 29 (.agg #[.int .i64 c,.string s]) (.agg #[.int .i64 c,.string s])).run Tryz.prog w=.ok (.bool true) w:=by
  rw [run_eql_struct]
  show ((Op.equalIn 10000 29 _ _).run Tryz.prog w).andThen _=_
  rw [eqReply]; rfl
 unfold Oper.wp execOp
 simp only [ho,hx,hy,Sem.run_bind,hg,he,Result.andThen_ok,Sem.run_pure]
 exact h
theorem wl_eqland (x y:Operand) (t:TypeId) (ho:op.op=.binOp .eql 43 x y t) (hw:Region.wanted op (yielded ops a.tmps)=true) {L:Ld} (hx:a.eval x=.agg L.cells) (hy:a.eval y=.agg L.cells)
 (h:wpList Tryz.prog ops Q rest (a.put op.dst (.bool true)) w):wpList Tryz.prog ops Q (op::rest) a w:=by
 refine wl_wanted hw ?_
 have hg:(eqGuard .eql 43 x y (.agg L.cells) (.agg L.cells)).run Tryz.prog w=.ok () w:=by
  have hg:=Tryz.guardLandH
  simp [eqGuard,hg]
 have he:(binOp .eql 43 (.agg L.cells) (.agg L.cells)).run Tryz.prog w=.ok (.bool true) w:=by
  rw [run_eql_struct]
  show ((Op.equalIn 10000 43 (.agg L.cells) (.agg L.cells)).run Tryz.prog w).andThen _=_
  rw [eqLand]; rfl
 unfold Oper.wp execOp
 simp only [ho,hx,hy,Sem.run_bind,hg,he,Result.andThen_ok,Sem.run_pure]
 exact h
end
open Go.RowKit
theorem str_ne {x y:ByteArray} (h:x ≠ y):(x.toList==y.toList)=false:=by
 rw [beq_eq_false_iff_ne]
 intro e
 rw [Lib.toList_data,Lib.toList_data] at e
 exact h (Go.WideShapes.bytes_inj e)
theorem sametexts_any (q q':List ByteArray) (v u:Value) (w:World) (hv:Reads w v q) (hu:Reads w u q') :
 Calls Tryz.prog 37 #[v,u] w fun e w'=>e=.returned (.bool (decide (q=q')))∧∃ n,w'=w.drewN n:=by
 obtain ⟨av,cap,rfl,hl,hm,_,hc⟩:=hv
 obtain ⟨av',cap',rfl,hl',hm',_,hc'⟩:=hu
 have hq:q.length≤2 ^ 63 - 1:=by unfold maxLen at hm; omega
 have hq':q'.length≤2 ^ 63 - 1:=by unfold maxLen at hm'; omega
 have HD:Hid (decide (q=q')=decide (q=q')):=hide rfl
 generalize hR:decide (q=q')=R at HD ⊢
 have HR:=hide hR
 clear hl hm hl' hm' HD hR
 by_cases hlen:q.length=q'.length
 ·have HC:=hide hc
  have HC':=hide hc'
  clear hc hc'
  rw [← hlen] at hq' ⊢
  have hle:=hide hlen
  clear hlen hq'
  go_enter Tryz.func37,Tryz.ntmps37
  go_wp2
  go_loopw [5] (fun i wr=>∃ k m:Nat,k≤q.length∧i=.int .i64 k∧wr=w.drewN m∧∀ j,j < k→q[j]?=q'[j]?) (fun i _=>q.length - (intOf i).toNat)
  case atStart=>exact ⟨0,0,Nat.zero_le _,rfl,rfl,fun j hj=>by omega⟩
  case round =>
   obtain ⟨k,m,hk,rfl,rfl,hall⟩:=hrel
   have HA:=hide hall
   clear hall
   by_cases hlt:k < q.length
   ·obtain ⟨b,off,rfl,hcell⟩:=HC.out (by omega)
    obtain ⟨b',off',rfl,hcell'⟩:=HC'.out (by have:=hle.out; omega)
    have c1:=hcell k hlt
    have c2:=hcell' k (by have:=hle.out; omega)
    have g1:q[k]?=some q[k]:=List.getElem?_eq_getElem hlt
    have g2:q'[k]?=some (q'[k]'(by have:=hle.out; omega)):=List.getElem?_eq_getElem _
    generalize q[k]=x at c1 g1
    generalize q'[k]'(by have:=hle.out; omega)=y at c2 g2
    have G1:=hide g1
    have G2:=hide g2
    clear HC HC' hcell hcell' g1 g2
    by_cases hxy:x=y
    ·subst hxy
     go_wp2
     go_region
     all_goals go_wp2
     all_goals exact ⟨⟨k+1,_,hlt,by go_num,rfl,fun j hj=>by
      by_cases e:j=k
      ·rw [e,G1.out,G2.out]
      ·exact HA.out j (by omega)⟩,by simp [intOf]; omega⟩
    ·have hb:(x.toList==y.toList)=false:=str_ne hxy
     go_wp2
     go_region
     all_goals go_wp2
     all_goals go_ret
     all_goals exact ⟨by rw [← HR.out,decide_eq_false (fun e=>hxy (by have:=G1.out; rw [e,G2.out] at this; injection this with this; exact this.symm))]; rfl,_,rfl⟩
   ·have HK:Hid (q=q'):=hide (List.ext_getElem? fun j=>by
     by_cases hj:j < k
     ·exact HA.out j hj
     ·rw [List.getElem?_eq_none (by omega),List.getElem?_eq_none (by have:=hle.out; omega)])
    clear HC HC'
    go_wp2
    go_ret
    exact ⟨by rw [← HR.out,decide_eq_true HK.out]; rfl,_,rfl⟩
 ·have hne:((q.length:Int) != (q'.length:Int))=true:=by rw [bne_iff_ne]; omega
  have HN:=hide hlen
  clear hlen hc hc'
  go_enter Tryz.func37,Tryz.ntmps37
  go_wp2
  go_ret
  exact ⟨by rw [← HR.out,decide_eq_false (fun e=>HN.out (by rw [e]))]; rfl,0,rfl⟩
theorem samepage_eq (P:Pa.Pg) (v u:Value) (w:World) (hv:Reads w v P.wait) (hu:Reads w u P.wait) :
 Calls Tryz.prog 43 #[.agg (P.cells v),.agg (P.cells u)] w fun e w'=>e=.returned (.bool true)∧Below w.heap.size w w':=by
 have H:=hide (fun w' h1 h2=>sametexts_any P.wait P.wait v u w' h1 h2)
 rw [decide_eq_true rfl] at H
 have hv1:=hide hv
 have hu1:=hide hu
 obtain ⟨av,cap,rfl,_⟩:=hv
 obtain ⟨av',cap',rfl,_⟩:=hu
 unfold Pa.Pg.cells
 go_enter Tryz.func43,Tryz.ntmps43
 go_wp2_with (go_at_call 37; refine (H.out _ ((hv1.out.alloc _).alloc _) ((hu1.out.alloc _).alloc _)).mono ?_; rintro e w1 ⟨rfl,n,rfl⟩)
 go_ret
 exact ⟨rfl,below_drewN (((Below.refl _ _).alloc (Nat.le_refl _) _).alloc (by simp) _) _⟩
theorem sameline_eq (P:Li.Lin) (v u:Value) (w:World) (hv:Reads w v P.q) (hu:Reads w u P.q) :
 Calls Tryz.prog 44 #[.agg (P.cells v),.agg (P.cells u)] w fun e w'=>e=.returned (.bool true)∧Below w.heap.size w w':=by
 have H:=hide (fun w' h1 h2=>sametexts_any P.q P.q v u w' h1 h2)
 rw [decide_eq_true rfl] at H
 have hv1:=hide hv
 have hu1:=hide hu
 obtain ⟨av,cap,rfl,_⟩:=hv
 obtain ⟨av',cap',rfl,_⟩:=hu
 unfold Li.Lin.cells
 go_enter Tryz.func44,Tryz.ntmps44
 go_wp2_with (go_at_call 37; refine (H.out _ ((hv1.out.alloc _).alloc _) ((hu1.out.alloc _).alloc _)).mono ?_; rintro e w1 ⟨rfl,n,rfl⟩)
 go_ret
 exact ⟨rfl,below_drewN (((Below.refl _ _).alloc (Nat.le_refl _) _).alloc (by simp) _) _⟩
open Go.RowKit
def Sm (o o':Option Se):Prop:=stateOf o=stateOf o'∧pageOf o=pageOf o'∧lineOf o=lineOf o'
theorem reads_below {w w':World} {v:Value} {q:List ByteArray} {base n:Nat} (h:w.ownsRow base 9 1 v q.length (scells q)) (hb:Below w.heap.size w w'):Reads w' v q :=
 reads_own (own_same h fun g hg=>hb.block g (own_lt h g hg).2)
theorem same_any {W0 W0':World} {lab lab':Nat→Nat} {w:World} {hb hb':Nat} {M M':Hm} (h:HoC W0 lab w hb M) (h':HoC W0' lab' w hb' M') (hL:M.L=M'.L) (hs:∀ i:Nat,i < 4→Sm (seatAt M i) (seatAt M' i))
 (hz:∀ i:Nat,i < 4→(pageOf (seatAt M i)).wait.length≤1000000∧(lineOf (seatAt M i)).q.length≤1000000) :
 Calls Tryz.prog 49 #[.pointer (some ⟨hb,0,none⟩),.pointer (some ⟨hb',0,none⟩)] w fun e w'=>e=.returned (.bool true)∧Below w.heap.size w w':=by
 have H:=hide h
 have H':=hide h'
 have HS:=hide hs
 have HZ:=hide hz
 have HL:=hide hL
 clear h h' hs hz hL
 go_enter Tryz.func49,Tryz.ntmps49
 go_wp2
 go_loopw [10] (fun i wr=>∃ k:Nat,k≤4∧i=.int .i64 k∧Below w.heap.size w wr) (fun i _=>4 - (intOf i).toNat)
 case atStart=>exact ⟨0,by omega,rfl,Below.refl _ _⟩
 case round =>
  obtain ⟨k,hk,rfl,hB⟩:=hrel
  by_cases hlt:k < 4
  ·have hlti:(k:Int) < 4:=by omega
   obtain ⟨s1,s2,s3⟩:=HS.out k hlt
   obtain ⟨z1,z2⟩:=HZ.out k hlt
   have A1:=H.out.below hB
   have A2:=H'.out.below hB
   have C1:=state_any A1 k
   have C2:=state_any A2 k
   rw [← s1] at C2
   have D1:=hide (fun w' (hb:Below wr.heap.size wr w')=>page_any (A1.below hb) k z1)
   have D2:=fun w' (hb:Below wr.heap.size wr w')=>page_any (A2.below hb) k (by rw [← s2]; exact z1)
   rw [← s2] at D2
   have E1:=hide (fun w' (hb:Below wr.heap.size wr w')=>line_any (A1.below hb) k z2)
   have E2:=fun w' (hb:Below wr.heap.size wr w')=>line_any (A2.below hb) k (by rw [← s3]; exact z2)
   rw [← s3] at E2
   replace C1:=hide C1
   replace C2:=hide (fun w' (hb:Below wr.heap.size wr w')=>state_any (A2.below hb) k)
   replace D2:=hide D2
   replace E2:=hide E2
   have S1:=hide s1
   clear A1 A2 s1 s2 s3 z1 z2 HS HZ HL H H'
   generalize pageOf (seatAt M k)=PG at *
   generalize lineOf (seatAt M k)=LN at *
   replace hB:=hide hB
   rw [← S1.out] at C2
   generalize stateOf (seatAt M k)=ST at *
   obtain ⟨st,sb⟩:=ST
   go_upto_region 5 with (go_at_call 16; refine C1.out.mono ?_; rintro e w1 ⟨rfl,b1⟩)
   go_upto_region 6 with (go_at_call 16; refine (C2.out _ b1).mono ?_; rintro e w2 ⟨rfl,b2⟩)
   have c2:=b1.trans (b2.mono b1.size)
   clear C1 C2 b1 b2 S1
   go_wp2_with fail
   refine (D1.out _ c2).mono ?_
   rintro e w3 ⟨v3,rfl,o3,b3⟩
   have c3:=c2.trans (b3.mono c2.size)
   clear D1 b3 c2
   replace o3:=hide o3
   go_wp2_with fail
   refine (D2.out _ c3).mono ?_
   rintro e w4 ⟨v4,rfl,o4,b4⟩
   have c4:=c3.trans (b4.mono c3.size)
   have CP:=hide (samepage_eq PG v3 v4 w4 (reads_below (n:=0) o3.out b4) (reads_own o4))
   clear D2 b4 c3 o3 o4
   go_wp2_with fail
   refine CP.out.mono ?_
   rintro e w5 ⟨rfl,b5⟩
   have c5:=c4.trans (b5.mono c4.size)
   clear CP b5 c4
   go_wp2_with fail
   refine (E1.out _ c5).mono ?_
   rintro e w6 ⟨v6,rfl,o6,b6⟩
   have c6:=c5.trans (b6.mono c5.size)
   clear E1 b6 c5
   replace o6:=hide o6
   go_wp2_with fail
   refine (E2.out _ c6).mono ?_
   rintro e w7 ⟨v7,rfl,o7,b7⟩
   have c7:=c6.trans (b7.mono c6.size)
   have CP:=hide (sameline_eq LN v6 v7 w7 (reads_below (n:=0) o6.out b7) (reads_own o7))
   clear E2 b7 c6 o6 o7
   go_wp2_with fail
   refine CP.out.mono ?_
   rintro e w8 ⟨rfl,b8⟩
   have c8:=c7.trans (b8.mono c7.size)
   clear CP b8 c7
   go_wp2_with fail
   exact ⟨⟨k+1,by omega,by go_num,hB.out.trans (c8.mono hB.out.size)⟩,by simp [intOf]; omega⟩
  ·have hlti:¬ (k:Int) < 4:=by omega
   have A1:=hide (land_any (H.out.below hB))
   have A2:=fun w' (hb:Below wr.heap.size wr w')=>land_any ((H'.out.below hB).below hb)
   rw [← HL.out] at A2
   replace A2:=hide A2
   replace hB:=hide hB
   clear HS HZ HL H H'
   generalize M.L=L at *
   go_wp2_with (first
    | (go_at_call 18; refine A1.out.mono ?_; rintro e w1 ⟨rfl,b1⟩)
    | (go_at_call 18; refine (A2.out _ b1).mono ?_; rintro e w2 ⟨rfl,b2⟩)
    | (refine wl_eqland (.tmp 55) (.tmp 57) _ rfl rfl (L:=L) rfl rfl ?_))
   go_ret
   have c2:=b1.trans (b2.mono b1.size)
   exact ⟨rfl,hB.out.trans (c2.mono hB.out.size)⟩
end Go.Proofs.YtncgcejlkmoliaaGreatDoor.Ho
