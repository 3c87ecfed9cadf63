import Derived.Test.YtncgcejlkmoliaaGreatDoorMh10
import Derived.Test.YtncgcejlkmoliaaGreatDoorMh12
import Derived.Test.YtncgcejlkmoliaaGreatDoorMh13
import Derived.Test.YtncgcejlkmoliaaGreatDoorMh14
set_option linter.unusedVariables false
set_option maxRecDepth 100000
set_option maxHeartbeats 16000000
namespace Go.Proofs.YtncgcejlkmoliaaGreatDoor
open Go.RowKit
structure OdOk (O:Od):Prop where
 name:O.name.size≤140737488355328
 second:O.second.size≤140737488355328
 lo:-9223372036854775808≤O.nth
 hi:O.nth≤9223372036854775807
theorem listed_size {L:Ld} (hf:Fine L) {q:List Int} (hq:∀ x ∈ q,∃ i:Nat,x=(i:Int)∧i < 9) (hl:q.length≤18):(listedT L q).size≤30000000:=by
 unfold listedT
 have h1:=names_size hf q hq
 have h2:nothingT.size=8:=rfl
 have h3:dotT.size=1:=rfl
 rw [ByteArray.size_append,h3]
 split <;> omega
theorem act_look {w0:World} {L:Ld} {Es:List Ev} {w:World} (hS:Sn 172 [] w0 L Es w) (hf:Fine L) (hvb:Vb w0) (b:Nat) (hb:b < 6) (O:Od) (hO:OdOk O) (hv:O.verb=6) (hlen:Es.length≤100000) :
 Calls Tryz.prog 137 #[.pointer (some ⟨w0.heap.size,0,none⟩),.int .i64 (b:Int),.agg O.cells] w fun e w'=>e=.returned (.tuple #[])∧Sn 172 [] w0 (L) (Es++lookE L b) w'∧Stp w0.heap.size 165 w w':=by
 have hv6:(O.verb==6)=true:=by rw [hv]; rfl
 have hbi:(b:Int) < 6:=by omega
 have hl:=hS.lt
 have X0:=hide (hS.alloc (.cells O.cells 149))
 have T0:=hide (Stp.below (o:=165) (below_box w (.cells O.cells 149)) hS.lt)
 have K0:=hide (hS.kept (below_box w (.cells O.cells 149)) (Nat.le_refl _) (by simp))
 have G0:=hide (heap_alloc_new w (.cells O.cells 149))
 have c0:(w.alloc (.cells O.cells 149)).cell? ⟨w.heap.size,0,none⟩=some (.int .i64 O.verb):=by rw [cell_of_row _ _ _ _ _ _ G0.out]; rfl
 have hlt:w.heap.size < (w.alloc (.cells O.cells 149)).heap.size:=by simp
 have HV:=hide hv
 clear hS hv
 go_enter Tryz.func137,Tryz.ntmps137
 go_wp2_with fail
 refine (rlook_any X0.out hf hvb b hb (by omega)).mono ?_
 rintro e w1 ⟨rfl,S1h,T1h⟩
 have A:=hide S1h
 have B:=hide (T0.out.trans T1h)
 clear S1h T1h
 go_wp2
 go_end0
 exact ⟨rfl,A.out,B.out⟩
theorem act_getA {w0:World} {L:Ld} {Es:List Ev} {w:World} (hS:Sn 172 [] w0 L Es w) (hf:Fine L) (hvb:Vb w0) (b:Nat) (hb:b < 6) (O:Od) (hO:OdOk O) (hv:O.verb=7) (hlen:Es.length≤100000) :
 Calls Tryz.prog 137 #[.pointer (some ⟨w0.heap.size,0,none⟩),.int .i64 (b:Int),.agg O.cells] w fun e w'=>e=.returned (.tuple #[])∧Sn 172 [] w0 (getAL L b O) (Es++getAE L b O) w'∧Stp w0.heap.size 165 w w':=by
 have hv6:(O.verb==6)=false:=by rw [hv]; rfl
 have hv7:(O.verb==7)=true:=by rw [hv]; rfl
 have hbi:(b:Int) < 6:=by omega
 have hl:=hS.lt
 have X0:=hide (hS.alloc (.cells O.cells 149))
 have T0:=hide (Stp.below (o:=165) (below_box w (.cells O.cells 149)) hS.lt)
 have K0:=hide (hS.kept (below_box w (.cells O.cells 149)) (Nat.le_refl _) (by simp))
 have G0:=hide (heap_alloc_new w (.cells O.cells 149))
 have c0:(w.alloc (.cells O.cells 149)).cell? ⟨w.heap.size,0,none⟩=some (.int .i64 O.verb):=by rw [cell_of_row _ _ _ _ _ _ G0.out]; rfl
 have hlt:w.heap.size < (w.alloc (.cells O.cells 149)).heap.size:=by simp
 have HV:=hide hv
 clear hS hv
 go_enter Tryz.func137,Tryz.ntmps137
 go_wp2_with (refine wl_wanted rfl (wp_load_row 149 (.tmp 5) rfl w.heap.size rfl 149 O.cells (0,0) _ G0.out Tryz.underlying149 rfl Tryz.sizeOrder ?_))
 refine (rgetA_any X0.out b hb O hO.second hO.lo hO.hi (by omega)).mono ?_
 rintro e w1 ⟨rfl,S1h,T1h⟩
 have A:=hide S1h
 have B:=hide (T0.out.trans T1h)
 clear S1h T1h
 go_wp2
 go_end0
 exact ⟨rfl,A.out,B.out⟩
theorem act_put {w0:World} {L:Ld} {Es:List Ev} {w:World} (hS:Sn 172 [] w0 L Es w) (hf:Fine L) (hvb:Vb w0) (b:Nat) (hb:b < 6) (O:Od) (hO:OdOk O) (hv:O.verb=9) (hlen:Es.length≤100000) :
 Calls Tryz.prog 137 #[.pointer (some ⟨w0.heap.size,0,none⟩),.int .i64 (b:Int),.agg O.cells] w fun e w'=>e=.returned (.tuple #[])∧Sn 172 [] w0 (putL L b O) (Es++putE L b O) w'∧Stp w0.heap.size 165 w w':=by
 have hv6:(O.verb==6)=false:=by rw [hv]; rfl
 have hv7:(O.verb==7)=false:=by rw [hv]; rfl
 have hv8:(O.verb==8)=false:=by rw [hv]; rfl
 have hv9:(O.verb==9)=true:=by rw [hv]; rfl
 have hbi:(b:Int) < 6:=by omega
 have hl:=hS.lt
 have X0:=hide (hS.alloc (.cells O.cells 149))
 have T0:=hide (Stp.below (o:=165) (below_box w (.cells O.cells 149)) hS.lt)
 have K0:=hide (hS.kept (below_box w (.cells O.cells 149)) (Nat.le_refl _) (by simp))
 have G0:=hide (heap_alloc_new w (.cells O.cells 149))
 have c0:(w.alloc (.cells O.cells 149)).cell? ⟨w.heap.size,0,none⟩=some (.int .i64 O.verb):=by rw [cell_of_row _ _ _ _ _ _ G0.out]; rfl
 have hlt:w.heap.size < (w.alloc (.cells O.cells 149)).heap.size:=by simp
 have HV:=hide hv
 clear hS hv
 go_enter Tryz.func137,Tryz.ntmps137
 go_wp2_with (refine wl_wanted rfl (wp_load_row 149 (.tmp 5) rfl w.heap.size rfl 149 O.cells (0,0) _ G0.out Tryz.underlying149 rfl Tryz.sizeOrder ?_))
 refine (rput_any X0.out b hb O hO.second hO.lo hO.hi (by omega)).mono ?_
 rintro e w1 ⟨rfl,S1h,T1h⟩
 have A:=hide S1h
 have B:=hide (T0.out.trans T1h)
 clear S1h T1h
 go_wp2
 go_end0
 exact ⟨rfl,A.out,B.out⟩
theorem act_give {w0:World} {L:Ld} {Es:List Ev} {w:World} (hS:Sn 172 [] w0 L Es w) (hf:Fine L) (hvb:Vb w0) (b:Nat) (hb:b < 6) (O:Od) (hO:OdOk O) (hv:O.verb=10) (hlen:Es.length≤100000) :
 Calls Tryz.prog 137 #[.pointer (some ⟨w0.heap.size,0,none⟩),.int .i64 (b:Int),.agg O.cells] w fun e w'=>e=.returned (.tuple #[])∧Sn 172 [] w0 (giveL L b O) (Es++giveE L b O) w'∧Stp w0.heap.size 165 w w':=by
 have hv6:(O.verb==6)=false:=by rw [hv]; rfl
 have hv7:(O.verb==7)=false:=by rw [hv]; rfl
 have hv8:(O.verb==8)=false:=by rw [hv]; rfl
 have hv9:(O.verb==9)=false:=by rw [hv]; rfl
 have hv10:(O.verb==10)=true:=by rw [hv]; rfl
 have hbi:(b:Int) < 6:=by omega
 have hl:=hS.lt
 have X0:=hide (hS.alloc (.cells O.cells 149))
 have T0:=hide (Stp.below (o:=165) (below_box w (.cells O.cells 149)) hS.lt)
 have K0:=hide (hS.kept (below_box w (.cells O.cells 149)) (Nat.le_refl _) (by simp))
 have G0:=hide (heap_alloc_new w (.cells O.cells 149))
 have c0:(w.alloc (.cells O.cells 149)).cell? ⟨w.heap.size,0,none⟩=some (.int .i64 O.verb):=by rw [cell_of_row _ _ _ _ _ _ G0.out]; rfl
 have hlt:w.heap.size < (w.alloc (.cells O.cells 149)).heap.size:=by simp
 have HV:=hide hv
 clear hS hv
 go_enter Tryz.func137,Tryz.ntmps137
 go_wp2_with (refine wl_wanted rfl (wp_load_row 149 (.tmp 5) rfl w.heap.size rfl 149 O.cells (0,0) _ G0.out Tryz.underlying149 rfl Tryz.sizeOrder ?_))
 refine (rgive_any X0.out b hb O hO.second hO.lo hO.hi (by omega)).mono ?_
 rintro e w1 ⟨rfl,S1h,T1h⟩
 have A:=hide S1h
 have B:=hide (T0.out.trans T1h)
 clear S1h T1h
 go_wp2
 go_end0
 exact ⟨rfl,A.out,B.out⟩
theorem act_hit {w0:World} {L:Ld} {Es:List Ev} {w:World} (hS:Sn 172 [] w0 L Es w) (hf:Fine L) (hvb:Vb w0) (b:Nat) (hb:b < 6) (O:Od) (hO:OdOk O) (hv:O.verb=18) (hlen:Es.length≤100000) :
 Calls Tryz.prog 137 #[.pointer (some ⟨w0.heap.size,0,none⟩),.int .i64 (b:Int),.agg O.cells] w fun e w'=>e=.returned (.tuple #[])∧Sn 172 [] w0 (hitsL L b O) (Es++hitsE L b O) w'∧Stp w0.heap.size 165 w w':=by
 have hv6:(O.verb==6)=false:=by rw [hv]; rfl
 have hv7:(O.verb==7)=false:=by rw [hv]; rfl
 have hv8:(O.verb==8)=false:=by rw [hv]; rfl
 have hv9:(O.verb==9)=false:=by rw [hv]; rfl
 have hv10:(O.verb==10)=false:=by rw [hv]; rfl
 have hv11:(O.verb==11)=false:=by rw [hv]; rfl
 have hv12:(O.verb==12)=false:=by rw [hv]; rfl
 have hv13:(O.verb==13)=false:=by rw [hv]; rfl
 have hv14:(O.verb==14)=false:=by rw [hv]; rfl
 have hv15:(O.verb==15)=false:=by rw [hv]; rfl
 have hv16:(O.verb==16)=false:=by rw [hv]; rfl
 have hv17:(O.verb==17)=false:=by rw [hv]; rfl
 have hv18:(O.verb==18)=true:=by rw [hv]; rfl
 have hbi:(b:Int) < 6:=by omega
 have hl:=hS.lt
 have X0:=hide (hS.alloc (.cells O.cells 149))
 have T0:=hide (Stp.below (o:=165) (below_box w (.cells O.cells 149)) hS.lt)
 have K0:=hide (hS.kept (below_box w (.cells O.cells 149)) (Nat.le_refl _) (by simp))
 have G0:=hide (heap_alloc_new w (.cells O.cells 149))
 have c0:(w.alloc (.cells O.cells 149)).cell? ⟨w.heap.size,0,none⟩=some (.int .i64 O.verb):=by rw [cell_of_row _ _ _ _ _ _ G0.out]; rfl
 have hlt:w.heap.size < (w.alloc (.cells O.cells 149)).heap.size:=by simp
 have HV:=hide hv
 clear hS hv
 go_enter Tryz.func137,Tryz.ntmps137
 go_wp2_with (refine wl_wanted rfl (wp_load_row 149 (.tmp 5) rfl w.heap.size rfl 149 O.cells (0,0) _ G0.out Tryz.underlying149 rfl Tryz.sizeOrder ?_))
 refine (rhit_any X0.out b hb O hO.name (by omega)).mono ?_
 rintro e w1 ⟨rfl,S1h,T1h⟩
 have A:=hide S1h
 have B:=hide (T0.out.trans T1h)
 clear S1h T1h
 go_wp2
 go_end0
 exact ⟨rfl,A.out,B.out⟩
theorem act_say {w0:World} {L:Ld} {Es:List Ev} {w:World} (hS:Sn 172 [] w0 L Es w) (hf:Fine L) (hvb:Vb w0) (b:Nat) (hb:b < 6) (O:Od) (hO:OdOk O) (hv:O.verb=11) (hlen:Es.length≤100000) :
 Calls Tryz.prog 137 #[.pointer (some ⟨w0.heap.size,0,none⟩),.int .i64 (b:Int),.agg O.cells] w fun e w'=>e=.returned (.tuple #[])∧Sn 172 [] w0 (L) (Es++[allE L { evN L 7 b with text:=O.text }]) w'∧Stp w0.heap.size 165 w w':=by
 have hv6:(O.verb==6)=false:=by rw [hv]; rfl
 have hv7:(O.verb==7)=false:=by rw [hv]; rfl
 have hv8:(O.verb==8)=false:=by rw [hv]; rfl
 have hv9:(O.verb==9)=false:=by rw [hv]; rfl
 have hv10:(O.verb==10)=false:=by rw [hv]; rfl
 have hv11:(O.verb==11)=true:=by rw [hv]; rfl
 have hbi:(b:Int) < 6:=by omega
 have hl:=hS.lt
 have X0:=hide (hS.alloc (.cells O.cells 149))
 have T0:=hide (Stp.below (o:=165) (below_box w (.cells O.cells 149)) hS.lt)
 have K0:=hide (hS.kept (below_box w (.cells O.cells 149)) (Nat.le_refl _) (by simp))
 have G0:=hide (heap_alloc_new w (.cells O.cells 149))
 have c0:(w.alloc (.cells O.cells 149)).cell? ⟨w.heap.size,0,none⟩=some (.int .i64 O.verb):=by rw [cell_of_row _ _ _ _ _ _ G0.out]; rfl
 have hlt:w.heap.size < (w.alloc (.cells O.cells 149)).heap.size:=by simp
 have HV:=hide hv
 clear hS hv
 go_enter Tryz.func137,Tryz.ntmps137
 go_wp2_with fail
 generalize w.alloc (.cells O.cells 149)=wa at *
 refine (revent_lit X0.out 7 b hb).mono ?_
 rintro e w1 ⟨rfl,hb1⟩
 have S1:=hide (X0.out.below hb1)
 have T1:=hide (T0.out.trans (X0.out.stp hb1 165))
 have G1:w1.heap[w.heap.size]?=some (.cells O.cells 149 (0,0)):=by rw [hb1.block _ hlt]; exact G0.out
 have o5:w1.cell? ⟨w.heap.size,5,none⟩=some (.string O.text):=by rw [cell_of_row _ _ _ _ _ _ G1]; rfl
 have hl1:w.heap.size < w1.heap.size:=(Array.getElem?_eq_some_iff.1 G1).1
 clear hb1 X0 T0 c0 G1
 go_wp2_with (first | (refine wl_new 71 (.tmp 6) (.tmp 60) rfl rfl _ _ rfl rfl rfl Tryz.sizeEvent rfl (by simp [Value.oneCell']) ?_) | (refine wl_event (.tmp 6) rfl rfl _ { evN L 7 b with text:=O.text } rfl (heap_alloc_new w1 _) ?_))
 refine (happens_any (S1.out.alloc _) { evN L 7 b with text:=O.text } (by omega)).mono ?_
 rintro e w2 ⟨rfl,S2h,T2h⟩
 have A:=hide S2h
 have B:=hide (T1.out.trans ((S1.out.stp (below_box w1 _) 165).trans T2h))
 clear S2h T2h
 go_wp2
 go_end0
 exact ⟨rfl,A.out,B.out⟩
theorem act_inv {w0:World} {L:Ld} {Es:List Ev} {w:World} (hS:Sn 172 [] w0 L Es w) (hf:Fine L) (hvb:Vb w0) (b:Nat) (hb:b < 6) (O:Od) (hO:OdOk O) (hv:O.verb=19) (hlen:Es.length≤100000) :
 Calls Tryz.prog 137 #[.pointer (some ⟨w0.heap.size,0,none⟩),.int .i64 (b:Int),.agg O.cells] w fun e w'=>e=.returned (.tuple #[])∧Sn 172 [] w0 (L) (Es++[tellE L b (haveS++listedT L (handL L b))]) w'∧Stp w0.heap.size 165 w w':=by
 have hv6:(O.verb==6)=false:=by rw [hv]; rfl
 have hv7:(O.verb==7)=false:=by rw [hv]; rfl
 have hv8:(O.verb==8)=false:=by rw [hv]; rfl
 have hv9:(O.verb==9)=false:=by rw [hv]; rfl
 have hv10:(O.verb==10)=false:=by rw [hv]; rfl
 have hv11:(O.verb==11)=false:=by rw [hv]; rfl
 have hv12:(O.verb==12)=false:=by rw [hv]; rfl
 have hv13:(O.verb==13)=false:=by rw [hv]; rfl
 have hv14:(O.verb==14)=false:=by rw [hv]; rfl
 have hv15:(O.verb==15)=false:=by rw [hv]; rfl
 have hv16:(O.verb==16)=false:=by rw [hv]; rfl
 have hv17:(O.verb==17)=false:=by rw [hv]; rfl
 have hv18:(O.verb==18)=false:=by rw [hv]; rfl
 have hv19:(O.verb==19)=true:=by rw [hv]; rfl
 have hbi:(b:Int) < 6:=by omega
 have hl:=hS.lt
 have X0:=hide (hS.alloc (.cells O.cells 149))
 have T0:=hide (Stp.below (o:=165) (below_box w (.cells O.cells 149)) hS.lt)
 have K0:=hide (hS.kept (below_box w (.cells O.cells 149)) (Nat.le_refl _) (by simp))
 have G0:=hide (heap_alloc_new w (.cells O.cells 149))
 have c0:(w.alloc (.cells O.cells 149)).cell? ⟨w.heap.size,0,none⟩=some (.int .i64 O.verb):=by rw [cell_of_row _ _ _ _ _ _ G0.out]; rfl
 have hlt:w.heap.size < (w.alloc (.cells O.cells 149)).heap.size:=by simp
 have HV:=hide hv
 clear hS hv
 go_enter Tryz.func137,Tryz.ntmps137
 go_wp2_with fail
 refine (rhand_any X0.out b).mono ?_
 rintro e w1 ⟨v,rfl,ho,hb1⟩
 have S1:=hide (X0.out.below hb1)
 have T1:=hide (T0.out.trans (X0.out.stp hb1 165))
 have N1:=hide (numk_own X0.out hb1 ho)
 obtain ⟨av,cap,rfl⟩:=ho.shape
 have hhl:=hand_len L b
 clear ho hb1 X0 T0 c0 G0
 go_wp2_with fail
 refine (listed_any S1.out hf N1.out (fun x hx=>hand_lt hx) (by omega)).mono ?_
 rintro e w2 ⟨rfl,hb2⟩
 have S2:=hide (S1.out.below hb2)
 have T2:=hide (T1.out.trans (S1.out.stp hb2 165))
 clear hb2 S1 T1 N1
 have hsz:=listed_size hf (fun x (hx:x ∈ handL L b)=>hand_lt hx) (show (handL L b).length≤18 by omega)
 generalize ht:listedT L (handL L b)=t at *
 have HT:=hide ht
 clear ht
 go_wp2_with fail
 refine (rtell_any S2.out b hb (haveS++t) (by omega)).mono ?_
 rintro e w3 ⟨rfl,S3h,T3h⟩
 have A:=hide S3h
 have B:=hide (T2.out.trans T3h)
 clear S3h T3h
 go_wp2
 go_end0
 exact ⟨rfl,by rw [HT.out]; exact A.out,B.out⟩
theorem act_quit {w0:World} {L:Ld} {Es:List Ev} {w:World} (hS:Sn 172 [] w0 L Es w) (hf:Fine L) (hvb:Vb w0) (b:Nat) (hb:b < 6) (O:Od) (hO:OdOk O) (hv:O.verb=20) (hlen:Es.length≤100000) :
 Calls Tryz.prog 137 #[.pointer (some ⟨w0.heap.size,0,none⟩),.int .i64 (b:Int),.agg O.cells] w fun e w'=>e=.returned (.tuple #[])∧Sn 172 [] w0 (zeroB (letGoL L b) b) (Es++[allE L (evN L 18 b)]) w'∧Stp w0.heap.size 165 w w':=by
 have hv6:(O.verb==6)=false:=by rw [hv]; rfl
 have hv7:(O.verb==7)=false:=by rw [hv]; rfl
 have hv8:(O.verb==8)=false:=by rw [hv]; rfl
 have hv9:(O.verb==9)=false:=by rw [hv]; rfl
 have hv10:(O.verb==10)=false:=by rw [hv]; rfl
 have hv11:(O.verb==11)=false:=by rw [hv]; rfl
 have hv12:(O.verb==12)=false:=by rw [hv]; rfl
 have hv13:(O.verb==13)=false:=by rw [hv]; rfl
 have hv14:(O.verb==14)=false:=by rw [hv]; rfl
 have hv15:(O.verb==15)=false:=by rw [hv]; rfl
 have hv16:(O.verb==16)=false:=by rw [hv]; rfl
 have hv17:(O.verb==17)=false:=by rw [hv]; rfl
 have hv18:(O.verb==18)=false:=by rw [hv]; rfl
 have hv19:(O.verb==19)=false:=by rw [hv]; rfl
 have hv20:(O.verb==20)=true:=by rw [hv]; rfl
 have hbi:(b:Int) < 6:=by omega
 have hl:=hS.lt
 have X0:=hide (hS.alloc (.cells O.cells 149))
 have T0:=hide (Stp.below (o:=165) (below_box w (.cells O.cells 149)) hS.lt)
 have K0:=hide (hS.kept (below_box w (.cells O.cells 149)) (Nat.le_refl _) (by simp))
 have G0:=hide (heap_alloc_new w (.cells O.cells 149))
 have c0:(w.alloc (.cells O.cells 149)).cell? ⟨w.heap.size,0,none⟩=some (.int .i64 O.verb):=by rw [cell_of_row _ _ _ _ _ _ G0.out]; rfl
 have hlt:w.heap.size < (w.alloc (.cells O.cells 149)).heap.size:=by simp
 have HV:=hide hv
 clear hS hv
 go_enter Tryz.func137,Tryz.ntmps137
 go_wp2_with fail
 refine (revent_any X0.out 18 b hb).mono ?_
 rintro e w1 ⟨rfl,hb1⟩
 have S1:=hide (X0.out.below hb1)
 have T1:=hide (T0.out.trans (X0.out.stp hb1 165))
 clear hb1 X0 T0 c0 G0
 go_wp2_with fail
 refine (happens_any S1.out (evN L 18 b) (by omega)).mono ?_
 rintro e w2 ⟨rfl,S2h,T2h⟩
 have S2:=hide S2h
 have T2:=hide (T1.out.trans T2h)
 clear S2h T2h S1 T1
 go_wp2_with fail
 refine (letGo_any S2.out hf b hb).mono ?_
 rintro e w3 ⟨rfl,S3h,T3h⟩
 have S3:=hide S3h
 have T3:=hide (T2.out.trans T3h)
 clear S3h T3h S2 T2
 have hw:=S3.out.whole b hb ⟨#[]⟩ false false 0 0 0
 have A:=hide hw.1
 have B:=hide (T3.out.trans hw.2)
 clear hw
 go_wp2_with (refine wl_whole (.tmp 136) (.tmp 132) rfl rfl b hb ⟨#[]⟩ false false 0 0 0 rfl rfl S3.out ?_)
 go_end0
 exact ⟨rfl,A.out,B.out⟩
theorem part_room (L:Ld) (b:Nat) (O:Od) (wh loc:Int) (E:Ev):(partL L b O wh loc E).room=L.room:=by
 unfold partL partS
 have:∀ (q:List Int) (s:Ld × List Ev),(q.foldl (pstep b wh loc E) s).1.room=s.1.room:=by
  intro q
  induction q with
  | nil=>intro s; rfl
  | cons a q ih =>
   intro s
   rw [List.foldl_cons,ih]
   unfold pstep
   split
   ·rfl
   ·split <;> rfl
 rw [this]
theorem act_drop {w0:World} {L:Ld} {Es:List Ev} {w:World} (hS:Sn 172 [] w0 L Es w) (hf:Fine L) (hvb:Vb w0) (b:Nat) (hb:b < 6) (O:Od) (hO:OdOk O) (hv:O.verb=8) (hlen:Es.length≤100000) :
 Calls Tryz.prog 137 #[.pointer (some ⟨w0.heap.size,0,none⟩),.int .i64 (b:Int),.agg O.cells] w fun e w'=>e=.returned (.tuple #[])∧Sn 172 [] w0 (partL L b O 0 (L.room b) (evN L 4 b)) (Es++partE L b O 0 (L.room b) (evN L 4 b)) w'∧Stp w0.heap.size 165 w w':=by
 have hv6:(O.verb==6)=false:=by rw [hv]; rfl
 have hv7:(O.verb==7)=false:=by rw [hv]; rfl
 have hv8:(O.verb==8)=true:=by rw [hv]; rfl
 have hbi:(b:Int) < 6:=by omega
 have hl:=hS.lt
 have X0:=hide (hS.alloc (.cells O.cells 149))
 have T0:=hide (Stp.below (o:=165) (below_box w (.cells O.cells 149)) hS.lt)
 have K0:=hide (hS.kept (below_box w (.cells O.cells 149)) (Nat.le_refl _) (by simp))
 have G0:=hide (heap_alloc_new w (.cells O.cells 149))
 have c0:(w.alloc (.cells O.cells 149)).cell? ⟨w.heap.size,0,none⟩=some (.int .i64 O.verb):=by rw [cell_of_row _ _ _ _ _ _ G0.out]; rfl
 have hlt:w.heap.size < (w.alloc (.cells O.cells 149)).heap.size:=by simp
 have HV:=hide hv
 clear hS hv
 go_enter Tryz.func137,Tryz.ntmps137
 go_wp2_with fail
 refine wp_region_held (S:=fun W=>W.heap[w.heap.size]?=some (.cells O.cells 149 (0,0))∧W.cell? ⟨w0.heap.size,129+b*6+3,none⟩=some (.int .i64 (L.room b))) (by kernel_rfl) ?_
 have S0:(w.alloc (.cells O.cells 149)).drew.heap[w.heap.size]?=some (.cells O.cells 149 (0,0))∧(w.alloc (.cells O.cells 149)).drew.cell? ⟨w0.heap.size,129+b*6+3,none⟩=some (.int .i64 (L.room b)):=⟨G0.out,X0.out.drew.being b 3 hb (by omega)⟩
 have X1:=hide X0.out.drew
 have T1:Hid (Stp w0.heap.size 165 w (w.alloc (.cells O.cells 149)).drew):=T0.out.trans (X0.out.stp (below_drewN (Below.refl _ _) 1) 165)
 have K1:Hid (Kept w0.heap.size 165 (w.alloc (.cells O.cells 149)).drew w.heap.size):=((X0.out.stp (below_drewN (Below.refl _ _) 1) 165).kept K0.out).1
 clear X0 T0 c0
 change wpAnyH _ _ _ _ _ _ _ _ (w.alloc (.cells O.cells 149)).drew
 generalize (w.alloc (.cells O.cells 149)).drew=W0 at S0 X1 T1 K1 ⊢
 refine tw (i:=0) (d:=some 29) (fuel:=14) (v:=?_) rfl rfl ?_ S0 ?_
 rotate_left
 ·intro W hW
  obtain ⟨hW1,hW2⟩:=hW
  go_simp
  try with_reducible rfl
 simp only [Act.put,sT,List.set]
 refine tw (i:=1) (d:=some 30) (fuel:=13) (v:=?_) rfl rfl ?_ S0 ?_
 rotate_left
 ·intro W hW
  obtain ⟨hW1,hW2⟩:=hW
  go_simp
  try with_reducible rfl
 simp only [Act.put,sT,List.set]
 refine tk (i:=2) (d:=some 31) (fuel:=12) (v:=.agg O.cells) rfl rfl (Or.inl ⟨by rfl,fun W hW=>exec_order (.tmp 5) rfl _ rfl hW.1⟩) S0 ?_
 simp only [Act.put,sT,List.set]
 refine tw (i:=3) (d:=some 32) (fuel:=11) (v:=?_) rfl rfl ?_ S0 ?_
 rotate_left
 ·intro W hW
  obtain ⟨hW1,hW2⟩:=hW
  go_simp
  try with_reducible rfl
 simp only [Act.put,sT,List.set]
 refine tw (i:=4) (d:=some 33) (fuel:=10) (v:=?_) rfl rfl ?_ S0 ?_
 rotate_left
 ·intro W hW
  obtain ⟨hW1,hW2⟩:=hW
  go_simp
  try with_reducible rfl
 simp only [Act.put,sT,List.set]
 refine tw (i:=5) (d:=some 34) (fuel:=9) (v:=?_) rfl rfl ?_ S0 ?_
 rotate_left
 ·intro W hW
  obtain ⟨hW1,hW2⟩:=hW
  go_simp
  try with_reducible rfl
 simp only [Act.put,sT,List.set]
 refine tw (i:=6) (d:=some 35) (fuel:=8) (v:=?_) rfl rfl ?_ S0 ?_
 rotate_left
 ·intro W hW
  obtain ⟨hW1,hW2⟩:=hW
  go_simp
  try with_reducible rfl
 simp only [Act.put,sT,List.set]
 refine tw (i:=7) (d:=some 36) (fuel:=7) (v:=?_) rfl rfl ?_ S0 ?_
 rotate_left
 ·intro W hW
  obtain ⟨hW1,hW2⟩:=hW
  go_simp
  try with_reducible rfl
 simp only [Act.put,sT,List.set]
 refine tw (i:=8) (d:=some 37) (fuel:=6) (v:=?_) rfl rfl ?_ S0 ?_
 rotate_left
 ·intro W hW
  obtain ⟨hW1,hW2⟩:=hW
  go_simp
  try with_reducible rfl
 simp only [Act.put,sT,List.set]
 refine tw (i:=9) (d:=some 38) (fuel:=5) (v:=?_) rfl rfl ?_ S0 ?_
 rotate_left
 ·intro W hW
  obtain ⟨hW1,hW2⟩:=hW
  go_simp
  try with_reducible rfl
 simp only [Act.put,sT,List.set]
 refine tw (i:=10) (d:=some 39) (fuel:=4) (v:=?_) rfl rfl ?_ S0 ?_
 rotate_left
 ·intro W hW
  obtain ⟨hW1,hW2⟩:=hW
  go_simp
  try with_reducible rfl
 simp only [Act.put,sT,List.set]
 refine tw (i:=11) (d:=some 40) (fuel:=3) (v:=?_) rfl rfl ?_ S0 ?_
 rotate_left
 ·intro W hW
  obtain ⟨hW1,hW2⟩:=hW
  go_simp
  try with_reducible rfl
 simp only [Act.put,sT,List.set]
 refine tw (i:=12) (d:=some 41) (fuel:=2) (v:=?_) rfl rfl ?_ S0 ?_
 rotate_left
 ·intro W hW
  obtain ⟨hW1,hW2⟩:=hW
  go_simp
  try with_reducible rfl
 simp only [Act.put,sT,List.set]
 refine wpAnyH_all (fuel:=1) (rs:=[13]) (by kernel_rfl) (by simp) ?_
 intro i hi
 obtain rfl:i=13:=by simpa using hi
 clear hi
 refine call_at (d:=some 42) rfl rfl (by rfl) 155 #[.pointer (some ⟨w0.heap.size,0,none⟩),.int .i64 4,.int .i64 (b:Int)] (by kernel_rfl) ?_
 refine (revent_any X1.out 4 b hb).mono ?_
 rintro e w2 ⟨rfl,hb2⟩
 have S2:w2.heap[w.heap.size]?=some (.cells O.cells 149 (0,0))∧w2.cell? ⟨w0.heap.size,129+b*6+3,none⟩=some (.int .i64 (L.room b)):=⟨by rw [hb2.block _ ((Array.getElem?_eq_some_iff.1 S0.1).1)]; exact S0.1,(X1.out.below hb2).being b 3 hb (by omega)⟩
 have K2:=hide ((X1.out.stp hb2 165).kept K1.out).1
 have X2:=hide (X1.out.below hb2)
 have T2:=hide (T1.out.trans (X1.out.stp hb2 165))
 clear hb2 X1 T1 S0
 refine ⟨_,rfl,S2,?_⟩
 simp only [Act.put,sT,List.set]
 refine wpAnyH_all (fuel:=0) (rs:=[14]) (by kernel_rfl) (by simp) ?_
 intro i hi
 obtain rfl:i=14:=by simpa using hi
 clear hi
 refine call_at (d:=some 43) rfl rfl (by rfl) 154 #[.pointer (some ⟨w0.heap.size,0,none⟩),.int .i64 (b:Int),.agg O.cells,.int .i64 0,.int .i64 (L.room b),.agg (evN L 4 b).cells] (by kernel_rfl) ?_
 refine (rpart_any X2.out b hb O hO.lo hO.hi 0 (L.room b) (evN L 4 b) (by omega)).mono ?_
 rintro e w3 ⟨rfl,S3h,T3h⟩
 have A:=hide S3h
 have B:=hide (T2.out.trans T3h)
 have S3:w3.heap[w.heap.size]?=some (.cells O.cells 149 (0,0))∧w3.cell? ⟨w0.heap.size,129+b*6+3,none⟩=some (.int .i64 (L.room b)):=by
  refine ⟨(T3h.kept K2.out).2.trans S2.1,?_⟩
  rw [S3h.being b 3 hb (by omega)]; simp only [Ld.beingCell]; rw [part_room]
 clear S3h T3h
 refine ⟨_,rfl,S3,?_⟩
 simp only [Act.put,sT,List.set]
 refine wpAnyH_done (by kernel_rfl) ?_ _
 go_wp2
 go_end0
 exact ⟨rfl,A.out,B.out⟩
theorem act_turn14 {w0:World} {L:Ld} {Es:List Ev} {w:World} (hS:Sn 172 [] w0 L Es w) (hf:Fine L) (hvb:Vb w0) (b:Nat) (hb:b < 6) (O:Od) (hO:OdOk O) (hv:O.verb=14) (hlen:Es.length≤100000) :
 Calls Tryz.prog 137 #[.pointer (some ⟨w0.heap.size,0,none⟩),.int .i64 (b:Int),.agg O.cells] w fun e w'=>e=.returned (.tuple #[])∧Sn 172 [] w0 (turnL L b O (turnedC O.verb)) (Es++turnE L b O (turnedC O.verb)) w'∧Stp w0.heap.size 165 w w':=by
 have hv6:(O.verb==6)=false:=by rw [hv]; rfl
 have hv7:(O.verb==7)=false:=by rw [hv]; rfl
 have hv8:(O.verb==8)=false:=by rw [hv]; rfl
 have hv9:(O.verb==9)=false:=by rw [hv]; rfl
 have hv10:(O.verb==10)=false:=by rw [hv]; rfl
 have hv11:(O.verb==11)=false:=by rw [hv]; rfl
 have hv12:(O.verb==12)=false:=by rw [hv]; rfl
 have hv13:(O.verb==13)=false:=by rw [hv]; rfl
 have hv14:(O.verb==14)=true:=by rw [hv]; rfl
 have hbi:(b:Int) < 6:=by omega
 have hl:=hS.lt
 have X0:=hide (hS.alloc (.cells O.cells 149))
 have T0:=hide (Stp.below (o:=165) (below_box w (.cells O.cells 149)) hS.lt)
 have K0:=hide (hS.kept (below_box w (.cells O.cells 149)) (Nat.le_refl _) (by simp))
 have G0:=hide (heap_alloc_new w (.cells O.cells 149))
 have c0:(w.alloc (.cells O.cells 149)).cell? ⟨w.heap.size,0,none⟩=some (.int .i64 O.verb):=by rw [cell_of_row _ _ _ _ _ _ G0.out]; rfl
 have hlt:w.heap.size < (w.alloc (.cells O.cells 149)).heap.size:=by simp
 have HV:=hide hv
 clear hS hv
 go_enter Tryz.func137,Tryz.ntmps137
 go_wp2_with fail
 refine wp_region_held (S:=fun W=>W.heap[w.heap.size]?=some (.cells O.cells 149 (0,0))) (by kernel_rfl) ?_
 have S0:(w.alloc (.cells O.cells 149)).drew.heap[w.heap.size]?=some (.cells O.cells 149 (0,0)):=G0.out
 have X1:=hide X0.out.drew
 have T1:Hid (Stp w0.heap.size 165 w (w.alloc (.cells O.cells 149)).drew):=T0.out.trans (X0.out.stp (below_drewN (Below.refl _ _) 1) 165)
 have K1:Hid (Kept w0.heap.size 165 (w.alloc (.cells O.cells 149)).drew w.heap.size):=((X0.out.stp (below_drewN (Below.refl _ _) 1) 165).kept K0.out).1
 clear X0 T0 c0
 change wpAnyH _ _ _ _ _ _ _ _ (w.alloc (.cells O.cells 149)).drew
 generalize (w.alloc (.cells O.cells 149)).drew=W0 at S0 X1 T1 K1 ⊢
 refine tw (i:=0) (d:=some 96) (fuel:=6) (v:=?_) rfl rfl ?_ S0 ?_
 rotate_left
 ·intro W hW; go_simp; try with_reducible rfl
 simp only [Act.put,sT,List.set]
 refine tw (i:=1) (d:=some 97) (fuel:=5) (v:=?_) rfl rfl ?_ S0 ?_
 rotate_left
 ·intro W hW; go_simp; try with_reducible rfl
 simp only [Act.put,sT,List.set]
 refine tk (i:=2) (d:=some 98) (fuel:=4) (v:=.agg O.cells) rfl rfl (Or.inl ⟨by rfl,fun W hW=>exec_order (.tmp 5) rfl _ rfl hW⟩) S0 ?_
 simp only [Act.put,sT,List.set]
 refine tw (i:=3) (d:=some 99) (fuel:=3) (v:=?_) rfl rfl ?_ S0 ?_
 rotate_left
 ·intro W hW; go_simp; try with_reducible rfl
 simp only [Act.put,sT,List.set]
 refine tw (i:=4) (d:=some 100) (fuel:=2) (v:=?_) rfl rfl ?_ S0 ?_
 rotate_left
 ·intro W hW
  have hW0:W.cell? ⟨w.heap.size,0,none⟩=some (.int .i64 O.verb):=by rw [cell_of_row _ _ _ _ _ _ hW]; rfl
  go_simp
  try with_reducible rfl
 simp only [Act.put,sT,List.set]
 refine wpAnyH_all (fuel:=1) (rs:=[5]) (by kernel_rfl) (by simp) ?_
 intro i hi
 obtain rfl:i=5:=by simpa using hi
 clear hi
 refine call_at (d:=some 101) rfl rfl (by rfl) 160 #[.int .i64 O.verb] (by kernel_rfl) ?_
 refine (turned_any O.verb _).mono ?_
 rintro e w2 ⟨rfl,hb2⟩
 have S2:w2.heap[w.heap.size]?=some (.cells O.cells 149 (0,0)):=by rw [hb2.block _ ((Array.getElem?_eq_some_iff.1 S0).1)]; exact S0
 have K2:=hide ((X1.out.stp hb2 165).kept K1.out).1
 have X2:=hide (X1.out.below hb2)
 have T2:=hide (T1.out.trans (X1.out.stp hb2 165))
 clear hb2 X1 T1 S0 K1
 refine ⟨_,rfl,S2,?_⟩
 simp only [Act.put,sT,List.set]
 refine wpAnyH_all (fuel:=0) (rs:=[6]) (by kernel_rfl) (by simp) ?_
 intro i hi
 obtain rfl:i=6:=by simpa using hi
 clear hi
 refine call_at (d:=some 102) rfl rfl (by rfl) 161 #[.pointer (some ⟨w0.heap.size,0,none⟩),.int .i64 (b:Int),.agg O.cells,.agg (turnedC O.verb).cells] (by kernel_rfl) ?_
 refine (rturn_any X2.out b hb O hO.lo hO.hi (turnedC O.verb) (by omega)).mono ?_
 rintro e w3 ⟨rfl,S3h,T3h⟩
 have A:=hide S3h
 have B:=hide (T2.out.trans T3h)
 have S3:w3.heap[w.heap.size]?=some (.cells O.cells 149 (0,0)):=(T3h.kept K2.out).2.trans S2
 clear S3h T3h
 refine ⟨_,rfl,S3,?_⟩
 simp only [Act.put,sT,List.set]
 refine wpAnyH_done (by kernel_rfl) ?_ _
 go_wp2
 go_end0
 exact ⟨rfl,A.out,B.out⟩
theorem act_turn15 {w0:World} {L:Ld} {Es:List Ev} {w:World} (hS:Sn 172 [] w0 L Es w) (hf:Fine L) (hvb:Vb w0) (b:Nat) (hb:b < 6) (O:Od) (hO:OdOk O) (hv:O.verb=15) (hlen:Es.length≤100000) :
 Calls Tryz.prog 137 #[.pointer (some ⟨w0.heap.size,0,none⟩),.int .i64 (b:Int),.agg O.cells] w fun e w'=>e=.returned (.tuple #[])∧Sn 172 [] w0 (turnL L b O (turnedC O.verb)) (Es++turnE L b O (turnedC O.verb)) w'∧Stp w0.heap.size 165 w w':=by
 have hv6:(O.verb==6)=false:=by rw [hv]; rfl
 have hv7:(O.verb==7)=false:=by rw [hv]; rfl
 have hv8:(O.verb==8)=false:=by rw [hv]; rfl
 have hv9:(O.verb==9)=false:=by rw [hv]; rfl
 have hv10:(O.verb==10)=false:=by rw [hv]; rfl
 have hv11:(O.verb==11)=false:=by rw [hv]; rfl
 have hv12:(O.verb==12)=false:=by rw [hv]; rfl
 have hv13:(O.verb==13)=false:=by rw [hv]; rfl
 have hv14:(O.verb==14)=false:=by rw [hv]; rfl
 have hv15:(O.verb==15)=true:=by rw [hv]; rfl
 have hbi:(b:Int) < 6:=by omega
 have hl:=hS.lt
 have X0:=hide (hS.alloc (.cells O.cells 149))
 have T0:=hide (Stp.below (o:=165) (below_box w (.cells O.cells 149)) hS.lt)
 have K0:=hide (hS.kept (below_box w (.cells O.cells 149)) (Nat.le_refl _) (by simp))
 have G0:=hide (heap_alloc_new w (.cells O.cells 149))
 have c0:(w.alloc (.cells O.cells 149)).cell? ⟨w.heap.size,0,none⟩=some (.int .i64 O.verb):=by rw [cell_of_row _ _ _ _ _ _ G0.out]; rfl
 have hlt:w.heap.size < (w.alloc (.cells O.cells 149)).heap.size:=by simp
 have HV:=hide hv
 clear hS hv
 go_enter Tryz.func137,Tryz.ntmps137
 go_wp2_with fail
 refine wp_region_held (S:=fun W=>W.heap[w.heap.size]?=some (.cells O.cells 149 (0,0))) (by kernel_rfl) ?_
 have S0:(w.alloc (.cells O.cells 149)).drew.heap[w.heap.size]?=some (.cells O.cells 149 (0,0)):=G0.out
 have X1:=hide X0.out.drew
 have T1:Hid (Stp w0.heap.size 165 w (w.alloc (.cells O.cells 149)).drew):=T0.out.trans (X0.out.stp (below_drewN (Below.refl _ _) 1) 165)
 have K1:Hid (Kept w0.heap.size 165 (w.alloc (.cells O.cells 149)).drew w.heap.size):=((X0.out.stp (below_drewN (Below.refl _ _) 1) 165).kept K0.out).1
 clear X0 T0 c0
 change wpAnyH _ _ _ _ _ _ _ _ (w.alloc (.cells O.cells 149)).drew
 generalize (w.alloc (.cells O.cells 149)).drew=W0 at S0 X1 T1 K1 ⊢
 refine tw (i:=0) (d:=some 96) (fuel:=6) (v:=?_) rfl rfl ?_ S0 ?_
 rotate_left
 ·intro W hW; go_simp; try with_reducible rfl
 simp only [Act.put,sT,List.set]
 refine tw (i:=1) (d:=some 97) (fuel:=5) (v:=?_) rfl rfl ?_ S0 ?_
 rotate_left
 ·intro W hW; go_simp; try with_reducible rfl
 simp only [Act.put,sT,List.set]
 refine tk (i:=2) (d:=some 98) (fuel:=4) (v:=.agg O.cells) rfl rfl (Or.inl ⟨by rfl,fun W hW=>exec_order (.tmp 5) rfl _ rfl hW⟩) S0 ?_
 simp only [Act.put,sT,List.set]
 refine tw (i:=3) (d:=some 99) (fuel:=3) (v:=?_) rfl rfl ?_ S0 ?_
 rotate_left
 ·intro W hW; go_simp; try with_reducible rfl
 simp only [Act.put,sT,List.set]
 refine tw (i:=4) (d:=some 100) (fuel:=2) (v:=?_) rfl rfl ?_ S0 ?_
 rotate_left
 ·intro W hW
  have hW0:W.cell? ⟨w.heap.size,0,none⟩=some (.int .i64 O.verb):=by rw [cell_of_row _ _ _ _ _ _ hW]; rfl
  go_simp
  try with_reducible rfl
 simp only [Act.put,sT,List.set]
 refine wpAnyH_all (fuel:=1) (rs:=[5]) (by kernel_rfl) (by simp) ?_
 intro i hi
 obtain rfl:i=5:=by simpa using hi
 clear hi
 refine call_at (d:=some 101) rfl rfl (by rfl) 160 #[.int .i64 O.verb] (by kernel_rfl) ?_
 refine (turned_any O.verb _).mono ?_
 rintro e w2 ⟨rfl,hb2⟩
 have S2:w2.heap[w.heap.size]?=some (.cells O.cells 149 (0,0)):=by rw [hb2.block _ ((Array.getElem?_eq_some_iff.1 S0).1)]; exact S0
 have K2:=hide ((X1.out.stp hb2 165).kept K1.out).1
 have X2:=hide (X1.out.below hb2)
 have T2:=hide (T1.out.trans (X1.out.stp hb2 165))
 clear hb2 X1 T1 S0 K1
 refine ⟨_,rfl,S2,?_⟩
 simp only [Act.put,sT,List.set]
 refine wpAnyH_all (fuel:=0) (rs:=[6]) (by kernel_rfl) (by simp) ?_
 intro i hi
 obtain rfl:i=6:=by simpa using hi
 clear hi
 refine call_at (d:=some 102) rfl rfl (by rfl) 161 #[.pointer (some ⟨w0.heap.size,0,none⟩),.int .i64 (b:Int),.agg O.cells,.agg (turnedC O.verb).cells] (by kernel_rfl) ?_
 refine (rturn_any X2.out b hb O hO.lo hO.hi (turnedC O.verb) (by omega)).mono ?_
 rintro e w3 ⟨rfl,S3h,T3h⟩
 have A:=hide S3h
 have B:=hide (T2.out.trans T3h)
 have S3:w3.heap[w.heap.size]?=some (.cells O.cells 149 (0,0)):=(T3h.kept K2.out).2.trans S2
 clear S3h T3h
 refine ⟨_,rfl,S3,?_⟩
 simp only [Act.put,sT,List.set]
 refine wpAnyH_done (by kernel_rfl) ?_ _
 go_wp2
 go_end0
 exact ⟨rfl,A.out,B.out⟩
theorem act_turn16 {w0:World} {L:Ld} {Es:List Ev} {w:World} (hS:Sn 172 [] w0 L Es w) (hf:Fine L) (hvb:Vb w0) (b:Nat) (hb:b < 6) (O:Od) (hO:OdOk O) (hv:O.verb=16) (hlen:Es.length≤100000) :
 Calls Tryz.prog 137 #[.pointer (some ⟨w0.heap.size,0,none⟩),.int .i64 (b:Int),.agg O.cells] w fun e w'=>e=.returned (.tuple #[])∧Sn 172 [] w0 (turnL L b O (turnedC O.verb)) (Es++turnE L b O (turnedC O.verb)) w'∧Stp w0.heap.size 165 w w':=by
 have hv6:(O.verb==6)=false:=by rw [hv]; rfl
 have hv7:(O.verb==7)=false:=by rw [hv]; rfl
 have hv8:(O.verb==8)=false:=by rw [hv]; rfl
 have hv9:(O.verb==9)=false:=by rw [hv]; rfl
 have hv10:(O.verb==10)=false:=by rw [hv]; rfl
 have hv11:(O.verb==11)=false:=by rw [hv]; rfl
 have hv12:(O.verb==12)=false:=by rw [hv]; rfl
 have hv13:(O.verb==13)=false:=by rw [hv]; rfl
 have hv14:(O.verb==14)=false:=by rw [hv]; rfl
 have hv15:(O.verb==15)=false:=by rw [hv]; rfl
 have hv16:(O.verb==16)=true:=by rw [hv]; rfl
 have hbi:(b:Int) < 6:=by omega
 have hl:=hS.lt
 have X0:=hide (hS.alloc (.cells O.cells 149))
 have T0:=hide (Stp.below (o:=165) (below_box w (.cells O.cells 149)) hS.lt)
 have K0:=hide (hS.kept (below_box w (.cells O.cells 149)) (Nat.le_refl _) (by simp))
 have G0:=hide (heap_alloc_new w (.cells O.cells 149))
 have c0:(w.alloc (.cells O.cells 149)).cell? ⟨w.heap.size,0,none⟩=some (.int .i64 O.verb):=by rw [cell_of_row _ _ _ _ _ _ G0.out]; rfl
 have hlt:w.heap.size < (w.alloc (.cells O.cells 149)).heap.size:=by simp
 have HV:=hide hv
 clear hS hv
 go_enter Tryz.func137,Tryz.ntmps137
 go_wp2_with fail
 refine wp_region_held (S:=fun W=>W.heap[w.heap.size]?=some (.cells O.cells 149 (0,0))) (by kernel_rfl) ?_
 have S0:(w.alloc (.cells O.cells 149)).drew.heap[w.heap.size]?=some (.cells O.cells 149 (0,0)):=G0.out
 have X1:=hide X0.out.drew
 have T1:Hid (Stp w0.heap.size 165 w (w.alloc (.cells O.cells 149)).drew):=T0.out.trans (X0.out.stp (below_drewN (Below.refl _ _) 1) 165)
 have K1:Hid (Kept w0.heap.size 165 (w.alloc (.cells O.cells 149)).drew w.heap.size):=((X0.out.stp (below_drewN (Below.refl _ _) 1) 165).kept K0.out).1
 clear X0 T0 c0
 change wpAnyH _ _ _ _ _ _ _ _ (w.alloc (.cells O.cells 149)).drew
 generalize (w.alloc (.cells O.cells 149)).drew=W0 at S0 X1 T1 K1 ⊢
 refine tw (i:=0) (d:=some 96) (fuel:=6) (v:=?_) rfl rfl ?_ S0 ?_
 rotate_left
 ·intro W hW; go_simp; try with_reducible rfl
 simp only [Act.put,sT,List.set]
 refine tw (i:=1) (d:=some 97) (fuel:=5) (v:=?_) rfl rfl ?_ S0 ?_
 rotate_left
 ·intro W hW; go_simp; try with_reducible rfl
 simp only [Act.put,sT,List.set]
 refine tk (i:=2) (d:=some 98) (fuel:=4) (v:=.agg O.cells) rfl rfl (Or.inl ⟨by rfl,fun W hW=>exec_order (.tmp 5) rfl _ rfl hW⟩) S0 ?_
 simp only [Act.put,sT,List.set]
 refine tw (i:=3) (d:=some 99) (fuel:=3) (v:=?_) rfl rfl ?_ S0 ?_
 rotate_left
 ·intro W hW; go_simp; try with_reducible rfl
 simp only [Act.put,sT,List.set]
 refine tw (i:=4) (d:=some 100) (fuel:=2) (v:=?_) rfl rfl ?_ S0 ?_
 rotate_left
 ·intro W hW
  have hW0:W.cell? ⟨w.heap.size,0,none⟩=some (.int .i64 O.verb):=by rw [cell_of_row _ _ _ _ _ _ hW]; rfl
  go_simp
  try with_reducible rfl
 simp only [Act.put,sT,List.set]
 refine wpAnyH_all (fuel:=1) (rs:=[5]) (by kernel_rfl) (by simp) ?_
 intro i hi
 obtain rfl:i=5:=by simpa using hi
 clear hi
 refine call_at (d:=some 101) rfl rfl (by rfl) 160 #[.int .i64 O.verb] (by kernel_rfl) ?_
 refine (turned_any O.verb _).mono ?_
 rintro e w2 ⟨rfl,hb2⟩
 have S2:w2.heap[w.heap.size]?=some (.cells O.cells 149 (0,0)):=by rw [hb2.block _ ((Array.getElem?_eq_some_iff.1 S0).1)]; exact S0
 have K2:=hide ((X1.out.stp hb2 165).kept K1.out).1
 have X2:=hide (X1.out.below hb2)
 have T2:=hide (T1.out.trans (X1.out.stp hb2 165))
 clear hb2 X1 T1 S0 K1
 refine ⟨_,rfl,S2,?_⟩
 simp only [Act.put,sT,List.set]
 refine wpAnyH_all (fuel:=0) (rs:=[6]) (by kernel_rfl) (by simp) ?_
 intro i hi
 obtain rfl:i=6:=by simpa using hi
 clear hi
 refine call_at (d:=some 102) rfl rfl (by rfl) 161 #[.pointer (some ⟨w0.heap.size,0,none⟩),.int .i64 (b:Int),.agg O.cells,.agg (turnedC O.verb).cells] (by kernel_rfl) ?_
 refine (rturn_any X2.out b hb O hO.lo hO.hi (turnedC O.verb) (by omega)).mono ?_
 rintro e w3 ⟨rfl,S3h,T3h⟩
 have A:=hide S3h
 have B:=hide (T2.out.trans T3h)
 have S3:w3.heap[w.heap.size]?=some (.cells O.cells 149 (0,0)):=(T3h.kept K2.out).2.trans S2
 clear S3h T3h
 refine ⟨_,rfl,S3,?_⟩
 simp only [Act.put,sT,List.set]
 refine wpAnyH_done (by kernel_rfl) ?_ _
 go_wp2
 go_end0
 exact ⟨rfl,A.out,B.out⟩
theorem act_turn17 {w0:World} {L:Ld} {Es:List Ev} {w:World} (hS:Sn 172 [] w0 L Es w) (hf:Fine L) (hvb:Vb w0) (b:Nat) (hb:b < 6) (O:Od) (hO:OdOk O) (hv:O.verb=17) (hlen:Es.length≤100000) :
 Calls Tryz.prog 137 #[.pointer (some ⟨w0.heap.size,0,none⟩),.int .i64 (b:Int),.agg O.cells] w fun e w'=>e=.returned (.tuple #[])∧Sn 172 [] w0 (turnL L b O (turnedC O.verb)) (Es++turnE L b O (turnedC O.verb)) w'∧Stp w0.heap.size 165 w w':=by
 have hv6:(O.verb==6)=false:=by rw [hv]; rfl
 have hv7:(O.verb==7)=false:=by rw [hv]; rfl
 have hv8:(O.verb==8)=false:=by rw [hv]; rfl
 have hv9:(O.verb==9)=false:=by rw [hv]; rfl
 have hv10:(O.verb==10)=false:=by rw [hv]; rfl
 have hv11:(O.verb==11)=false:=by rw [hv]; rfl
 have hv12:(O.verb==12)=false:=by rw [hv]; rfl
 have hv13:(O.verb==13)=false:=by rw [hv]; rfl
 have hv14:(O.verb==14)=false:=by rw [hv]; rfl
 have hv15:(O.verb==15)=false:=by rw [hv]; rfl
 have hv16:(O.verb==16)=false:=by rw [hv]; rfl
 have hv17:(O.verb==17)=true:=by rw [hv]; rfl
 have hbi:(b:Int) < 6:=by omega
 have hl:=hS.lt
 have X0:=hide (hS.alloc (.cells O.cells 149))
 have T0:=hide (Stp.below (o:=165) (below_box w (.cells O.cells 149)) hS.lt)
 have K0:=hide (hS.kept (below_box w (.cells O.cells 149)) (Nat.le_refl _) (by simp))
 have G0:=hide (heap_alloc_new w (.cells O.cells 149))
 have c0:(w.alloc (.cells O.cells 149)).cell? ⟨w.heap.size,0,none⟩=some (.int .i64 O.verb):=by rw [cell_of_row _ _ _ _ _ _ G0.out]; rfl
 have hlt:w.heap.size < (w.alloc (.cells O.cells 149)).heap.size:=by simp
 have HV:=hide hv
 clear hS hv
 go_enter Tryz.func137,Tryz.ntmps137
 go_wp2_with fail
 refine wp_region_held (S:=fun W=>W.heap[w.heap.size]?=some (.cells O.cells 149 (0,0))) (by kernel_rfl) ?_
 have S0:(w.alloc (.cells O.cells 149)).drew.heap[w.heap.size]?=some (.cells O.cells 149 (0,0)):=G0.out
 have X1:=hide X0.out.drew
 have T1:Hid (Stp w0.heap.size 165 w (w.alloc (.cells O.cells 149)).drew):=T0.out.trans (X0.out.stp (below_drewN (Below.refl _ _) 1) 165)
 have K1:Hid (Kept w0.heap.size 165 (w.alloc (.cells O.cells 149)).drew w.heap.size):=((X0.out.stp (below_drewN (Below.refl _ _) 1) 165).kept K0.out).1
 clear X0 T0 c0
 change wpAnyH _ _ _ _ _ _ _ _ (w.alloc (.cells O.cells 149)).drew
 generalize (w.alloc (.cells O.cells 149)).drew=W0 at S0 X1 T1 K1 ⊢
 refine tw (i:=0) (d:=some 96) (fuel:=6) (v:=?_) rfl rfl ?_ S0 ?_
 rotate_left
 ·intro W hW; go_simp; try with_reducible rfl
 simp only [Act.put,sT,List.set]
 refine tw (i:=1) (d:=some 97) (fuel:=5) (v:=?_) rfl rfl ?_ S0 ?_
 rotate_left
 ·intro W hW; go_simp; try with_reducible rfl
 simp only [Act.put,sT,List.set]
 refine tk (i:=2) (d:=some 98) (fuel:=4) (v:=.agg O.cells) rfl rfl (Or.inl ⟨by rfl,fun W hW=>exec_order (.tmp 5) rfl _ rfl hW⟩) S0 ?_
 simp only [Act.put,sT,List.set]
 refine tw (i:=3) (d:=some 99) (fuel:=3) (v:=?_) rfl rfl ?_ S0 ?_
 rotate_left
 ·intro W hW; go_simp; try with_reducible rfl
 simp only [Act.put,sT,List.set]
 refine tw (i:=4) (d:=some 100) (fuel:=2) (v:=?_) rfl rfl ?_ S0 ?_
 rotate_left
 ·intro W hW
  have hW0:W.cell? ⟨w.heap.size,0,none⟩=some (.int .i64 O.verb):=by rw [cell_of_row _ _ _ _ _ _ hW]; rfl
  go_simp
  try with_reducible rfl
 simp only [Act.put,sT,List.set]
 refine wpAnyH_all (fuel:=1) (rs:=[5]) (by kernel_rfl) (by simp) ?_
 intro i hi
 obtain rfl:i=5:=by simpa using hi
 clear hi
 refine call_at (d:=some 101) rfl rfl (by rfl) 160 #[.int .i64 O.verb] (by kernel_rfl) ?_
 refine (turned_any O.verb _).mono ?_
 rintro e w2 ⟨rfl,hb2⟩
 have S2:w2.heap[w.heap.size]?=some (.cells O.cells 149 (0,0)):=by rw [hb2.block _ ((Array.getElem?_eq_some_iff.1 S0).1)]; exact S0
 have K2:=hide ((X1.out.stp hb2 165).kept K1.out).1
 have X2:=hide (X1.out.below hb2)
 have T2:=hide (T1.out.trans (X1.out.stp hb2 165))
 clear hb2 X1 T1 S0 K1
 refine ⟨_,rfl,S2,?_⟩
 simp only [Act.put,sT,List.set]
 refine wpAnyH_all (fuel:=0) (rs:=[6]) (by kernel_rfl) (by simp) ?_
 intro i hi
 obtain rfl:i=6:=by simpa using hi
 clear hi
 refine call_at (d:=some 102) rfl rfl (by rfl) 161 #[.pointer (some ⟨w0.heap.size,0,none⟩),.int .i64 (b:Int),.agg O.cells,.agg (turnedC O.verb).cells] (by kernel_rfl) ?_
 refine (rturn_any X2.out b hb O hO.lo hO.hi (turnedC O.verb) (by omega)).mono ?_
 rintro e w3 ⟨rfl,S3h,T3h⟩
 have A:=hide S3h
 have B:=hide (T2.out.trans T3h)
 have S3:w3.heap[w.heap.size]?=some (.cells O.cells 149 (0,0)):=(T3h.kept K2.out).2.trans S2
 clear S3h T3h
 refine ⟨_,rfl,S3,?_⟩
 simp only [Act.put,sT,List.set]
 refine wpAnyH_done (by kernel_rfl) ?_ _
 go_wp2
 go_end0
 exact ⟨rfl,A.out,B.out⟩
theorem act_turn12 {w0:World} {L:Ld} {Es:List Ev} {w:World} (hS:Sn 172 [] w0 L Es w) (hf:Fine L) (hvb:Vb w0) (b:Nat) (hb:b < 6) (O:Od) (hO:OdOk O) (hv:O.verb=12) (hd:dirA O.name.data.toList=(0,false)) (hlen:Es.length≤100000) :
 Calls Tryz.prog 137 #[.pointer (some ⟨w0.heap.size,0,none⟩),.int .i64 (b:Int),.agg O.cells] w fun e w'=>e=.returned (.tuple #[])∧Sn 172 [] w0 (turnL L b O (turnedC O.verb)) (Es++turnE L b O (turnedC O.verb)) w'∧Stp w0.heap.size 165 w w':=by
 have hv6:(O.verb==6)=false:=by rw [hv]; rfl
 have hv7:(O.verb==7)=false:=by rw [hv]; rfl
 have hv8:(O.verb==8)=false:=by rw [hv]; rfl
 have hv9:(O.verb==9)=false:=by rw [hv]; rfl
 have hv10:(O.verb==10)=false:=by rw [hv]; rfl
 have hv11:(O.verb==11)=false:=by rw [hv]; rfl
 have hv12:(O.verb==12)=true:=by rw [hv]; rfl
 have hbi:(b:Int) < 6:=by omega
 have hl:=hS.lt
 have X0:=hide (hS.alloc (.cells O.cells 149))
 have T0:=hide (Stp.below (o:=165) (below_box w (.cells O.cells 149)) hS.lt)
 have K0:=hide (hS.kept (below_box w (.cells O.cells 149)) (Nat.le_refl _) (by simp))
 have G0:=hide (heap_alloc_new w (.cells O.cells 149))
 have c0:(w.alloc (.cells O.cells 149)).cell? ⟨w.heap.size,0,none⟩=some (.int .i64 O.verb):=by rw [cell_of_row _ _ _ _ _ _ G0.out]; rfl
 have hlt:w.heap.size < (w.alloc (.cells O.cells 149)).heap.size:=by simp
 have HV:=hide hv
 clear hS hv
 go_enter Tryz.func137,Tryz.ntmps137
 have G1:=heap_alloc_new w (.cells O.cells 149)
 have o3:(w.alloc (.cells O.cells 149)).cell? ⟨w.heap.size,3,none⟩=some (.string O.name):=by rw [cell_of_row _ _ _ _ _ _ G1]; rfl
 clear G1
 go_wp2_with fail
 refine (dir_any O.name _ (hvb.below X0.out.low (Nat.le_refl _))).mono ?_
 rintro e w1 ⟨rfl,hw1⟩
 rw [hd]
 subst hw1
 clear o3
 go_wp2_with fail
 refine wp_region_held (S:=fun W=>W.heap[w.heap.size]?=some (.cells O.cells 149 (0,0))) (by kernel_rfl) ?_
 have S0:(w.alloc (.cells O.cells 149)).drew.heap[w.heap.size]?=some (.cells O.cells 149 (0,0)):=G0.out
 have X1:=hide X0.out.drew
 have T1:Hid (Stp w0.heap.size 165 w (w.alloc (.cells O.cells 149)).drew):=T0.out.trans (X0.out.stp (below_drewN (Below.refl _ _) 1) 165)
 have K1:Hid (Kept w0.heap.size 165 (w.alloc (.cells O.cells 149)).drew w.heap.size):=((X0.out.stp (below_drewN (Below.refl _ _) 1) 165).kept K0.out).1
 clear X0 T0 c0
 change wpAnyH _ _ _ _ _ _ _ _ (w.alloc (.cells O.cells 149)).drew
 generalize (w.alloc (.cells O.cells 149)).drew=W0 at S0 X1 T1 K1 ⊢
 refine tw (i:=0) (d:=some 84) (fuel:=6) (v:=?_) rfl rfl ?_ S0 ?_
 rotate_left
 ·intro W hW; go_simp; try with_reducible rfl
 simp only [Act.put,sT,List.set]
 refine tw (i:=1) (d:=some 85) (fuel:=5) (v:=?_) rfl rfl ?_ S0 ?_
 rotate_left
 ·intro W hW; go_simp; try with_reducible rfl
 simp only [Act.put,sT,List.set]
 refine tk (i:=2) (d:=some 86) (fuel:=4) (v:=.agg O.cells) rfl rfl (Or.inl ⟨by rfl,fun W hW=>exec_order (.tmp 5) rfl _ rfl hW⟩) S0 ?_
 simp only [Act.put,sT,List.set]
 refine tw (i:=3) (d:=some 87) (fuel:=3) (v:=?_) rfl rfl ?_ S0 ?_
 rotate_left
 ·intro W hW; go_simp; try with_reducible rfl
 simp only [Act.put,sT,List.set]
 refine tw (i:=4) (d:=some 88) (fuel:=2) (v:=?_) rfl rfl ?_ S0 ?_
 rotate_left
 ·intro W hW
  have hW0:W.cell? ⟨w.heap.size,0,none⟩=some (.int .i64 O.verb):=by rw [cell_of_row _ _ _ _ _ _ hW]; rfl
  go_simp
  try with_reducible rfl
 simp only [Act.put,sT,List.set]
 refine wpAnyH_all (fuel:=1) (rs:=[5]) (by kernel_rfl) (by simp) ?_
 intro i hi
 obtain rfl:i=5:=by simpa using hi
 clear hi
 refine call_at (d:=some 89) rfl rfl (by rfl) 160 #[.int .i64 O.verb] (by kernel_rfl) ?_
 refine (turned_any O.verb _).mono ?_
 rintro e w2 ⟨rfl,hb2⟩
 have S2:w2.heap[w.heap.size]?=some (.cells O.cells 149 (0,0)):=by rw [hb2.block _ ((Array.getElem?_eq_some_iff.1 S0).1)]; exact S0
 have K2:=hide ((X1.out.stp hb2 165).kept K1.out).1
 have X2:=hide (X1.out.below hb2)
 have T2:=hide (T1.out.trans (X1.out.stp hb2 165))
 clear hb2 X1 T1 S0 K1
 refine ⟨_,rfl,S2,?_⟩
 simp only [Act.put,sT,List.set]
 refine wpAnyH_all (fuel:=0) (rs:=[6]) (by kernel_rfl) (by simp) ?_
 intro i hi
 obtain rfl:i=6:=by simpa using hi
 clear hi
 refine call_at (d:=some 90) rfl rfl (by rfl) 161 #[.pointer (some ⟨w0.heap.size,0,none⟩),.int .i64 (b:Int),.agg O.cells,.agg (turnedC O.verb).cells] (by kernel_rfl) ?_
 refine (rturn_any X2.out b hb O hO.lo hO.hi (turnedC O.verb) (by omega)).mono ?_
 rintro e w3 ⟨rfl,S3h,T3h⟩
 have A:=hide S3h
 have B:=hide (T2.out.trans T3h)
 have S3:w3.heap[w.heap.size]?=some (.cells O.cells 149 (0,0)):=(T3h.kept K2.out).2.trans S2
 clear S3h T3h
 refine ⟨_,rfl,S3,?_⟩
 simp only [Act.put,sT,List.set]
 refine wpAnyH_done (by kernel_rfl) ?_ _
 go_wp2
 go_end0
 exact ⟨rfl,A.out,B.out⟩
theorem act_door12 {w0:World} {L:Ld} {Es:List Ev} {w:World} (hS:Sn 172 [] w0 L Es w) (hf:Fine L) (hvb:Vb w0) (b:Nat) (hb:b < 6) (O:Od) (hO:OdOk O) (hv:O.verb=12) (d:Nat) (hd6:d < 6) (hd:dirA O.name.data.toList=((d:Int),true)) (hlen:Es.length≤100000) :
 Calls Tryz.prog 137 #[.pointer (some ⟨w0.heap.size,0,none⟩),.int .i64 (b:Int),.agg O.cells] w fun e w'=>e=.returned (.tuple #[])∧Sn 172 [] w0 (doorL L b d (turnedC O.verb)) (Es++doorE L b d (turnedC O.verb)) w'∧Stp w0.heap.size 165 w w':=by
 have hv6:(O.verb==6)=false:=by rw [hv]; rfl
 have hv7:(O.verb==7)=false:=by rw [hv]; rfl
 have hv8:(O.verb==8)=false:=by rw [hv]; rfl
 have hv9:(O.verb==9)=false:=by rw [hv]; rfl
 have hv10:(O.verb==10)=false:=by rw [hv]; rfl
 have hv11:(O.verb==11)=false:=by rw [hv]; rfl
 have hv12:(O.verb==12)=true:=by rw [hv]; rfl
 have hbi:(b:Int) < 6:=by omega
 have hl:=hS.lt
 have X0:=hide (hS.alloc (.cells O.cells 149))
 have T0:=hide (Stp.below (o:=165) (below_box w (.cells O.cells 149)) hS.lt)
 have K0:=hide (hS.kept (below_box w (.cells O.cells 149)) (Nat.le_refl _) (by simp))
 have G0:=hide (heap_alloc_new w (.cells O.cells 149))
 have c0:(w.alloc (.cells O.cells 149)).cell? ⟨w.heap.size,0,none⟩=some (.int .i64 O.verb):=by rw [cell_of_row _ _ _ _ _ _ G0.out]; rfl
 have hlt:w.heap.size < (w.alloc (.cells O.cells 149)).heap.size:=by simp
 have HV:=hide hv
 clear hS hv
 go_enter Tryz.func137,Tryz.ntmps137
 have G1:=heap_alloc_new w (.cells O.cells 149)
 have o3:(w.alloc (.cells O.cells 149)).cell? ⟨w.heap.size,3,none⟩=some (.string O.name):=by rw [cell_of_row _ _ _ _ _ _ G1]; rfl
 clear G1
 go_wp2_with fail
 refine (dir_any O.name _ (hvb.below X0.out.low (Nat.le_refl _))).mono ?_
 rintro e w1 ⟨rfl,hw1⟩
 rw [hd]
 subst hw1
 clear o3
 go_wp2_with fail
 refine (turned_any O.verb _).mono ?_
 rintro e w2 ⟨rfl,hb2⟩
 have X2:=hide (X0.out.below hb2)
 have T2:=hide (T0.out.trans (X0.out.stp hb2 165))
 clear hb2 X0 T0 c0
 go_wp2_with fail
 refine (rdoor_any X2.out hf b d hb hd6 (turnedC O.verb) (by omega)).mono ?_
 rintro e w3 ⟨rfl,S3h,T3h⟩
 have A:=hide S3h
 have B:=hide (T2.out.trans T3h)
 clear S3h T3h
 go_wp2
 go_end0
 exact ⟨rfl,A.out,B.out⟩
theorem act_turn13 {w0:World} {L:Ld} {Es:List Ev} {w:World} (hS:Sn 172 [] w0 L Es w) (hf:Fine L) (hvb:Vb w0) (b:Nat) (hb:b < 6) (O:Od) (hO:OdOk O) (hv:O.verb=13) (hd:dirA O.name.data.toList=(0,false)) (hlen:Es.length≤100000) :
 Calls Tryz.prog 137 #[.pointer (some ⟨w0.heap.size,0,none⟩),.int .i64 (b:Int),.agg O.cells] w fun e w'=>e=.returned (.tuple #[])∧Sn 172 [] w0 (turnL L b O (turnedC O.verb)) (Es++turnE L b O (turnedC O.verb)) w'∧Stp w0.heap.size 165 w w':=by
 have hv6:(O.verb==6)=false:=by rw [hv]; rfl
 have hv7:(O.verb==7)=false:=by rw [hv]; rfl
 have hv8:(O.verb==8)=false:=by rw [hv]; rfl
 have hv9:(O.verb==9)=false:=by rw [hv]; rfl
 have hv10:(O.verb==10)=false:=by rw [hv]; rfl
 have hv11:(O.verb==11)=false:=by rw [hv]; rfl
 have hv12:(O.verb==12)=false:=by rw [hv]; rfl
 have hv13:(O.verb==13)=true:=by rw [hv]; rfl
 have hbi:(b:Int) < 6:=by omega
 have hl:=hS.lt
 have X0:=hide (hS.alloc (.cells O.cells 149))
 have T0:=hide (Stp.below (o:=165) (below_box w (.cells O.cells 149)) hS.lt)
 have K0:=hide (hS.kept (below_box w (.cells O.cells 149)) (Nat.le_refl _) (by simp))
 have G0:=hide (heap_alloc_new w (.cells O.cells 149))
 have c0:(w.alloc (.cells O.cells 149)).cell? ⟨w.heap.size,0,none⟩=some (.int .i64 O.verb):=by rw [cell_of_row _ _ _ _ _ _ G0.out]; rfl
 have hlt:w.heap.size < (w.alloc (.cells O.cells 149)).heap.size:=by simp
 have HV:=hide hv
 clear hS hv
 go_enter Tryz.func137,Tryz.ntmps137
 have G1:=heap_alloc_new w (.cells O.cells 149)
 have o3:(w.alloc (.cells O.cells 149)).cell? ⟨w.heap.size,3,none⟩=some (.string O.name):=by rw [cell_of_row _ _ _ _ _ _ G1]; rfl
 clear G1
 go_wp2_with fail
 refine (dir_any O.name _ (hvb.below X0.out.low (Nat.le_refl _))).mono ?_
 rintro e w1 ⟨rfl,hw1⟩
 rw [hd]
 subst hw1
 clear o3
 go_wp2_with fail
 refine wp_region_held (S:=fun W=>W.heap[w.heap.size]?=some (.cells O.cells 149 (0,0))) (by kernel_rfl) ?_
 have S0:(w.alloc (.cells O.cells 149)).drew.heap[w.heap.size]?=some (.cells O.cells 149 (0,0)):=G0.out
 have X1:=hide X0.out.drew
 have T1:Hid (Stp w0.heap.size 165 w (w.alloc (.cells O.cells 149)).drew):=T0.out.trans (X0.out.stp (below_drewN (Below.refl _ _) 1) 165)
 have K1:Hid (Kept w0.heap.size 165 (w.alloc (.cells O.cells 149)).drew w.heap.size):=((X0.out.stp (below_drewN (Below.refl _ _) 1) 165).kept K0.out).1
 clear X0 T0 c0
 change wpAnyH _ _ _ _ _ _ _ _ (w.alloc (.cells O.cells 149)).drew
 generalize (w.alloc (.cells O.cells 149)).drew=W0 at S0 X1 T1 K1 ⊢
 refine tw (i:=0) (d:=some 84) (fuel:=6) (v:=?_) rfl rfl ?_ S0 ?_
 rotate_left
 ·intro W hW; go_simp; try with_reducible rfl
 simp only [Act.put,sT,List.set]
 refine tw (i:=1) (d:=some 85) (fuel:=5) (v:=?_) rfl rfl ?_ S0 ?_
 rotate_left
 ·intro W hW; go_simp; try with_reducible rfl
 simp only [Act.put,sT,List.set]
 refine tk (i:=2) (d:=some 86) (fuel:=4) (v:=.agg O.cells) rfl rfl (Or.inl ⟨by rfl,fun W hW=>exec_order (.tmp 5) rfl _ rfl hW⟩) S0 ?_
 simp only [Act.put,sT,List.set]
 refine tw (i:=3) (d:=some 87) (fuel:=3) (v:=?_) rfl rfl ?_ S0 ?_
 rotate_left
 ·intro W hW; go_simp; try with_reducible rfl
 simp only [Act.put,sT,List.set]
 refine tw (i:=4) (d:=some 88) (fuel:=2) (v:=?_) rfl rfl ?_ S0 ?_
 rotate_left
 ·intro W hW
  have hW0:W.cell? ⟨w.heap.size,0,none⟩=some (.int .i64 O.verb):=by rw [cell_of_row _ _ _ _ _ _ hW]; rfl
  go_simp
  try with_reducible rfl
 simp only [Act.put,sT,List.set]
 refine wpAnyH_all (fuel:=1) (rs:=[5]) (by kernel_rfl) (by simp) ?_
 intro i hi
 obtain rfl:i=5:=by simpa using hi
 clear hi
 refine call_at (d:=some 89) rfl rfl (by rfl) 160 #[.int .i64 O.verb] (by kernel_rfl) ?_
 refine (turned_any O.verb _).mono ?_
 rintro e w2 ⟨rfl,hb2⟩
 have S2:w2.heap[w.heap.size]?=some (.cells O.cells 149 (0,0)):=by rw [hb2.block _ ((Array.getElem?_eq_some_iff.1 S0).1)]; exact S0
 have K2:=hide ((X1.out.stp hb2 165).kept K1.out).1
 have X2:=hide (X1.out.below hb2)
 have T2:=hide (T1.out.trans (X1.out.stp hb2 165))
 clear hb2 X1 T1 S0 K1
 refine ⟨_,rfl,S2,?_⟩
 simp only [Act.put,sT,List.set]
 refine wpAnyH_all (fuel:=0) (rs:=[6]) (by kernel_rfl) (by simp) ?_
 intro i hi
 obtain rfl:i=6:=by simpa using hi
 clear hi
 refine call_at (d:=some 90) rfl rfl (by rfl) 161 #[.pointer (some ⟨w0.heap.size,0,none⟩),.int .i64 (b:Int),.agg O.cells,.agg (turnedC O.verb).cells] (by kernel_rfl) ?_
 refine (rturn_any X2.out b hb O hO.lo hO.hi (turnedC O.verb) (by omega)).mono ?_
 rintro e w3 ⟨rfl,S3h,T3h⟩
 have A:=hide S3h
 have B:=hide (T2.out.trans T3h)
 have S3:w3.heap[w.heap.size]?=some (.cells O.cells 149 (0,0)):=(T3h.kept K2.out).2.trans S2
 clear S3h T3h
 refine ⟨_,rfl,S3,?_⟩
 simp only [Act.put,sT,List.set]
 refine wpAnyH_done (by kernel_rfl) ?_ _
 go_wp2
 go_end0
 exact ⟨rfl,A.out,B.out⟩
theorem act_door13 {w0:World} {L:Ld} {Es:List Ev} {w:World} (hS:Sn 172 [] w0 L Es w) (hf:Fine L) (hvb:Vb w0) (b:Nat) (hb:b < 6) (O:Od) (hO:OdOk O) (hv:O.verb=13) (d:Nat) (hd6:d < 6) (hd:dirA O.name.data.toList=((d:Int),true)) (hlen:Es.length≤100000) :
 Calls Tryz.prog 137 #[.pointer (some ⟨w0.heap.size,0,none⟩),.int .i64 (b:Int),.agg O.cells] w fun e w'=>e=.returned (.tuple #[])∧Sn 172 [] w0 (doorL L b d (turnedC O.verb)) (Es++doorE L b d (turnedC O.verb)) w'∧Stp w0.heap.size 165 w w':=by
 have hv6:(O.verb==6)=false:=by rw [hv]; rfl
 have hv7:(O.verb==7)=false:=by rw [hv]; rfl
 have hv8:(O.verb==8)=false:=by rw [hv]; rfl
 have hv9:(O.verb==9)=false:=by rw [hv]; rfl
 have hv10:(O.verb==10)=false:=by rw [hv]; rfl
 have hv11:(O.verb==11)=false:=by rw [hv]; rfl
 have hv12:(O.verb==12)=false:=by rw [hv]; rfl
 have hv13:(O.verb==13)=true:=by rw [hv]; rfl
 have hbi:(b:Int) < 6:=by omega
 have hl:=hS.lt
 have X0:=hide (hS.alloc (.cells O.cells 149))
 have T0:=hide (Stp.below (o:=165) (below_box w (.cells O.cells 149)) hS.lt)
 have K0:=hide (hS.kept (below_box w (.cells O.cells 149)) (Nat.le_refl _) (by simp))
 have G0:=hide (heap_alloc_new w (.cells O.cells 149))
 have c0:(w.alloc (.cells O.cells 149)).cell? ⟨w.heap.size,0,none⟩=some (.int .i64 O.verb):=by rw [cell_of_row _ _ _ _ _ _ G0.out]; rfl
 have hlt:w.heap.size < (w.alloc (.cells O.cells 149)).heap.size:=by simp
 have HV:=hide hv
 clear hS hv
 go_enter Tryz.func137,Tryz.ntmps137
 have G1:=heap_alloc_new w (.cells O.cells 149)
 have o3:(w.alloc (.cells O.cells 149)).cell? ⟨w.heap.size,3,none⟩=some (.string O.name):=by rw [cell_of_row _ _ _ _ _ _ G1]; rfl
 clear G1
 go_wp2_with fail
 refine (dir_any O.name _ (hvb.below X0.out.low (Nat.le_refl _))).mono ?_
 rintro e w1 ⟨rfl,hw1⟩
 rw [hd]
 subst hw1
 clear o3
 go_wp2_with fail
 refine (turned_any O.verb _).mono ?_
 rintro e w2 ⟨rfl,hb2⟩
 have X2:=hide (X0.out.below hb2)
 have T2:=hide (T0.out.trans (X0.out.stp hb2 165))
 clear hb2 X0 T0 c0
 go_wp2_with fail
 refine (rdoor_any X2.out hf b d hb hd6 (turnedC O.verb) (by omega)).mono ?_
 rintro e w3 ⟨rfl,S3h,T3h⟩
 have A:=hide S3h
 have B:=hide (T2.out.trans T3h)
 clear S3h T3h
 go_wp2
 go_end0
 exact ⟨rfl,A.out,B.out⟩
end Go.Proofs.YtncgcejlkmoliaaGreatDoor
