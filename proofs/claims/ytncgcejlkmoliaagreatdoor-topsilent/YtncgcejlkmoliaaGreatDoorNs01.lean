import Derived.Test.YtncgcejlkmoliaaGreatDoorMh00
import Derived.Test.YtncgcejlkmoliaaGreatDoorMh01
import Derived.Test.YtncgcejlkmoliaaGreatDoorMh02
import Derived.Test.YtncgcejlkmoliaaGreatDoorMh03
import Derived.Test.YtncgcejlkmoliaaGreatDoorMh04
import Derived.Test.YtncgcejlkmoliaaGreatDoorMh05
import Derived.Test.YtncgcejlkmoliaaGreatDoorMh06
import Derived.Test.YtncgcejlkmoliaaGreatDoorMh07
import Derived.Test.YtncgcejlkmoliaaGreatDoorMh08
import Derived.Test.YtncgcejlkmoliaaGreatDoorMh09
import Derived.Test.YtncgcejlkmoliaaGreatDoorMh10
import Derived.Test.YtncgcejlkmoliaaGreatDoorMh11
import Derived.Test.YtncgcejlkmoliaaGreatDoorMh12
import Derived.Test.YtncgcejlkmoliaaGreatDoorMh13
import Derived.Test.YtncgcejlkmoliaaGreatDoorMh14
import Derived.Test.YtncgcejlkmoliaaGreatDoorMh15
import Derived.Test.YtncgcejlkmoliaaGreatDoorMh16
import Derived.Test.YtncgcejlkmoliaaGreatDoorMh17
import Derived.Test.YtncgcejlkmoliaaGreatDoorMh18
import Derived.Test.YtncgcejlkmoliaaGreatDoorMh19
import Derived.Test.YtncgcejlkmoliaaGreatDoorMh20
import Derived.Test.YtncgcejlkmoliaaGreatDoorMh21
import Derived.Test.YtncgcejlkmoliaaGreatDoorMh22
import Derived.Test.YtncgcejlkmoliaaGreatDoorMh46
import Derived.Test.YtncgcejlkmoliaaGreatDoorMh23
import Derived.Test.YtncgcejlkmoliaaGreatDoorMk24
import Derived.Test.YtncgcejlkmoliaaGreatDoorMk25
import Derived.Test.YtncgcejlkmoliaaGreatDoorMh26
import Derived.Test.YtncgcejlkmoliaaGreatDoorMk27
import Derived.Test.YtncgcejlkmoliaaGreatDoorMh28
import Derived.Test.YtncgcejlkmoliaaGreatDoorMk29
import Derived.Test.YtncgcejlkmoliaaGreatDoorMk30
import Derived.Test.YtncgcejlkmoliaaGreatDoorMk31
import Derived.Test.YtncgcejlkmoliaaGreatDoorMk32
import Derived.Test.YtncgcejlkmoliaaGreatDoorMk33
import Derived.Test.YtncgcejlkmoliaaGreatDoorMk34
import Derived.Test.YtncgcejlkmoliaaGreatDoorMk35
import Derived.Test.YtncgcejlkmoliaaGreatDoorMh45
import Derived.Test.YtncgcejlkmoliaaGreatDoorMh36
import Derived.Test.YtncgcejlkmoliaaGreatDoorMh37
import Derived.Test.YtncgcejlkmoliaaGreatDoorMh38
import Derived.Test.YtncgcejlkmoliaaGreatDoorMk39
import Derived.Test.YtncgcejlkmoliaaGreatDoorMk40
import Derived.Test.YtncgcejlkmoliaaGreatDoorMk41
import Derived.Test.YtncgcejlkmoliaaGreatDoorMk42
import Derived.Test.YtncgcejlkmoliaaGreatDoorMk43
import Derived.Test.YtncgcejlkmoliaaGreatDoorMk44
import Derived.Test.YtncgcejlkmoliaaGreatDoorNs00
set_option linter.unusedVariables false
set_option maxRecDepth 100000
set_option maxHeartbeats 16000000
namespace Go.Proofs.YtncgcejlkmoliaaGreatDoor.Ho
open Go.RowKit
theorem ne_types {W:World} {a b:Nat} {c d:Array Value} {S T:TypeId} (h:W.heap[a]?=some (.cells c S (0,0))) (k:W.heap[b]?=some (.cells d T (0,0))) (hn:S ≠ T):a ≠ b:=by
 rintro rfl
 rw [h] at k
 injection k with k
 injection k with k1 k2
 exact hn k2
def zRe:Array Value:=#[.int .i64 0,.string ⟨#[]⟩]
theorem exec_zrep {a:Act} {op:Oper} {w:World} (ho:op.op=.alloc 29):(execOp a.eval op).run Tryz.prog w=.ok (.value (.pointer (some ⟨w.heap.size,0,none⟩))) (w.alloc (.cells zRe 29)):=by
 unfold zRe
 have hz:=(zero_of_info (show (Tryz.prog.info? 29).map (fun i=>(i.zero,i.size))=some (some (.agg #[.int .i64 0,.string ⟨#[]⟩]),2) by kernel_rfl)).1
 unfold execOp
 simp only [ho]
 go_simp
 try rfl
theorem exec_actrow {x:Act} {op:Oper} {w:World} {c:Ac} (y:Operand) (ho:op.op=.load 23 y) {g:Nat} (hx:x.eval y=.pointer (some ⟨g,0,none⟩)) (hc:w.heap[g]?=some (.cells c.cells 23 (0,0))):(execOp x.eval op).run Tryz.prog w=.ok (.value (.agg c.cells)) w:=by
 have:=run_loadVar_row (P:=Tryz.prog) w g 23 23 c.cells (0,0) _ hc Tryz.underlying23 rfl Tryz.sizeAct
 unfold execOp
 simp only [ho,hx,Instr.loadAt,Instr.sureAddr,Sem.run_bind,Sem.run_pure,Result.andThen_ok,this]
theorem Tryz.sizeStrH:(Tryz.prog.info? 9).map (·.size)=some 1:=by kernel_rfl
theorem act_bytes (a:Ac) (s:ByteArray):a.cells.setIfInBounds 3 (.string s)=({ a with bytes:=s }:Ac).cells:=rfl
theorem sil_nat (M:Hm) {i:Nat} (h:i < 4):seatAt M (i:Int)=M.seat i:=by unfold seatAt; rw [if_pos (by omega),Int.toNat_natCast]
theorem wl_nerep {ops:Array Oper} {rest:List Oper} {op:Oper} {x:Act} {w:World} {Q:Exit→Act→World→Prop} (y z:Operand) (t:TypeId) (ho:op.op=.binOp .neq 29 y z t) (hw:Region.wanted op (yielded ops x.tmps)=true) {c:Int} {s:ByteArray} (hy:x.eval y=.agg #[.int .i64 c,.string s]) (hz:x.eval z=.agg #[.int .i64 c,.string s])
 (h:wpList Tryz.prog ops Q rest (x.put op.dst (.bool false)) w):wpList Tryz.prog ops Q (op::rest) x w:=by
 refine wl_wanted hw ?_
 have hr:=exec_nerep (w:=w) y z t ho hy hz
 unfold Oper.wp
 rw [hr]
 exact h
theorem told_small {M:Hm} (h:Iv 1000 M) {i:Nat} (hi:i < 4):(toldOf (M.seat i)).length≤1000000∧(pageOf (M.seat i)).wait.length≤1000000∧(lineOf (M.seat i)).q.length≤1000000:=by
 have:=iv_small h i hi
 rw [sil_nat M hi] at this
 refine ⟨?_,this⟩
 cases hS:M.seat i with
 | none=>exact Nat.zero_le _
 | some S=>exact Nat.le_trans (h.sv.seat i S hi hS).2 (by omega)
theorem Tw.page {o o':Option Se} (h:Tw o o'):pageOf o'=pageOf o∧lineOf o'=lineOf o:=by
 rcases h with ⟨rfl,rfl⟩ | ⟨S,S',rfl,rfl,h1,h2,h3⟩
 ·exact ⟨rfl,rfl⟩
 ·exact ⟨h3,h2⟩
def rp (r:Int × ByteArray):Array Value:=#[.int .i64 r.1,.string r.2]
section
variable {w:World} {hb1 hb2 g10 g11 g12 g13:Nat} {A B:Hm} {x y:Ac} {W:World} {K:List Bo}
theorem TwH.swap {a b:Bo} (T:TwH w hb1 hb2 A B (a::b::K) W):TwH w hb1 hb2 A B (b::a::K) W:=T.sub fun c hc=>by
 rcases List.mem_cons.1 hc with h | h
 ·subst h; simp
 ·rcases List.mem_cons.1 h with h | h
  ·subst h; simp
  ·simp [h]
theorem twS (g10 g11:Nat) (x y:Ac) (T:TwH w hb1 hb2 A B K W) (h1:(⟨g10,x.cells,23⟩:Bo) ∈ K) (h2:(⟨g11,y.cells,23⟩:Bo) ∈ K):W.heap[g10]?=some (.cells x.cells 23 (0,0))∧W.heap[g11]?=some (.cells y.cells 23 (0,0)):=⟨T.get h1,T.get h2⟩
theorem put1 (T:TwH w hb1 hb2 A B [⟨g12,zRe,29⟩,⟨g13,zRe,29⟩,⟨g11,y.cells,23⟩,⟨g10,x.cells,23⟩] W) (hne:g12 ≠ g13) (r:Int × ByteArray):TwH w hb1 hb2 A B [⟨g12,rp r,29⟩,⟨g13,zRe,29⟩,⟨g11,y.cells,23⟩,⟨g10,x.cells,23⟩] (W.setCells g12 0 #[.int .i64 r.1,.string r.2].toList):=by
 have X1:=T.get (b:=⟨g12,zRe,29⟩) (by simp)
 have Y1:=(over_heap g12 29 (rp r).toList W zRe 0 X1).trans (congrArg (fun c=>some (Obj.cells c 29 (0,0))) (over_whole (cs:=zRe) (vs:=rp r) rfl))
 refine T.put (b:=⟨g12,zRe,29⟩) (b':=⟨g12,rp r,29⟩) (by simp) rfl (over_upd g12 (rp r).toList W 0) Y1 fun c hc=>?_
 simp only [List.mem_cons,List.not_mem_nil,or_false] at hc
 rcases hc with rfl | rfl | rfl | rfl
 ·exact .inl rfl
 ·exact .inr ⟨by simp,fun e=>hne e.symm⟩
 ·exact .inr ⟨by simp,fun e=>ne_types X1 (T.get (b:=⟨g11,y.cells,23⟩) (by simp)) (show (29:TypeId) ≠ 23 by decide) e.symm⟩
 ·exact .inr ⟨by simp,fun e=>ne_types X1 (T.get (b:=⟨g10,x.cells,23⟩) (by simp)) (show (29:TypeId) ≠ 23 by decide) e.symm⟩
theorem put2 {q:Int × ByteArray} (T:TwH w hb1 hb2 A B [⟨g12,rp q,29⟩,⟨g13,zRe,29⟩,⟨g11,y.cells,23⟩,⟨g10,x.cells,23⟩] W) (hne:g12 ≠ g13) (r:Int × ByteArray):TwH w hb1 hb2 A B [⟨g12,rp q,29⟩,⟨g13,rp r,29⟩,⟨g11,y.cells,23⟩,⟨g10,x.cells,23⟩] (W.setCells g13 0 #[.int .i64 r.1,.string r.2].toList):=by
 have X1:=T.get (b:=⟨g13,zRe,29⟩) (by simp)
 have Y1:=(over_heap g13 29 (rp r).toList W zRe 0 X1).trans (congrArg (fun c=>some (Obj.cells c 29 (0,0))) (over_whole (cs:=zRe) (vs:=rp r) rfl))
 refine T.put (b:=⟨g13,zRe,29⟩) (b':=⟨g13,rp r,29⟩) (by simp) rfl (over_upd g13 (rp r).toList W 0) Y1 fun c hc=>?_
 simp only [List.mem_cons,List.not_mem_nil,or_false] at hc
 rcases hc with rfl | rfl | rfl | rfl
 ·exact .inr ⟨by simp,fun e=>hne e⟩
 ·exact .inl rfl
 ·exact .inr ⟨by simp,fun e=>ne_types X1 (T.get (b:=⟨g11,y.cells,23⟩) (by simp)) (show (29:TypeId) ≠ 23 by decide) e.symm⟩
 ·exact .inr ⟨by simp,fun e=>ne_types X1 (T.get (b:=⟨g10,x.cells,23⟩) (by simp)) (show (29:TypeId) ≠ 23 by decide) e.symm⟩
end
theorem silentW {v u:Value} {l m:List Ac} {w:World} (hvb:Vb w) (hai:Ai w) (hl:Rac w v l) (hsz:∀ a ∈ l,a.bytes.size≤140737488351232) (hm:Rac w u m) (hszm:∀ a ∈ m,a.bytes.size≤140737488351232) (seat:Int) (hq0:-9223372036854775808≤seat) (hq1:seat≤9223372036854775807) :
 Calls Tryz.prog 8 #[v,u,.int .i64 seat] w fun e w'=>e=.returned (.bool true)∧Below w.heap.size w w':=by
 obtain ⟨s,hs4,hs⟩:∃ s:Nat,s < 4∧max 0 (min seat 3)=(s:Int):=⟨(max 0 (min seat 3)).toNat,by omega,by omega⟩
 have hz:=(zero_of_info Tryz.zAct4).1
 have CA:=hide (alive_any hvb hai)
 have HVB:=hide hvb
 have HAI:=hide hai
 have HSZ:=hide hsz
 have HSM:=hide hszm
 obtain ⟨av,cap,rfl,hlm,hcl⟩:=hl
 obtain ⟨au,capu,rfl,hmm,hcm⟩:=hm
 have HCL:=hide hcl
 have HCM:=hide hcm
 unfold maxLen at hlm hmm
 clear hvb hai hsz hszm hcl hcm
 go_enter Tryz.func8,Tryz.ntmps8
 go_wp2_with fail
 refine CA.out.mono ?_
 rintro e w1 ⟨rfl,b1⟩
 clear CA
 go_wp2_with fail
 refine (new_house (W0:=w) b1).mono ?_
 rintro e w2 ⟨hb1,rfl,hh1,hh2,H2,B2⟩
 go_wp2_with fail
 refine (new_house (W0:=w) H2.low).mono ?_
 rintro e w3 ⟨hb2,rfl,hh3,hh4,H3,B3⟩
 have T0:=hide (TwH.new H2.low B3 (H2.below B3) H3 (by omega))
 clear H2 H3 B2 B3 b1 hh1 hh2 hh3 hh4
 go_upto_region 6 with fail
 go_loopw [9] (fun i wr=>∃ (k:Nat) (A B:Hm),k≤l.length∧k≤150∧i=.int .i64 (k:Int)∧TwH w hb1 hb2 A B [] wr∧Iv 1000 A∧Iv 1000 B∧St A∧St B∧A.acts=k∧B.acts=k∧Tw (A.seat s) (B.seat s)) (fun i _=>150 - (intOf i).toNat)
 case atStart=>exact ⟨0,newM,newM,Nat.zero_le _,by omega,rfl,T0.out,iv_new,iv_new,st_new,st_new,rfl,rfl,.inl ⟨rfl,rfl⟩⟩
 case round =>
  obtain ⟨k,A,B,hk1,hk2,rfl,Tk,hIA,hIB,hSA,hSB,hA,hB,hTw⟩:=hrel
  clear T0
  by_cases hk3:k < l.length
  ·by_cases hk4:k < 150
   ·have hki3:(k:Int) < (l.length:Int):=by omega
    have hki4:(k:Int) < 150:=by omega
    obtain ⟨b,off,rfl,hbl,hrow⟩:=HCL.out (by omega)
    obtain ⟨x,hkx⟩:∃ x,l[k]?=some x:=⟨_,List.getElem?_eq_getElem hk3⟩
    have HR:=hide (rac_range (hl:=hrow) Tk.low hkx)
    have Zx:=hide (HSZ.out x (List.mem_of_getElem? hkx))
    have IA:=hide hIA
    have IB:=hide hIB
    have SA:=hide hSA
    have SB:=hide hSB
    have TW:=hide hTw
    have HAa:=hide hA
    have HBa:=hide hB
    have aA:A.acts≤150:=by omega
    have aB:B.acts≤150:=by omega
    have TT:=hide (Tk.alloc x.cells 23)
    have hgx:wr.heap.size < (wr.alloc (.cells x.cells 23)).heap.size:=by simp
    clear Tk hIA hIB hSA hSB hTw hrow hkx hA hB
    go_upto_region 9 with (first | (refine wl_actat (.tmp 37) rfl rfl rfl HR.out ?_) | (refine wl_new 23 (.tmp 10) (.tmp 38) rfl rfl _ _ rfl rfl rfl Tryz.sizeAct rfl (act_one x) ?_))
    simp only [Act.put]
    generalize wr.heap.size=g10 at *
    generalize wr.alloc (.cells x.cells 23)=wa at *
    have X1:=hide (TT.out.get (b:=⟨g10,x.cells,23⟩) (by simp))
    have T2:=hide (TT.out.alloc x.cells 23)
    have g1110:wa.heap.size ≠ g10:=by omega
    go_upto_region 10 with (first | (refine wl_wanted rfl (wp_load_row 23 (.tmp 10) rfl g10 rfl 23 x.cells (0,0) _ X1.out Tryz.underlying23 rfl Tryz.sizeAct ?_)) | (refine wl_new 23 (.tmp 11) (.tmp 39) rfl rfl _ _ rfl rfl rfl Tryz.sizeAct rfl (act_one x) ?_))
    simp only [Act.put]
    clear X1 TT hgx HR
    generalize wa.heap.size=g11 at *
    generalize wa.alloc (.cells x.cells 23)=wb at *
    obtain ⟨cx0,cx1⟩:=act_cell (T2.out.get (b:=⟨g10,x.cells,23⟩) (by simp))
    go_cut [54] from 25 to 125 (fun z wc=>(∃ c:Bool,z=.bool c∧(c=true→x.seat ≠ (s:Int)∧k < m.length))∧wc=wb)
    case first =>
     by_cases c1:x.kind=2
     ·rw [c1] at cx0
      by_cases c2:x.seat=(s:Int)
      ·rw [c2] at cx1
       clear c1 c2
       go_wp2_with fail
       go_meet
       exact ⟨⟨false,rfl,fun h=>by cases h⟩,rfl⟩
      ·have c2b:(x.seat != (s:Int))=true:=by simp [c2]
       by_cases c3:k < m.length
       ·have c3i:(k:Int) < (m.length:Int):=by omega
        have C2:=hide c2
        clear c1 c2
        go_wp2_with fail
        go_meet
        exact ⟨⟨true,rfl,fun _=>⟨C2.out,c3⟩⟩,rfl⟩
       ·have c3i:¬ (k:Int) < (m.length:Int):=by omega
        clear c1 c2
        go_wp2_with fail
        go_meet
        exact ⟨⟨false,rfl,fun h=>by cases h⟩,rfl⟩
     ·have c1b:(x.kind==2)=false:=by simp [c1]
      clear c1 cx1
      go_wp2_with fail
      go_meet
      exact ⟨⟨false,rfl,fun h=>by cases h⟩,rfl⟩
    case rest =>
     obtain ⟨⟨c,rfl,hc⟩,hwc⟩:=hcut
     subst hwc
     clear cx0 cx1
     have HCc:=hide hc
     clear hc
     go_upto_if 54 with fail
     go_cut [] from 25 to 125 (fun wc=>∃ y,TwA s x y∧y.bytes.size≤140737488351232∧TwH w hb1 hb2 A B [⟨g11,y.cells,23⟩,⟨g10,x.cells,23⟩] wc)
     case first =>
      cases c with
      | false =>
       go_wp2_with fail
       go_meet
       exact ⟨x,tw_self s x,Zx.out,T2.out⟩
      | true =>
       obtain ⟨d1,d2⟩:=HCc.out rfl
       have D1:=hide d1
       have d2i:(k:Int) < (m.length:Int):=by omega
       obtain ⟨bm,om,rfl,hbm,hrm⟩:=HCM.out (by omega)
       obtain ⟨z,hkz⟩:∃ z,m[k]?=some z:=⟨_,List.getElem?_eq_getElem d2⟩
       have HRm:=rac_range (hl:=hrm) T2.out.low hkz
       have cb:=HRm 3 (.string z.bytes) rfl
       have Zz:=hide (HSM.out z (List.mem_of_getElem? hkz))
       clear HRm hrm hkz d1
       go_wp2_with (refine wl_over1 9 (.tmp 60) (.tmp 59) rfl rfl g11 3 (.string z.bytes) _ _ 23 rfl rfl (T2.out.get (b:=⟨g11,x.cells,23⟩) (by simp)) (by show 3 < 4; omega) Tryz.sizeStrH rfl (act_bytes x z.bytes) ?_; intro Y1 g1 u1)
       go_meet
       exact ⟨{ x with bytes:=z.bytes },tw_other D1.out z.bytes,Zz.out,T2.out.put (b:=⟨g11,x.cells,23⟩) (b':=⟨g11,({ x with bytes:=z.bytes }:Ac).cells,23⟩) (by simp) rfl u1 g1 (by
        intro c hc
        simp only [List.mem_cons,List.not_mem_nil,or_false] at hc
        rcases hc with rfl | rfl
        ·exact .inl rfl
        ·exact .inr ⟨by simp,fun e=>g1110 e.symm⟩)⟩
     case rest =>
      obtain ⟨y,hTA,hZy,T3⟩:=hcut
      have TA:=hide hTA
      have Zy:=hide hZy
      clear T2 hTA hZy HCc
      go_upto_region 12 with fail
      go_cut [12,13] from 25 to 125 (fun p q wc=>∃ g12 g13,p=.pointer (some ⟨g12,0,none⟩)∧q=.pointer (some ⟨g13,0,none⟩)∧TwH w hb1 hb2 (doM A x).1 (doM B y).1 [⟨g12,rp (doM A x).2,29⟩,⟨g13,rp (doM B y).2,29⟩,⟨g11,y.cells,23⟩,⟨g10,x.cells,23⟩] wc)
      case first =>
       refine wp_region_held (S:=fun W=>W.heap[g10]?=some (.cells x.cells 23 (0,0))∧W.heap[g11]?=some (.cells y.cells 23 (0,0))) (by kernel_rfl) ?_
       have T5:=T3.below (Below.refl _ wc).drew
       change wpAnyH _ _ _ _ _ _ _ _ wc.drew
       generalize wc.drew=W5 at *
       have HS0:(fun W:World=>W.heap[g10]?=some (.cells x.cells 23 (0,0))∧W.heap[g11]?=some (.cells y.cells 23 (0,0))) W5:=⟨T5.get (b:=⟨g10,x.cells,23⟩) (by simp),T5.get (b:=⟨g11,y.cells,23⟩) (by simp)⟩
       have HS:=HS0
       clear T3
       refine tw (i:=0) (d:=some 61) (fuel:=9) (v:=?_) rfl rfl ?_ HS0 ?_
       rotate_left
       ·intro W hW
        go_simp
        try with_reducible rfl
       simp only [Act.put,sT,List.set]
       refine tk (i:=1) (d:=some 62) (fuel:=8) (v:=.agg x.cells) rfl rfl (Or.inl ⟨by rfl,fun W hW=>exec_actrow (.tmp 10) rfl rfl hW.1⟩) HS0 ?_
       simp only [Act.put,sT,List.set]
       refine tw (i:=3) (d:=some 64) (fuel:=7) (v:=?_) rfl rfl ?_ HS0 ?_
       rotate_left
       ·intro W hW
        go_simp
        try with_reducible rfl
       simp only [Act.put,sT,List.set]
       refine tk (i:=4) (d:=some 65) (fuel:=6) (v:=.agg y.cells) rfl rfl (Or.inl ⟨by rfl,fun W hW=>exec_actrow (.tmp 11) rfl rfl hW.2⟩) HS0 ?_
       simp only [Act.put,sT,List.set]
       refine wpAnyH_all (fuel:=5) (rs:=[2,6,7]) (by kernel_rfl) (by simp) ?_
       intro i hi
       simp only [List.mem_cons,List.not_mem_nil,or_false] at hi
       rcases hi with rfl | rfl | rfl
       ·refine call_at (d:=some 63) rfl rfl (by rfl) 17 #[.pointer (some ⟨hb1,0,none⟩),.agg x.cells] (by kernel_rfl) ?_
        refine (TwH.do1 HVB.out HAI.out T5 IA.out (by omega) x Zx.out).mono ?_
        rintro e V10 ⟨rfl,T10⟩
        clear T5 HS
        have HS:=twS g10 g11 x y T10 (by simp) (by simp)
        refine ⟨_,rfl,HS,?_⟩
        simp only [Act.put,sT,List.set]
        refine wpAnyH_all (fuel:=4) (rs:=[5,6,7]) (by kernel_rfl) (by simp) ?_
        intro i hi
        simp only [List.mem_cons,List.not_mem_nil,or_false] at hi
        rcases hi with rfl | rfl | rfl
        ·refine call_at (d:=some 66) rfl rfl (by rfl) 17 #[.pointer (some ⟨hb2,0,none⟩),.agg y.cells] (by kernel_rfl) ?_
         refine (TwH.do2 HVB.out HAI.out T10 IB.out (by omega) y Zy.out).mono ?_
         rintro e V20 ⟨rfl,T20⟩
         clear T10 HS
         have HS:=twS g10 g11 x y T20 (by simp) (by simp)
         refine ⟨_,rfl,HS,?_⟩
         simp only [Act.put,sT,List.set]
         refine wpAnyH_all (fuel:=3) (rs:=[6,7]) (by kernel_rfl) (by simp) ?_
         intro i hi
         simp only [List.mem_cons,List.not_mem_nil,or_false] at hi
         rcases hi with rfl | rfl
         ·refine run_at (d:=some 12) (v:=.pointer (some ⟨V20.heap.size,0,none⟩)) (w':=V20.alloc (.cells zRe 29)) rfl rfl (by rfl) (exec_zrep rfl) ?_
          have T30:=T20.alloc zRe 29
          generalize V20.heap.size=g12_3 at T30 ⊢
          generalize V20.alloc (.cells zRe 29)=V30 at T30 ⊢
          clear T20 HS
          have HS:=twS g10 g11 x y T30 (by simp) (by simp)
          refine ⟨HS,?_⟩
          simp only [Act.put,sT,List.set]
          refine wpAnyH_all (fuel:=2) (rs:=[7]) (by kernel_rfl) (by simp) ?_
          intro i hi
          obtain rfl:i=7:=by simpa using hi
          clear hi
          refine run_at (d:=some 13) (v:=.pointer (some ⟨V30.heap.size,0,none⟩)) (w':=V30.alloc (.cells zRe 29)) rfl rfl (by rfl) (exec_zrep rfl) ?_
          have T40:=T30.alloc zRe 29
          have hne4:V30.heap.size ≠ g12_3:=by have:=(Array.getElem?_eq_some_iff.1 (T30.get (b:=⟨g12_3,zRe,29⟩) (by simp))).1; exact fun e=>by rw [← e] at this; exact Nat.lt_irrefl _ this
          generalize V30.heap.size=g13_4 at T40 hne4 ⊢
          generalize V30.alloc (.cells zRe 29)=V40 at T40 ⊢
          clear T30 HS
          have HS:=twS g10 g11 x y T40 (by simp) (by simp)
          refine ⟨HS,?_⟩
          simp only [Act.put,sT,List.set]
          have hne:g12_3 ≠ g13_4:=fun e=>hne4 e.symm
          have TN:TwH w hb1 hb2 (doM A x).1 (doM B y).1 [⟨g12_3,zRe,29⟩,⟨g13_4,zRe,29⟩,⟨g11,y.cells,23⟩,⟨g10,x.cells,23⟩] V40:=T40.swap
          clear T40 HS
          refine wpAnyH_all (fuel:=1) (rs:=[8]) (by kernel_rfl) (by simp) ?_
          intro i hi
          obtain rfl:i=8:=by simpa using hi
          clear hi
          refine skip_at (d:=none) rfl rfl (by rfl) (exec_over 29 (.tmp 12) (.tmp 63) rfl rfl rfl (TN.get (b:=⟨g12_3,zRe,29⟩) (by simp)) (by show 0+2≤2; omega) Tryz.sizeReply (one_rep _ _)) ?_
          have T1:=put1 TN hne (doM A x).2
          generalize World.setCells V40 g12_3 0 #[.int .i64 (doM A x).2.1,.string (doM A x).2.2].toList=V1 at T1 ⊢
          have HS:=twS g10 g11 x y T1 (by simp) (by simp)
          refine ⟨HS,?_⟩
          clear HS
          simp only [Act.put]
          refine wpAnyH_all (fuel:=0) (rs:=[9]) (by kernel_rfl) (by simp) ?_
          intro i hi
          obtain rfl:i=9:=by simpa using hi
          clear hi
          refine skip_at (d:=none) rfl rfl (by rfl) (exec_over 29 (.tmp 13) (.tmp 66) rfl rfl rfl (T1.get (b:=⟨g13_4,zRe,29⟩) (by simp)) (by show 0+2≤2; omega) Tryz.sizeReply (one_rep _ _)) ?_
          have T2:=put2 T1 hne (doM B y).2
          generalize World.setCells V1 g13_4 0 #[.int .i64 (doM B y).2.1,.string (doM B y).2.2].toList=V2 at T2 ⊢
          have HS:=twS g10 g11 x y T2 (by simp) (by simp)
          refine ⟨HS,?_⟩
          clear HS
          simp only [Act.put]
          refine wpAnyH_done (by kernel_rfl) ?_ _
          go_wp2_with fail
          go_meet
          exact ⟨g12_3,g13_4,rfl,rfl,T2⟩
         ·refine run_at (d:=some 13) (v:=.pointer (some ⟨V20.heap.size,0,none⟩)) (w':=V20.alloc (.cells zRe 29)) rfl rfl (by rfl) (exec_zrep rfl) ?_
          have T50:=T20.alloc zRe 29
          generalize V20.heap.size=g13_5 at T50 ⊢
          generalize V20.alloc (.cells zRe 29)=V50 at T50 ⊢
          clear T20 HS
          have HS:=twS g10 g11 x y T50 (by simp) (by simp)
          refine ⟨HS,?_⟩
          simp only [Act.put,sT,List.set]
          refine wpAnyH_all (fuel:=2) (rs:=[6]) (by kernel_rfl) (by simp) ?_
          intro i hi
          obtain rfl:i=6:=by simpa using hi
          clear hi
          refine run_at (d:=some 12) (v:=.pointer (some ⟨V50.heap.size,0,none⟩)) (w':=V50.alloc (.cells zRe 29)) rfl rfl (by rfl) (exec_zrep rfl) ?_
          have T60:=T50.alloc zRe 29
          have hne6:V50.heap.size ≠ g13_5:=by have:=(Array.getElem?_eq_some_iff.1 (T50.get (b:=⟨g13_5,zRe,29⟩) (by simp))).1; exact fun e=>by rw [← e] at this; exact Nat.lt_irrefl _ this
          generalize V50.heap.size=g12_6 at T60 hne6 ⊢
          generalize V50.alloc (.cells zRe 29)=V60 at T60 ⊢
          clear T50 HS
          have HS:=twS g10 g11 x y T60 (by simp) (by simp)
          refine ⟨HS,?_⟩
          simp only [Act.put,sT,List.set]
          have hne:g12_6 ≠ g13_5:=hne6
          have TN:TwH w hb1 hb2 (doM A x).1 (doM B y).1 [⟨g12_6,zRe,29⟩,⟨g13_5,zRe,29⟩,⟨g11,y.cells,23⟩,⟨g10,x.cells,23⟩] V60:=T60
          clear T60 HS
          refine wpAnyH_all (fuel:=1) (rs:=[8]) (by kernel_rfl) (by simp) ?_
          intro i hi
          obtain rfl:i=8:=by simpa using hi
          clear hi
          refine skip_at (d:=none) rfl rfl (by rfl) (exec_over 29 (.tmp 12) (.tmp 63) rfl rfl rfl (TN.get (b:=⟨g12_6,zRe,29⟩) (by simp)) (by show 0+2≤2; omega) Tryz.sizeReply (one_rep _ _)) ?_
          have T1:=put1 TN hne (doM A x).2
          generalize World.setCells V60 g12_6 0 #[.int .i64 (doM A x).2.1,.string (doM A x).2.2].toList=V1 at T1 ⊢
          have HS:=twS g10 g11 x y T1 (by simp) (by simp)
          refine ⟨HS,?_⟩
          clear HS
          simp only [Act.put]
          refine wpAnyH_all (fuel:=0) (rs:=[9]) (by kernel_rfl) (by simp) ?_
          intro i hi
          obtain rfl:i=9:=by simpa using hi
          clear hi
          refine skip_at (d:=none) rfl rfl (by rfl) (exec_over 29 (.tmp 13) (.tmp 66) rfl rfl rfl (T1.get (b:=⟨g13_5,zRe,29⟩) (by simp)) (by show 0+2≤2; omega) Tryz.sizeReply (one_rep _ _)) ?_
          have T2:=put2 T1 hne (doM B y).2
          generalize World.setCells V1 g13_5 0 #[.int .i64 (doM B y).2.1,.string (doM B y).2.2].toList=V2 at T2 ⊢
          have HS:=twS g10 g11 x y T2 (by simp) (by simp)
          refine ⟨HS,?_⟩
          clear HS
          simp only [Act.put]
          refine wpAnyH_done (by kernel_rfl) ?_ _
          go_wp2_with fail
          go_meet
          exact ⟨g12_6,g13_5,rfl,rfl,T2⟩
        ·refine run_at (d:=some 12) (v:=.pointer (some ⟨V10.heap.size,0,none⟩)) (w':=V10.alloc (.cells zRe 29)) rfl rfl (by rfl) (exec_zrep rfl) ?_
         have T70:=T10.alloc zRe 29
         generalize V10.heap.size=g12_7 at T70 ⊢
         generalize V10.alloc (.cells zRe 29)=V70 at T70 ⊢
         clear T10 HS
         have HS:=twS g10 g11 x y T70 (by simp) (by simp)
         refine ⟨HS,?_⟩
         simp only [Act.put,sT,List.set]
         refine wpAnyH_all (fuel:=3) (rs:=[5,7]) (by kernel_rfl) (by simp) ?_
         intro i hi
         simp only [List.mem_cons,List.not_mem_nil,or_false] at hi
         rcases hi with rfl | rfl
         ·refine call_at (d:=some 66) rfl rfl (by rfl) 17 #[.pointer (some ⟨hb2,0,none⟩),.agg y.cells] (by kernel_rfl) ?_
          refine (TwH.do2 HVB.out HAI.out T70 IB.out (by omega) y Zy.out).mono ?_
          rintro e V80 ⟨rfl,T80⟩
          clear T70 HS
          have HS:=twS g10 g11 x y T80 (by simp) (by simp)
          refine ⟨_,rfl,HS,?_⟩
          simp only [Act.put,sT,List.set]
          refine wpAnyH_all (fuel:=2) (rs:=[7]) (by kernel_rfl) (by simp) ?_
          intro i hi
          obtain rfl:i=7:=by simpa using hi
          clear hi
          refine run_at (d:=some 13) (v:=.pointer (some ⟨V80.heap.size,0,none⟩)) (w':=V80.alloc (.cells zRe 29)) rfl rfl (by rfl) (exec_zrep rfl) ?_
          have T90:=T80.alloc zRe 29
          have hne9:V80.heap.size ≠ g12_7:=by have:=(Array.getElem?_eq_some_iff.1 (T80.get (b:=⟨g12_7,zRe,29⟩) (by simp))).1; exact fun e=>by rw [← e] at this; exact Nat.lt_irrefl _ this
          generalize V80.heap.size=g13_9 at T90 hne9 ⊢
          generalize V80.alloc (.cells zRe 29)=V90 at T90 ⊢
          clear T80 HS
          have HS:=twS g10 g11 x y T90 (by simp) (by simp)
          refine ⟨HS,?_⟩
          simp only [Act.put,sT,List.set]
          have hne:g12_7 ≠ g13_9:=fun e=>hne9 e.symm
          have TN:TwH w hb1 hb2 (doM A x).1 (doM B y).1 [⟨g12_7,zRe,29⟩,⟨g13_9,zRe,29⟩,⟨g11,y.cells,23⟩,⟨g10,x.cells,23⟩] V90:=T90.swap
          clear T90 HS
          refine wpAnyH_all (fuel:=1) (rs:=[8]) (by kernel_rfl) (by simp) ?_
          intro i hi
          obtain rfl:i=8:=by simpa using hi
          clear hi
          refine skip_at (d:=none) rfl rfl (by rfl) (exec_over 29 (.tmp 12) (.tmp 63) rfl rfl rfl (TN.get (b:=⟨g12_7,zRe,29⟩) (by simp)) (by show 0+2≤2; omega) Tryz.sizeReply (one_rep _ _)) ?_
          have T1:=put1 TN hne (doM A x).2
          generalize World.setCells V90 g12_7 0 #[.int .i64 (doM A x).2.1,.string (doM A x).2.2].toList=V1 at T1 ⊢
          have HS:=twS g10 g11 x y T1 (by simp) (by simp)
          refine ⟨HS,?_⟩
          clear HS
          simp only [Act.put]
          refine wpAnyH_all (fuel:=0) (rs:=[9]) (by kernel_rfl) (by simp) ?_
          intro i hi
          obtain rfl:i=9:=by simpa using hi
          clear hi
          refine skip_at (d:=none) rfl rfl (by rfl) (exec_over 29 (.tmp 13) (.tmp 66) rfl rfl rfl (T1.get (b:=⟨g13_9,zRe,29⟩) (by simp)) (by show 0+2≤2; omega) Tryz.sizeReply (one_rep _ _)) ?_
          have T2:=put2 T1 hne (doM B y).2
          generalize World.setCells V1 g13_9 0 #[.int .i64 (doM B y).2.1,.string (doM B y).2.2].toList=V2 at T2 ⊢
          have HS:=twS g10 g11 x y T2 (by simp) (by simp)
          refine ⟨HS,?_⟩
          clear HS
          simp only [Act.put]
          refine wpAnyH_done (by kernel_rfl) ?_ _
          go_wp2_with fail
          go_meet
          exact ⟨g12_7,g13_9,rfl,rfl,T2⟩
         ·refine run_at (d:=some 13) (v:=.pointer (some ⟨V70.heap.size,0,none⟩)) (w':=V70.alloc (.cells zRe 29)) rfl rfl (by rfl) (exec_zrep rfl) ?_
          have T100:=T70.alloc zRe 29
          have hne10:V70.heap.size ≠ g12_7:=by have:=(Array.getElem?_eq_some_iff.1 (T70.get (b:=⟨g12_7,zRe,29⟩) (by simp))).1; exact fun e=>by rw [← e] at this; exact Nat.lt_irrefl _ this
          generalize V70.heap.size=g13_10 at T100 hne10 ⊢
          generalize V70.alloc (.cells zRe 29)=V100 at T100 ⊢
          clear T70 HS
          have HS:=twS g10 g11 x y T100 (by simp) (by simp)
          refine ⟨HS,?_⟩
          simp only [Act.put,sT,List.set]
          have hne:g12_7 ≠ g13_10:=fun e=>hne10 e.symm
          refine wpAnyH_all (fuel:=2) (rs:=[5]) (by kernel_rfl) (by simp) ?_
          intro i hi
          obtain rfl:i=5:=by simpa using hi
          clear hi
          refine call_at (d:=some 66) rfl rfl (by rfl) 17 #[.pointer (some ⟨hb2,0,none⟩),.agg y.cells] (by kernel_rfl) ?_
          refine (TwH.do2 HVB.out HAI.out T100 IB.out (by omega) y Zy.out).mono ?_
          rintro e V110 ⟨rfl,T110⟩
          clear T100 HS
          have HS:=twS g10 g11 x y T110 (by simp) (by simp)
          refine ⟨_,rfl,HS,?_⟩
          simp only [Act.put,sT,List.set]
          have TN:TwH w hb1 hb2 (doM A x).1 (doM B y).1 [⟨g12_7,zRe,29⟩,⟨g13_10,zRe,29⟩,⟨g11,y.cells,23⟩,⟨g10,x.cells,23⟩] V110:=T110.swap
          clear T110 HS
          refine wpAnyH_all (fuel:=1) (rs:=[8]) (by kernel_rfl) (by simp) ?_
          intro i hi
          obtain rfl:i=8:=by simpa using hi
          clear hi
          refine skip_at (d:=none) rfl rfl (by rfl) (exec_over 29 (.tmp 12) (.tmp 63) rfl rfl rfl (TN.get (b:=⟨g12_7,zRe,29⟩) (by simp)) (by show 0+2≤2; omega) Tryz.sizeReply (one_rep _ _)) ?_
          have T1:=put1 TN hne (doM A x).2
          generalize World.setCells V110 g12_7 0 #[.int .i64 (doM A x).2.1,.string (doM A x).2.2].toList=V1 at T1 ⊢
          have HS:=twS g10 g11 x y T1 (by simp) (by simp)
          refine ⟨HS,?_⟩
          clear HS
          simp only [Act.put]
          refine wpAnyH_all (fuel:=0) (rs:=[9]) (by kernel_rfl) (by simp) ?_
          intro i hi
          obtain rfl:i=9:=by simpa using hi
          clear hi
          refine skip_at (d:=none) rfl rfl (by rfl) (exec_over 29 (.tmp 13) (.tmp 66) rfl rfl rfl (T1.get (b:=⟨g13_10,zRe,29⟩) (by simp)) (by show 0+2≤2; omega) Tryz.sizeReply (one_rep _ _)) ?_
          have T2:=put2 T1 hne (doM B y).2
          generalize World.setCells V1 g13_10 0 #[.int .i64 (doM B y).2.1,.string (doM B y).2.2].toList=V2 at T2 ⊢
          have HS:=twS g10 g11 x y T2 (by simp) (by simp)
          refine ⟨HS,?_⟩
          clear HS
          simp only [Act.put]
          refine wpAnyH_done (by kernel_rfl) ?_ _
          go_wp2_with fail
          go_meet
          exact ⟨g12_7,g13_10,rfl,rfl,T2⟩
        ·refine run_at (d:=some 13) (v:=.pointer (some ⟨V10.heap.size,0,none⟩)) (w':=V10.alloc (.cells zRe 29)) rfl rfl (by rfl) (exec_zrep rfl) ?_
         have T120:=T10.alloc zRe 29
         generalize V10.heap.size=g13_12 at T120 ⊢
         generalize V10.alloc (.cells zRe 29)=V120 at T120 ⊢
         clear T10 HS
         have HS:=twS g10 g11 x y T120 (by simp) (by simp)
         refine ⟨HS,?_⟩
         simp only [Act.put,sT,List.set]
         refine wpAnyH_all (fuel:=3) (rs:=[5,6]) (by kernel_rfl) (by simp) ?_
         intro i hi
         simp only [List.mem_cons,List.not_mem_nil,or_false] at hi
         rcases hi with rfl | rfl
         ·refine call_at (d:=some 66) rfl rfl (by rfl) 17 #[.pointer (some ⟨hb2,0,none⟩),.agg y.cells] (by kernel_rfl) ?_
          refine (TwH.do2 HVB.out HAI.out T120 IB.out (by omega) y Zy.out).mono ?_
          rintro e V130 ⟨rfl,T130⟩
          clear T120 HS
          have HS:=twS g10 g11 x y T130 (by simp) (by simp)
          refine ⟨_,rfl,HS,?_⟩
          simp only [Act.put,sT,List.set]
          refine wpAnyH_all (fuel:=2) (rs:=[6]) (by kernel_rfl) (by simp) ?_
          intro i hi
          obtain rfl:i=6:=by simpa using hi
          clear hi
          refine run_at (d:=some 12) (v:=.pointer (some ⟨V130.heap.size,0,none⟩)) (w':=V130.alloc (.cells zRe 29)) rfl rfl (by rfl) (exec_zrep rfl) ?_
          have T140:=T130.alloc zRe 29
          have hne14:V130.heap.size ≠ g13_12:=by have:=(Array.getElem?_eq_some_iff.1 (T130.get (b:=⟨g13_12,zRe,29⟩) (by simp))).1; exact fun e=>by rw [← e] at this; exact Nat.lt_irrefl _ this
          generalize V130.heap.size=g12_14 at T140 hne14 ⊢
          generalize V130.alloc (.cells zRe 29)=V140 at T140 ⊢
          clear T130 HS
          have HS:=twS g10 g11 x y T140 (by simp) (by simp)
          refine ⟨HS,?_⟩
          simp only [Act.put,sT,List.set]
          have hne:g12_14 ≠ g13_12:=hne14
          have TN:TwH w hb1 hb2 (doM A x).1 (doM B y).1 [⟨g12_14,zRe,29⟩,⟨g13_12,zRe,29⟩,⟨g11,y.cells,23⟩,⟨g10,x.cells,23⟩] V140:=T140
          clear T140 HS
          refine wpAnyH_all (fuel:=1) (rs:=[8]) (by kernel_rfl) (by simp) ?_
          intro i hi
          obtain rfl:i=8:=by simpa using hi
          clear hi
          refine skip_at (d:=none) rfl rfl (by rfl) (exec_over 29 (.tmp 12) (.tmp 63) rfl rfl rfl (TN.get (b:=⟨g12_14,zRe,29⟩) (by simp)) (by show 0+2≤2; omega) Tryz.sizeReply (one_rep _ _)) ?_
          have T1:=put1 TN hne (doM A x).2
          generalize World.setCells V140 g12_14 0 #[.int .i64 (doM A x).2.1,.string (doM A x).2.2].toList=V1 at T1 ⊢
          have HS:=twS g10 g11 x y T1 (by simp) (by simp)
          refine ⟨HS,?_⟩
          clear HS
          simp only [Act.put]
          refine wpAnyH_all (fuel:=0) (rs:=[9]) (by kernel_rfl) (by simp) ?_
          intro i hi
          obtain rfl:i=9:=by simpa using hi
          clear hi
          refine skip_at (d:=none) rfl rfl (by rfl) (exec_over 29 (.tmp 13) (.tmp 66) rfl rfl rfl (T1.get (b:=⟨g13_12,zRe,29⟩) (by simp)) (by show 0+2≤2; omega) Tryz.sizeReply (one_rep _ _)) ?_
          have T2:=put2 T1 hne (doM B y).2
          generalize World.setCells V1 g13_12 0 #[.int .i64 (doM B y).2.1,.string (doM B y).2.2].toList=V2 at T2 ⊢
          have HS:=twS g10 g11 x y T2 (by simp) (by simp)
          refine ⟨HS,?_⟩
          clear HS
          simp only [Act.put]
          refine wpAnyH_done (by kernel_rfl) ?_ _
          go_wp2_with fail
          go_meet
          exact ⟨g12_14,g13_12,rfl,rfl,T2⟩
         ·refine run_at (d:=some 12) (v:=.pointer (some ⟨V120.heap.size,0,none⟩)) (w':=V120.alloc (.cells zRe 29)) rfl rfl (by rfl) (exec_zrep rfl) ?_
          have T150:=T120.alloc zRe 29
          have hne15:V120.heap.size ≠ g13_12:=by have:=(Array.getElem?_eq_some_iff.1 (T120.get (b:=⟨g13_12,zRe,29⟩) (by simp))).1; exact fun e=>by rw [← e] at this; exact Nat.lt_irrefl _ this
          generalize V120.heap.size=g12_15 at T150 hne15 ⊢
          generalize V120.alloc (.cells zRe 29)=V150 at T150 ⊢
          clear T120 HS
          have HS:=twS g10 g11 x y T150 (by simp) (by simp)
          refine ⟨HS,?_⟩
          simp only [Act.put,sT,List.set]
          have hne:g12_15 ≠ g13_12:=hne15
          refine wpAnyH_all (fuel:=2) (rs:=[5]) (by kernel_rfl) (by simp) ?_
          intro i hi
          obtain rfl:i=5:=by simpa using hi
          clear hi
          refine call_at (d:=some 66) rfl rfl (by rfl) 17 #[.pointer (some ⟨hb2,0,none⟩),.agg y.cells] (by kernel_rfl) ?_
          refine (TwH.do2 HVB.out HAI.out T150 IB.out (by omega) y Zy.out).mono ?_
          rintro e V160 ⟨rfl,T160⟩
          clear T150 HS
          have HS:=twS g10 g11 x y T160 (by simp) (by simp)
          refine ⟨_,rfl,HS,?_⟩
          simp only [Act.put,sT,List.set]
          have TN:TwH w hb1 hb2 (doM A x).1 (doM B y).1 [⟨g12_15,zRe,29⟩,⟨g13_12,zRe,29⟩,⟨g11,y.cells,23⟩,⟨g10,x.cells,23⟩] V160:=T160
          clear T160 HS
          refine wpAnyH_all (fuel:=1) (rs:=[8]) (by kernel_rfl) (by simp) ?_
          intro i hi
          obtain rfl:i=8:=by simpa using hi
          clear hi
          refine skip_at (d:=none) rfl rfl (by rfl) (exec_over 29 (.tmp 12) (.tmp 63) rfl rfl rfl (TN.get (b:=⟨g12_15,zRe,29⟩) (by simp)) (by show 0+2≤2; omega) Tryz.sizeReply (one_rep _ _)) ?_
          have T1:=put1 TN hne (doM A x).2
          generalize World.setCells V160 g12_15 0 #[.int .i64 (doM A x).2.1,.string (doM A x).2.2].toList=V1 at T1 ⊢
          have HS:=twS g10 g11 x y T1 (by simp) (by simp)
          refine ⟨HS,?_⟩
          clear HS
          simp only [Act.put]
          refine wpAnyH_all (fuel:=0) (rs:=[9]) (by kernel_rfl) (by simp) ?_
          intro i hi
          obtain rfl:i=9:=by simpa using hi
          clear hi
          refine skip_at (d:=none) rfl rfl (by rfl) (exec_over 29 (.tmp 13) (.tmp 66) rfl rfl rfl (T1.get (b:=⟨g13_12,zRe,29⟩) (by simp)) (by show 0+2≤2; omega) Tryz.sizeReply (one_rep _ _)) ?_
          have T2:=put2 T1 hne (doM B y).2
          generalize World.setCells V1 g13_12 0 #[.int .i64 (doM B y).2.1,.string (doM B y).2.2].toList=V2 at T2 ⊢
          have HS:=twS g10 g11 x y T2 (by simp) (by simp)
          refine ⟨HS,?_⟩
          clear HS
          simp only [Act.put]
          refine wpAnyH_done (by kernel_rfl) ?_ _
          go_wp2_with fail
          go_meet
          exact ⟨g12_15,g13_12,rfl,rfl,T2⟩
       ·refine run_at (d:=some 12) (v:=.pointer (some ⟨W5.heap.size,0,none⟩)) (w':=W5.alloc (.cells zRe 29)) rfl rfl (by rfl) (exec_zrep rfl) ?_
        have T170:=T5.alloc zRe 29
        generalize W5.heap.size=g12_17 at T170 ⊢
        generalize W5.alloc (.cells zRe 29)=V170 at T170 ⊢
        clear T5 HS
        have HS:=twS g10 g11 x y T170 (by simp) (by simp)
        refine ⟨HS,?_⟩
        simp only [Act.put,sT,List.set]
        refine wpAnyH_all (fuel:=4) (rs:=[2,7]) (by kernel_rfl) (by simp) ?_
        intro i hi
        simp only [List.mem_cons,List.not_mem_nil,or_false] at hi
        rcases hi with rfl | rfl
        ·refine call_at (d:=some 63) rfl rfl (by rfl) 17 #[.pointer (some ⟨hb1,0,none⟩),.agg x.cells] (by kernel_rfl) ?_
         refine (TwH.do1 HVB.out HAI.out T170 IA.out (by omega) x Zx.out).mono ?_
         rintro e V180 ⟨rfl,T180⟩
         clear T170 HS
         have HS:=twS g10 g11 x y T180 (by simp) (by simp)
         refine ⟨_,rfl,HS,?_⟩
         simp only [Act.put,sT,List.set]
         refine wpAnyH_all (fuel:=3) (rs:=[5,7]) (by kernel_rfl) (by simp) ?_
         intro i hi
         simp only [List.mem_cons,List.not_mem_nil,or_false] at hi
         rcases hi with rfl | rfl
         ·refine call_at (d:=some 66) rfl rfl (by rfl) 17 #[.pointer (some ⟨hb2,0,none⟩),.agg y.cells] (by kernel_rfl) ?_
          refine (TwH.do2 HVB.out HAI.out T180 IB.out (by omega) y Zy.out).mono ?_
          rintro e V190 ⟨rfl,T190⟩
          clear T180 HS
          have HS:=twS g10 g11 x y T190 (by simp) (by simp)
          refine ⟨_,rfl,HS,?_⟩
          simp only [Act.put,sT,List.set]
          refine wpAnyH_all (fuel:=2) (rs:=[7]) (by kernel_rfl) (by simp) ?_
          intro i hi
          obtain rfl:i=7:=by simpa using hi
          clear hi
          refine run_at (d:=some 13) (v:=.pointer (some ⟨V190.heap.size,0,none⟩)) (w':=V190.alloc (.cells zRe 29)) rfl rfl (by rfl) (exec_zrep rfl) ?_
          have T200:=T190.alloc zRe 29
          have hne20:V190.heap.size ≠ g12_17:=by have:=(Array.getElem?_eq_some_iff.1 (T190.get (b:=⟨g12_17,zRe,29⟩) (by simp))).1; exact fun e=>by rw [← e] at this; exact Nat.lt_irrefl _ this
          generalize V190.heap.size=g13_20 at T200 hne20 ⊢
          generalize V190.alloc (.cells zRe 29)=V200 at T200 ⊢
          clear T190 HS
          have HS:=twS g10 g11 x y T200 (by simp) (by simp)
          refine ⟨HS,?_⟩
          simp only [Act.put,sT,List.set]
          have hne:g12_17 ≠ g13_20:=fun e=>hne20 e.symm
          have TN:TwH w hb1 hb2 (doM A x).1 (doM B y).1 [⟨g12_17,zRe,29⟩,⟨g13_20,zRe,29⟩,⟨g11,y.cells,23⟩,⟨g10,x.cells,23⟩] V200:=T200.swap
          clear T200 HS
          refine wpAnyH_all (fuel:=1) (rs:=[8]) (by kernel_rfl) (by simp) ?_
          intro i hi
          obtain rfl:i=8:=by simpa using hi
          clear hi
          refine skip_at (d:=none) rfl rfl (by rfl) (exec_over 29 (.tmp 12) (.tmp 63) rfl rfl rfl (TN.get (b:=⟨g12_17,zRe,29⟩) (by simp)) (by show 0+2≤2; omega) Tryz.sizeReply (one_rep _ _)) ?_
          have T1:=put1 TN hne (doM A x).2
          generalize World.setCells V200 g12_17 0 #[.int .i64 (doM A x).2.1,.string (doM A x).2.2].toList=V1 at T1 ⊢
          have HS:=twS g10 g11 x y T1 (by simp) (by simp)
          refine ⟨HS,?_⟩
          clear HS
          simp only [Act.put]
          refine wpAnyH_all (fuel:=0) (rs:=[9]) (by kernel_rfl) (by simp) ?_
          intro i hi
          obtain rfl:i=9:=by simpa using hi
          clear hi
          refine skip_at (d:=none) rfl rfl (by rfl) (exec_over 29 (.tmp 13) (.tmp 66) rfl rfl rfl (T1.get (b:=⟨g13_20,zRe,29⟩) (by simp)) (by show 0+2≤2; omega) Tryz.sizeReply (one_rep _ _)) ?_
          have T2:=put2 T1 hne (doM B y).2
          generalize World.setCells V1 g13_20 0 #[.int .i64 (doM B y).2.1,.string (doM B y).2.2].toList=V2 at T2 ⊢
          have HS:=twS g10 g11 x y T2 (by simp) (by simp)
          refine ⟨HS,?_⟩
          clear HS
          simp only [Act.put]
          refine wpAnyH_done (by kernel_rfl) ?_ _
          go_wp2_with fail
          go_meet
          exact ⟨g12_17,g13_20,rfl,rfl,T2⟩
         ·refine run_at (d:=some 13) (v:=.pointer (some ⟨V180.heap.size,0,none⟩)) (w':=V180.alloc (.cells zRe 29)) rfl rfl (by rfl) (exec_zrep rfl) ?_
          have T210:=T180.alloc zRe 29
          have hne21:V180.heap.size ≠ g12_17:=by have:=(Array.getElem?_eq_some_iff.1 (T180.get (b:=⟨g12_17,zRe,29⟩) (by simp))).1; exact fun e=>by rw [← e] at this; exact Nat.lt_irrefl _ this
          generalize V180.heap.size=g13_21 at T210 hne21 ⊢
          generalize V180.alloc (.cells zRe 29)=V210 at T210 ⊢
          clear T180 HS
          have HS:=twS g10 g11 x y T210 (by simp) (by simp)
          refine ⟨HS,?_⟩
          simp only [Act.put,sT,List.set]
          have hne:g12_17 ≠ g13_21:=fun e=>hne21 e.symm
          refine wpAnyH_all (fuel:=2) (rs:=[5]) (by kernel_rfl) (by simp) ?_
          intro i hi
          obtain rfl:i=5:=by simpa using hi
          clear hi
          refine call_at (d:=some 66) rfl rfl (by rfl) 17 #[.pointer (some ⟨hb2,0,none⟩),.agg y.cells] (by kernel_rfl) ?_
          refine (TwH.do2 HVB.out HAI.out T210 IB.out (by omega) y Zy.out).mono ?_
          rintro e V220 ⟨rfl,T220⟩
          clear T210 HS
          have HS:=twS g10 g11 x y T220 (by simp) (by simp)
          refine ⟨_,rfl,HS,?_⟩
          simp only [Act.put,sT,List.set]
          have TN:TwH w hb1 hb2 (doM A x).1 (doM B y).1 [⟨g12_17,zRe,29⟩,⟨g13_21,zRe,29⟩,⟨g11,y.cells,23⟩,⟨g10,x.cells,23⟩] V220:=T220.swap
          clear T220 HS
          refine wpAnyH_all (fuel:=1) (rs:=[8]) (by kernel_rfl) (by simp) ?_
          intro i hi
          obtain rfl:i=8:=by simpa using hi
          clear hi
          refine skip_at (d:=none) rfl rfl (by rfl) (exec_over 29 (.tmp 12) (.tmp 63) rfl rfl rfl (TN.get (b:=⟨g12_17,zRe,29⟩) (by simp)) (by show 0+2≤2; omega) Tryz.sizeReply (one_rep _ _)) ?_
          have T1:=put1 TN hne (doM A x).2
          generalize World.setCells V220 g12_17 0 #[.int .i64 (doM A x).2.1,.string (doM A x).2.2].toList=V1 at T1 ⊢
          have HS:=twS g10 g11 x y T1 (by simp) (by simp)
          refine ⟨HS,?_⟩
          clear HS
          simp only [Act.put]
          refine wpAnyH_all (fuel:=0) (rs:=[9]) (by kernel_rfl) (by simp) ?_
          intro i hi
          obtain rfl:i=9:=by simpa using hi
          clear hi
          refine skip_at (d:=none) rfl rfl (by rfl) (exec_over 29 (.tmp 13) (.tmp 66) rfl rfl rfl (T1.get (b:=⟨g13_21,zRe,29⟩) (by simp)) (by show 0+2≤2; omega) Tryz.sizeReply (one_rep _ _)) ?_
          have T2:=put2 T1 hne (doM B y).2
          generalize World.setCells V1 g13_21 0 #[.int .i64 (doM B y).2.1,.string (doM B y).2.2].toList=V2 at T2 ⊢
          have HS:=twS g10 g11 x y T2 (by simp) (by simp)
          refine ⟨HS,?_⟩
          clear HS
          simp only [Act.put]
          refine wpAnyH_done (by kernel_rfl) ?_ _
          go_wp2_with fail
          go_meet
          exact ⟨g12_17,g13_21,rfl,rfl,T2⟩
        ·refine run_at (d:=some 13) (v:=.pointer (some ⟨V170.heap.size,0,none⟩)) (w':=V170.alloc (.cells zRe 29)) rfl rfl (by rfl) (exec_zrep rfl) ?_
         have T230:=T170.alloc zRe 29
         have hne23:V170.heap.size ≠ g12_17:=by have:=(Array.getElem?_eq_some_iff.1 (T170.get (b:=⟨g12_17,zRe,29⟩) (by simp))).1; exact fun e=>by rw [← e] at this; exact Nat.lt_irrefl _ this
         generalize V170.heap.size=g13_23 at T230 hne23 ⊢
         generalize V170.alloc (.cells zRe 29)=V230 at T230 ⊢
         clear T170 HS
         have HS:=twS g10 g11 x y T230 (by simp) (by simp)
         refine ⟨HS,?_⟩
         simp only [Act.put,sT,List.set]
         have hne:g12_17 ≠ g13_23:=fun e=>hne23 e.symm
         refine wpAnyH_all (fuel:=3) (rs:=[2]) (by kernel_rfl) (by simp) ?_
         intro i hi
         obtain rfl:i=2:=by simpa using hi
         clear hi
         refine call_at (d:=some 63) rfl rfl (by rfl) 17 #[.pointer (some ⟨hb1,0,none⟩),.agg x.cells] (by kernel_rfl) ?_
         refine (TwH.do1 HVB.out HAI.out T230 IA.out (by omega) x Zx.out).mono ?_
         rintro e V240 ⟨rfl,T240⟩
         clear T230 HS
         have HS:=twS g10 g11 x y T240 (by simp) (by simp)
         refine ⟨_,rfl,HS,?_⟩
         simp only [Act.put,sT,List.set]
         refine wpAnyH_all (fuel:=2) (rs:=[5]) (by kernel_rfl) (by simp) ?_
         intro i hi
         obtain rfl:i=5:=by simpa using hi
         clear hi
         refine call_at (d:=some 66) rfl rfl (by rfl) 17 #[.pointer (some ⟨hb2,0,none⟩),.agg y.cells] (by kernel_rfl) ?_
         refine (TwH.do2 HVB.out HAI.out T240 IB.out (by omega) y Zy.out).mono ?_
         rintro e V250 ⟨rfl,T250⟩
         clear T240 HS
         have HS:=twS g10 g11 x y T250 (by simp) (by simp)
         refine ⟨_,rfl,HS,?_⟩
         simp only [Act.put,sT,List.set]
         have TN:TwH w hb1 hb2 (doM A x).1 (doM B y).1 [⟨g12_17,zRe,29⟩,⟨g13_23,zRe,29⟩,⟨g11,y.cells,23⟩,⟨g10,x.cells,23⟩] V250:=T250.swap
         clear T250 HS
         refine wpAnyH_all (fuel:=1) (rs:=[8]) (by kernel_rfl) (by simp) ?_
         intro i hi
         obtain rfl:i=8:=by simpa using hi
         clear hi
         refine skip_at (d:=none) rfl rfl (by rfl) (exec_over 29 (.tmp 12) (.tmp 63) rfl rfl rfl (TN.get (b:=⟨g12_17,zRe,29⟩) (by simp)) (by show 0+2≤2; omega) Tryz.sizeReply (one_rep _ _)) ?_
         have T1:=put1 TN hne (doM A x).2
         generalize World.setCells V250 g12_17 0 #[.int .i64 (doM A x).2.1,.string (doM A x).2.2].toList=V1 at T1 ⊢
         have HS:=twS g10 g11 x y T1 (by simp) (by simp)
         refine ⟨HS,?_⟩
         clear HS
         simp only [Act.put]
         refine wpAnyH_all (fuel:=0) (rs:=[9]) (by kernel_rfl) (by simp) ?_
         intro i hi
         obtain rfl:i=9:=by simpa using hi
         clear hi
         refine skip_at (d:=none) rfl rfl (by rfl) (exec_over 29 (.tmp 13) (.tmp 66) rfl rfl rfl (T1.get (b:=⟨g13_23,zRe,29⟩) (by simp)) (by show 0+2≤2; omega) Tryz.sizeReply (one_rep _ _)) ?_
         have T2:=put2 T1 hne (doM B y).2
         generalize World.setCells V1 g13_23 0 #[.int .i64 (doM B y).2.1,.string (doM B y).2.2].toList=V2 at T2 ⊢
         have HS:=twS g10 g11 x y T2 (by simp) (by simp)
         refine ⟨HS,?_⟩
         clear HS
         simp only [Act.put]
         refine wpAnyH_done (by kernel_rfl) ?_ _
         go_wp2_with fail
         go_meet
         exact ⟨g12_17,g13_23,rfl,rfl,T2⟩
       ·refine run_at (d:=some 13) (v:=.pointer (some ⟨W5.heap.size,0,none⟩)) (w':=W5.alloc (.cells zRe 29)) rfl rfl (by rfl) (exec_zrep rfl) ?_
        have T260:=T5.alloc zRe 29
        generalize W5.heap.size=g13_26 at T260 ⊢
        generalize W5.alloc (.cells zRe 29)=V260 at T260 ⊢
        clear T5 HS
        have HS:=twS g10 g11 x y T260 (by simp) (by simp)
        refine ⟨HS,?_⟩
        simp only [Act.put,sT,List.set]
        refine wpAnyH_all (fuel:=4) (rs:=[2,6]) (by kernel_rfl) (by simp) ?_
        intro i hi
        simp only [List.mem_cons,List.not_mem_nil,or_false] at hi
        rcases hi with rfl | rfl
        ·refine call_at (d:=some 63) rfl rfl (by rfl) 17 #[.pointer (some ⟨hb1,0,none⟩),.agg x.cells] (by kernel_rfl) ?_
         refine (TwH.do1 HVB.out HAI.out T260 IA.out (by omega) x Zx.out).mono ?_
         rintro e V270 ⟨rfl,T270⟩
         clear T260 HS
         have HS:=twS g10 g11 x y T270 (by simp) (by simp)
         refine ⟨_,rfl,HS,?_⟩
         simp only [Act.put,sT,List.set]
         refine wpAnyH_all (fuel:=3) (rs:=[5,6]) (by kernel_rfl) (by simp) ?_
         intro i hi
         simp only [List.mem_cons,List.not_mem_nil,or_false] at hi
         rcases hi with rfl | rfl
         ·refine call_at (d:=some 66) rfl rfl (by rfl) 17 #[.pointer (some ⟨hb2,0,none⟩),.agg y.cells] (by kernel_rfl) ?_
          refine (TwH.do2 HVB.out HAI.out T270 IB.out (by omega) y Zy.out).mono ?_
          rintro e V280 ⟨rfl,T280⟩
          clear T270 HS
          have HS:=twS g10 g11 x y T280 (by simp) (by simp)
          refine ⟨_,rfl,HS,?_⟩
          simp only [Act.put,sT,List.set]
          refine wpAnyH_all (fuel:=2) (rs:=[6]) (by kernel_rfl) (by simp) ?_
          intro i hi
          obtain rfl:i=6:=by simpa using hi
          clear hi
          refine run_at (d:=some 12) (v:=.pointer (some ⟨V280.heap.size,0,none⟩)) (w':=V280.alloc (.cells zRe 29)) rfl rfl (by rfl) (exec_zrep rfl) ?_
          have T290:=T280.alloc zRe 29
          have hne29:V280.heap.size ≠ g13_26:=by have:=(Array.getElem?_eq_some_iff.1 (T280.get (b:=⟨g13_26,zRe,29⟩) (by simp))).1; exact fun e=>by rw [← e] at this; exact Nat.lt_irrefl _ this
          generalize V280.heap.size=g12_29 at T290 hne29 ⊢
          generalize V280.alloc (.cells zRe 29)=V290 at T290 ⊢
          clear T280 HS
          have HS:=twS g10 g11 x y T290 (by simp) (by simp)
          refine ⟨HS,?_⟩
          simp only [Act.put,sT,List.set]
          have hne:g12_29 ≠ g13_26:=hne29
          have TN:TwH w hb1 hb2 (doM A x).1 (doM B y).1 [⟨g12_29,zRe,29⟩,⟨g13_26,zRe,29⟩,⟨g11,y.cells,23⟩,⟨g10,x.cells,23⟩] V290:=T290
          clear T290 HS
          refine wpAnyH_all (fuel:=1) (rs:=[8]) (by kernel_rfl) (by simp) ?_
          intro i hi
          obtain rfl:i=8:=by simpa using hi
          clear hi
          refine skip_at (d:=none) rfl rfl (by rfl) (exec_over 29 (.tmp 12) (.tmp 63) rfl rfl rfl (TN.get (b:=⟨g12_29,zRe,29⟩) (by simp)) (by show 0+2≤2; omega) Tryz.sizeReply (one_rep _ _)) ?_
          have T1:=put1 TN hne (doM A x).2
          generalize World.setCells V290 g12_29 0 #[.int .i64 (doM A x).2.1,.string (doM A x).2.2].toList=V1 at T1 ⊢
          have HS:=twS g10 g11 x y T1 (by simp) (by simp)
          refine ⟨HS,?_⟩
          clear HS
          simp only [Act.put]
          refine wpAnyH_all (fuel:=0) (rs:=[9]) (by kernel_rfl) (by simp) ?_
          intro i hi
          obtain rfl:i=9:=by simpa using hi
          clear hi
          refine skip_at (d:=none) rfl rfl (by rfl) (exec_over 29 (.tmp 13) (.tmp 66) rfl rfl rfl (T1.get (b:=⟨g13_26,zRe,29⟩) (by simp)) (by show 0+2≤2; omega) Tryz.sizeReply (one_rep _ _)) ?_
          have T2:=put2 T1 hne (doM B y).2
          generalize World.setCells V1 g13_26 0 #[.int .i64 (doM B y).2.1,.string (doM B y).2.2].toList=V2 at T2 ⊢
          have HS:=twS g10 g11 x y T2 (by simp) (by simp)
          refine ⟨HS,?_⟩
          clear HS
          simp only [Act.put]
          refine wpAnyH_done (by kernel_rfl) ?_ _
          go_wp2_with fail
          go_meet
          exact ⟨g12_29,g13_26,rfl,rfl,T2⟩
         ·refine run_at (d:=some 12) (v:=.pointer (some ⟨V270.heap.size,0,none⟩)) (w':=V270.alloc (.cells zRe 29)) rfl rfl (by rfl) (exec_zrep rfl) ?_
          have T300:=T270.alloc zRe 29
          have hne30:V270.heap.size ≠ g13_26:=by have:=(Array.getElem?_eq_some_iff.1 (T270.get (b:=⟨g13_26,zRe,29⟩) (by simp))).1; exact fun e=>by rw [← e] at this; exact Nat.lt_irrefl _ this
          generalize V270.heap.size=g12_30 at T300 hne30 ⊢
          generalize V270.alloc (.cells zRe 29)=V300 at T300 ⊢
          clear T270 HS
          have HS:=twS g10 g11 x y T300 (by simp) (by simp)
          refine ⟨HS,?_⟩
          simp only [Act.put,sT,List.set]
          have hne:g12_30 ≠ g13_26:=hne30
          refine wpAnyH_all (fuel:=2) (rs:=[5]) (by kernel_rfl) (by simp) ?_
          intro i hi
          obtain rfl:i=5:=by simpa using hi
          clear hi
          refine call_at (d:=some 66) rfl rfl (by rfl) 17 #[.pointer (some ⟨hb2,0,none⟩),.agg y.cells] (by kernel_rfl) ?_
          refine (TwH.do2 HVB.out HAI.out T300 IB.out (by omega) y Zy.out).mono ?_
          rintro e V310 ⟨rfl,T310⟩
          clear T300 HS
          have HS:=twS g10 g11 x y T310 (by simp) (by simp)
          refine ⟨_,rfl,HS,?_⟩
          simp only [Act.put,sT,List.set]
          have TN:TwH w hb1 hb2 (doM A x).1 (doM B y).1 [⟨g12_30,zRe,29⟩,⟨g13_26,zRe,29⟩,⟨g11,y.cells,23⟩,⟨g10,x.cells,23⟩] V310:=T310
          clear T310 HS
          refine wpAnyH_all (fuel:=1) (rs:=[8]) (by kernel_rfl) (by simp) ?_
          intro i hi
          obtain rfl:i=8:=by simpa using hi
          clear hi
          refine skip_at (d:=none) rfl rfl (by rfl) (exec_over 29 (.tmp 12) (.tmp 63) rfl rfl rfl (TN.get (b:=⟨g12_30,zRe,29⟩) (by simp)) (by show 0+2≤2; omega) Tryz.sizeReply (one_rep _ _)) ?_
          have T1:=put1 TN hne (doM A x).2
          generalize World.setCells V310 g12_30 0 #[.int .i64 (doM A x).2.1,.string (doM A x).2.2].toList=V1 at T1 ⊢
          have HS:=twS g10 g11 x y T1 (by simp) (by simp)
          refine ⟨HS,?_⟩
          clear HS
          simp only [Act.put]
          refine wpAnyH_all (fuel:=0) (rs:=[9]) (by kernel_rfl) (by simp) ?_
          intro i hi
          obtain rfl:i=9:=by simpa using hi
          clear hi
          refine skip_at (d:=none) rfl rfl (by rfl) (exec_over 29 (.tmp 13) (.tmp 66) rfl rfl rfl (T1.get (b:=⟨g13_26,zRe,29⟩) (by simp)) (by show 0+2≤2; omega) Tryz.sizeReply (one_rep _ _)) ?_
          have T2:=put2 T1 hne (doM B y).2
          generalize World.setCells V1 g13_26 0 #[.int .i64 (doM B y).2.1,.string (doM B y).2.2].toList=V2 at T2 ⊢
          have HS:=twS g10 g11 x y T2 (by simp) (by simp)
          refine ⟨HS,?_⟩
          clear HS
          simp only [Act.put]
          refine wpAnyH_done (by kernel_rfl) ?_ _
          go_wp2_with fail
          go_meet
          exact ⟨g12_30,g13_26,rfl,rfl,T2⟩
        ·refine run_at (d:=some 12) (v:=.pointer (some ⟨V260.heap.size,0,none⟩)) (w':=V260.alloc (.cells zRe 29)) rfl rfl (by rfl) (exec_zrep rfl) ?_
         have T320:=T260.alloc zRe 29
         have hne32:V260.heap.size ≠ g13_26:=by have:=(Array.getElem?_eq_some_iff.1 (T260.get (b:=⟨g13_26,zRe,29⟩) (by simp))).1; exact fun e=>by rw [← e] at this; exact Nat.lt_irrefl _ this
         generalize V260.heap.size=g12_32 at T320 hne32 ⊢
         generalize V260.alloc (.cells zRe 29)=V320 at T320 ⊢
         clear T260 HS
         have HS:=twS g10 g11 x y T320 (by simp) (by simp)
         refine ⟨HS,?_⟩
         simp only [Act.put,sT,List.set]
         have hne:g12_32 ≠ g13_26:=hne32
         refine wpAnyH_all (fuel:=3) (rs:=[2]) (by kernel_rfl) (by simp) ?_
         intro i hi
         obtain rfl:i=2:=by simpa using hi
         clear hi
         refine call_at (d:=some 63) rfl rfl (by rfl) 17 #[.pointer (some ⟨hb1,0,none⟩),.agg x.cells] (by kernel_rfl) ?_
         refine (TwH.do1 HVB.out HAI.out T320 IA.out (by omega) x Zx.out).mono ?_
         rintro e V330 ⟨rfl,T330⟩
         clear T320 HS
         have HS:=twS g10 g11 x y T330 (by simp) (by simp)
         refine ⟨_,rfl,HS,?_⟩
         simp only [Act.put,sT,List.set]
         refine wpAnyH_all (fuel:=2) (rs:=[5]) (by kernel_rfl) (by simp) ?_
         intro i hi
         obtain rfl:i=5:=by simpa using hi
         clear hi
         refine call_at (d:=some 66) rfl rfl (by rfl) 17 #[.pointer (some ⟨hb2,0,none⟩),.agg y.cells] (by kernel_rfl) ?_
         refine (TwH.do2 HVB.out HAI.out T330 IB.out (by omega) y Zy.out).mono ?_
         rintro e V340 ⟨rfl,T340⟩
         clear T330 HS
         have HS:=twS g10 g11 x y T340 (by simp) (by simp)
         refine ⟨_,rfl,HS,?_⟩
         simp only [Act.put,sT,List.set]
         have TN:TwH w hb1 hb2 (doM A x).1 (doM B y).1 [⟨g12_32,zRe,29⟩,⟨g13_26,zRe,29⟩,⟨g11,y.cells,23⟩,⟨g10,x.cells,23⟩] V340:=T340
         clear T340 HS
         refine wpAnyH_all (fuel:=1) (rs:=[8]) (by kernel_rfl) (by simp) ?_
         intro i hi
         obtain rfl:i=8:=by simpa using hi
         clear hi
         refine skip_at (d:=none) rfl rfl (by rfl) (exec_over 29 (.tmp 12) (.tmp 63) rfl rfl rfl (TN.get (b:=⟨g12_32,zRe,29⟩) (by simp)) (by show 0+2≤2; omega) Tryz.sizeReply (one_rep _ _)) ?_
         have T1:=put1 TN hne (doM A x).2
         generalize World.setCells V340 g12_32 0 #[.int .i64 (doM A x).2.1,.string (doM A x).2.2].toList=V1 at T1 ⊢
         have HS:=twS g10 g11 x y T1 (by simp) (by simp)
         refine ⟨HS,?_⟩
         clear HS
         simp only [Act.put]
         refine wpAnyH_all (fuel:=0) (rs:=[9]) (by kernel_rfl) (by simp) ?_
         intro i hi
         obtain rfl:i=9:=by simpa using hi
         clear hi
         refine skip_at (d:=none) rfl rfl (by rfl) (exec_over 29 (.tmp 13) (.tmp 66) rfl rfl rfl (T1.get (b:=⟨g13_26,zRe,29⟩) (by simp)) (by show 0+2≤2; omega) Tryz.sizeReply (one_rep _ _)) ?_
         have T2:=put2 T1 hne (doM B y).2
         generalize World.setCells V1 g13_26 0 #[.int .i64 (doM B y).2.1,.string (doM B y).2.2].toList=V2 at T2 ⊢
         have HS:=twS g10 g11 x y T2 (by simp) (by simp)
         refine ⟨HS,?_⟩
         clear HS
         simp only [Act.put]
         refine wpAnyH_done (by kernel_rfl) ?_ _
         go_wp2_with fail
         go_meet
         exact ⟨g12_32,g13_26,rfl,rfl,T2⟩
      case rest =>
       obtain ⟨g12,g13,rfl,rfl,T6⟩:=hcut
       have IA2:=hide (IA.out.does x)
       have IB2:=hide (IB.out.does y)
       have SA2:=hide (IA.out.st SA.out x)
       have SB2:=hide (IB.out.st SB.out y)
       have AA2:=hide (show (doM A x).1.acts=k+1 by rw [acts_do (by omega),HAa.out])
       have AB2:=hide (show (doM B y).1.acts=k+1 by rw [acts_do (by omega),HBa.out])
       have DT:=hide (fun h1 h2=>do_tw IA.out IB.out SA.out SB.out (by omega) (by omega) hs4 TA.out TW.out h1 h2)
       have RP:=hide (fun h=>do_reply (by omega) (by omega) hs4 TA.out TW.out (M:=A) (M':=B) h)
       obtain ⟨p1,p2,p3⟩:=told_small IA2.out hs4
       obtain ⟨q1,q2,q3⟩:=told_small IB2.out hs4
       have c12:=hide (T6.get (b:=⟨g12,rp (doM A x).2,29⟩) (by simp))
       have T7:=hide T6
       clear IA IB SA SB TA TW HAa HBa Zx Zy T6 c12
       generalize (doM A x).1=A2 at *
       generalize (doM B y).1=B2 at *
       generalize (doM A x).2=ra at *
       generalize (doM B y).2=rb at *
       clear aA aB g1110
       go_wp2_with fail
       obtain ⟨la,L1⟩:=T7.out.left
       have S1:=state_any L1 (s:Int)
       rw [sil_nat A2 hs4] at S1
       refine S1.mono ?_
       rintro e w4 ⟨rfl,b4⟩
       have T8:=hide (T7.out.below b4)
       clear L1 S1 T7 b4
       go_wp2_with fail
       obtain ⟨lb,L2⟩:=T8.out.right
       have S2:=state_any L2 (s:Int)
       rw [sil_nat B2 hs4] at S2
       refine S2.mono ?_
       rintro e w5 ⟨rfl,b5⟩
       have T9:=hide (T8.out.below b5)
       clear L2 S2 T8 b5
       go_wp2_with fail
       obtain ⟨la,L1⟩:=T9.out.left
       have S1:=told_any L1 (s:Int) (by rw [sil_nat A2 hs4]; exact p1)
       rw [sil_nat A2 hs4] at S1
       refine S1.mono ?_
       rintro e w6 ⟨v6,rfl,o6,b6⟩
       have T10:=hide (T9.out.below b6)
       have O6:=hide o6
       clear L1 S1 T9 b6 o6
       go_wp2_with fail
       obtain ⟨lb,L2⟩:=T10.out.right
       have S2:=told_any L2 (s:Int) (by rw [sil_nat B2 hs4]; exact q1)
       rw [sil_nat B2 hs4] at S2
       refine S2.mono ?_
       rintro e w7 ⟨v7,rfl,o7,b7⟩
       have T11:=hide (T10.out.below b7)
       have CT:=hide (sametexts_any (toldOf (A2.seat s)) (toldOf (B2.seat s)) v6 v7 w7 (reads_below (n:=0) O6.out b7) (reads_own o7))
       obtain ⟨av6,cap6,rfl⟩:=own_shape O6.out
       obtain ⟨av7,cap7,rfl⟩:=own_shape o7
       clear L2 S2 T10 b7 o7 O6
       go_wp2_with fail
       by_cases ht:toldOf (A2.seat s)=toldOf (B2.seat s)
       ·rw [decide_eq_true ht] at CT
        refine CT.out.mono ?_
        rintro e w8 ⟨rfl,n8,rfl⟩
        have T12:=hide (T11.out.below (below_drewN (Below.refl _ _) n8))
        by_cases hst:(stateOf (A2.seat s)).1=(stateOf (B2.seat s)).1
        ·have hsb:((stateOf (A2.seat s)).1 != (stateOf (B2.seat s)).1)=false:=by simp [hst]
         have hnone:(B2.seat s).isNone=(A2.seat s).isNone:=by
          have e1:=state_none (A2.seat s)
          have e2:=state_none (B2.seat s)
          rw [hst] at e1
          rw [Bool.eq_iff_iff]
          exact e2.symm.trans e1
         have TW2:=hide (DT.out ht.symm hnone)
         have CE:=TW2.out.page
         obtain ⟨pe,le⟩:=CE
         clear CT T11 ht hst hnone DT
         generalize w7.drewN n8=w8 at *
         go_wp2_with fail
         obtain ⟨la,L1⟩:=T12.out.left
         have S1:=page_any L1 (s:Int) (by rw [sil_nat A2 hs4]; exact p2)
         rw [sil_nat A2 hs4] at S1
         refine S1.mono ?_
         rintro e w9 ⟨v9,rfl,o9,b9⟩
         have T13:=hide (T12.out.below b9)
         have O9:=hide o9
         clear L1 S1 T12 b9 o9
         go_wp2_with fail
         obtain ⟨lb,L2⟩:=T13.out.right
         have S2:=page_any L2 (s:Int) (by rw [sil_nat B2 hs4]; exact q2)
         rw [sil_nat B2 hs4,pe] at S2
         refine S2.mono ?_
         rintro e w10 ⟨v10,rfl,o10,b10⟩
         have T14:=hide (T13.out.below b10)
         have CT:=hide (samepage_eq (pageOf (A2.seat s)) v9 v10 w10 (reads_below (n:=0) O9.out b10) (reads_own o10))
         obtain ⟨av9,cap9,rfl⟩:=own_shape O9.out
         obtain ⟨av10,cap10,rfl⟩:=own_shape o10
         clear L2 S2 T13 b10 o10 O9
         go_wp2_with fail
         refine CT.out.mono ?_
         rintro e w11 ⟨rfl,b11⟩
         have T15:=hide (T14.out.below b11)
         clear CT T14 b11
         go_wp2_with fail
         obtain ⟨la,L1⟩:=T15.out.left
         have S1:=line_any L1 (s:Int) (by rw [sil_nat A2 hs4]; exact p3)
         rw [sil_nat A2 hs4] at S1
         refine S1.mono ?_
         rintro e w12 ⟨v12,rfl,o12,b12⟩
         have T16:=hide (T15.out.below b12)
         have O12:=hide o12
         clear L1 S1 T15 b12 o12
         go_wp2_with fail
         obtain ⟨lb,L2⟩:=T16.out.right
         have S2:=line_any L2 (s:Int) (by rw [sil_nat B2 hs4]; exact q3)
         rw [sil_nat B2 hs4,le] at S2
         refine S2.mono ?_
         rintro e w13 ⟨v13,rfl,o13,b13⟩
         have T17:=hide (T16.out.below b13)
         have CT:=hide (sameline_eq (lineOf (A2.seat s)) v12 v13 w13 (reads_below (n:=0) O12.out b13) (reads_own o13))
         obtain ⟨av12,cap12,rfl⟩:=own_shape O12.out
         obtain ⟨av13,cap13,rfl⟩:=own_shape o13
         clear L2 S2 T16 b13 o13 O12
         go_wp2_with fail
         refine CT.out.mono ?_
         rintro e w14 ⟨rfl,b14⟩
         have T18:=T17.out.below b14
         obtain ⟨cx0,cx1⟩:=act_cell (T18.get (b:=⟨g10,x.cells,23⟩) (by simp))
         have c12:=hide (T18.get (b:=⟨g12,rp ra,29⟩) (by simp))
         have c13:=hide (T18.get (b:=⟨g13,rp rb,29⟩) (by simp))
         have T19:=hide (T18.sub (K':=[]) (by simp))
         clear CT T17 b14 T18 pe le
         by_cases d1:x.seat=(s:Int)
         ·rw [d1] at cx1
          have hr:=RP.out (.inl d1)
          rw [hr] at c13
          clear RP d1 hr cx0
          go_wp2_with (first | (refine wl_wanted rfl (wp_load_row 29 (.tmp 12) rfl g12 rfl 29 (rp ra) (0,0) _ c12.out Tryz.underlying29 rfl Tryz.sizeReply ?_)) | (refine wl_wanted rfl (wp_load_row 29 (.tmp 13) rfl g13 rfl 29 (rp ra) (0,0) _ c13.out Tryz.underlying29 rfl Tryz.sizeReply ?_)) | (refine wl_nerep (.tmp 121) (.tmp 122) _ rfl rfl rfl rfl ?_))
          go_roundw
          case rel=>exact ⟨k+1,A2,B2,by omega,by omega,by go_num,T19.out,IA2.out,IB2.out,SA2.out,SB2.out,AA2.out,AB2.out,TW2.out⟩
          case measure=>simp [intOf]; omega
         ·have d1b:(x.seat==(s:Int))=false:=by simp [d1]
          by_cases d5:x.kind=5
          ·rw [d5] at cx0
           have hr:=RP.out (.inr d5)
           rw [hr] at c13
           clear RP d1 hr d5
           go_wp2_with (first | (refine wl_wanted rfl (wp_load_row 29 (.tmp 12) rfl g12 rfl 29 (rp ra) (0,0) _ c12.out Tryz.underlying29 rfl Tryz.sizeReply ?_)) | (refine wl_wanted rfl (wp_load_row 29 (.tmp 13) rfl g13 rfl 29 (rp ra) (0,0) _ c13.out Tryz.underlying29 rfl Tryz.sizeReply ?_)) | (refine wl_nerep (.tmp 121) (.tmp 122) _ rfl rfl rfl rfl ?_))
           go_roundw
           case rel=>exact ⟨k+1,A2,B2,by omega,by omega,by go_num,T19.out,IA2.out,IB2.out,SA2.out,SB2.out,AA2.out,AB2.out,TW2.out⟩
           case measure=>simp [intOf]; omega
          ·have d5b:(x.kind==5)=false:=by simp [d5]
           clear RP d1 d5 c12 c13
           go_wp2
           go_roundw
           case rel=>exact ⟨k+1,A2,B2,by omega,by omega,by go_num,T19.out,IA2.out,IB2.out,SA2.out,SB2.out,AA2.out,AB2.out,TW2.out⟩
           case measure=>simp [intOf]; omega
        ·have hsb:((stateOf (A2.seat s)).1 != (stateOf (B2.seat s)).1)=true:=by simp [hst]
         have BB:=hide T12.out.low
         clear CT T11 ht hst DT RP T12 p1 p2 p3 q1 q2 q3
         generalize w7.drewN n8=w8 at *
         go_wp2
         go_ret
         exact ⟨rfl,BB.out⟩
       ·rw [decide_eq_false ht] at CT
        refine CT.out.mono ?_
        rintro e w8 ⟨rfl,n8,rfl⟩
        have BB:=hide (T11.out.below (below_drewN (Below.refl _ _) n8)).low
        clear CT T11 ht DT RP p1 p2 p3 q1 q2 q3
        generalize w7.drewN n8=w8 at *
        go_wp2
        go_ret
        exact ⟨rfl,BB.out⟩
   ·obtain rfl:k=150:=by omega
    have hki3:((150:Nat):Int) < (l.length:Int):=by omega
    have BB:=hide Tk.low
    clear Tk hIA hIB hSA hSB hA hB hTw HCL
    go_wp2
    go_ret
    exact ⟨rfl,BB.out⟩
  ·obtain rfl:k=l.length:=by omega
   have hki3:¬ (l.length:Int) < (l.length:Int):=by omega
   have BB:=hide Tk.low
   clear Tk hIA hIB hSA hSB hA hB hTw HCL
   go_wp2
   go_ret
   exact ⟨rfl,BB.out⟩
end Go.Proofs.YtncgcejlkmoliaaGreatDoor.Ho
