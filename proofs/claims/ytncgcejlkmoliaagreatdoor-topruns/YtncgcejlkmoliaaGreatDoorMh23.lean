import Derived.Test.YtncgcejlkmoliaaGreatDoorMh46
import Derived.Lib.AppendStr
import Derived.Laws.BytesString
set_option linter.unusedVariables false
set_option maxRecDepth 100000
set_option maxHeartbeats 16000000
namespace Go.Proofs.YtncgcejlkmoliaaGreatDoor.Te
open Go.RowKit
def bcells (l:List UInt8):List Value:=l.map fun b=>Value.int .u8 b.toNat
theorem foldl_push (l:List UInt8):∀ (r:ByteArray),(l.map fun b=>(b.toNat:Int)).foldl (fun r n=>r.push (UInt8.ofNat n.toNat)) r=⟨(r.data.toList++l).toArray⟩:=by
 induction l with
 | nil=>intro r; cases r; simp
 | cons a l ih =>
  intro r
  simp only [List.map_cons,List.foldl_cons]
  rw [ih]
  cases r
  simp [ByteArray.push]
theorem conv_bytes (w:World) (a:Addr) (n c:Nat) (l:List UInt8) (hn:n=l.length) (h:∀ j v,(bcells l)[j]?=some v→w.cell? (a.add j)=some v) :
 (convert 123 9 (.slice (some a) n c)).run Tryz.prog w=.ok (.string ⟨l.toArray⟩) w:=by
 subst hn
 rw [run_convert_bytes_string w 123 9 5 (some a) _ c Tryz.underlying123 Tryz.underlying5 Tryz.underlying9]
 have hc:=run_loadCells_list (P:=Tryz.prog) (w:=w) a (bcells l) h
 have e:bcells l=(l.map fun b=>(b.toNat:Int)).map (Value.int .u8):=by simp [bcells]
 rw [run_bytesToString w a l.length c (l.map fun b=>(b.toNat:Int)) (by rw [← e]; simpa [bcells] using hc),foldl_push]
 simp
def sayL (v o:Int):List UInt8:=[255,UInt8.ofNat v.toNat,UInt8.ofNat o.toNat]
def sayB (v o:Int):ByteArray:=⟨(sayL v o).toArray⟩
theorem byteOf (v:Int) (hv:0≤v) (hv':v≤255):(((UInt8.ofNat v.toNat).toNat:Nat):Int)=v:=by
 simp [UInt8.toNat_ofNat']; omega
theorem conv_say (v o:Int) (hv:0≤v) (hv':v≤255) (ho:0≤o) (ho':o≤255) (w:World) :
 (convert 123 9 (.slice (some ⟨w.heap.size,0,none⟩) 3 3)).run Tryz.prog (w.alloc (.cells #[.int .u8 255,.int .u8 v,.int .u8 o] 5))=.ok (.string (sayB v o)) (w.alloc (.cells #[.int .u8 255,.int .u8 v,.int .u8 o] 5)):=by
 refine conv_bytes _ _ 3 3 (sayL v o) rfl ?_
 intro j u hj
 have e:bcells (sayL v o)=[.int .u8 255,.int .u8 v,.int .u8 o]:=by
  simp only [bcells,sayL,List.map_cons,List.map_nil]
  rw [byteOf v hv hv',byteOf o ho ho']
  rfl
 rw [e] at hj
 have hadd:(⟨w.heap.size,0,none⟩:Addr).add j=⟨w.heap.size,j,none⟩:=by unfold Addr.add; split <;> simp_all
 rw [hadd,World.cell?_alloc_at _ _ _ _ rfl]
 simpa using hj
theorem say_any (v o:Int) (hv:0≤v) (hv':v≤255) (ho:0≤o) (ho':o≤255) (w:World) :
 Calls Tryz.prog 115 #[.int .i64 v,.int .i64 o] w fun e w'=>e=.returned (.string (sayB v o))∧Below w.heap.size w w':=by
 have hcv:=conv_say v o hv hv' ho ho' w
 go_enter Tryz.func115,Tryz.ntmps115
 go_wp2
 go_ret
 exact ⟨rfl,(Below.refl _ _).alloc (Nat.le_refl _) _⟩
theorem begin_nil (ag re o:Int) (hv:0≤re) (hv':re≤255) (ho:0≤o) (ho':o≤255) (w:World) :
 Calls Tryz.prog 95 #[.pointer none,.int .i64 ag,.int .i64 re,.int .i64 o] w fun e w'=>e=.returned (.string (sayB re o))∧Below w.heap.size w w':=by
 go_enter Tryz.func95,Tryz.ntmps95
 go_wp2_with (go_at_call 115; refine (say_any _ _ hv hv' ho ho' _).mono ?_; rintro e w' ⟨rfl,hb⟩)
 go_ret
 exact ⟨rfl,hb⟩
theorem begin_no (b f:Nat) (ag re o:Int) (hv:0≤ag) (hv':ag≤255) (ho:0≤o) (ho':o≤255) (w:World) (hc:w.cell? ⟨b,f,none⟩=some (.int .i64 0)) (hf:w.frozen? ⟨b,f,none⟩=false) :
 Calls Tryz.prog 95 #[.pointer (some ⟨b,f,none⟩),.int .i64 ag,.int .i64 re,.int .i64 o] w fun e w'=>e=.returned (.string (sayB ag o))∧Below w.heap.size (w.setCell ⟨b,f,none⟩ (.int .i64 1)) w':=by
 go_enter Tryz.func95,Tryz.ntmps95
 go_wp2_with (go_at_call 115; refine (say_any _ _ hv hv' ho ho' _).mono ?_; rintro e w' ⟨rfl,hb⟩)
 go_ret
 exact ⟨rfl,hb.mono (by simp)⟩
theorem begin_yes (b f:Nat) (ag re o n:Int) (hn:(n==0)=false) (w:World) (hc:w.cell? ⟨b,f,none⟩=some (.int .i64 n)) (hf:w.frozen? ⟨b,f,none⟩=false) :
 Calls Tryz.prog 95 #[.pointer (some ⟨b,f,none⟩),.int .i64 ag,.int .i64 re,.int .i64 o] w fun e w'=>e=.returned (.string ⟨#[]⟩)∧w'=w.setCell ⟨b,f,none⟩ (.int .i64 1):=by
 go_enter Tryz.func95,Tryz.ntmps95
 go_wp2
 go_ret
 exact ⟨rfl,rfl⟩
theorem end_nil (ag o:Int) (w:World) :
 Calls Tryz.prog 97 #[.pointer none,.int .i64 ag,.int .i64 o] w fun e w'=>e=.returned (.string ⟨#[]⟩)∧w'=w:=by
 go_enter Tryz.func97,Tryz.ntmps97
 go_wp2
 go_ret
 exact ⟨rfl,rfl⟩
theorem end_yes (b f:Nat) (ag o:Int) (hv:0≤ag) (hv':ag≤255) (ho:0≤o) (ho':o≤255) (w:World) (hc:w.cell? ⟨b,f,none⟩=some (.int .i64 1)) (hf:w.frozen? ⟨b,f,none⟩=false) :
 Calls Tryz.prog 97 #[.pointer (some ⟨b,f,none⟩),.int .i64 ag,.int .i64 o] w fun e w'=>e=.returned (.string (sayB ag o))∧Below w.heap.size (w.setCell ⟨b,f,none⟩ (.int .i64 0)) w':=by
 go_enter Tryz.func97,Tryz.ntmps97
 go_wp2_with (go_at_call 115; refine (say_any _ _ hv hv' ho ho' _).mono ?_; rintro e w' ⟨rfl,hb⟩)
 go_ret
 exact ⟨rfl,hb.mono (by simp)⟩
theorem end_no (b f:Nat) (ag o n:Int) (hn:(n==1)=false) (w:World) (hc:w.cell? ⟨b,f,none⟩=some (.int .i64 n)) (hf:w.frozen? ⟨b,f,none⟩=false) :
 Calls Tryz.prog 97 #[.pointer (some ⟨b,f,none⟩),.int .i64 ag,.int .i64 o] w fun e w'=>e=.returned (.string ⟨#[]⟩)∧w'=w.setCell ⟨b,f,none⟩ (.int .i64 0):=by
 go_enter Tryz.func97,Tryz.ntmps97
 go_wp2
 go_ret
 exact ⟨rfl,rfl⟩
open Go.RowKit
def cmd (t:Tel) (c:Int):Tel :=
 if c=250 then { t with pos:=3,sub:=⟨#[]⟩ } else if 251≤c∧c≤254 then { t with pos:=2,verb:=c } else { t with pos:=0 }
def setl (t:Tel) (o:Int):Tel × List UInt8 :=
 if t.verb=253 then
  if o=1 then ({ t with pos:=0,verb:=0,u0:=1 },if t.u0=0 then sayL 251 1 else [])
  else if o=3 then ({ t with pos:=0,verb:=0,u1:=1 },if t.u1=0 then sayL 251 3 else [])
  else ({ t with pos:=0,verb:=0 },sayL 252 o)
 else if t.verb=254 then
  if o=1 then ({ t with pos:=0,verb:=0,u0:=0 },if t.u0=1 then sayL 252 1 else [])
  else if o=3 then ({ t with pos:=0,verb:=0,u1:=0 },if t.u1=1 then sayL 252 3 else [])
  else ({ t with pos:=0,verb:=0 },[])
 else if t.verb=251 then
  if o=3 then ({ t with pos:=0,verb:=0,t1:=1 },if t.t1=0 then sayL 253 3 else [])
  else if o=31 then ({ t with pos:=0,verb:=0,t2:=1 },if t.t2=0 then sayL 253 31 else [])
  else ({ t with pos:=0,verb:=0 },sayL 254 o)
 else if t.verb=252 then
  if o=3 then ({ t with pos:=0,verb:=0,t1:=0 },if t.t1=1 then sayL 254 3 else [])
  else if o=31 then ({ t with pos:=0,verb:=0,t2:=0 },if t.t2=1 then sayL 254 31 else [])
  else ({ t with pos:=0,verb:=0 },[])
 else ({ t with pos:=0,verb:=0 },[])
def kp (t:Tel) (c:UInt8):Tel:=if t.sub.size < 16 then { t with sub:=t.sub++⟨#[c]⟩ } else t
def fin (t:Tel) (c:UInt8):Tel :=
 { t with pos:=0,sub:=⟨#[]⟩,height:=if c=240∧t.sub.size=5∧t.sub.data.toList.getD 0 0=31∧t.t2=1 then min (256*((t.sub.data.toList.getD 3 0).toNat:Int)+((t.sub.data.toList.getD 4 0).toNat:Int)) 200 else t.height }
def Cod (w:World) (b:Nat) (t:Tel):Prop:=w.heap[b]?=some (.cells t.cells 79 (0,0))
theorem Cod.cell {w:World} {b:Nat} {t:Tel} (h:Cod w b t) (o:Nat):w.cell? ⟨b,o,none⟩=t.cells[o]?:=by
 unfold Cod at h; simp [World.cell?,h]
theorem Cod.frozen {w:World} {b:Nat} {t:Tel} (h:Cod w b t) (o:Nat):w.frozen? ⟨b,o,none⟩=false:=by
 unfold Cod at h; simp [World.frozen?,h]
theorem Cod.lt {w:World} {b:Nat} {t:Tel} (h:Cod w b t):b < w.heap.size:=(Array.getElem?_eq_some_iff.1 h).1
theorem Cod.all {w:World} {b:Nat} {t:Tel} (h:Cod w b t) :
 w.cell? ⟨b,0,none⟩=some (.int .i64 t.pos)∧w.cell? ⟨b,1,none⟩=some (.int .i64 t.verb)∧w.cell? ⟨b,2,none⟩=some (.string t.sub) ∧
 w.cell? ⟨b,3,none⟩=some (.int .i64 t.u0)∧w.cell? ⟨b,4,none⟩=some (.int .i64 t.u1)∧w.cell? ⟨b,5,none⟩=some (.int .i64 t.u2) ∧
 w.cell? ⟨b,6,none⟩=some (.int .i64 t.t0)∧w.cell? ⟨b,7,none⟩=some (.int .i64 t.t1)∧w.cell? ⟨b,8,none⟩=some (.int .i64 t.t2) ∧
 w.cell? ⟨b,9,none⟩=some (.int .i64 t.height)∧∀ o,w.frozen? ⟨b,o,none⟩=false :=
 ⟨h.cell 0,h.cell 1,h.cell 2,h.cell 3,h.cell 4,h.cell 5,h.cell 6,h.cell 7,h.cell 8,h.cell 9,h.frozen⟩
theorem cod_mk {w:World} {b:Nat} {t:Tel} {cs:Array Value} (h:w.heap[b]?=some (.cells cs 79 (0,0))) (e:cs=t.cells):Cod w b t:=by
 subst e; exact h
theorem cod_set {w:World} {b:Nat} {cs:Array Value} (h:w.heap[b]?=some (.cells cs 79 (0,0))) (o:Nat) (v:Value) :
 (w.setCell ⟨b,o,none⟩ v).heap[b]?=some (.cells (cs.setIfInBounds o v) 79 (0,0)):=heap_setCell_same w b o cs 79 v h
theorem cod_drewN {w:World} {b:Nat} {cs:Array Value} (h:w.heap[b]?=some (.cells cs 79 (0,0))) (n:Nat):(w.drewN n).heap[b]?=some (.cells cs 79 (0,0)):=h
theorem cod_below {w w':World} {b:Nat} {cs:Array Value} {B:Nat} (h:w.heap[b]?=some (.cells cs 79 (0,0))) (hb:Below B w w') (hB:b < B):w'.heap[b]?=some (.cells cs 79 (0,0)):=by
 rw [hb.block b hB]; exact h
theorem cod_drew {w:World} {b:Nat} {cs:Array Value} (h:w.heap[b]?=some (.cells cs 79 (0,0))):w.drew.heap[b]?=some (.cells cs 79 (0,0)):=h
theorem cod_alloc {w:World} {b:Nat} {cs:Array Value} (h:w.heap[b]?=some (.cells cs 79 (0,0))) (o:Obj):(w.alloc o).heap[b]?=some (.cells cs 79 (0,0)):=by
 rw [Below.heap_alloc _ _ _ (Array.getElem?_eq_some_iff.1 h).1]; exact h
theorem grown_refl (w:World) (r:Option Nat):w.grownBy w r:=⟨rfl,rfl,rfl,Nat.le_refl _,fun _ _ _=>rfl⟩
theorem grown_trans {a b c:World} {r:Option Nat} (h:a.grownBy b r) (k:b.grownBy c r):a.grownBy c r :=
 ⟨k.os.trans h.os,k.tape.trans h.tape,k.output.trans h.output,Nat.le_trans h.size k.size,fun i hi hn=>(k.block i (Nat.lt_of_lt_of_le hi h.size) hn).trans (h.block i hi hn)⟩
theorem grown_set {a w:World} {b:Nat} (h:a.grownBy w (some b)) (o:Nat) (v:Value):a.grownBy (w.setCell ⟨b,o,none⟩ v) (some b) :=
 grown_trans h ⟨rfl,rfl,rfl,by simp [World.setCell],fun k _ hk=>Below.heap_setCell _ _ _ _ (by intro e; apply hk; simp [e])⟩
theorem grown_below {a w w':World} {r:Option Nat} {B:Nat} (h:a.grownBy w r) (hb:Below B w w') (hB:a.heap.size≤B):a.grownBy w' r :=
 ⟨hb.os.trans h.os,hb.tape.trans h.tape,hb.output.trans h.output,Nat.le_trans h.size hb.size,fun i hi hn=>(hb.block i (by omega)).trans (h.block i hi hn)⟩
theorem grown_drew {a w:World} {r:Option Nat} (h:a.grownBy w r):a.grownBy w.drew r:=⟨h.os,h.tape,h.output,h.size,h.block⟩
theorem grown_alloc {a w:World} {r:Option Nat} (h:a.grownBy w r) (o:Obj):a.grownBy (w.alloc o) r:=grown_trans h (World.grownBy_alloc w o r)
theorem grown_drewN {a w:World} {r:Option Nat} (h:a.grownBy w r) (n:Nat):a.grownBy (w.drewN n) r:=⟨h.os,h.tape,h.output,h.size,h.block⟩
theorem command_any (t:Tel) (b:Nat) (c:Int) (w:World) (h:Cod w b t) :
 Calls Tryz.prog 77 #[.pointer (some ⟨b,0,none⟩),.int .i64 c] w fun e w'=>e=.returned (.tuple #[])∧Cod w' b (cmd t c)∧w.grownBy w' (some b):=by
 obtain ⟨c0,c1,c2,c3,c4,c5,c6,c7,c8,c9,hfz⟩:=h.all
 by_cases h250:c=250
 ·subst h250
  go_enter Tryz.func77,Tryz.ntmps77
  go_wp2
  go_end0
  exact ⟨rfl,cod_mk (cod_set (cod_set h _ _) _ _) rfl,grown_set (grown_set (grown_refl _ _) _ _) _ _⟩
 by_cases h251:c=251
 ·subst h251
  go_enter Tryz.func77,Tryz.ntmps77
  go_wp2
  go_end0
  exact ⟨rfl,cod_mk (cod_set (cod_set h _ _) _ _) rfl,grown_set (grown_set (grown_refl _ _) _ _) _ _⟩
 by_cases h252:c=252
 ·subst h252
  go_enter Tryz.func77,Tryz.ntmps77
  go_wp2
  go_end0
  exact ⟨rfl,cod_mk (cod_set (cod_set h _ _) _ _) rfl,grown_set (grown_set (grown_refl _ _) _ _) _ _⟩
 by_cases h253:c=253
 ·subst h253
  go_enter Tryz.func77,Tryz.ntmps77
  go_wp2
  go_end0
  exact ⟨rfl,cod_mk (cod_set (cod_set h _ _) _ _) rfl,grown_set (grown_set (grown_refl _ _) _ _) _ _⟩
 by_cases h254:c=254
 ·subst h254
  go_enter Tryz.func77,Tryz.ntmps77
  go_wp2
  go_end0
  exact ⟨rfl,cod_mk (cod_set (cod_set h _ _) _ _) rfl,grown_set (grown_set (grown_refl _ _) _ _) _ _⟩
 have e0:(c==250)=false:=by simpa using h250
 have e1:(c==251)=false:=by simpa using h251
 have e2:(c==252)=false:=by simpa using h252
 have e3:(c==253)=false:=by simpa using h253
 have e4:(c==254)=false:=by simpa using h254
 have HC:Hid (cmd t c={ t with pos:=0 }):=by unfold cmd; rw [if_neg h250,if_neg (by omega)]; rfl
 go_enter Tryz.func77,Tryz.ntmps77
 go_wp2
 go_end0
 exact ⟨rfl,by rw [HC.out]; exact cod_mk (cod_set h _ _) rfl,grown_set (grown_refl _ _) _ _⟩
theorem keep_any (t:Tel) (b:Nat) (c:UInt8) (w:World) (h:Cod w b t) (hs:t.sub.size≤16) :
 Calls Tryz.prog 79 #[.pointer (some ⟨b,0,none⟩),.int .u8 c.toNat] w fun e w'=>e=.returned (.tuple #[])∧Cod w' b (kp t c)∧w.grownBy w' (some b):=by
 obtain ⟨c0,c1,c2,c3,c4,c5,c6,c7,c8,c9,hfz⟩:=h.all
 by_cases hlt:t.sub.size < 16
 ·have HC:Hid (kp t c={ t with sub:=t.sub++⟨#[c]⟩ }):=by unfold kp; rw [if_pos hlt]; rfl
  have hcv:∀ W:World,W.cell? ⟨w.heap.size,0,none⟩=some (.int .u8 c.toNat)→(convert 123 9 (.slice (some ⟨w.heap.size,0,none⟩) 1 1)).run Tryz.prog W=.ok (.string ⟨#[c]⟩) W:=fun W hW=>by
   refine conv_bytes W _ 1 1 [c] rfl ?_
   intro j v hj
   cases j with
   | zero=>simp [bcells] at hj; subst hj; exact hW
   | succ j=>simp [bcells] at hj
  have hbl:=h.lt
  have hcc:¬ 9223372036854775807 < t.sub.size+1:=by omega
  go_enter Tryz.func79,Tryz.ntmps79
  go_wp2
  go_region
  go_wp2
  go_end0
  exact ⟨rfl,by rw [HC.out]; exact cod_mk (cod_drew (cod_alloc (cod_set h _ _) _)) rfl,grown_drew (grown_alloc (grown_set (grown_refl _ _) _ _) _)⟩
 ·have HC:Hid (kp t c=t):=by unfold kp; rw [if_neg hlt]; rfl
  go_enter Tryz.func79,Tryz.ntmps79
  go_wp2
  go_end0
  exact ⟨rfl,by rw [HC.out]; exact h,grown_refl _ _⟩
theorem five (s:ByteArray) (h:s.size=5):∃ x0 x1 x2 x3 x4:UInt8,s=⟨#[x0,x1,x2,x3,x4]⟩:=by
 obtain ⟨⟨l⟩⟩:=s
 have h':l.length=5:=h
 match l,h' with
 | [x0,x1,x2,x3,x4],_=>exact ⟨x0,x1,x2,x3,x4,rfl⟩
theorem byte_beq (c:UInt8) (n:Nat) (hn:n < 256):(((c.toNat:Nat):Int)==(n:Int))=decide (c=UInt8.ofNat n):=by
 rw [Bool.eq_iff_iff]
 simp only [beq_iff_eq,decide_eq_true_eq]
 constructor
 ·intro h; apply UInt8.toNat.inj; rw [UInt8.toNat_ofNat']; omega
 ·intro h; subst h; rw [UInt8.toNat_ofNat']; omega
theorem or_bytes (x y:UInt8):bits BinOp.or IntKind.i64 (wrap64 (wrap64 ((x.toNat:Nat):Int)*256)) (wrap64 ((y.toNat:Nat):Int))=256*((x.toNat:Nat):Int)+((y.toNat:Nat):Int):=by
 have hx:x.toNat < 256:=x.toNat_lt
 have hy:y.toNat < 256:=y.toNat_lt
 generalize x.toNat=a at *
 generalize y.toNat=b at *
 have e1:wrap64 ((a:Nat):Int)=a:=by unfold wrap64; omega
 have e2:wrap64 (((a:Nat):Int)*256)=((a*256:Nat):Int):=by unfold wrap64; omega
 have e3:wrap64 ((b:Nat):Int)=b:=by unfold wrap64; omega
 rw [e1,e2,e3]
 show IntKind.i64.wrap ((BitVec.ofInt 64 ((a*256:Nat):Int) ||| BitVec.ofInt 64 (b:Int)).toNat:Int)=_
 have n1:(BitVec.ofInt 64 ((a*256:Nat):Int)).toNat=a*256:=by rw [BitVec.ofInt_natCast,BitVec.toNat_ofNat]; omega
 have n2:(BitVec.ofInt 64 (b:Int)).toNat=b:=by rw [BitVec.ofInt_natCast,BitVec.toNat_ofNat]; omega
 have e4:a*256 ||| b=a*256+b:=by
  have:=Nat.shiftLeft_add_eq_or_of_lt (i:=8) (b:=b) (by omega) a
  rw [Nat.shiftLeft_eq] at this
  exact this.symm
 rw [BitVec.toNat_or,n1,n2,e4]
 simp only [IntKind.wrap,IntKind.bits,IntKind.signed]
 simp
 omega
open Go.RowKit
theorem hide {p:Prop} (h:p):Hid p:=h
theorem finish_yes (t:Tel) (b:Nat) (w:World) (hcd:Cod w b t) (x1 x2 x3 x4:UInt8) (hx:t.sub=⟨#[31,x1,x2,x3,x4]⟩) (h2:t.t2=1) :
 Calls Tryz.prog 80 #[.pointer (some ⟨b,0,none⟩),.int .u8 240] w fun e w'=>e=.returned (.tuple #[])∧Cod w' b { t with pos:=0,sub:=⟨#[]⟩,height:=min (256*(x3.toNat:Int)+(x4.toNat:Int)) 200 }∧w.grownBy w' (some b):=by
 obtain ⟨c0,c1,c2,c3,c4,c5,c6,c7,c8,c9,hfz⟩:=hcd.all
 rw [hx] at c2
 rw [h2] at c8
 have hbl:=hcd.lt
 have i0:∀ h,(ByteArray.mk #[31,x1,x2,x3,x4])[0]'h=31:=fun _=>rfl
 have i3:∀ h,(ByteArray.mk #[31,x1,x2,x3,x4])[3]'h=x3:=fun _=>rfl
 have i4:∀ h,(ByteArray.mk #[31,x1,x2,x3,x4])[4]'h=x4:=fun _=>rfl
 have hor:=or_bytes x3 x4
 clear hx h2
 go_enter Tryz.func80,Tryz.ntmps80
 go_wp2_with (go_at_call 98; refine (theirs_31 _ _).mono ?_; rintro e w' ⟨rfl,n,rfl⟩)
 go_region
 all_goals go_wp2
 all_goals go_end0
 ·have hm:min (256*(x3.toNat:Int)+(x4.toNat:Int)) 200=200:=by omega
  rw [hm]
  exact ⟨rfl,cod_mk (cod_set (cod_set (cod_set (cod_drewN hcd _) _ _) _ _) _ _) rfl,grown_set (grown_set (grown_set (grown_drewN (grown_refl _ _) _) _ _) _ _) _ _⟩
 ·have hm:min (256*(x3.toNat:Int)+(x4.toNat:Int)) 200=256*(x3.toNat:Int)+(x4.toNat:Int):=by omega
  rw [hm]
  exact ⟨rfl,cod_mk (cod_set (cod_set (cod_set (cod_drewN hcd _) _ _) _ _) _ _) rfl,grown_set (grown_set (grown_set (grown_drewN (grown_refl _ _) _) _ _) _ _) _ _⟩
theorem finish_no (t:Tel) (b:Nat) (c:UInt8) (w:World) (h:Cod w b t) (hno:¬ (c=240∧t.sub.size=5∧t.sub.data.toList.getD 0 0=31∧t.t2=1)) (_hs:t.sub.size≤16) :
 Calls Tryz.prog 80 #[.pointer (some ⟨b,0,none⟩),.int .u8 c.toNat] w fun e w'=>e=.returned (.tuple #[])∧Cod w' b { t with pos:=0,sub:=⟨#[]⟩ }∧w.grownBy w' (some b):=by
 obtain ⟨c0,c1,c2,c3,c4,c5,c6,c7,c8,c9,hfz⟩:=h.all
 have hbl:=h.lt
 by_cases h5:t.sub.size=5
 ·obtain ⟨x0,x1,x2,x3,x4,hx⟩:=five _ h5
  rw [hx] at c2
  have i0:∀ h,(ByteArray.mk #[x0,x1,x2,x3,x4])[0]'h=x0:=fun _=>rfl
  have k0:=byte_beq x0 31 (by omega)
  have kc:=byte_beq c 240 (by omega)
  by_cases h0:x0=31
  ·subst h0
   by_cases hc:c=240
   ·subst hc
    have h2:¬ t.t2=1:=fun e=>hno ⟨rfl,h5,by rw [hx]; rfl,e⟩
    have e2:(t.t2==1)=false:=by simpa using h2
    clear hno _hs h5 hx k0 kc h2
    go_enter Tryz.func80,Tryz.ntmps80
    go_wp2_with (go_at_call 98; refine (theirs_31 _ _).mono ?_; rintro e w' ⟨rfl,n,rfl⟩)
    go_end0
    exact ⟨rfl,cod_mk (cod_set (cod_set (cod_drewN h _) _ _) _ _) rfl,grown_set (grown_set (grown_drewN (grown_refl _ _) _) _ _) _ _⟩
   ·have ec:(((c.toNat:Nat):Int)==240)=false:=by simpa [hc] using kc
    clear hno _hs h5 hx k0 kc
    go_enter Tryz.func80,Tryz.ntmps80
    go_wp2
    go_end0
    exact ⟨rfl,cod_mk (cod_set (cod_set h _ _) _ _) rfl,grown_set (grown_set (grown_refl _ _) _ _) _ _⟩
  ·have ec:(((x0.toNat:Nat):Int)==31)=false:=by simpa [h0] using k0
   clear hno _hs h5 hx k0 kc
   go_enter Tryz.func80,Tryz.ntmps80
   go_wp2
   all_goals go_end0
   all_goals exact ⟨rfl,cod_mk (cod_set (cod_set h _ _) _ _) rfl,grown_set (grown_set (grown_refl _ _) _ _) _ _⟩
 ·have e5:((t.sub.size:Int)==5)=false:=by simp; omega
  clear hno
  go_enter Tryz.func80,Tryz.ntmps80
  go_wp2
  all_goals go_end0
  all_goals exact ⟨rfl,cod_mk (cod_set (cod_set h _ _) _ _) rfl,grown_set (grown_set (grown_refl _ _) _ _) _ _⟩
theorem finish_any (t:Tel) (b:Nat) (c:UInt8) (w:World) (h:Cod w b t) (hs:t.sub.size≤16) :
 Calls Tryz.prog 80 #[.pointer (some ⟨b,0,none⟩),.int .u8 c.toNat] w fun e w'=>e=.returned (.tuple #[])∧Cod w' b (fin t c)∧w.grownBy w' (some b):=by
 by_cases hall:c=240∧t.sub.size=5∧t.sub.data.toList.getD 0 0=31∧t.t2=1
 ·have e:fin t c={ t with pos:=0,sub:=⟨#[]⟩,height:=min (256*((t.sub.data.toList.getD 3 0).toNat:Int)+((t.sub.data.toList.getD 4 0).toNat:Int)) 200 }:=by
   unfold fin; rw [if_pos hall]
  rw [e]
  obtain ⟨hc,h5,h0,h2⟩:=hall
  obtain ⟨x0,x1,x2,x3,x4,hx⟩:=five _ h5
  rw [hx] at h0
  have h0':x0=31:=h0
  subst hc h0'
  have:=finish_yes t b w h x1 x2 x3 x4 hx h2
  rw [hx]
  exact this
 ·have e:fin t c={ t with pos:=0,sub:=⟨#[]⟩ }:=by
   unfold fin; rw [if_neg hall]
  rw [e]
  exact finish_no t b c w h hall hs
end Go.Proofs.YtncgcejlkmoliaaGreatDoor.Te
