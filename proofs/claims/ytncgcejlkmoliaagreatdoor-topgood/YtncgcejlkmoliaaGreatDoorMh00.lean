import Derived.Test.YtncgcejlkmoliaaGreatDoorRows
import Derived.WalkKit
import Derived.ProofKit
import Derived.OpenShut
import Derived.ShutString
import Derived.WalkSpells
import Derived.WalkLawsBesides
import Derived.Deep.QuietTactic
import Derived.BigQuiet
import Derived.Deep.RegionWith
import Derived.Deep.MidRow
import Derived.Deep.DeepCutAuto
import Derived.Deep.WholeRow
import Derived.Maps.AppendAt
import Derived.Laws.Rows
import Derived.Laws.StructEq
import Derived.Laws.IdiomStrings
import Derived.Laws.CopyOwn
import Derived.Lib.Walk
set_option linter.unusedVariables false
set_option maxRecDepth 100000
set_option maxHeartbeats 16000000
namespace Go.Proofs.YtncgcejlkmoliaaGreatDoor
open Go.RowKit
theorem hide {p:Prop} (h:p):Hid p:=h
theorem ret_int {a b:Int} (h:a=b):Ending.returned (.int .i64 a)=.returned (.int .i64 b):=by rw [h]
theorem ret_str {a b:ByteArray} (h:a=b):Ending.returned (.string a)=.returned (.string b):=by rw [h]
theorem ret_any {a b:Value} (h:a=b):Ending.returned a=.returned b:=by rw [h]
theorem ret_bool {a b:Bool} (h:a=b):Ending.returned (.bool a)=.returned (.bool b):=by rw [h]
theorem Tryz.cells4:Tryz.prog.cellsOf 4=1:=by kernel_rfl
theorem Tryz.info9:(Tryz.prog.info? 9).map (fun i=>(i.zero,i.size,i.bytes))=some (some (.string ⟨#[]⟩),1,16):=by kernel_rfl
theorem byte_beq (c:UInt8) (n:Nat) (hn:n < 256):(((c.toNat:Nat):Int)==(n:Int))=decide (c=UInt8.ofNat n):=by
 rw [Bool.eq_iff_iff]
 simp only [beq_iff_eq,decide_eq_true_eq]
 constructor
 ·intro h; apply UInt8.toNat.inj; rw [UInt8.toNat_ofNat']; omega
 ·intro h; subst h; rw [UInt8.toNat_ofNat']; omega
def Reads (w:World) (v:Value) (q:List ByteArray):Prop :=
 ∃ (av:Option Addr) (cap:Nat),v=.slice av q.length cap∧q.length≤cap∧cap≤maxLen∧(av=none→cap=0) ∧
  (0 < q.length→∃ b off,av=some ⟨b,off,none⟩∧∀ i (h:i < q.length),w.cell? ⟨b,off+i,none⟩=some (.string q[i]))
theorem cell_lt {w:World} {p:Addr} {v:Value} (h:w.cell? p=some v):p.block < w.heap.size:=by
 simp only [World.cell?] at h
 by_cases hx:p.block < w.heap.size
 ·exact hx
 ·rw [Array.getElem?_eq_none (by omega)] at h; simp at h
theorem Reads.below {w w':World} {v:Value} {q:List ByteArray} {B:Nat} (h:Reads w v q) (hb:Below B w w') (hB:w.heap.size≤B):Reads w' v q:=by
 obtain ⟨av,cap,e,hl,hm,hn,h⟩:=h
 refine ⟨av,cap,e,hl,hm,hn,fun h0=>?_⟩
 obtain ⟨b,off,ea,hc⟩:=h h0
 refine ⟨b,off,ea,fun i hi=>?_⟩
 have hlt:=cell_lt (hc i hi)
 rw [hb.cell (p:=⟨b,off+i,none⟩) (by simp at hlt ⊢; omega)]; exact hc i hi
theorem Reads.alloc {w:World} {v:Value} {q:List ByteArray} (h:Reads w v q) (o:Obj):Reads (w.alloc o) v q :=
 h.below ((Below.refl w.heap.size w).alloc (Nat.le_refl _) o) (Nat.le_refl _)
theorem reads_nil (w:World):Reads w (.slice none 0 0) []:=⟨none,0,rfl,Nat.le_refl _,Nat.zero_le _,fun _=>rfl,fun h=>by simp at h⟩
def scells (q:List ByteArray):List Value:=q.map .string
theorem scells_append (q r:List ByteArray):scells (q++r)=scells q++scells r:=by simp [scells]
theorem reads_own {w:World} {base:Nat} {v:Value} {q:List ByteArray} (h:w.ownsRow base 9 1 v q.length (scells q)):Reads w v q:=by
 rcases h.2 with ⟨rfl,h0⟩ | ⟨g,cap,cur,rfl,hbg,hgg,hnc,hcm,hcs,htake⟩
 ·rw [List.eq_nil_of_length_eq_zero h0]; exact reads_nil w
 ·refine ⟨some ⟨g,0,none⟩,cap,rfl,hnc,hcm,fun e=>by simp at e,fun _=>⟨g,0,rfl,fun i hi=>?_⟩⟩
  have:=h.cells (g:=g) rfl i (.string q[i]) (by simp [scells,hi])
  by_cases h0:i=0
  ·subst h0; simpa [Addr.add] using this
  ·simpa [Addr.add,h0] using this
theorem Reads.list {w:World} {a:Addr} {cap:Nat} {q:List ByteArray}
 (hc:0 < q.length→∃ b off,some a=some (⟨b,off,none⟩:Addr)∧∀ i (h:i < q.length),w.cell? ⟨b,off+i,none⟩=some (.string q[i])) :
 ∀ j u,(scells q)[j]?=some u→w.cell? (a.add j)=some u:=by
 intro j u hj
 have hlt:j < q.length:=by
  have:=(List.getElem?_eq_some_iff.1 hj).1; simpa [scells] using this
 obtain ⟨b,off,e,h⟩:=hc (by omega)
 injection e with e; subst e
 have e2:u=.string q[j]:=by
  simp [scells,hlt] at hj; exact hj.symm
 subst e2
 rw [← h j hlt]
 by_cases h0:j=0
 ·subst h0; rfl
 ·simp [Addr.add,h0]
theorem scells_one (q:List ByteArray):∀ u ∈ scells q,u.oneCell'=true:=by
 intro u hu; simp only [scells,List.mem_map] at hu; obtain ⟨s,_,rfl⟩:=hu; rfl
theorem own_empty (w:World):(w.alloc (.cells #[] 9)).ownsRow w.heap.size 9 1 (.slice (some ⟨w.heap.size,0,none⟩) 0 0) 0 [] :=
 ⟨rfl,.inr ⟨w.heap.size,0,#[],rfl,Nat.le_refl _,heap_alloc_new w _,Nat.le_refl _,Nat.zero_le _,rfl,rfl⟩⟩
theorem own_shape {w:World} {base:Nat} {v:Value} {n:Nat} {xs:List Value} (h:w.ownsRow base 9 1 v n xs):∃ (av:Option Addr) (cap:Nat),v=.slice av n cap:=by
 rcases h.2 with ⟨rfl,rfl⟩ | ⟨g,cap,cur,rfl,_⟩
 ·exact ⟨_,_,rfl⟩
 ·exact ⟨_,_,rfl⟩
theorem Reads.shape {w:World} {v:Value} {q:List ByteArray} (h:Reads w v q):∃ (av:Option Addr) (cap:Nat),v=.slice av q.length cap:=by
 obtain ⟨av,cap,e,_⟩:=h; exact ⟨av,cap,e⟩
theorem Reads.max {w:World} {v:Value} {q:List ByteArray} (h:Reads w v q):q.length≤maxLen:=by
 obtain ⟨av,cap,e,h1,h2,_⟩:=h; omega
def Far (B:Nat) (v:Value):Prop:=∀ b off n c,v=.slice (some ⟨b,off,none⟩) n c→B≤b
theorem far_own {w:World} {base:Nat} {v:Value} {n:Nat} {xs:List Value} (h:w.ownsRow base 9 1 v n xs):Far base v:=by
 intro b off n c e
 subst e
 exact (h.lt b rfl).1
theorem Far.mono {B C:Nat} {v:Value} (h:Far B v) (hC:C≤B):Far C v:=fun b off n c e=>Nat.le_trans hC (h b off n c e)
theorem reads_tail {w:World} {b off cap:Nat} {f:ByteArray} {r:List ByteArray} (h:Reads w (.slice (some ⟨b,off,none⟩) (f::r).length cap) (f::r)) :
 Reads w (.slice (if cap=1 then some ⟨b,off,none⟩ else some ⟨b,off+1,none⟩) r.length (cap - 1)) r:=by
 obtain ⟨av,cap',e,hl,hm,hn,hc⟩:=h
 injection e with e1 e2 e3
 subst e1 e3
 obtain ⟨b',off',e,hcell⟩:=hc (by simp)
 injection e with e; injection e with e1 e2
 subst e1 e2
 simp only [List.length_cons] at hl
 refine ⟨_,cap - 1,rfl,by omega,by omega,?_,?_⟩
 ·intro e; split at e <;> simp at e
 ·intro h0
  refine ⟨b,off+1,by rw [if_neg (by omega)],fun i hi=>?_⟩
  have:=hcell (i+1) (by simp; omega)
  rw [show off+1+i=off+(i+1) by omega,this]
  simp
def Off (v:Value) (q:List ByteArray) (B:Nat):Prop:=0 < q.length→∀ b off n c,v=.slice (some ⟨b,off,none⟩) n c→b ≠ B
theorem Reads.put {w:World} {v:Value} {q:List ByteArray} (h:Reads w v q) {B:Nat} (hB:Off v q B) (f:Nat) (x:Value):Reads (w.setCell ⟨B,f,none⟩ x) v q:=by
 obtain ⟨av,cap,rfl,hl,hm,hn,hc⟩:=h
 refine ⟨av,cap,rfl,hl,hm,hn,fun h0=>?_⟩
 obtain ⟨b,off,rfl,hcell⟩:=hc h0
 have hne:=hB h0 b off _ _ rfl
 refine ⟨b,off,rfl,fun i hi=>?_⟩
 rw [← hcell i hi]
 have e:=Below.heap_setCell w ⟨B,f,none⟩ x b hne
 simp only [World.cell?,e]
theorem Reads.lt {w:World} {v:Value} {q:List ByteArray} (h:Reads w v q) (h0:0 < q.length):∀ b off n c,v=.slice (some ⟨b,off,none⟩) n c→b < w.heap.size:=by
 obtain ⟨av,cap,rfl,hl,hm,hn,hc⟩:=h
 obtain ⟨b,off,rfl,hcell⟩:=hc h0
 intro b' off' n c e
 injection e with e1; injection e1 with e1; injection e1 with e1
 have:=cell_lt (hcell 0 h0)
 simp only at this
 omega
theorem off_old {w:World} {v:Value} {q:List ByteArray} {B:Nat} (h:Reads w v q) (hB:w.heap.size≤B):Off v q B:=fun h0 b off n c e=>by
 have:=h.lt h0 b off n c e; omega
theorem off_far {v:Value} {q:List ByteArray} {B C:Nat} (h:Far C v) (hB:B < C):Off v q B:=fun _ b off n c e=>by
 have:=h b off n c e; omega
theorem below_drewN {B:Nat} {w w':World} (h:Below B w w') (n:Nat):Below B w (w'.drewN n):=⟨h.os,h.tape,h.output,h.size,h.block⟩
theorem grown_set (w:World) (b:Nat) (o:Nat) (v:Value):w.grownBy (w.setCell ⟨b,o,none⟩ v) (some b) :=
 ⟨rfl,rfl,rfl,by simp [World.setCell],fun k _ hk=>Below.heap_setCell _ _ _ _ (by intro e; apply hk; simp [e])⟩
theorem cell_new {w:World} {n:Nat} (hn:n=w.heap.size) (x:Value) (t:TypeId):(w.alloc (.cells #[x] t)).cell? ⟨n,0,none⟩=some x:=by
 subst hn; have:=heap_alloc_new w (.cells #[x] t); simp only [World.cell?,this]; rfl
section
variable {P:Program} {ops:Array Oper} {rest:List Oper} {op:Oper} {a:Act} {w:World} {Q:Exit→Act→World→Prop}
theorem wl_wanted (hw:Region.wanted op (yielded ops a.tmps)=true) (h:op.wp P a w (wpList P ops Q rest) Q):wpList P ops Q (op::rest) a w:=by
 simp only [wpList]; rw [if_pos hw]; exact .inl h
end
theorem wl_row {P:Program} {ops:Array Oper} {rest:List Oper} {op:Oper} {a:Act} {w:World} {Q:Exit→Act→World→Prop} (ty:TypeId) (x y:Operand) (ho:op.op=.store ty x y) (hw:Region.wanted op (yielded ops a.tmps)=true)
 (g:Nat) (cells:Array Value) (hx:a.eval x=.pointer (some ⟨g,0,none⟩)) (hy:a.eval y=.agg cells)
 (t:TypeId) (old:Array Value) (hg:w.heap[g]?=some (.cells old t (0,0))) (hi:(P.info? ty).map (·.size)=some cells.size)
 (hold:old.size=cells.size) (h1:cells.all (·.oneCell')=true)
 (h:wpList P ops Q rest (a.put op.dst undef) (w.setRow g cells)):wpList P ops Q (op::rest) a w :=
 wl_wanted hw (wp_store_row ty x y ho g cells hx hy t old hg hi hold h1 h)
section
variable {P:Program} {w:World}
theorem eq_fields {d:Nat} {xs:Array Value}:∀ (fs:List Field),(∀ f ∈ fs,∃ v,(part f.type xs f.offset).run P w=.ok v w∧(Op.equalIn d f.type v v).run P w=.ok true w)→(Op.eqFields d xs xs fs).run P w=.ok true w
 | [],_=>by simp [Op.eqFields]
 | f::fs,h=>by
  obtain ⟨v,h1,h2⟩:=h f (List.mem_cons_self ..)
  have ih:=eq_fields fs (fun g hg=>h g (List.mem_cons_of_mem _ hg))
  by_cases hn : f.name = "_"
  ·simpa [Op.eqFields,hn] using ih
  ·simp only [Op.eqFields,hn,ne_eq,not_false_eq_true,if_true,Sem.run_bind,h1,h2,Result.andThen_ok]
   simpa using ih
end
section
variable {w:World}
theorem part1 (t:TypeId) (d:TypeDesc) (ht:Tryz.prog.underlying t=some d) (hd:(match d with | .struct _ | .array _ _=>true | _=>false)=false) (i:Nat) (x:Value) (xs:Array Value) (h:xs[i]?=some x):(part t xs i).run Tryz.prog w=.ok x w:=by
 have ha:(isAgg t).run Tryz.prog w=.ok false w:=by
  unfold isAgg; rw [Sem.run_bind,run_underlying ht w]
  cases d <;> simp_all
 simp [part,ha,h]
theorem eqi (d:Nat) (a:Int):(Op.equalIn (d+1) 3 (.int .i64 a) (.int .i64 a)).run Tryz.prog w=.ok true w:=by
 rw [run_equalIn_int w d 3 .i64 .i64 a a Tryz.underlying3]; simp
theorem eqb (d:Nat) (a:Bool):(Op.equalIn (d+1) 4 (.bool a) (.bool a)).run Tryz.prog w=.ok true w:=by
 rw [run_equalIn_bool w d 4 a a Tryz.underlying4]; simp
theorem eqs (d:Nat) (a:ByteArray):(Op.equalIn (d+1) 9 (.string a) (.string a)).run Tryz.prog w=.ok true w:=by
 rw [run_equalIn_string w d 9 a a Tryz.underlying9]; simp
end
open Go.RowKit
structure Ld where
 rname:Nat→ByteArray
 dark:Nat→Bool
 exit:Nat→Nat→Int
 shut:Nat→Nat→Bool
 tname:Nat→ByteArray
 kind:Nat→Int
 wh:Nat→Int
 loc:Nat→Int
 on:Nat→Bool
 bname:Nat→ByteArray
 here:Nat→Bool
 keen:Nat→Bool
 room:Nat→Int
 health:Nat→Int
 foe:Nat→Int
namespace Ld
variable (L:Ld)
def roomCell (r:Nat):Nat→Value
 | 0=>.string (L.rname r)
 | 1=>.bool (L.dark r)
 | j+2=>if j < 6 then .int .i64 (L.exit r j) else .bool (L.shut r (j - 6))
def thingCell (i:Nat):Nat→Value
 | 0=>.string (L.tname i)
 | 1=>.int .i64 (L.kind i)
 | 2=>.int .i64 (L.wh i)
 | 3=>.int .i64 (L.loc i)
 | _=>.bool (L.on i)
def beingCell (b:Nat):Nat→Value
 | 0=>.string (L.bname b)
 | 1=>.bool (L.here b)
 | 2=>.bool (L.keen b)
 | 3=>.int .i64 (L.room b)
 | 4=>.int .i64 (L.health b)
 | _=>.int .i64 (L.foe b)
def cellAt (n:Nat):Value :=
 if n < 84 then L.roomCell (n / 14) (n % 14) else if n < 129 then L.thingCell ((n - 84) / 5) ((n - 84) % 5) else L.beingCell ((n - 129) / 6) ((n - 129) % 6)
def cells:Array Value:=Array.ofFn (n:=165) fun i=>L.cellAt i.val
theorem size:L.cells.size=165:=by simp [cells]
theorem get (n:Nat) (h:n < 165):L.cells[n]?=some (L.cellAt n):=by
 rw [Array.getElem?_eq_getElem (by rw [size]; exact h)]; simp [cells]
theorem at_thing (i j:Nat) (hi:i < 9) (hj:j < 5):L.cellAt (84+i*5+j)=L.thingCell i j:=by
 unfold cellAt
 rw [if_neg (by omega),if_pos (by omega)]
 have e1:(84+i*5+j - 84) / 5=i:=by omega
 have e2:(84+i*5+j - 84) % 5=j:=by omega
 rw [e1,e2]
theorem at_being (i j:Nat) (hi:i < 6) (hj:j < 6):L.cellAt (129+i*6+j)=L.beingCell i j:=by
 unfold cellAt
 rw [if_neg (by omega),if_neg (by omega)]
 have e1:(129+i*6+j - 129) / 6=i:=by omega
 have e2:(129+i*6+j - 129) % 6=j:=by omega
 rw [e1,e2]
theorem at_room (r j:Nat) (hr:r < 6) (hj:j < 14):L.cellAt (r*14+j)=L.roomCell r j:=by
 unfold cellAt
 rw [if_pos (by omega)]
 have e1:(r*14+j) / 14=r:=by omega
 have e2:(r*14+j) % 14=j:=by omega
 rw [e1,e2]
end Ld
def Cod (w:World) (b:Nat) (L:Ld):Prop:=w.heap[b]?=some (.cells L.cells 43 (0,0))
section
variable {w w':World} {b:Nat} {L:Ld}
theorem Cod.lt (h:Cod w b L):b < w.heap.size:=(Array.getElem?_eq_some_iff.1 h).1
theorem Cod.cell (h:Cod w b L) (n:Nat) (hn:n < 165):w.cell? ⟨b,n,none⟩=some (L.cellAt n):=by
 unfold Cod at h; rw [cell_of_row w b n _ _ _ h,L.get n hn]
theorem Cod.thing (h:Cod w b L) (i j:Nat) (hi:i < 9) (hj:j < 5):w.cell? ⟨b,84+i*5+j,none⟩=some (L.thingCell i j):=by
 rw [h.cell _ (by omega),L.at_thing i j hi hj]
theorem Cod.being (h:Cod w b L) (i j:Nat) (hi:i < 6) (hj:j < 6):w.cell? ⟨b,129+i*6+j,none⟩=some (L.beingCell i j):=by
 rw [h.cell _ (by omega),L.at_being i j hi hj]
theorem Cod.behind {B:Nat} (h:Cod w b L) (hb:Below B w w') (hB:w.heap.size≤B):Cod w' b L:=by
 have:=h.lt
 unfold Cod; rw [hb.block _ (by omega)]; exact h
theorem Cod.alloc (h:Cod w b L) (o:Obj):Cod (w.alloc o) b L:=by
 unfold Cod; rw [Below.heap_alloc _ _ _ h.lt]; exact h
theorem Cod.set (h:Cod w b L) {c:Nat} (hc:b ≠ c) (o:Nat) (x:Value):Cod (w.setCell ⟨c,o,none⟩ x) b L:=by
 unfold Cod; rw [Below.heap_setCell _ _ _ _ hc]; exact h
theorem cod_new (w:World) (L:Ld):Cod (w.alloc (.cells L.cells 43)) w.heap.size L:=heap_alloc_new w _
end
theorem Tryz.sizeLand:(Tryz.prog.info? 43).map (·.size)=some 165:=by kernel_rfl
theorem Cod.load {w:World} {b:Nat} {L:Ld} (h:Cod w b L):(Instr.loadAt 43 (.pointer (some ⟨b,0,none⟩))).run Tryz.prog w=.ok (.agg L.cells) w:=by
 simp only [Instr.loadAt,Instr.sureAddr,Sem.run_bind,Sem.run_pure,Result.andThen_ok]
 exact run_loadVar_row w b 43 43 L.cells (0,0) _ h Tryz.underlying43 rfl (by rw [L.size]; exact Tryz.sizeLand)
def amg (i n:Int):Bool:=decide (0≤i)&&decide (i < n)
theorem among_any (i n:Int) (w:World):Calls Tryz.prog 72 #[.int .i64 i,.int .i64 n] w fun e w'=>e=.returned (.bool (amg i n))∧w'=w:=by
 by_cases h0:0≤i
 ·go_enter Tryz.func72,Tryz.ntmps72
  go_wp2
  go_ret
  exact ⟨ret_bool (by simp [amg,h0]),rfl⟩
 ·go_enter Tryz.func72,Tryz.ntmps72
  go_wp2
  go_ret
  exact ⟨ret_bool (by simp only [amg]; rw [decide_eq_false (by omega)]; rfl),rfl⟩
theorem amg_pos {i n:Int} (h:amg i n=true):0≤i∧i < n:=by simpa [amg] using h
theorem amg_mk {i n:Int} (h:0≤i) (h':i < n):amg i n=true:=by simp [amg,h,h']
theorem amg_no {i n:Int} (h:¬ (0≤i∧i < n)):amg i n=false:=by
 cases hx:amg i n with
 | false=>rfl
 | true=>exact absurd (amg_pos hx) h
def Nums (w:World) (v:Value) (q:List Int):Prop :=
 ∃ (av:Option Addr) (cap:Nat),v=.slice av q.length cap∧q.length≤cap∧cap≤maxLen ∧
  (0 < q.length→∃ b off,av=some ⟨b,off,none⟩∧∀ i,i < q.length→w.cell? ⟨b,off+i,none⟩=some (.int .i64 (q.getD i 0)))
theorem pigeon (n:Nat):∀ (S:List Int),S.Nodup→(∀ s ∈ S,0≤s∧s < n)→S.length≤n:=by
 induction n with
 | zero =>
  intro S _ h
  cases S with
  | nil=>simp
  | cons a S=>have:=h a (List.mem_cons_self ..); omega
 | succ n ih =>
  intro S hn h
  by_cases hm:(n:Int) ∈ S
  ·have h1:=ih (S.erase n) (hn.erase _) (fun s hs=>by
    have hs':=(hn.mem_erase_iff).1 hs
    have:=h s hs'.2
    omega)
   have h2:=List.length_erase_of_mem hm
   omega
  ·have:=ih S hn (fun s hs=>by
    have h1:=h s hs
    have:s ≠ n:=fun e=>hm (e ▸ hs)
    omega)
   omega
section
variable (wh at':Int→Int) (on:Int→Bool)
variable {wh at' on}
variable (wh at')
variable {wh at'}
end
open Go.RowKit
theorem mem_take_succ {q:List Int} {k:Nat} (hk:k < q.length) {x:Int} (h:x ∈ q.take (k+1)) (hn:x ∉ q.take k):q.getD k 0=x:=by
 rw [List.take_succ_eq_append_getElem hk] at h
 rcases List.mem_append.1 h with h | h
 ·exact absurd h hn
 ·have:=List.mem_singleton.1 h
  rw [this]; simp [hk]
theorem index_empty (av:Option Addr) (cap:Nat) (x:Int) (w:World) :
 Calls Tryz.prog 111 #[.slice av 0 cap,.int .i64 x] w fun e w'=>e=.returned (.int .i64 (-1))∧w'=w:=by
 go_enter Tryz.func111,Tryz.ntmps111
 go_wp2
 go_loop [8] (fun i=>i=.int .i64 0) (fun _=>0)
 case atStart=>rfl
 case round =>
  subst hrel
  go_wp2
  go_ret
  exact ⟨rfl,rfl⟩
theorem index_cells (b off cap:Nat) (q:List Int) (x:Int) (w:World) (n:Nat) (hn:q.length=n) (hm:n≤9223372036854775807) (hc:∀ i,i < n→w.cell? ⟨b,off+i,none⟩=some (.int .i64 (q.getD i 0))) :
 Calls Tryz.prog 111 #[.slice (some ⟨b,off,none⟩) n cap,.int .i64 x] w fun e w'=>(∃ n:Int,e=.returned (.int .i64 n)∧(0≤n ↔ x ∈ q))∧w'=w:=by
 have HC:=hide hc
 clear hc
 have HN:=hide hn
 clear hn
 go_enter Tryz.func111,Tryz.ntmps111
 go_wp2
 go_loop [8] (fun i=>∃ k:Nat,k≤n∧i=.int .i64 k∧x ∉ q.take k) (fun i=>n - (intOf i).toNat)
 case atStart=>exact ⟨0,Nat.zero_le _,rfl,by simp⟩
 case round =>
  obtain ⟨k,hk,rfl,hx⟩:=hrel
  have HX:=hide hx
  clear hx
  by_cases hlt:k < n
  ·have hcell:=HC.out k hlt
   have hq:k < q.length:=by rw [HN.out]; exact hlt
   generalize hy:q.getD k 0=y at hcell
   have HY:=hide hy
   clear hy
   by_cases he:x=y
   ·have he':(x==y)=true:=by simp [he]
    have HE:=hide he
    clear he
    go_wp2
    go_ret
    refine ⟨⟨_,rfl,?_⟩,rfl⟩
    refine ⟨fun _=>?_,fun _=>by omega⟩
    rw [HE.out,← HY.out]; simp [hq]
   ·have he':(x==y)=false:=by simp [he]
    have HE:=hide he
    clear he
    go_wp2
    go_round
    case rel=>exact ⟨k+1,by omega,by go_num,fun hm=>HE.out (by rw [← HY.out]; exact (mem_take_succ hq hm HX.out).symm)⟩
    case measure=>simp [intOf]; omega
  ·go_wp2
   go_ret
   refine ⟨⟨_,rfl,?_⟩,rfl⟩
   have:=HX.out
   rw [List.take_of_length_le (by rw [HN.out]; omega)] at this
   simp [this]
theorem contains_any (v:Value) (q:List Int) (x:Int) (w:World) (h:Nums w v q) :
 Calls Tryz.prog 90 #[v,.int .i64 x] w fun e w'=>e=.returned (.bool (decide (x ∈ q)))∧w'=w:=by
 obtain ⟨av,cap,rfl,hl,hm,hc⟩:=h
 unfold maxLen at hm
 by_cases h0:0 < q.length
 ·obtain ⟨b,off,rfl,hcc⟩:=hc h0
  generalize hn:q.length=n at *
  have C:=hide (index_cells b off cap q x w n hn (by omega) hcc)
  clear hc hcc hl hm h0 hn
  go_enter Tryz.func90,Tryz.ntmps90
  go_wp2_with fail
  refine C.out.mono ?_
  rintro e w1 ⟨⟨n,rfl,hn⟩,hw⟩
  rw [hw]
  clear hw w1
  have HN:=hide hn
  clear hn
  go_wp2
  go_ret
  exact ⟨ret_bool (by simp [HN.out]),rfl⟩
 ·have e:q=[]:=List.eq_nil_of_length_eq_zero (by omega)
  subst e
  clear hc hl hm h0
  show Calls Tryz.prog 90 #[.slice av 0 cap,.int .i64 x] w _
  go_enter Tryz.func90,Tryz.ntmps90
  go_wp2_with fail
  refine (index_empty av cap x w).mono ?_
  rintro e w1 ⟨rfl,hw⟩
  rw [hw]
  clear hw w1
  go_wp2
  go_ret
  exact ⟨ret_bool (by simp),rfl⟩
def icells (q:List Int):List Value:=q.map (.int .i64)
theorem icells_length (q:List Int):(icells q).length=q.length:=by simp [icells]
theorem nums_own {w:World} {base:Nat} {v:Value} {q:List Int} (h:w.ownsRow base 3 1 v q.length (icells q)):Nums w v q:=by
 rcases h.2 with ⟨rfl,h0⟩ | ⟨g,cap,cur,rfl,hbg,hgg,hnc,hcm,hcs,htake⟩
 ·rw [List.eq_nil_of_length_eq_zero h0]; exact ⟨none,0,rfl,Nat.le_refl _,Nat.zero_le _,fun h=>by simp at h⟩
 ·refine ⟨some ⟨g,0,none⟩,cap,rfl,hnc,hcm,fun _=>⟨g,0,rfl,fun i hi=>?_⟩⟩
  have:=h.cells (g:=g) rfl i (.int .i64 (q.getD i 0)) (by simp [icells,hi])
  by_cases h0:i=0
  ·subst h0; simpa [Addr.add] using this
  ·simpa [Addr.add,h0] using this
theorem own_shapeN {w:World} {base:Nat} {v:Value} {n:Nat} {xs:List Value} (h:w.ownsRow base 3 1 v n xs):∃ (av:Option Addr) (cap:Nat),v=.slice av n cap:=by
 rcases h.2 with ⟨rfl,rfl⟩ | ⟨g,cap,cur,rfl,_⟩
 ·exact ⟨_,_,rfl⟩
 ·exact ⟨_,_,rfl⟩
theorem Tryz.info3:(Tryz.prog.info? 3).map (fun i=>(i.zero,i.size,i.bytes))=some (some (.int .i64 0),1,8):=by kernel_rfl
def lenOf:Value→Nat
 | .slice _ n _=>n
 | _=>0
def wayFrom (L:Ld):Nat→List Int→Int→List Int
 | 0,S,_=>S
 | n+1,S,i=>if amg i 9=true∧i ∉ S then (if L.wh i.toNat=2 then wayFrom L n (S++[i]) (L.loc i.toNat) else S++[i]) else S
def wayL (L:Ld) (i:Int):List Int:=wayFrom L 10 [] i
structure WIn (S:List Int):Prop where
 nodup:S.Nodup
 inn:∀ s ∈ S,0≤s∧s < 9
theorem WIn.snoc {S:List Int} {i:Int} (h:WIn S) (hi:amg i 9=true) (hn:i ∉ S):WIn (S++[i])∧S.length < 9:=by
 have hp:=amg_pos hi
 have hin:∀ s ∈ S++[i],0≤s∧s < 9:=by
  intro s hs
  rcases List.mem_append.1 hs with hs | hs
  ·exact h.inn s hs
  ·rw [List.mem_singleton.1 hs]; exact hp
 have hnd:(S++[i]).Nodup:=by
  rw [List.nodup_append]
  refine ⟨h.nodup,by simp,fun a ha b hb e=>?_⟩
  rw [List.mem_singleton.1 hb] at e
  exact hn (e ▸ ha)
 have:=pigeon 9 _ hnd hin
 simp at this
 exact ⟨⟨hnd,hin⟩,by omega⟩
structure WRel (L:Ld) (w:World) (j:Int) (i:Int) (v:Value) (S:List Int) (wr:World):Prop where
 own:wr.ownsRow (w.heap.size+1) 3 1 v S.length (icells S)
 cod:Cod wr w.heap.size L
 low:Below w.heap.size w wr
 size:w.heap.size+1≤wr.heap.size
 win:WIn S
 len:S.length≤9
 way:wayFrom L (10 - S.length) S i=wayL L j
theorem WRel.out {L:Ld} {w wr:World} {j i:Int} {v:Value} {S:List Int} (h:WRel L w j i v S wr) (hn:amg i 9=false∨i ∈ S):S=wayL L j:=by
 rw [← h.way]
 have:=h.len
 obtain ⟨m,hm⟩:∃ m,10 - S.length=m+1:=⟨9 - S.length,by omega⟩
 rw [hm]
 simp only [wayFrom]
 rw [if_neg]
 rintro ⟨h1,h2⟩
 rcases hn with hn | hn
 ·rw [hn] at h1; simp at h1
 ·exact h2 hn
theorem WRel.next {L:Ld} {w wr wr':World} {j i:Int} {v v':Value} {S:List Int} {u:Value} {t:TypeId} (h:WRel L w j i v S wr) (ha:amg i 9=true) (hn:i ∉ S)
 (ho:wr'.ownsRow (w.heap.size+1) 3 1 v' (S.length+1) (icells S++[.int .i64 i])) (hg:(wr.alloc (.cells #[u] t)).grownBy wr' v.ownBlock) :
 (L.wh i.toNat=2→WRel L w j (L.loc i.toNat) v' (S++[i]) wr')∧(L.wh i.toNat ≠ 2→S++[i]=wayL L j)∧Nums wr' v' (S++[i])∧Below w.heap.size w wr'∧Cod wr' w.heap.size L∧lenOf v'=S.length+1:=by
 have hw:=h.win.snoc ha hn
 have hb:Below (w.heap.size+1) wr wr':=by
  refine (Below.refl _ _ |>.alloc (by have:=h.size; omega) _:Below (w.heap.size+1) wr (wr.alloc (.cells #[u] t))).grown hg (by have:=h.size; simp; omega) ?_
  intro k hk
  exact (h.own.lt k (by simpa using hk)).1
 have hc:Cod wr' w.heap.size L:=by
  have:=h.cod
  unfold Cod at this ⊢
  rw [hb.block _ (by omega)]; exact this
 have hl:Below w.heap.size w wr':=h.low.trans (hb.mono (by omega))
 have ho':wr'.ownsRow (w.heap.size+1) 3 1 v' (S++[i]).length (icells (S++[i])):=by
  have e1:(S++[i]).length=S.length+1:=by simp
  have e2:icells (S++[i])=icells S++[.int .i64 i]:=by simp [icells]
  rw [e1,e2]; exact ho
 have hlen:=h.len
 obtain ⟨m,hm⟩:∃ m,10 - S.length=m+1:=⟨9 - S.length,by omega⟩
 have hway:=h.way
 rw [hm] at hway
 simp only [wayFrom] at hway
 rw [if_pos ⟨ha,hn⟩] at hway
 refine ⟨fun h2=>⟨ho',hc,hl,by have:=hb.size; have:=h.size; omega,hw.1,by have:=hw.2; simp; omega,?_⟩,fun h2=>?_,nums_own ho',hl,hc,?_⟩
 ·rw [if_pos h2] at hway
  rw [← hway]
  simp only [List.length_append,List.length_singleton]
  rw [show 10 - (S.length+1)=m by omega]
 ·rw [if_neg h2] at hway
  exact hway
 ·obtain ⟨av,cap,rfl⟩:=own_shapeN ho
  rfl
open Go.RowKit
theorem way_any (L:Ld) (j:Int) (w:World) :
 Calls Tryz.prog 71 #[.agg L.cells,.int .i64 j] w fun e w'=>∃ v,e=.returned v∧Nums w' v (wayL L j)∧Below w.heap.size w w':=by
 obtain ⟨i0,hi0,hz0,hz1,hz2⟩:=info_parts Tryz.info3
 go_enter Tryz.func71,Tryz.ntmps71
 go_wp2
 go_loopw [1,5] (fun iv v wr=>∃ (i:Int) (S:List Int),iv=.int .i64 i∧WRel L w j i v S wr) (fun _ v _=>10 - lenOf v)
 case atStart=>exact ⟨j,[],rfl,World.ownsRow_nil _ _ _ _,cod_new w L,(Below.refl _ _).alloc (Nat.le_refl _) _,by simp,⟨List.nodup_nil,fun s h=>by simp at h⟩,by simp,rfl⟩
 case round =>
  obtain ⟨i,S,rfl,R⟩:=hrel
  obtain ⟨av,cap,rfl⟩:=own_shapeN R.own
  have HR:=hide R
  clear R
  go_wp2_with fail
  refine (among_any i 9 _).mono ?_
  rintro e w1 ⟨rfl,hw⟩
  rw [hw]
  clear hw w1
  cases ha:amg i 9 with
  | false =>
   have HA:=hide ha
   clear ha
   go_wp2
   go_ret
   exact ⟨_,rfl,by rw [← HR.out.out (.inl HA.out)]; exact nums_own HR.out.own,HR.out.low⟩
  | true =>
   have HA:=hide ha
   obtain ⟨h0,h9⟩:=amg_pos ha
   clear ha
   obtain ⟨k,rfl⟩:=Int.eq_ofNat_of_zero_le h0
   by_cases hm:((k:Int)) ∈ S
   ·have HM:=hide hm
    clear hm
    go_wp2_with fail
    refine (contains_any _ S _ _ (nums_own HR.out.own)).mono ?_
    rintro e w1 ⟨rfl,hw⟩
    rw [hw,decide_eq_true HM.out]
    clear hw w1
    go_wp2
    go_ret
    exact ⟨_,rfl,by rw [← HR.out.out (.inr HM.out)]; exact nums_own HR.out.own,HR.out.low⟩
   ·have HM:=hide hm
    clear hm
    go_wp2_with fail
    refine (contains_any _ S _ _ (nums_own HR.out.own)).mono ?_
    rintro e w1 ⟨rfl,hw⟩
    rw [hw,decide_eq_false HM.out]
    clear hw w1
    have hlen:=HR.out.len
    have hsz:=HR.out.size
    go_wp2_with (at_builtin; refine wpList_append_own_at _ rfl (.tmp 14) (.tmp 16) 116 rfl (w.heap.size+1) 3 i0 (.int .i64 0) 1 8 Tryz.underlying116 hi0 hz0 hz1 hz2 rfl (by decide) _ S.length (icells S) rfl (HR.out.own.alloc _) ⟨wr.heap.size,0,none⟩ 1 1 [.int .i64 (k:Int)] rfl ?a1 ?a2 ?a3 ?a4 ?a5 ?a6 ?_)
    case a1=>rfl
    case a2 =>
     intro j u hj
     match j,hj with
     | 0,hj=>simp at hj; subst hj; simp [Addr.add]
    case a3=>intro u hu; simp at hu; subst hu; rfl
    case a4=>unfold maxLen; omega
    case a5=>omega
    case a6=>simp; omega
    intro v' w1 ho hg _ _
    have N:=HR.out.next HA.out HM.out ho hg
    obtain ⟨av',cap',rfl⟩:=own_shapeN ho
    clear ho hg
    obtain ⟨N1,N2,N3,N4,N5,N6⟩:=N
    simp only [Int.toNat_natCast] at N1 N2
    have c2:w1.cell? ⟨w.heap.size,84+k*5+2,none⟩=some (.int .i64 (L.wh k)):=N5.thing k 2 (by omega) (by omega)
    have c3:w1.cell? ⟨w.heap.size,84+k*5+3,none⟩=some (.int .i64 (L.loc k)):=N5.thing k 3 (by omega) (by omega)
    replace N1:=hide N1
    replace N2:=hide N2
    replace N3:=hide N3
    replace N4:=hide N4
    replace N5:=hide N5
    replace N6:=hide N6
    by_cases h2:L.wh k=2
    ·have H2:=hide h2
     have h2':(L.wh k != 2)=false:=by simp [h2]
     clear h2
     go_wp2
     go_roundw
     case rel=>exact ⟨_,_,rfl,N1.out H2.out⟩
     case measure=>simp [lenOf]; omega
    ·have H2:=hide h2
     have h2':(L.wh k != 2)=true:=by simp [h2]
     clear h2
     go_wp2
     go_ret
     exact ⟨_,rfl,by rw [← N2.out H2.out]; exact N3.out,N4.out⟩
end Go.Proofs.YtncgcejlkmoliaaGreatDoor
