import Derived.Test.YtncgcejlkmoliaaGreatDoorMh00
import Derived.JoinedCond
import Derived.SizedLaws
import Derived.Test.YtncgcejlkmoliaaGreatDoorMh04
import Derived.Lay
import Derived.SevenTiedAt
import Derived.Stop.Joined
import Derived.Deep.DeepHandedRow
import Derived.Test.YtncgcejlkmoliaaGreatDoorMh01
import Derived.Test.YtncgcejlkmoliaaGreatDoorCards
import Derived.Test.YtncgcejlkmoliaaGreatDoorTie
import Derived.Test.YtncgcejlkmoliaaGreatDoorMh08
import Derived.Shelf.Strconv.AppendIntPublic10
import Derived.Test.YtncgcejlkmoliaaGreatDoorMh18
import Derived.Test.YtncgcejlkmoliaaGreatDoorMk44
import Derived.Deep.Slices
import Derived.SizedLaws
set_option linter.unusedVariables false
set_option maxRecDepth 100000
set_option maxHeartbeats 16000000
namespace Go.Proofs.YtncgcejlkmoliaaGreatDoor
open Go.ChangeShapes Go.WideShapes Go.ChangeAt Go.RowKit
open Go.ChangeMaps (open_string shut_string)
theorem Tryz.own:ownKnob Tryz.prog.godebug=none:=by kernel_rfl
theorem Tryz.laidOut:laidOutB Tryz.prog=true:=by kernel_rfl
theorem Tryz.cells9:Tryz.prog.cellsOf 9=1:=by kernel_rfl
theorem Tryz.cells3:Tryz.prog.cellsOf 3=1:=by kernel_rfl
theorem int_bounds {n:Int} (wn:(Lit.int .i64 n).wf=true):-9223372036854775808≤n∧n≤9223372036854775807:=by
 simp [Lit.wf] at wn; have e1:IntKind.i64.min=-9223372036854775808:=by decide
 rw [e1] at wn; exact wn
theorem post_true {H:Type} {enc:TypeId × Value→H} {f:Func} {s:ChangeSpec} {W W':World} {args:Array Value} {ds gs:List (DataW H)} {before pa:List MemPlace}
 (hW:DataW.Whole enc Tryz.prog f.params.toList s.vars false W args.toList ds gs before) (hr:f.resultTypes=#[4])
 (hres:(s.fn H (ds++gs)).results=[.lit (.bool true)])
 (hargs:DataW.TrodAll enc Tryz.prog W' 0 (fun b=>decide (b < W.heap.size)) true f.params.toList args.toList (s.fn H (ds++gs)).args pa)
 (hvars:DataW.TrodVars enc Tryz.prog W' (fun b=>decide (b < W.heap.size)) s.vars (s.fn H (ds++gs)).vars [])
 (hb:Below W.heap.size W W'):s.post enc Tryz.prog f false true false false W args (.bool true) W':=by
 refine ⟨ds,gs,before,[],pa,[],hW,?_,hargs,hvars,hb.frame _,fun h=>by cases h⟩
 rw [hres,hr]
 exact trodAll_cons_mk (shut_bool Tryz.underlying4 _) trodAll_mk0
theorem trod_lt' {H:Type} {enc:TypeId × Value→H} {w:World} {base:Nat} {spare:Nat→Bool} {held:Bool} {t:TypeId} {v:Value} {d:DataW H} {p:List MemPlace}
 (h:DataW.Trod enc Tryz.prog w base spare held t v d p):∀ x ∈ p,x.block < w.heap.size:=by
 obtain ⟨n,h⟩:=h; exact DataW.trod_lt n _ _ _ h
open Go.ChangeShapes Go.WideShapes Go.ChangeAt Go.RowKit
open Go.ChangeMaps (open_string shut_string)
def dtexts {H:Type} (l:List (List UInt8)):List (DataW H):=l.map fun t=>.lit (.string t)
theorem cells_of_texts {W:World} {base:Nat} {sp:Nat→Bool} {held:Bool} {fuel:Nat} {t:TypeId} {cs:List Value} {q:List MemPlace} {l:List (List UInt8)} {n:Nat} {H:Type} {enc:TypeId × Value→H}
 (ht:Tryz.prog.underlying t=some (.array n 9)) (hn:l.length=n) (hc:Tryz.prog.cellsOf t=n) (h:DataW.trod enc Tryz.prog W base sp held fuel t cs=some (.agg (dtexts l),q)):cs=l.map fun s=>Value.string (bs s):=by
 obtain ⟨xs,m,_,ex,hlen,hl,hel⟩:=DataW.trod_array ht h
 rw [hc] at hlen
 simp only [Prod.mk.injEq,DataW.agg.injEq] at ex
 apply List.ext_getElem?
 intro i
 by_cases hi:i < n
 ·have hE:=hel i hi
  rw [Tryz.cells9,Nat.mul_one,List.getElem?_eq_getElem (by omega)] at hE
  obtain ⟨z,e1,e2,_⟩:=DataW.trod_string Tryz.underlying9 hE
  have e4:(dtexts (H:=H) l)[i]?=(xs.map (·.1))[i]?:=by rw [ex.1]
  simp only [dtexts] at e4
  rw [List.getElem?_map,List.getElem?_map,List.getElem?_eq_getElem (by omega:i < xs.length),List.getElem?_eq_getElem (by omega:i < l.length),e2] at e4
  simp only [Option.map_some,Option.some.injEq,DataW.lit.injEq,Lit.string.injEq] at e4
  have h0:((cs.drop i).take 1)[0]?=some (.string z):=by rw [e1]; rfl
  rw [List.getElem?_map,List.getElem?_eq_getElem (by omega:i < l.length)]
  simp at h0
  rw [h0,Option.map_some,e4,bs_of]
 ·rw [List.getElem?_eq_none (by omega),List.getElem?_eq_none (by simp; omega)]
theorem block_of_var {W:World} {name:String} {g:Nat} {cs:Array Value} (hg:Tryz.prog.globalNamed name=some g) (hv:W.var? Tryz.prog name=some cs):∃ t fr,W.heap[g]?=some (.cells cs t fr):=by
 unfold World.var? at hv
 rw [hg] at hv
 simp only [Option.bind_some] at hv
 split at hv
 ·rename_i c t fr h
  cases hv
  exact ⟨t,fr,h⟩
 ·cases hv
theorem Tryz.cellsVerbs:Tryz.prog.cellsOf 154=21:=by kernel_rfl
open Go.ChangeShapes Go.WideShapes Go.ChangeAt Go.RowKit
def sOf:Value→ByteArray
 | .string s=>s
 | _=>⟨#[]⟩
def IsS (v:Value):Prop:=∃ s,v=.string s
def IsI (v:Value):Prop:=∃ n:Int,v=.int .i64 n∧-9223372036854775808≤n∧n≤9223372036854775807
theorem IsS.eq {v:Value} (h:IsS v):.string (sOf v)=v:=by obtain ⟨s,rfl⟩:=h; rfl
theorem IsI.eq {v:Value} (h:IsI v):.int .i64 (intOf v)=v:=by obtain ⟨s,rfl,_⟩:=h; rfl
def Sub (c:Nat→Value) (o n:Nat) (l:List Value):Prop:=l.length=n∧∀ j,j < n→l[j]?=some (c (o+j))
theorem Sub.cut {c:Nat→Value} {o n:Nat} {l:List Value} (h:Sub c o n l) (a m:Nat) (ham:a+m≤n):Sub c (o+a) m ((l.drop a).take m):=by
 refine ⟨by rw [List.length_take,List.length_drop,h.1]; omega,fun j hj=>?_⟩
 rw [List.getElem?_take,if_pos hj,List.getElem?_drop,h.2 (a+j) (by omega),Nat.add_assoc]
theorem Sub.one {c:Nat→Value} {o:Nat} {l:List Value} {v:Value} (h:Sub c o 1 l) (e:l=[v]):c o=v:=by
 have:=h.2 0 (by omega)
 rw [e] at this
 simpa using this.symm
section
variable {H:Type} {enc:TypeId × Value→H} {w:World} {base:Nat} {spare:Nat→Bool} {held:Bool} {fuel:Nat} {c:Nat→Value} {o:Nat} {l:List Value}
theorem sub_int {x:Option (DataW H × List MemPlace)} (hs:Sub c o 1 l) (h:DataW.trod enc Tryz.prog w base spare held fuel 3 l=x) (hx:x.isSome=true):IsI (c o):=by
 obtain ⟨y,rfl⟩:=Option.isSome_iff_exists.1 hx
 obtain ⟨n,e,_,wn⟩:=DataW.trod_int Tryz.underlying3 h
 exact ⟨n,hs.one e,int_bounds wn⟩
theorem sub_str {x:Option (DataW H × List MemPlace)} (hs:Sub c o 1 l) (h:DataW.trod enc Tryz.prog w base spare held fuel 9 l=x) (hx:x.isSome=true):IsS (c o):=by
 obtain ⟨y,rfl⟩:=Option.isSome_iff_exists.1 hx
 obtain ⟨n,e,_⟩:=DataW.trod_string Tryz.underlying9 h
 exact ⟨n,hs.one e⟩
theorem isSome_get {α:Type} {l:List α} {n i:Nat} (h:l.length=n) (hi:i < n):(l[i]?).isSome=true:=by
 rw [List.getElem?_eq_getElem (by omega)]; rfl
end
open Go.ChangeShapes Go.WideShapes Go.ChangeAt Go.RowKit
open Go.ChangeMaps (open_string shut_string)
theorem rbulk_mem {H:Type}:∀ (l:List (DataW H)) (i:Nat) (d:DataW H),l[i]?=some d→Rows.uptoBulk d≤Rows.uptoBulkAll l
 | [],i,d,h=>by simp at h
 | x::l,0,d,h=>by
  simp at h; subst h
  simp only [Rows.uptoBulkAll]; omega
 | x::l,i+1,d,h=>by
  have:=rbulk_mem l i d (by simpa using h)
  simp only [Rows.uptoBulkAll]; omega
section
variable {H:Type} {enc:TypeId × Value→H} {w:World} {base:Nat} {spare:Nat→Bool} {held:Bool} {fuel:Nat} {c:Nat→Value} {o:Nat} {l:List Value}
theorem bulk_str {x:DataW H × List MemPlace} (hs:Sub c o 1 l) (h:DataW.trod enc Tryz.prog w base spare held fuel 9 l=some x):∃ z,c o=.string z∧z.size≤Rows.uptoBulk x.1:=by
 obtain ⟨z,e,e2,_⟩:=DataW.trod_string Tryz.underlying9 h
 refine ⟨z,hs.one e,?_⟩
 rw [e2]
 simp only [Rows.uptoBulk]
 have:=size_len z
 omega
end
open Go.RowKit
def Tryz.lays176_ren:Go.Shelf.Ren:=⟨fun | 176=>92 | 249=>112 | 288=>132 | 283=>148 | 284=>149 | 285=>150 | 286=>151 | 129=>186 | 317=>185 | 318=>187 | 319=>188 | 320=>189 | 337=>214 | 338=>215 | n=>n,fun | 37=>123 | 2=>2 | 3=>3 | 53=>176 | 4=>4 | 9=>9 | 171=>192 | 0=>0 | 173=>195 | 212=>223 | 51=>178 | 5=>5 | 20=>20 | 213=>224 | 46=>139 | 232=>248 | 233=>249 | n=>n,fun | 17=>2 | 18=>3 | 19=>4 | n=>n⟩
theorem Tryz.lays176:Go.Proofs.LaysM.n176 Tryz.prog Tryz.lays176_ren:={
 mixed:=by kernel_rfl
 f129:=Tryz.func186.trans (congrArg some (by kernel_rfl))
 f176:=Tryz.func92.trans (congrArg some (by kernel_rfl))
 f249:=Tryz.func112.trans (congrArg some (by kernel_rfl))
 f283:=Tryz.func148.trans (congrArg some (by kernel_rfl))
 f284:=Tryz.func149.trans (congrArg some (by kernel_rfl))
 f285:=Tryz.func150.trans (congrArg some (by kernel_rfl))
 f286:=Tryz.func151.trans (congrArg some (by kernel_rfl))
 f288:=Tryz.func132.trans (congrArg some (by kernel_rfl))
 f317:=Tryz.func185.trans (congrArg some (by kernel_rfl))
 f318:=Tryz.func187.trans (congrArg some (by kernel_rfl))
 f319:=Tryz.func188.trans (congrArg some (by kernel_rfl))
 f320:=Tryz.func189.trans (congrArg some (by kernel_rfl))
 f337:=Tryz.func214.trans (congrArg some (by kernel_rfl))
 f338:=Tryz.func215.trans (congrArg some (by kernel_rfl))
 t0:=Tryz.underlying0
 a0:=Tryz.isAgg0
 z0:=Tryz.sizeOf0
 v0:=Tryz.zeroValue0
 t2:=Tryz.underlying2
 a2:=Tryz.isAgg2
 z2:=Tryz.sizeOf2
 v2:=Tryz.zeroValue2
 t3:=Tryz.underlying3
 a3:=Tryz.isAgg3
 z3:=Tryz.sizeOf3
 v3:=Tryz.zeroValue3
 t4:=Tryz.underlying4
 a4:=Tryz.isAgg4
 z4:=Tryz.sizeOf4
 v4:=Tryz.zeroValue4
 t5:=Tryz.underlying5
 a5:=Tryz.isAgg5
 z5:=Tryz.sizeOf5
 v5:=Tryz.zeroValue5
 t9:=Tryz.underlying9
 a9:=Tryz.isAgg9
 z9:=Tryz.sizeOf9
 v9:=Tryz.zeroValue9
 t20:=Tryz.underlying20
 a20:=Tryz.isAgg20
 z20:=Tryz.sizeOf20
 v20:=Tryz.zeroValue20
 t37:=Tryz.underlying123
 a37:=Tryz.isAgg123
 z37:=Tryz.sizeOf123
 v37:=Tryz.zeroValue123
 t46:=Tryz.underlying139
 a46:=Tryz.isAgg139
 z46:=Tryz.sizeOf139
 v46:=Tryz.zeroValue139
 t51:=Tryz.underlying178
 a51:=Tryz.isAgg178
 z51:=Tryz.sizeOf178
 v51:=Tryz.zeroValue178
 t53:=Tryz.underlying176
 a53:=Tryz.isAgg176
 z53:=Tryz.sizeOf176
 v53:=Tryz.zeroValue176
 t171:=Tryz.underlying192
 a171:=Tryz.isAgg192
 z171:=Tryz.sizeOf192
 v171:=Tryz.zeroValue192
 t173:=Tryz.underlying195
 a173:=Tryz.isAgg195
 z173:=Tryz.sizeOf195
 v173:=Tryz.zeroValue195
 t212:=Tryz.underlying223
 a212:=Tryz.isAgg223
 z212:=Tryz.sizeOf223
 v212:=Tryz.zeroValue223
 t213:=Tryz.underlying224
 a213:=Tryz.isAgg224
 z213:=Tryz.sizeOf224
 t232:=Tryz.underlying248
 a232:=Tryz.isAgg248
 z232:=Tryz.sizeOf248
 v232:=Tryz.zeroValue248
 t233:=Tryz.underlying249
 a233:=Tryz.isAgg249
 z233:=Tryz.sizeOf249
 v233:=Tryz.zeroValue249
 g17:=by kernel_rfl
 g18:=by kernel_rfl
 g19:=by kernel_rfl
 i0:=by kernel_rfl
 i2:=by kernel_rfl
 i3:=by kernel_rfl
 i4:=by kernel_rfl
 i5:=by kernel_rfl
 i9:=by kernel_rfl
 i20:=by kernel_rfl
 i37:=by kernel_rfl
 i46:=by kernel_rfl
 i51:=by kernel_rfl
 i53:=by kernel_rfl
 i171:=by kernel_rfl
 i173:=by kernel_rfl
 i212:=by kernel_rfl
 i232:=by kernel_rfl
 i233:=by kernel_rfl
 m17:=by kernel_rfl
 m18:=by kernel_rfl
 m19:=by kernel_rfl }
def pname:String:=(Rows.topRefusedUptoRow.laid.map (·.1)).getD 2 default
theorem ai_of_tab {w0:World} (htab:Lib.TabIs Tryz.prog w0 pname .u64 Lib.pow10Tab):Ai w0:=fun w B n i sv xs hb hB h0 h1 ho hBw hl =>
 (Any.strconv_AppendInt_10 Tryz.lays176 B n i h0 h1 sv xs w ho hBw hl (fun w' hb'=>(Lib.tabBelow_of_tabIs htab) w' (hb.trans (hb'.mono hB)))).mono
  fun e w' ⟨v',he,ho',hb',_⟩=>⟨v',he,ho',hb'⟩
end Go.Proofs.YtncgcejlkmoliaaGreatDoor
namespace Go.Proofs.YtncgcejlkmoliaaGreatDoor.Ho
open Go.ChangeShapes Go.WideShapes Go.ChangeAt Go.RowKit Go.Deep
open Go.ChangeMaps (open_string shut_string)
theorem Tryz.cellsAct:Tryz.prog.cellsOf 23=4:=by kernel_rfl
theorem Tryz.recAct:Tryz.prog.readableRec 23=true:=by kernel_rfl
theorem Tryz.recActs:Tryz.prog.readableRec 58=true:=by kernel_rfl
def zAct:Array Value:=#[.int .i64 0,.int .i64 0,.int .i64 0,.string .empty]
def dAct {H:Type}:DataW H:=.agg [.lit (.int .i64 0),.lit (.int .i64 0),.lit (.int .i64 0),.lit (.string [])]
section
variable {H:Type} {enc:TypeId × Value→H} {w:World} {base:Nat} {spare:Nat→Bool} {held:Bool}
theorem act_of {n:Nat} {cs:List Value} {x:DataW H × List MemPlace} (hsz:cs.length=4) (h:DataW.trod enc Tryz.prog w base spare held n 23 cs=some x):∃ c:Ac,cs=c.cells.toList∧c.bytes.size≤Rows.uptoBulk x.1:=by
 obtain ⟨ys,m,_,ex,_,hl,hf⟩:=DataW.trod_struct Tryz.underlying23 h
 have hc:∀ n,n < 4→cs[n]?=some (cs.getD n undef):=fun n hn=>by rw [List.getD_eq_getElem?_getD,List.getElem?_eq_getElem (by omega)]; rfl
 have hs:Sub (fun n=>cs.getD n undef) 0 4 cs:=⟨hsz,fun j hj=>by rw [Nat.zero_add]; exact hc j hj⟩
 have g0:DataW.trod enc Tryz.prog w base spare held m 3 ((cs.drop 0).take (Tryz.prog.cellsOf 3))=ys[0]?:=hf 0 _ rfl
 rw [Tryz.cells3] at g0
 have i0:=sub_int (hs.cut 0 1 (by omega)) g0 (isSome_get hl (by decide))
 have g1:DataW.trod enc Tryz.prog w base spare held m 3 ((cs.drop 1).take (Tryz.prog.cellsOf 3))=ys[1]?:=hf 1 _ rfl
 rw [Tryz.cells3] at g1
 have i1:=sub_int (hs.cut 1 1 (by omega)) g1 (isSome_get hl (by decide))
 have g2:DataW.trod enc Tryz.prog w base spare held m 3 ((cs.drop 2).take (Tryz.prog.cellsOf 3))=ys[2]?:=hf 2 _ rfl
 rw [Tryz.cells3] at g2
 have i2:=sub_int (hs.cut 2 1 (by omega)) g2 (isSome_get hl (by decide))
 have g3:DataW.trod enc Tryz.prog w base spare held m 9 ((cs.drop 3).take (Tryz.prog.cellsOf 9))=ys[3]?:=hf 3 _ rfl
 rw [Tryz.cells9] at g3
 have s3:=sub_str (hs.cut 3 1 (by omega)) g3 (isSome_get hl (by decide))
 have z3:(sOf (cs.getD 3 undef)).size≤Rows.uptoBulk x.1:=by
  obtain ⟨y,hy⟩:=Option.isSome_iff_exists.1 (isSome_get (i:=3) hl (by decide))
  rw [hy] at g3
  obtain ⟨z,e1,e2⟩:=bulk_str (hs.cut 3 1 (by omega)) g3
  have hm:=rbulk_mem (ys.map (·.1)) 3 y.1 (by rw [List.getElem?_map,hy]; rfl)
  have e3:sOf (cs.getD 3 undef)=z:=by
   have:cs.getD 3 undef=.string z:=by simpa using e1
   rw [this]; rfl
  simp only [Prod.ext_iff] at ex
  rw [e3,ex.1]
  simp only [Rows.uptoBulk]
  omega
 simp only [Nat.zero_add] at i0 i1 i2 s3
 refine ⟨⟨intOf (cs.getD 0 undef),intOf (cs.getD 1 undef),intOf (cs.getD 2 undef),sOf (cs.getD 3 undef)⟩,?_,z3⟩
 apply List.ext_getElem?
 intro n
 match n with
 | 0=>rw [hc 0 (by omega)]; exact (congrArg some i0.eq).symm
 | 1=>rw [hc 1 (by omega)]; exact (congrArg some i1.eq).symm
 | 2=>rw [hc 2 (by omega)]; exact (congrArg some i2.eq).symm
 | 3=>rw [hc 3 (by omega)]; exact (congrArg some s3.eq).symm
 | n+4=>rw [List.getElem?_eq_none (by omega),List.getElem?_eq_none (by simp [Ac.cells])]
theorem open_act {r:Reach} {b0:Nat} {v:Value} {d:DataW H} {p:List MemPlace} (hv:Value.okWide Tryz.prog w r b0 23 v) (h:DataW.Trod enc Tryz.prog w base spare held 23 v d p):∃ c:Ac,v=.agg c.cells∧c.bytes.size≤Rows.uptoBulk d:=by
 obtain ⟨cs,rfl,hsz⟩:=okWide_struct Tryz.underlying23 hv
 rw [Tryz.cellsAct] at hsz
 obtain ⟨fuel,hf⟩:=h
 obtain ⟨c,e,hz⟩:=act_of (by rw [Array.length_toList]; exact hsz) hf
 exact ⟨c,congrArg Value.agg (Array.toList_inj.1 e),hz⟩
theorem open_acts {r:Reach} {b0:Nat} {v:Value} {d:DataW H} {p:List MemPlace} (hv:Value.okWide Tryz.prog w r b0 58 v) (h:DataW.Trod enc Tryz.prog w base spare held 58 v d p) :
 ∃ l:List Ac,Rac w v l∧∀ a ∈ l,a.bytes.size≤Rows.uptoBulk d:=by
 obtain ⟨av,len,cap,rfl⟩:=okWide_slice Tryz.underlying58 hv
 obtain ⟨fuel,hf⟩:=h
 rcases open_slice Tryz.underlying58 hf with ⟨e,_⟩ | ⟨a,len',cap',m,n,D,Pl,e,hb,hl,hm,hmm,hd,hx⟩
 ·have e':(Value.slice av len cap)=.slice none 0 0:=by injection e
  rw [e']
  exact ⟨[],⟨none,0,rfl,Nat.zero_le _,fun h0=>absurd h0 (by simp)⟩,fun a ha=>by simp at ha⟩
 ·have e':(Value.slice av len cap)=.slice (some a) len' cap':=by injection e
  rw [e']
  have hlm:len'≤m:=by rw [hmm]; split <;> omega
  have each:∀ i,i < len'→∃ c:Ac,(∀ j,j < 4→w.cell? ((a.add (i*4)).add j)=c.cells.toList[j]?)∧c.bytes.size≤Rows.uptoBulk (D i):=by
   intro i hi
   obtain ⟨cs',h1,h2⟩:=hx i (by omega)
   rw [Tryz.cellsAct] at h1
   obtain ⟨_,hlen,hcell⟩:=World.cells?_some h1
   obtain ⟨c,e,hz⟩:=act_of hlen h2
   exact ⟨c,fun j hj=>by rw [← e]; exact hcell j hj,hz⟩
  obtain ⟨q,hq⟩:=@choose_lt Ac ⟨⟨0,0,0,⟨#[]⟩⟩⟩ _ _ each
  have hlen:((List.range len').map q).length=len':=by simp
  refine ⟨(List.range len').map q,⟨some a,cap',by rw [hlen],by rw [hlen]; omega,fun h0=>?_⟩,?_⟩
  ·rw [hlen] at h0
   have hc0:=(hq 0 h0).1 0 (by omega)
   obtain ⟨b,off,spot⟩:=a
   have hspot:spot=none:=by
    have:=World.cell?_spot (hc0.trans (show (q 0).cells.toList[0]?=some (.int .i64 (q 0).kind) from rfl))
    simpa [Addr.add] using this
   subst hspot
   have hblk:b < w.heap.size:=cell_lt (hc0.trans (show (q 0).cells.toList[0]?=some (.int .i64 (q 0).kind) from rfl))
   refine ⟨b,off,rfl,hblk,fun i a hi j u hj=>?_⟩
   rw [List.getElem?_map] at hi
   by_cases hil:i < len'
   ·rw [List.getElem?_range hil] at hi
    simp only [Option.map_some,Option.some.injEq] at hi
    subst hi
    have hj4:j < 4:=by
     have:=(List.getElem?_eq_some_iff.1 hj).1
     simpa [Ac.cells] using this
    have:=(hq i hil).1 j hj4
    rw [add_plain,add_plain,hj] at this
    exact this
   ·rw [List.getElem?_eq_none (by simpa using hil)] at hi; simp at hi
  ·intro c hc
   simp only [List.mem_map,List.mem_range] at hc
   obtain ⟨i,hi,rfl⟩:=hc
   have h1:=(hq i hi).2
   have h2:=rbulk_mem ((List.range len').map D) i (D i) (by rw [List.getElem?_map,List.getElem?_range hi]; rfl)
   simp only [Prod.mk.injEq] at hd
   rw [hd.1]
   simp only [Rows.uptoBulk]
   omega
end
def vnameH:String:=(Rows.topRefusedUptoRow.laid.map (·.1)).getD 4 default
def pnameH:String:=(Rows.topRefusedUptoRow.laid.map (·.1)).getD 2 default
theorem gVerbsH:Tryz.prog.globalNamed vnameH=some 0:=by kernel_rfl
theorem tVerbsH:(Tryz.prog.globals[(0:Nat)]?).map (·.type)=some 154:=by kernel_rfl
theorem gPowH:Tryz.prog.globalNamed pnameH=some 2:=by kernel_rfl
theorem tPowH:(Tryz.prog.globals[(2:Nat)]?).map (·.type)=some 223:=by kernel_rfl
theorem Tryz.cellsPowH:Tryz.prog.cellsOf 223=20:=by kernel_rfl
theorem Tryz.cellsU64H:Tryz.prog.cellsOf 176=1:=by kernel_rfl
theorem of_laidH {W:World} (h:laidMetH Tryz.prog Rows.topRefusedUptoRow.laid W):Vb W∧Ai W:=by
 rw [MakeChecks.laidMetH_plain _ _ _ (by kernel_rfl)] at h
 obtain ⟨ps,⟨g0,t0,cs0,f0,p0,q0,hg0,ht0,hv0,hd0,⟨g1,t1,cs1,f1,p1,q1,hg1,ht1,hv1,hd1,⟨g2,t2,cs2,f2,p2,q2,hg2,ht2,hv2,hd2,⟨g3,t3,cs3,f3,p3,q3,hg3,ht3,hv3,hd3,⟨g4,t4,cs4,f4,p4,q4,hg4,ht4,hv4,hd4,_,_⟩,_⟩,_⟩,_⟩,_⟩,_,_⟩:=h
 constructor
 ·obtain rfl:=Option.some.inj (gVerbsH.symm.trans hg4)
  obtain rfl:=Option.some.inj (tVerbsH.symm.trans ht4)
  obtain ⟨t,fr,hb⟩:=block_of_var hg4 hv4
  have e:=cells_of_texts (l:=verbs) Tryz.underlying154 rfl Tryz.cellsVerbs hd4
  have e2:cs4=vcells:=by
   obtain ⟨l⟩:=cs4
   have e':l=verbs.map fun s=>Value.string (bs s):=e
   rw [e']; rfl
  rw [e2] at hb
  exact ⟨t,fr,hb⟩
 ·obtain rfl:=Option.some.inj (gPowH.symm.trans hg2)
  obtain rfl:=Option.some.inj (tPowH.symm.trans ht2)
  have e:=Lib.cells_of_tab (k:=.u64) (zs:=Lib.pow10Tab) Tryz.underlying223 Tryz.underlying176 Tryz.cellsU64H Tryz.cellsPowH hd2
  refine ai_of_tab ?_
  unfold Lib.TabIs
  refine hv2.trans (congrArg some ?_)
  obtain ⟨l⟩:=cs2
  have e':l=Lib.pow10Tab.map fun z=>Value.int .u64 z:=e
  rw [e']
end Go.Proofs.YtncgcejlkmoliaaGreatDoor.Ho
namespace Go.Proofs.YtncgcejlkmoliaaGreatDoor.Ho
open Go.ChangeShapes Go.WideShapes Go.ChangeAt Go.RowKit Go.Deep
open Go.ChangeMaps (open_string shut_string)
section
variable {H : Type} {enc : TypeId × Value → H} {w : World} {base : Nat} {spare : Nat → Bool} {held : Bool}
theorem all_mem {P : Program} {e : TypeId} : ∀ {l : List (DataW H)} {d : DataW H}, d ∈ l → ∀ n ∈ d.weights P e, n ∈ DataW.weightsAll P e l
  | [], _, h => by cases h
  | a :: l, d, h => fun n hn => by
    simp only [DataW.weightsAll, List.mem_append]
    rcases List.mem_cons.1 h with rfl | h
    · exact .inl hn
    · exact .inr (all_mem h n hn)
theorem act_w {n : Nat} {x : DataW H × List MemPlace} {c : Ac} (h : DataW.trod enc Tryz.prog w base spare held n 23 c.cells.toList = some x) : c.bytes.size ∈ x.1.weights Tryz.prog 23 := by
  obtain ⟨ys, m, _, ex, _, hl, hf⟩ := DataW.trod_struct Tryz.underlying23 h
  have g3 : DataW.trod enc Tryz.prog w base spare held m 9 ((c.cells.toList.drop 3).take (Tryz.prog.cellsOf 9)) = ys[3]? := hf 3 _ rfl
  rw [Tryz.cells9] at g3
  obtain ⟨y, hy⟩ := Option.isSome_iff_exists.1 (isSome_get (i := 3) hl (by decide))
  rw [hy] at g3
  obtain ⟨z, e1, e2, _⟩ := DataW.trod_string Tryz.underlying9 g3
  have hz : c.bytes = z := by
    have : [Value.string c.bytes] = [.string z] := e1
    injection this with this
    injection this
  simp only [Prod.ext_iff] at ex
  rw [ex.1]
  simp only [DataW.weights, Tryz.underlying23]
  refine DataW.weights_mem_each (j := 3) (t := 9) (d := y.1) rfl (by rw [List.getElem?_map, hy]; rfl) _ ?_
  rw [e2, hz]
  simp only [DataW.weights, List.mem_cons, List.not_mem_nil, or_false]
  exact (len_size z).symm

theorem open_actW {r : Reach} {b0 : Nat} {v : Value} {d : DataW H} {p : List MemPlace} (hv : Value.okWide Tryz.prog w r b0 23 v) (h : DataW.Trod enc Tryz.prog w base spare held 23 v d p) : ∃ c : Ac, v = .agg c.cells ∧ c.bytes.size ∈ d.weights Tryz.prog 23 := by
  obtain ⟨cs, rfl, hsz⟩ := okWide_struct Tryz.underlying23 hv
  rw [Tryz.cellsAct] at hsz
  obtain ⟨fuel, hf⟩ := h
  obtain ⟨c, e, hz⟩ := act_of (by rw [Array.length_toList]; exact hsz) hf
  rw [e] at hf
  exact ⟨c, congrArg Value.agg (Array.toList_inj.1 e), act_w hf⟩

theorem open_actsW {r : Reach} {b0 : Nat} {v : Value} {d : DataW H} {p : List MemPlace} (hv : Value.okWide Tryz.prog w r b0 58 v) (h : DataW.Trod enc Tryz.prog w base spare held 58 v d p) :
    ∃ l : List Ac, Rac w v l ∧ ∀ a ∈ l, a.bytes.size ∈ d.weights Tryz.prog 58 := by
  obtain ⟨av, len, cap, rfl⟩ := okWide_slice Tryz.underlying58 hv
  obtain ⟨fuel, hf⟩ := h
  rcases open_slice Tryz.underlying58 hf with ⟨e, _⟩ | ⟨a, len', cap', m, n, D, Pl, e, hb, hl, hm, hmm, hd, hx⟩
  · have e' : (Value.slice av len cap) = .slice none 0 0 := by injection e
    rw [e']
    exact ⟨[], ⟨none, 0, rfl, Nat.zero_le _, fun h0 => absurd h0 (by simp)⟩, fun a ha => by simp at ha⟩
  · have e' : (Value.slice av len cap) = .slice (some a) len' cap' := by injection e
    rw [e']
    have hlm : len' ≤ m := by rw [hmm]; split <;> omega
    have each : ∀ i, i < len' → ∃ c : Ac, (∀ j, j < 4 → w.cell? ((a.add (i * 4)).add j) = c.cells.toList[j]?) ∧ c.bytes.size ∈ (D i).weights Tryz.prog 23 := by
      intro i hi
      obtain ⟨cs', h1, h2⟩ := hx i (by omega)
      rw [Tryz.cellsAct] at h1
      obtain ⟨_, hlen, hcell⟩ := World.cells?_some h1
      obtain ⟨c, e, hz⟩ := act_of hlen h2
      rw [e] at h2
      exact ⟨c, fun j hj => by rw [← e]; exact hcell j hj, act_w h2⟩
    obtain ⟨q, hq⟩ := @choose_lt Ac ⟨⟨0, 0, 0, ⟨#[]⟩⟩⟩ _ _ each
    have hlen : ((List.range len').map q).length = len' := by simp
    refine ⟨(List.range len').map q, ⟨some a, cap', by rw [hlen], by rw [hlen]; omega, fun h0 => ?_⟩, ?_⟩
    · rw [hlen] at h0
      have hc0 := (hq 0 h0).1 0 (by omega)
      obtain ⟨b, off, spot⟩ := a
      have hspot : spot = none := by
        have := World.cell?_spot (hc0.trans (show (q 0).cells.toList[0]? = some (.int .i64 (q 0).kind) from rfl))
        simpa [Addr.add] using this
      subst hspot
      have hblk : b < w.heap.size := cell_lt (hc0.trans (show (q 0).cells.toList[0]? = some (.int .i64 (q 0).kind) from rfl))
      refine ⟨b, off, rfl, hblk, fun i a hi j u hj => ?_⟩
      rw [List.getElem?_map] at hi
      by_cases hil : i < len'
      · rw [List.getElem?_range hil] at hi
        simp only [Option.map_some, Option.some.injEq] at hi
        subst hi
        have hj4 : j < 4 := by
          have := (List.getElem?_eq_some_iff.1 hj).1
          simpa [Ac.cells] using this
        have := (hq i hil).1 j hj4
        rw [add_plain, add_plain, hj] at this
        exact this
      · rw [List.getElem?_eq_none (by simpa using hil)] at hi; simp at hi
    · intro c hc
      simp only [List.mem_map, List.mem_range] at hc
      obtain ⟨i, hi, rfl⟩ := hc
      have h1 := (hq i hi).2
      simp only [Prod.mk.injEq] at hd
      rw [hd.1]
      simp only [DataW.weights, Tryz.underlying58]
      refine List.mem_cons_of_mem _ (List.mem_append.2 (.inl (all_mem (d := D i) ?_ _ h1)))
      exact List.mem_map.2 ⟨i, List.mem_range.2 hi, rfl⟩
end
end Go.Proofs.YtncgcejlkmoliaaGreatDoor.Ho
