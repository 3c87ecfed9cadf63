import Derived.Test.YtncgcejlkmoliaaGreatDoorMh20
set_option linter.unusedVariables false
set_option maxRecDepth 100000
set_option maxHeartbeats 16000000
namespace Go.Proofs.YtncgcejlkmoliaaGreatDoor.Pa
open Go.RowKit
def tellP (P:Pg) (s:ByteArray):Pg:=if refusal P=0 then (if P.wait.length=60 then { P with cut:=true } else { P with wait:=P.wait++[s] }) else P
theorem refusal_good {P:Pg} (h:refusal P=0):goodP P=true∧P.cut=false:=by
 unfold refusal at h
 cases hg:goodP P with
 | false=>simp [hg] at h
 | true=>cases hc:P.cut with
  | false=>exact ⟨rfl,rfl⟩
  | true=>simp [hg,hc] at h
theorem good_len {P:Pg} (h:goodP P=true):P.wait.length≤60∧P.ring.size≤700∧0≤P.shown∧P.shown≤200:=by
 simp only [goodP,gheight,Bool.and_eq_true,decide_eq_true_eq] at h
 omega
theorem tell_any (P:Pg) (s:ByteArray) (v:Value) (w:World) (hv:Reads w v P.wait) (hs:Small P):Calls Tryz.prog 122 #[.agg (P.cells v),.string s] w fun e w'=>∃ v',e=.returned (.tuple #[.agg ((tellP P s).cells v'),.int .i64 (refusal P)])∧Reads w' v' (tellP P s).wait∧Far (w.heap.size+2) v'∧Below w.heap.size w w':=by
 have C0:=hide (fun w' h=>refused_any P v w' h hs)
 have C1:=hide (fun w' h=>own_all P v w' h hs)
 have hv1:=hide hv
 have hlen:=hs.len
 obtain ⟨i0,hi0,hz0,hz1,hz2⟩:=info_parts Tryz.info9
 obtain ⟨av,cap,rfl⟩:=hv.shape
 have hT:=two_new (w:=w) (P:=P) (v:=.slice av P.wait.length cap)
 clear hv hs
 have HG:Hid (refusal P=0→goodP P=true∧P.cut=false):=hide refusal_good
 generalize hR:refusal P=R at C0 HG ⊢
 have HT:=hide (show tellP P s=if R=0 then (if P.wait.length=60 then { P with cut:=true } else { P with wait:=P.wait++[s] }) else P by unfold tellP; rw [hR])
 clear hR
 have HW:∀ w1,Below (w.heap.size+2) ((w.alloc (.cells (P.cells (.slice av P.wait.length cap)) 51)).alloc (.cells (zp.cells (.slice none 0 0)) 51)) w1→Two w P (.slice av P.wait.length cap) w1∧Reads w1 (.slice av P.wait.length cap) P.wait:=fun w1 hb=>⟨hT.behind hb (by simp),((hv1.out.alloc _).alloc _).below hb (by simp)⟩
 replace HW:=hide HW
 have hT0:=hide hT
 clear hT
 unfold Pg.cells at C0 C1 ⊢
 go_enter Tryz.func122,Tryz.ntmps122
 go_upto_region 2 with (go_at_call 135; refine (C0.out _ ((hv1.out.alloc _).alloc _)).mono ?_; rintro e w1 ⟨rfl,hb1⟩)
 rw [World.size_alloc,World.size_alloc] at hb1
 obtain ⟨hT1,hv2⟩:=HW.out w1 hb1
 obtain ⟨c0,c1,c2,c3,c4,hfz⟩:=hT1.cod.all
 have hb1':=hide hb1
 replace hT1:=hide hT1
 replace hv2:=hide hv2
 clear hb1 hT0
 go_cut [] (fun wc=>∃ v2,Inv w w.heap.size P v2 wc∧wc.ownsRow (w.heap.size+2) 9 1 v2 P.wait.length (scells P.wait))
 case first =>
  go_wp2_with fail
  refine (C1.out _ hv2.out).mono ?_
  rintro e w2 ⟨v2,rfl,ho,hb2⟩
  have hrm:=hT1.out.room
  have ho2:=own_base ho (by omega:w.heap.size+2≤w1.heap.size+2)
  have hb3:=(hb1'.out).trans (hb2.mono (by omega))
  have hi:=inv_own (P:=P) (v:=.slice av P.wait.length cap) hb3 (reads_own ho) (far_own ho2)
  obtain ⟨av2,cap2,rfl⟩:=own_shape ho
  have HO:=hide (own_five (x0:=.slice av2 P.wait.length cap2) (x1:=.int .i64 P.shown) (x2:=.bool P.asking) (x3:=.string P.ring) (x4:=.bool P.cut) (b:=w.heap.size) ho2 (by omega))
  have hT2:=hT1.out.behind hb2 (Nat.le_refl _)
  clear c0 c1 c2 c3 c4 hfz
  obtain ⟨c0,c1,c2,c3,c4,hfz⟩:=hT2.cod.all
  have hzr:=hT2.room
  replace hi:=hide hi
  clear hT2 hb2 ho ho2 hb3
  go_wp2_with fail
  go_meet
  exact ⟨_,hi.out,HO.out⟩
 case rest =>
  obtain ⟨v2,hi,ho⟩:=hcut
  obtain ⟨av2,cap2,rfl⟩:=own_shape ho
  clear c0 c1 c2 c3 c4 hfz
  obtain ⟨c0,c1,c2,c3,c4,hfz⟩:=hi.cod.all
  obtain ⟨d0,d1,d2,d3,d4,hfd⟩:=hi.other.all
  have hzr:=hi.room
  have hfar:=hi.far
  by_cases hR0:R=0
  ·subst hR0
   obtain ⟨hg,hcut0⟩:=HG.out rfl
   have hl:=(good_len hg).1
   clear hg HG
   by_cases h60:P.wait.length=60
   ·have HE:=hide (HT.out.trans (by simp [h60]):tellP P s={ P with cut:=true })
    have hi3:=hide (hi.put (P':={ P with cut:=true }) 4 (.bool true) (by simp [Pg.cells]) hi.reads hi.far)
    have e60:((P.wait.length:Int)==60)=true:=by simp [h60]
    clear hi ho h60 hl HT hcut0
    go_wp2
    obtain ⟨f1,f2,f3⟩:=hi3.out.done
    exact bodyPost_ret (res2 Tryz.results122 rfl rfl f1) rfl ⟨_,by rw [HE.out]; rfl,by rw [HE.out]; exact f2,hi3.out.far,f3⟩
   ·have HE:=hide (HT.out.trans (by simp [h60]):tellP P s={ P with wait:=P.wait++[s] })
    have e60:((P.wait.length:Int)==60)=false:=by simp; omega
    have HI:=hide hi
    have hroom:=hi.room
    clear hi h60 HT hcut0
    go_wp2_with (at_builtin; refine wpList_append_own_at _ rfl (.tmp 22) (.tmp 24) 47 rfl (w.heap.size+2) 9 i0 (.string ⟨#[]⟩) 1 16 Tryz.underlying47 hi0 hz0 hz1 hz2 rfl (by decide) _ P.wait.length (scells P.wait) rfl (ho.alloc _) ⟨wc.heap.size,0,none⟩ 1 1 (scells [s]) rfl ?a1 ?a2 (scells_one _) ?a3 ?a4 ?a5 ?_)
    case a1=>rfl
    case a2 =>
     intro j u hj
     cases j with
     | zero=>simp [scells] at hj; subst hj; exact cell_new (by simp) _ _
     | succ j=>simp [scells] at hj
    case a3=>unfold maxLen; omega
    case a4=>omega
    case a5=>simp; omega
    intro v3 w3 ho3 hg3 _ _
    have hbw:Below (wc.heap.size) wc (wc.alloc (.cells #[.string s] 9)):=(Below.refl _ _).alloc (Nat.le_refl _) _
    have ho3':w3.ownsRow (w.heap.size+2) 9 1 v3 (P.wait++[s]).length (scells (P.wait++[s])):=by
     rw [scells_append,List.length_append]; exact ho3
    have hIA:=HI.out.behind hbw (Nat.le_refl _)
    have hkeep:∀ k,k < w.heap.size+2→w3.heap[k]?=(wc.alloc (.cells #[.string s] 9)).heap[k]?:=fun k hk=>hg3.block k (by simp; omega) (fun e=>by have:=(ho.lt k e.symm).1; omega)
    have hcd:PCod w3 w.heap.size P (.slice av2 P.wait.length cap2):=by unfold PCod; rw [hkeep _ (by omega)]; exact hIA.cod
    have hcz:PCod w3 (w.heap.size+1) zp (.slice none 0 0):=by unfold PCod; rw [hkeep _ (by omega)]; exact hIA.other
    have hb3:Below w.heap.size w w3:=hIA.below.grown hg3 (by simp; omega) (fun k e=>by have:=(ho.lt k e).1; omega)
    have hi3:Inv w w.heap.size { P with wait:=P.wait++[s] } v3 (w3.setCell ⟨w.heap.size,0,none⟩ v3) :=
     ⟨Nat.le_refl _,hb3.setCell (Nat.le_refl _) _,pcod_mk (pcod_set hcd 0 v3) (by simp [Pg.cells]),pcod_ne hcz (by omega) _ _,(reads_own ho3').put (off_far (far_own ho3') (by omega)) _ _,far_own ho3'⟩
    obtain ⟨av3,cap3,rfl⟩:=own_shape ho3
    clear c0 c1 c2 c3 c4 hfz d0 d1 d2 d3 d4 hfd
    obtain ⟨c0,c1,c2,c3,c4,hfz⟩:=hcd.all
    obtain ⟨d0,d1,d2,d3,d4,hfd⟩:=hcz.all
    have hz3:=hcz.lt
    replace hi3:=hide hi3
    clear ho3 hg3 hbw ho3' hIA hkeep hcd hcz hb3 HI ho
    go_wp2
    obtain ⟨f1,f2,f3⟩:=hi3.out.done
    exact bodyPost_ret (res2 Tryz.results122 rfl rfl f1) rfl ⟨_,by rw [HE.out]; rfl,by rw [HE.out]; exact f2,hi3.out.far,f3⟩
  ·have HE:=hide (HT.out.trans (by simp [hR0]):tellP P s=P)
   have hi3:=hide hi
   have hRb:(R==0)=false:=by simp [hR0]
   clear hi ho HT HG
   go_wp2
   obtain ⟨f1,f2,f3⟩:=hi3.out.done
   exact bodyPost_ret (res2 Tryz.results122 rfl rfl f1) rfl ⟨_,by rw [HE.out]; rfl,by rw [HE.out]; exact f2,hi3.out.far,f3⟩
open Go.RowKit
def pbcells (l:List UInt8):List Value:=l.map fun b=>Value.int .u8 b.toNat
theorem foldl_push (l:List UInt8):∀ (r:ByteArray),(l.map fun b=>(b.toNat:Int)).foldl (fun r n=>r.push (UInt8.ofNat n.toNat)) r=⟨(r.data.toList++l).toArray⟩:=by
 induction l with
 | nil=>intro r; cases r; simp
 | cons a l ih =>
  intro r
  simp only [List.map_cons,List.foldl_cons]
  rw [ih]
  cases r
  simp [ByteArray.push]
theorem conv_bytes (w:World) (a:Addr) (n c:Nat) (l:List UInt8) (hn:n=l.length) (h:∀ j v,(pbcells l)[j]?=some v→w.cell? (a.add j)=some v) :
 (convert 123 9 (.slice (some a) n c)).run Tryz.prog w=.ok (.string ⟨l.toArray⟩) w:=by
 subst hn
 rw [run_convert_bytes_string w 123 9 5 (some a) _ c Tryz.underlying123 Tryz.underlying5 Tryz.underlying9]
 have hc:=run_loadCells_list (P:=Tryz.prog) (w:=w) a (pbcells l) h
 have e:pbcells l=(l.map fun b=>(b.toNat:Int)).map (Value.int .u8):=by simp [pbcells]
 rw [run_bytesToString w a l.length c (l.map fun b=>(b.toNat:Int)) (by rw [← e]; simpa [pbcells] using hc),foldl_push]
 simp
theorem conv_nil (w:World):(convert 123 9 (.slice none 0 0)).run Tryz.prog w=.ok (.string ⟨#[]⟩) w:=by
 rw [run_convert_bytes_string w 123 9 5 none 0 0 Tryz.underlying123 Tryz.underlying5 Tryz.underlying9]
 rfl
theorem conv_own (w:World) (base:Nat) (v:Value) (l:List UInt8) (hown:w.ownsRow base 5 1 v l.length (pbcells l)) (W:World) (hW:W.heap=w.heap) :
 (convert 123 9 v).run Tryz.prog W=.ok (.string ⟨l.toArray⟩) W:=by
 rcases hown.2 with ⟨rfl,h0⟩ | ⟨g,cap,cur,rfl,hbg,hgg,hnc,hcm,hcs,htake⟩
 ·have:l=[]:=List.eq_nil_of_length_eq_zero h0
  subst this
  exact conv_nil W
 ·refine conv_bytes W _ _ _ l rfl ?_
  intro j u hj
  have:=hown.cells (g:=g) rfl j u hj
  simpa [World.cell?,hW] using this
theorem Tryz.info5:(Tryz.prog.info? 5).map (fun i=>(i.zero,i.size,i.bytes))=some (some (.int .u8 0),1,1):=by kernel_rfl
theorem wp_append1 {ops:Array Oper} {rest:List Oper} {o:Oper} {a:Act} {Q:Exit→Act→World→Prop} (w:World) (hgd:o.guard=none) (s x:Operand)
 (ho:o.op=.call { callee:=.builtin .append,args:=#[s,x],argTypes:=#[123,123] }) (base:Nat) (v:Value) (l:List UInt8) (hs:a.eval s=v)
 (hown:w.ownsRow base 5 1 v l.length (pbcells l)) (c:UInt8) (ad:Addr) (hx:a.eval x=.slice (some ad) 1 1) (hnew:w.cell? ad=some (.int .u8 c.toNat)) (hsz:l.length+1≤8388608) (hbase:base≤w.heap.size)
 (h:∀ v' w',w'.ownsRow base 5 1 v' (l++[c]).length (pbcells (l++[c]))→w.grownBy w' v.ownBlock→(v'.ownBlock=v.ownBlock∨v'.ownBlock=some w.heap.size)→wpList Tryz.prog ops Q rest (a.put o.dst v') w') :
 wpList Tryz.prog ops Q (o::rest) a w:=by
 obtain ⟨i0,hi,hz0,hz1,hz2⟩:=info_parts Tryz.info5
 refine wpList_append_own_at w hgd s x 123 ho base 5 i0 (.int .u8 0) 1 1 Tryz.underlying123 hi hz0 hz1 hz2 rfl (by decide) v l.length (pbcells l) hs hown ad 1 1 [.int .u8 c.toNat] hx rfl ?_ ?_ (by unfold maxLen; omega) (by omega) hbase ?_
 ·intro j u hj
  cases j with
  | zero=>simp at hj; subst hj; simpa [Addr.add] using hnew
  | succ j=>simp at hj
 ·intro u hu; simp at hu; subst hu; rfl
 ·intro v' w' h1 h2 _ h4
  exact h v' w' (by simpa [pbcells] using h1) h2 h4
theorem take_snoc (s:ByteArray) (k:Nat) (h:k < s.size):s.data.toList.take (k+1)=s.data.toList.take k++[s[k]]:=by
 rw [List.take_succ_eq_append_getElem (by simpa using h)]; rfl
def escL (l:List UInt8):List UInt8:=l.flatMap fun c=>if c=255 then [255,c] else [c]
def esc (s:ByteArray):ByteArray:=⟨(escL s.data.toList).toArray⟩
theorem escL_append (a b:List UInt8):escL (a++b)=escL a++escL b:=by simp [escL]
theorem escL_len (l:List UInt8):(escL l).length≤2*l.length:=by
 induction l with
 | nil=>simp [escL]
 | cons c l ih =>
  have:escL (c::l)=escL [c]++escL l:=escL_append [c] l
  rw [this,List.length_append]
  have h1:(escL [c]).length≤2:=by simp only [escL,List.flatMap_cons,List.flatMap_nil]; split <;> simp
  simp only [List.length_cons]
  omega
theorem esc_size (s:ByteArray):(esc s).size≤2*s.size:=by
 have h:=escL_len s.data.toList
 have e:(esc s).size=(escL s.data.toList).length:=by simp [esc,ByteArray.size]
 have e':s.data.toList.length=s.size:=by rw [Array.length_toList]; rfl
 omega
theorem escape_any (s:ByteArray) (w:World) (hs:s.size≤1048576) :
 Calls Tryz.prog 184 #[.string s] w fun e w'=>e=.returned (.string (esc s))∧Below w.heap.size w w':=by
 go_enter Tryz.func184,Tryz.ntmps184
 go_wp2
 go_loopw [3,4] (fun v i wr=>∃ (k:Nat) (L:List UInt8),k≤s.size∧i=.int .i64 k∧Hid (escL (s.data.toList.take k)=L)∧wr.ownsRow w.heap.size 5 1 v L.length (pbcells L)∧Below w.heap.size w wr) (fun _ i _=>s.size - (intOf i).toNat)
 case atStart=>exact ⟨0,[],Nat.zero_le _,rfl,rfl,World.ownsRow_nil _ _ _ _,Below.refl _ _⟩
 case round =>
  obtain ⟨k,L,hk,rfl,HL,hown,hb⟩:=hrel
  have hlen:L.length≤2*k:=by
   have h1:=escL_len (s.data.toList.take k)
   have h2:(s.data.toList.take k).length≤k:=List.length_take_le _ _
   rw [HL.out] at h1
   omega
  have hsz:=hb.size
  by_cases hlt:k < s.size
  ·have k255:=byte_beq s[k] 255 (by omega)
   by_cases hc:s[k]=255
   ·have HN:=hide (show escL (s.data.toList.take (k+1))=L++[255]++[s[k]] by rw [take_snoc s k hlt,escL_append,HL.out]; simp [escL,hc])
    have ec:(((s[k].toNat:Nat):Int)==255)=true:=by simp [hc]
    clear hc k255
    go_wp2_with (at_builtin; refine wp_append1 _ rfl (.tmp 15) (.tmp 16) rfl w.heap.size _ L rfl (hown.alloc _) 255 ⟨wr.heap.size,0,none⟩ rfl ?c1 ?c2 ?c3 ?_)
    case c1=>simp
    case c2=>omega
    case c3=>simp; omega
    intro v2 w2 ho2 hg2 _
    have hb2:Below w.heap.size w w2:=(hb.alloc hsz _).grown hg2 (by simp; omega) (fun j e=>(hown.lt j e).1)
    have hsz2:=hb2.size
    clear hg2 hown
    go_wp2_with (at_builtin; refine wp_append1 _ rfl (.tmp 18) (.tmp 22) rfl w.heap.size _ (L++[255]) rfl ((by rw [List.length_append]; exact ho2:w2.ownsRow w.heap.size 5 1 v2 (L++[255]).length (pbcells (L++[255]))).alloc _) s[k] ⟨w2.heap.size,0,none⟩ rfl ?d1 ?d2 ?d3 ?_)
    case d1=>simp
    case d2=>simp; omega
    case d3=>simp; omega
    intro v3 w3 ho3 hg3 _
    have hb3:Below w.heap.size w w3:=(hb2.alloc hsz2 _).grown hg3 (by simp; omega) (fun j e=>(ho2.lt j e).1)
    clear hg3
    go_wp2
    exact ⟨⟨k+1,_,by omega,by go_num,HN,by simpa using ho3,hb3⟩,by simp [intOf]; omega⟩
   ·have HN:=hide (show escL (s.data.toList.take (k+1))=L++[s[k]] by rw [take_snoc s k hlt,escL_append,HL.out]; simp [escL,hc])
    have ec:(((s[k].toNat:Nat):Int)==255)=false:=by simpa [hc] using k255
    clear hc k255
    go_wp2_with (at_builtin; refine wp_append1 _ rfl (.tmp 18) (.tmp 22) rfl w.heap.size _ L rfl (hown.alloc _) s[k] ⟨wr.heap.size,0,none⟩ rfl ?c1 ?c2 ?c3 ?_)
    case c1=>simp
    case c2=>omega
    case c3=>simp; omega
    intro v2 w2 ho2 hg2 _
    have hb2:Below w.heap.size w w2:=(hb.alloc hsz _).grown hg2 (by simp; omega) (fun j e=>(hown.lt j e).1)
    clear hg2 hown
    go_wp2
    exact ⟨⟨k+1,_,by omega,by go_num,HN,by simpa using ho2,hb2⟩,by simp [intOf]; omega⟩
  ·have hkk:k=s.size:=by omega
   have HT:=hide (show escL s.data.toList=L by have:=HL.out; rwa [hkk,List.take_of_length_le (by simp)] at this)
   have hX:=conv_own wr _ _ L hown wr rfl
   clear hkk
   go_wp2
   go_ret
   exact ⟨by unfold esc; rw [HT.out]; rfl,hb⟩
open Go.RowKit
def crlf:ByteArray:=⟨#[13,10]⟩
def lineB (f:ByteArray):ByteArray:=esc f++crlf
theorem line_size (f:ByteArray) (h:f.size≤1048576):(lineB f).size≤2097154:=by
 have:=esc_size f
 unfold lineB
 rw [ByteArray.size_append]
 have:crlf.size=2:=rfl
 omega
def shownP (P:Pg) (f:ByteArray) (r:List ByteArray):Pg:=sentP { P with wait:=r,shown:=min (P.shown+1) 200 } (lineB f)
theorem Two.drew {w wr:World} {P:Pg} {v:Value} (h:Two w P v wr):Two w P v wr.drew:=h.behind (Below.refl wr.heap.size wr).drew (Nat.le_refl _)
theorem reads_head {w:World} {v:Value} {f:ByteArray} {r:List ByteArray} (h:Reads w v (f::r)) :
 ∃ g off cap,v=.slice (some ⟨g,off,none⟩) (r.length+1) cap∧w.cell? ⟨g,off,none⟩=some (.string f)∧r.length+1≤cap:=by
 obtain ⟨av,cap,rfl,hl,hm,hn,hc⟩:=h
 obtain ⟨g,off,rfl,hcell⟩:=hc (by simp)
 exact ⟨g,off,cap,rfl,by have:=hcell 0 (by simp); simp only [Nat.add_zero,List.getElem_cons_zero] at this; exact this,hl⟩
theorem shown_one (P:Pg) (f:ByteArray) (g off:Nat) (w:World) (hc0:w.cell? ⟨g,off,none⟩=some (.string f))  (hs:P.ring.size≤140737488355328) (h0:0≤P.shown) (h2:P.shown≤200) (hf:f.size≤1048576) :
 Calls Tryz.prog 147 #[.agg (P.cells (.slice (some ⟨g,off,none⟩) 1 1))] w fun e w'=>e=.returned (.agg ((shownP P f []).cells (.slice (some ⟨g,off,none⟩) 0 0)))∧Below w.heap.size w w':=by
 have hglt:=cell_lt hc0
 simp only at hglt
 have hT:=two_new (w:=w) (P:=P) (v:=.slice (some ⟨g,off,none⟩) 1 1)
 have CE:=hide (fun w'=>escape_any f w' hf)
 have CS:=hide (fun w'=>sent_any { P with wait:=[],shown:=min (P.shown+1) 200 } (lineB f) (some ⟨g,off,none⟩) 0 0 w' hs (by have:=line_size f hf; unfold maxLen; omega))
 have hsz:=esc_size f
 have hmn:∀ (w:World) ts t,(Builtin.min_ ts t #[.int .i64 (P.shown+1),.int .i64 200]).run Tryz.prog w=.ok (.int .i64 (min (P.shown+1) 200)) w:=fun w ts t=>by
  rw [run_min_int2]; congr 2; split <;> omega
 have HE:Hid (shownP P f []=sentP { P with wait:=[],shown:=min (P.shown+1) 200 } (lineB f)):=hide rfl
 generalize shownP P f []=R at HE ⊢
 generalize hmm:min (P.shown+1) 200=m at CS hmn HE
 rw [← HE.out] at CS
 clear HE hmm
 have hmax:P.shown+1≤9223372036854775807:=by omega
 have hadd:¬ 9223372036854775807 < (esc f).size+2:=by omega
 replace hT:=hide hT
 unfold Pg.cells lineB crlf at CS
 unfold Pg.cells
 go_enter Tryz.func147,Tryz.ntmps147
 go_upto_region 2 with fail
 go_cut [] (fun wc=>Two w { P with wait:=[] } (.slice (some ⟨g,off,none⟩) 0 0) wc)
 case first =>
  go_wp2_with fail
  go_meet
  exact two_new (P:={ P with wait:=[] })
 case rest =>
  obtain ⟨c0,c1,c2,c3,c4,hfz⟩:=hcut.cod.all
  have hI:=hcut.put (P':={ P with wait:=[],shown:=m }) (v':=.slice (some ⟨g,off,none⟩) 0 0) 1 (.int .i64 m) (by simp [Pg.cells])
  have hz:=hcut.room
  simp only at c0 c1 c2 c3 c4
  replace hI:=hide hI
  clear hcut hT hc0 hglt
  dsimp only at CS
  go_upto_region 4 with fail
  clear c0 c1 c2 c3 c4 hfz hz hmn
  generalize wc.setCell _ _=wd at hI ⊢
  have hId:=hI.out.drew
  obtain ⟨c0,c1,c2,c3,c4,hfz⟩:=hI.out.cod.all
  replace hId:=hide hId
  clear hI
  simp only at c0 c1 c2 c3 c4
  go_region_with (first | (go_at_call 184; refine (CE.out _).mono ?_; rintro e w3 ⟨rfl,hb3⟩; have hi3:=hId.out.behind hb3 (Nat.le_refl _); obtain ⟨e0,e1,e2,e3,e4,efz⟩:=hi3.cod.all; replace hi3:=hide hi3) | (go_at_call 136; refine (CS.out _).mono ?_; rintro e w4 ⟨rfl,hb4⟩; have hi4:=hi3.out.behind hb4 (Nat.le_refl _); obtain ⟨d0,d1,d2,d3,d4,dfz⟩:=hi4.other.all; have hz4:=hi4.room; replace hi4:=hide hi4))
  all_goals go_wp2
  all_goals obtain ⟨f1,f3⟩:=hi4.out.done (P':=R) (v':=.slice (some ⟨g,off,none⟩) 0 0)
  all_goals exact bodyPost_ret (res1 Tryz.results147 rfl f1) rfl ⟨rfl,f3⟩
theorem shown_more (P:Pg) (f:ByteArray) (r:List ByteArray) (g off cap:Nat) (w:World) (hc0:w.cell? ⟨g,off,none⟩=some (.string f)) (hlc:r.length+1≤cap) (hcap:¬ cap=1) (hs:P.ring.size≤140737488355328) (h0:0≤P.shown) (h2:P.shown≤200) (hf:f.size≤1048576) :
 Calls Tryz.prog 147 #[.agg (P.cells (.slice (some ⟨g,off,none⟩) (r.length+1) cap))] w fun e w'=>e=.returned (.agg ((shownP P f r).cells (.slice (some ⟨g,off+1,none⟩) r.length (cap - 1))))∧Below w.heap.size w w':=by
 have hglt:=cell_lt hc0
 simp only at hglt
 have hT:=two_new (w:=w) (P:=P) (v:=.slice (some ⟨g,off,none⟩) (r.length+1) cap)
 have CE:=hide (fun w'=>escape_any f w' hf)
 have CS:=hide (fun w'=>sent_any { P with wait:=r,shown:=min (P.shown+1) 200 } (lineB f) (some ⟨g,off+1,none⟩) r.length (cap - 1) w' hs (by have:=line_size f hf; unfold maxLen; omega))
 have hsz:=esc_size f
 have hmn:∀ (w:World) ts t,(Builtin.min_ ts t #[.int .i64 (P.shown+1),.int .i64 200]).run Tryz.prog w=.ok (.int .i64 (min (P.shown+1) 200)) w:=fun w ts t=>by
  rw [run_min_int2]; congr 2; split <;> omega
 have HE:Hid (shownP P f r=sentP { P with wait:=r,shown:=min (P.shown+1) 200 } (lineB f)):=hide rfl
 generalize shownP P f r=R at HE ⊢
 generalize hmm:min (P.shown+1) 200=m at CS hmn HE
 rw [← HE.out] at CS
 clear HE hmm
 have hmax:P.shown+1≤9223372036854775807:=by omega
 have hadd:¬ 9223372036854775807 < (esc f).size+2:=by omega
 replace hT:=hide hT
 unfold Pg.cells lineB crlf at CS
 unfold Pg.cells
 go_enter Tryz.func147,Tryz.ntmps147
 go_upto_region 2 with fail
 go_cut [] (fun wc=>Two w { P with wait:=r } (.slice (some ⟨g,off+1,none⟩) r.length (cap - 1)) wc)
 case first =>
  go_wp2_with fail
  go_meet
  exact two_new (P:={ P with wait:=r })
 case rest =>
  obtain ⟨c0,c1,c2,c3,c4,hfz⟩:=hcut.cod.all
  have hI:=hcut.put (P':={ P with wait:=r,shown:=m }) (v':=.slice (some ⟨g,off+1,none⟩) r.length (cap - 1)) 1 (.int .i64 m) (by simp [Pg.cells])
  have hz:=hcut.room
  simp only at c0 c1 c2 c3 c4
  replace hI:=hide hI
  clear hcut hT hc0 hglt
  dsimp only at CS
  go_upto_region 4 with fail
  clear c0 c1 c2 c3 c4 hfz hz hmn
  generalize wc.setCell _ _=wd at hI ⊢
  have hId:=hI.out.drew
  obtain ⟨c0,c1,c2,c3,c4,hfz⟩:=hI.out.cod.all
  replace hId:=hide hId
  clear hI
  simp only at c0 c1 c2 c3 c4
  go_region_with (first | (go_at_call 184; refine (CE.out _).mono ?_; rintro e w3 ⟨rfl,hb3⟩; have hi3:=hId.out.behind hb3 (Nat.le_refl _); obtain ⟨e0,e1,e2,e3,e4,efz⟩:=hi3.cod.all; replace hi3:=hide hi3) | (go_at_call 136; refine (CS.out _).mono ?_; rintro e w4 ⟨rfl,hb4⟩; have hi4:=hi3.out.behind hb4 (Nat.le_refl _); obtain ⟨d0,d1,d2,d3,d4,dfz⟩:=hi4.other.all; have hz4:=hi4.room; replace hi4:=hide hi4))
  all_goals go_wp2
  all_goals obtain ⟨f1,f3⟩:=hi4.out.done (P':=R) (v':=.slice (some ⟨g,off+1,none⟩) r.length (cap - 1))
  all_goals exact bodyPost_ret (res1 Tryz.results147 rfl f1) rfl ⟨rfl,f3⟩
end Go.Proofs.YtncgcejlkmoliaaGreatDoor.Pa
