import Derived.Test.YtncgcejlkmoliaaGreatDoorMk41
set_option linter.unusedVariables false
set_option maxRecDepth 100000
set_option maxHeartbeats 16000000
namespace Go.Proofs.YtncgcejlkmoliaaGreatDoor.Ho
open Go.RowKit
def seatAt (M:Hm) (i:Int):Option Se:=if 0≤i∧i < 4 then M.seat i.toNat else none
def stateOf:Option Se→Int × Int
 | none=>(0,-1)
 | some S=>if plays S=true then (2,S.being) else (1,-1)
def pageOf:Option Se→Pa.Pg
 | none=>Pa.zp
 | some S=>S.pg
def lineOf:Option Se→Li.Lin
 | none=>Li.zl
 | some S=>S.lin
def toldOf:Option Se→List ByteArray
 | none=>[]
 | some S=>S.told
theorem ev_list {w:World} {base:Nat} {v:Value} {Es:List Ev} (h:w.ownsRow base 71 16 v Es.length (evc Es)):(v=.slice none 0 0∧Es=[])∨∃ g cap,v=.slice (some ⟨g,0,none⟩) Es.length cap∧g < w.heap.size∧∀ j u,(evc Es)[j]?=some u→w.cell? ((⟨g,0,none⟩:Addr).add j)=some u:=by
 rcases h.2 with ⟨rfl,h0⟩ | ⟨g,cap,cur,rfl,h1,h2,h3⟩
 ·exact .inl ⟨rfl,List.eq_nil_of_length_eq_zero h0⟩
 ·exact .inr ⟨g,cap,rfl,(Array.getElem?_eq_some_iff.1 h2).1,h.cells (g:=g) rfl⟩
theorem evc_one (Es:List Ev):∀ u ∈ evc Es,u.oneCell'=true:=by
 intro u hu
 simp only [evc,List.mem_flatMap] at hu
 obtain ⟨E,_,hE⟩:=hu
 exact (Array.all_eq_true_iff_forall_mem.1 (Ev.one E)) u (by simpa using hE)
theorem own_emptyE (w:World):(w.alloc (.cells #[] 71)).ownsRow w.heap.size 71 16 (.slice (some ⟨w.heap.size,0,none⟩) 0 0) 0 [] :=
 ⟨rfl,.inr ⟨w.heap.size,0,#[],rfl,Nat.le_refl _,heap_alloc_new w _,Nat.le_refl _,Nat.zero_le _,rfl,rfl⟩⟩
theorem cloneE_any (Es:List Ev) (v:Value) (w:World) {base:Nat} (hv:w.ownsRow base 71 16 v Es.length (evc Es)) (hq:Es.length≤1000000):Calls Tryz.prog 58 #[v] w fun e w'=>∃ v',e=.returned v'∧w'.ownsRow w.heap.size 71 16 v' Es.length (evc Es)∧Below w.heap.size w w':=by
 obtain ⟨i0,hi,hz0,hz1,hz2⟩:=info_parts Tryz.infoEv
 have hnil:∀ (w:World) (a:Option Addr) (n c:Nat),(binOp .eql 45 (.slice a n c) (.slice none 0 0)).run Tryz.prog w=.ok (.bool a.isNone) w:=fun w a n c=>by
  rw [Lib.run_eql_slice_nil w 45 71 a n c 0 0 Tryz.underlying45]
 rcases ev_list hv with ⟨rfl,rfl⟩ | ⟨g,cap,rfl,hg,hc⟩
 ·go_enter Tryz.func58,Tryz.ntmps58
  go_wp2
  go_ret
  exact ⟨_,rfl,World.ownsRow_nil _ _ _ _,Below.refl _ _⟩
 ·have hlist:=hide hc
  have hlen:=evc_len Es
  clear hc hv
  go_enter Tryz.func58,Tryz.ntmps58
  go_wp2_with (at_builtin; refine wpList_append_own_at _ rfl (.tmp 5) (.tmp 6) 45 rfl w.heap.size 71 i0 (.agg zeroEv.cells) 16 160 Tryz.underlying45 hi hz0 hz1 hz2 rfl (by decide) _ 0 [] rfl (own_emptyE w) ⟨g,0,none⟩ Es.length cap (evc Es) rfl ?c1 ?c2 (evc_one Es) ?c3 ?c4 ?c5 ?_)
  case c1=>exact hlen
  case c2 =>
   intro j u hj
   have h:=hlist.out j u hj
   have hlt:=cell_lt h
   rw [((Below.refl w.heap.size w).alloc (Nat.le_refl _) _).cell (p:=(⟨g,0,none⟩:Addr).add j) hlt]; exact h
  case c3=>unfold maxLen; omega
  case c4=>omega
  case c5=>simp
  intro v' w' ho hg2 _ _
  go_wp2
  go_ret
  refine ⟨v',rfl,by simpa using ho,?_⟩
  exact ((Below.refl _ _).alloc (Nat.le_refl _) _).grown hg2 (by simp) (fun k e=>by simp [Value.ownBlock] at e; omega)
theorem at_any {W0:World} {lab:Nat→Nat} {w:World} {hb:Nat} {M:Hm} {p:Nat→Value} {vl:Value} (hV:HoV W0 lab w hb M p vl) (i:Int) :
 Calls Tryz.prog 52 #[.pointer (some ⟨hb,0,none⟩),.int .i64 i] w fun e w'=>e=.returned (if 0≤i∧i < 4 then p i.toNat else .pointer none)∧w'=w:=by
 have CA:=hide (fun w'=>among_any i w')
 by_cases h:0≤i∧i < 4
 ·rw [if_pos h]
  obtain ⟨k,rfl⟩:∃ k:Nat,i=(k:Int):=⟨i.toNat,by omega⟩
  rw [Int.toNat_natCast]
  have hk:k < 4:=by omega
  have hki:(k:Int) < 4:=by omega
  have hf:(decide (0≤(k:Int))&&decide ((k:Int) < 4))=true:=by simp; omega
  rw [hf] at CA
  have c0:=hV.ptr k hk
  have hp:∃ o,p k=.pointer o:=by
   rcases hV.seats k hk with ⟨_,e⟩ | ⟨_,_,_,_,_,_,e,_⟩ <;> exact ⟨_,e⟩
  obtain ⟨o,ho⟩:=hp
  rw [ho] at c0 ⊢
  clear h hf hV ho
  go_enter Tryz.func52,Tryz.ntmps52
  go_wp2_with (go_at_call 82; refine (CA.out _).mono ?_; rintro e w2 ⟨rfl,rfl⟩)
  go_ret
  exact ⟨rfl,rfl⟩
 ·rw [if_neg h]
  have hf:(decide (0≤i)&&decide (i < 4))=false:=by
   rw [Bool.and_eq_false_iff,decide_eq_false_iff_not,decide_eq_false_iff_not]; omega
  rw [hf] at CA
  clear h hf hV
  go_enter Tryz.func52,Tryz.ntmps52
  go_wp2_with (go_at_call 82; refine (CA.out _).mono ?_; rintro e w2 ⟨rfl,rfl⟩)
  go_ret
  exact ⟨rfl,rfl⟩
theorem at_cases {W0:World} {lab:Nat→Nat} {w:World} {hb:Nat} {M:Hm} {p:Nat→Value} {vl:Value} (hV:HoV W0 lab w hb M p vl) (i:Int) :
 (seatAt M i=none∧∀ w',w'=w→Calls Tryz.prog 52 #[.pointer (some ⟨hb,0,none⟩),.int .i64 i] w' fun e w''=>e=.returned (.pointer none)∧w''=w') ∨
 ∃ k S vq vp vt,seatAt M i=some S∧SeV w k S vq vp vt∧∀ w',w'=w→Calls Tryz.prog 52 #[.pointer (some ⟨hb,0,none⟩),.int .i64 i] w' fun e w''=>e=.returned (.pointer (some ⟨k,0,none⟩))∧w''=w':=by
 have h:=at_any hV i
 unfold seatAt
 by_cases hi:0≤i∧i < 4
 ·rw [if_pos hi] at h ⊢
  rcases hV.seats i.toNat (by omega) with ⟨e1,e2⟩ | ⟨k,S,vq,vp,vt,e1,e2,hS⟩
  ·rw [e2] at h
   exact .inl ⟨e1,fun w' hw=>by subst hw; exact h⟩
  ·rw [e2] at h
   exact .inr ⟨k,S,vq,vp,vt,e1,hS.v,fun w' hw=>by subst hw; exact h⟩
 ·rw [if_neg hi] at h ⊢
  exact .inl ⟨rfl,fun w' hw=>by subst hw; exact h⟩
theorem state_any {W0:World} {lab:Nat→Nat} {w:World} {hb:Nat} {M:Hm} (h:HoC W0 lab w hb M) (i:Int) :
 Calls Tryz.prog 16 #[.pointer (some ⟨hb,0,none⟩),.int .i64 i] w fun e w'=>e=.returned (.tuple #[.int .i64 (stateOf (seatAt M i)).1,.int .i64 (stateOf (seatAt M i)).2])∧Below w.heap.size w w':=by
 obtain ⟨p,vl,hV⟩:=h
 rcases at_cases hV i with ⟨e,hC⟩ | ⟨k,S,vq,vp,vt,e,hS,hC⟩
 ·rw [e]
  have C:=hide (hC w rfl)
  clear hC hV
  go_enter Tryz.func16,Tryz.ntmps16
  go_wp2_with fail
  refine C.out.mono ?_
  rintro e w2 ⟨rfl,rfl⟩
  go_wp2
  go_ret2
  exact ⟨rfl,Below.refl _ _⟩
 ·rw [e]
  have C:=hide (hC w rfl)
  have CP:=hide (plays_any hS.cell)
  have c19:w.cell? ⟨k,19,none⟩=some (.int .i64 S.being):=SeV.one hS.cell 19
  have HE:Hid (stateOf (some S)=if plays S=true then (2,S.being) else (1,-1)):=hide rfl
  generalize stateOf (some S)=R at *
  clear hC hV hS
  cases hp:plays S with
  | true =>
   rw [hp] at CP
   rw [hp,if_pos rfl] at HE
   clear hp
   go_enter Tryz.func16,Tryz.ntmps16
   go_wp2_with fail
   refine C.out.mono ?_
   rintro e w2 ⟨rfl,hw2⟩
   subst hw2
   go_wp2_with fail
   refine CP.out.mono ?_
   rintro e w2 ⟨rfl,hw2⟩
   subst hw2
   go_wp2_with fail
   go_quiet (fail)
   go_wp2
   go_ret2
   exact ⟨by rw [HE.out]; rfl,below_drewN (Below.refl _ _) _⟩
  | false =>
   rw [hp] at CP
   rw [hp,if_neg (by simp)] at HE
   clear hp c19
   go_enter Tryz.func16,Tryz.ntmps16
   go_wp2_with fail
   refine C.out.mono ?_
   rintro e w2 ⟨rfl,hw2⟩
   subst hw2
   go_wp2_with fail
   refine CP.out.mono ?_
   rintro e w2 ⟨rfl,hw2⟩
   subst hw2
   go_wp2
   go_ret2
   exact ⟨by rw [HE.out]; rfl,Below.refl _ _⟩
theorem last_any {W0:World} {lab:Nat→Nat} {w:World} {hb:Nat} {M:Hm} (h:HoC W0 lab w hb M) (hl:M.last.length≤1000000) :
 Calls Tryz.prog 19 #[.pointer (some ⟨hb,0,none⟩)] w fun e w'=>∃ v,e=.returned v∧w'.ownsRow w.heap.size 71 16 v M.last.length (evc M.last)∧Below w.heap.size w w':=by
 obtain ⟨p,vl,hV⟩:=h
 have c0:=hV.last
 have C:=hide (cloneE_any M.last vl w hV.row hl)
 obtain ⟨av,cap,rfl⟩:=shapeE hV.row
 clear hV
 go_enter Tryz.func19,Tryz.ntmps19
 go_wp2_with fail
 refine C.out.mono ?_
 rintro e w2 ⟨v,rfl,ho,hb2⟩
 clear C c0
 go_wp2
 go_ret
 exact ⟨v,rfl,ho,hb2⟩
theorem told_any {W0:World} {lab:Nat→Nat} {w:World} {hb:Nat} {M:Hm} (h:HoC W0 lab w hb M) (i:Int) (hl:(toldOf (seatAt M i)).length≤1000000) :
 Calls Tryz.prog 20 #[.pointer (some ⟨hb,0,none⟩),.int .i64 i] w fun e w'=>∃ v,e=.returned v∧w'.ownsRow w.heap.size 9 1 v (toldOf (seatAt M i)).length (scells (toldOf (seatAt M i)))∧Below w.heap.size w w':=by
 obtain ⟨p,vl,hV⟩:=h
 rcases at_cases hV i with ⟨e,hC⟩ | ⟨k,S,vq,vp,vt,e,hS,hC⟩
 ·rw [e]
  have C:=hide (hC w rfl)
  clear hC hV
  go_enter Tryz.func20,Tryz.ntmps20
  go_wp2_with fail
  refine C.out.mono ?_
  rintro e w2 ⟨rfl,rfl⟩
  go_wp2
  go_ret
  exact ⟨_,rfl,World.ownsRow_nil _ _ _ _,Below.refl _ _⟩
 ·rw [e] at hl ⊢
  have C:=hide (hC w rfl)
  have c20:w.cell? ⟨k,20,none⟩=some vt:=SeV.one hS.cell 20
  have CC:=hide (Li.clone_any S.told vt w (reads_own hS.t) (by have:S.told.length≤1000000:=hl; omega))
  obtain ⟨av,cap,rfl⟩:=own_shape hS.t
  clear hC hV hS
  go_enter Tryz.func20,Tryz.ntmps20
  go_wp2_with fail
  refine C.out.mono ?_
  rintro e w2 ⟨rfl,hw2⟩
  subst hw2
  go_wp2_with fail
  refine CC.out.mono ?_
  rintro e w3 ⟨v,rfl,ho,hb3⟩
  clear CC c20 C
  go_wp2
  go_ret
  exact ⟨v,rfl,ho,hb3⟩
theorem page_any {W0:World} {lab:Nat→Nat} {w:World} {hb:Nat} {M:Hm} (h:HoC W0 lab w hb M) (i:Int) (hl:(pageOf (seatAt M i)).wait.length≤1000000) :
 Calls Tryz.prog 22 #[.pointer (some ⟨hb,0,none⟩),.int .i64 i] w fun e w'=>∃ v,e=.returned (.agg ((pageOf (seatAt M i)).cells v))∧w'.ownsRow w.heap.size 9 1 v (pageOf (seatAt M i)).wait.length (scells (pageOf (seatAt M i)).wait)∧Below w.heap.size w w':=by
 have hz:=(zero_of_info Tryz.zPage).1
 have B0:=below_box w (.cells (Pa.zp.cells (.slice none 0 0)) 51)
 have h1:=h.below B0
 have Z0:=hide (heap_alloc_new w (.cells (Pa.zp.cells (.slice none 0 0)) 51))
 obtain ⟨p,vl,hV⟩:=h1
 rcases at_cases hV i with ⟨e,hC⟩ | ⟨k,S,vq,vp,vt,e,hS,hC⟩
 ·rw [e]
  have C:=hide (hC _ rfl)
  clear hC hV h
  go_enter Tryz.func22,Tryz.ntmps22
  go_wp2_with fail
  refine C.out.mono ?_
  rintro e w2 ⟨rfl,hw2⟩
  subst hw2
  go_wp2_with (refine wl_over 51 (.tmp 4) (.tmp 12) rfl rfl w.heap.size 0 (Pa.zp.cells (.slice none 0 0)) _ _ 51 rfl rfl Z0.out (by show 0+5≤5; omega) Tryz.sizePage (one_pg rfl) (show over (Pa.zp.cells (.slice none 0 0)) 0 (Pa.zp.cells (.slice none 0 0)).toList=Pa.zp.cells (.slice none 0 0) from rfl) ?_; intro W1 g1 u1)
  exact bodyPost_ret (v:=.agg (Pa.zp.cells (.slice none 0 0))) (results_cell_row rfl _ _ w.heap.size 51 (Pa.zp.cells (.slice none 0 0)) (0,0) _ rfl g1 Tryz.underlying51 rfl Tryz.sizePage) rfl ⟨_,rfl,World.ownsRow_nil _ _ _ _,Upd.below B0 u1 (Nat.le_refl _)⟩
 ·rw [e] at hl ⊢
  have hl2:S.pg.wait.length≤1000000:=hl
  show Calls _ _ _ _ fun e w'=>∃ v,e=.returned (.agg (S.pg.cells v))∧w'.ownsRow w.heap.size 9 1 v S.pg.wait.length (scells S.pg.wait)∧Below w.heap.size w w'
  have C:=hide (hC _ rfl)
  have S0:=hide hS
  have hkl:k < w.heap.size+1:=by have:=hS.lt; simpa using this
  have hv0:=slice_one hS.p
  generalize hPP:S.pg=P at *
  have B1:=B0.alloc (by simp) (.cells (Pa.zp.cells (.slice none 0 0)) 51)
  have P1:=hide (show ((w.alloc (.cells (Pa.zp.cells (.slice none 0 0)) 51)).alloc (.cells (Pa.zp.cells (.slice none 0 0)) 51)).heap[w.heap.size+1]?=some (.cells (Pa.zp.cells (.slice none 0 0)) 51 (0,0)) by
   have:=heap_alloc_new (w.alloc (.cells (Pa.zp.cells (.slice none 0 0)) 51)) (.cells (Pa.zp.cells (.slice none 0 0)) 51)
   rw [World.size_alloc] at this; exact this)
  have Z1:=hide ((Below.heap_alloc (w.alloc (.cells (Pa.zp.cells (.slice none 0 0)) 51)) (.cells (Pa.zp.cells (.slice none 0 0)) 51) w.heap.size (by simp)).trans Z0.out)
  have hrp:Reads (w.alloc (.cells (Pa.zp.cells (.slice none 0 0)) 51)) vp P.wait:=by rw [← hPP]; exact S0.out.p
  have RP:=hide hrp
  obtain ⟨av,cap,rfl⟩:=hrp.shape
  clear hC hV h hrp hS
  go_enter Tryz.func22,Tryz.ntmps22
  go_wp2_with fail
  refine C.out.mono ?_
  rintro e w2 ⟨rfl,hw2⟩
  subst hw2
  go_upto_region 5 with (first | (refine wl_lpage (.tmp 15) rfl rfl rfl S0.out.cell ?_; rw [hPP]) | (refine wl_over 51 (.tmp 6) (.tmp 16) rfl rfl (w.heap.size+1) 0 (P.cells (.slice av P.wait.length cap)) _ _ 51 rfl rfl P1.out (by show 0+5≤5; omega) Tryz.sizePage (one_pg hv0) (show over (Pa.zp.cells (.slice none 0 0)) 0 (P.cells (.slice av P.wait.length cap)).toList=P.cells (.slice av P.wait.length cap) from rfl) ?_; intro W1 g1 u1))
  have RW:=hide (Reads.same (RP.out.alloc (.cells (Pa.zp.cells (.slice none 0 0)) 51)) (w':=W1) fun h0 b off n c e=>u1.block b (by have:=RP.out.lt h0 b off n c e; simp at this; omega))
  have CC:=hide (Li.clone_any P.wait _ W1 RW.out (by omega))
  have cw:W1.cell? ⟨w.heap.size+1,0,none⟩=some (.slice av P.wait.length cap):=by rw [cell_of_row _ _ _ _ _ _ g1]; rfl
  have hsz1:W1.heap.size=w.heap.size+2:=by rw [u1.size]; simp
  have Z2:=hide ((u1.block w.heap.size (by omega)).trans Z1.out)
  have B2:=hide (Upd.below B1 u1 (by omega))
  have G1:=hide g1
  clear g1 u1 RP RW P1 Z1 B1 Z0 B0
  simp only [Act.put]
  go_upto_region 6 with fail
  refine CC.out.mono ?_
  rintro e w3 ⟨v3,rfl,ho,hb3⟩
  have hs3:=hb3.size
  have P3:=hide ((hb3.block (w.heap.size+1) (by omega)).trans G1.out)
  have Z3:=hide ((hb3.block w.heap.size (by omega)).trans Z2.out)
  have B3:=hide (B2.out.trans (hb3.mono (by omega)))
  have hv3:=own_one ho
  have O3:=hide ho
  clear CC ho hb3 G1 Z2 cw C S0 B2
  go_upto_region 6 with (refine wl_over1 47 (.tmp 20) (.tmp 19) rfl rfl (w.heap.size+1) 0 v3 _ (P.cells v3) 51 rfl rfl P3.out (by show 0 < 5; omega) Tryz.sizeStrs hv3 rfl ?_; intro W4 g4 u4)
  have Z4:=hide ((u4.block w.heap.size (by omega)).trans Z3.out)
  have G4:=hide g4
  have O4:=hide (own_same O3.out (w':=W4) fun g hg=>u4.block g (by have:=own_lt O3.out g hg; omega))
  have B4:=hide (Upd.below B3.out u4 (by omega))
  clear g4 u4 Z3 O3 B3 P3
  go_wp2_with (first | (refine wl_wanted rfl (wp_load_row 51 (.tmp 6) rfl (w.heap.size+1) rfl 51 (P.cells v3) (0,0) _ G4.out Tryz.underlying51 rfl Tryz.sizePage ?_)) | (refine wl_over 51 (.tmp 4) (.tmp 21) rfl rfl w.heap.size 0 (P.cells v3) _ _ 51 rfl rfl Z4.out (by show 0+5≤5; omega) Tryz.sizePage (one_pg hv3) (show over (Pa.zp.cells (.slice none 0 0)) 0 (P.cells v3).toList=P.cells v3 from rfl) ?_; intro W5 g5 u5))
  exact bodyPost_ret (v:=.agg (P.cells v3)) (results_cell_row rfl _ _ w.heap.size 51 (P.cells v3) (0,0) _ rfl g5 Tryz.underlying51 rfl Tryz.sizePage) rfl ⟨v3,rfl,own_weak (own_same O4.out fun g hg=>u5.block g (by have:=own_lt O4.out g hg; omega)) (by omega),Upd.below B4.out u5 (Nat.le_refl _)⟩
open Go.RowKit
theorem wl_hland {ops:Array Oper} {rest:List Oper} {op:Oper} {a:Act} {w:World} {Q:Exit→Act→World→Prop} (x:Operand) (ho:op.op=.load 43 x) (hw:Region.wanted op (yielded ops a.tmps)=true) {hb:Nat} {L:Ld} (hx:a.eval x=.pointer (some ⟨hb,0,none⟩)) (hc:w.rangeAt hb 0 L.cells.toList)
 (h:wpList Tryz.prog ops Q rest (a.put op.dst (.agg L.cells)) w):wpList Tryz.prog ops Q (op::rest) a w :=
 wl_mid 43 x ho hw hb 0 L.cells.toList _ hx hc Tryz.underlying43 rfl (by rw [Array.length_toList,L.size]; exact Tryz.sizeLand) (by rw [Array.toArray_toList]; exact h)
theorem land_any {W0:World} {lab:Nat→Nat} {w:World} {hb:Nat} {M:Hm} (h:HoC W0 lab w hb M) :
 Calls Tryz.prog 18 #[.pointer (some ⟨hb,0,none⟩)] w fun e w'=>e=.returned (.agg M.L.cells)∧Below w.heap.size w w':=by
 obtain ⟨p,vl,hV⟩:=h
 have hz:=(zero_of_info Tryz.zLand).1
 have B0:=below_box w (.cells zl.cells 43)
 have LD:=hide (hV.below B0).land
 have Z0:=hide (heap_alloc_new w (.cells zl.cells 43))
 generalize M.L=L at *
 clear hV
 go_enter Tryz.func18,Tryz.ntmps18
 go_wp2_with (first | (refine wl_hland (.tmp 8) rfl rfl rfl LD.out ?_) | (refine wl_over 43 (.tmp 2) (.tmp 9) rfl rfl w.heap.size 0 L.cells zl.cells L.cells 43 rfl rfl Z0.out (by rw [L.size,zl.size] <;> omega) (by rw [L.size]; exact Tryz.sizeLand) (land_one L) (over_whole (by rw [L.size,zl.size])) ?_; intro W1 g1 u1))
 exact bodyPost_ret (v:=.agg L.cells) (results_cell_row rfl _ _ w.heap.size 43 L.cells (0,0) _ rfl g1 Tryz.underlying43 rfl (by rw [Ld.size]; exact Tryz.sizeLand)) rfl ⟨rfl,Upd.below B0 u1 (Nat.le_refl _)⟩
open Go.RowKit
def pz:Nat→Value:=fun _=>.pointer none
theorem Tryz.zHouse:(Tryz.prog.info? 102).map (fun i=>(i.zero,i.size))=some (some (.agg (zl.more (pre pz 0) (.slice none 0 0))),171):=by kernel_rfl
theorem Tryz.pHouse:(Tryz.prog.fieldsOf 102).toList.mapM (fun f=>(Tryz.prog.info? f.type).map fun i=>(f.offset,i.size))=some [(0,165),(165,4),(169,1),(170,1)]:=by kernel_rfl
theorem built_house (L:Ld):Tryz.prog.built 102 [(0,.agg L.cells)]=some (L.more (pre pz 0) (.slice none 0 0)):=by
 obtain ⟨hz,hs⟩:=zero_of_info Tryz.zHouse
 cases hi:Tryz.prog.info? 102 with
 | none=>rw [hi] at hs; simp at hs
 | some it =>
  have hz':it.zero=some (.agg (zl.more (pre pz 0) (.slice none 0 0))):=by
   have:=Tryz.zHouse
   rw [hi] at this
   simp at this
   exact this.1
  have hu:Tryz.prog.underlying 102=some (.struct (Tryz.prog.fieldsOf 102)):=by simp [Program.fieldsOf,Tryz.underlying102]
  unfold Program.built
  simp only [hi,hu,hz',Tryz.pHouse]
  exact fill_land L (pre pz 0) (.slice none 0 0) _ rfl []
theorem new_house {W0 w:World} (hlow:Below W0.heap.size W0 w):Calls Tryz.prog 42 #[] w fun e w'=>∃ hb,e=.returned (.pointer (some ⟨hb,0,none⟩))∧w.heap.size≤hb∧hb+1=w'.heap.size∧HoC W0 (fun n=>if n=hb then 4 else 9) w' hb newM∧Below w.heap.size w w':=by
 have C:=hide (new_any w)
 unfold newM
 have hs0:=hlow.size
 generalize nl=L at *
 go_enter Tryz.func42,Tryz.ntmps42
 go_wp2_with fail
 refine C.out.mono ?_
 rintro e w1 ⟨rfl,hb1⟩
 go_wp2_with (refine wl_build 102 #[(0,.tmp 1)] rfl ?hh _ _ (built_house L) ?hv ?_)
 go_ret
 have hs1:=hb1.size
 refine ⟨w1.heap.size,rfl,hs1,by simp,⟨pz,.slice none 0 0,?_⟩,hb1.alloc hs1 _⟩
 refine ⟨(hlow.trans (hb1.mono hs0)).alloc (by omega) _,fun n hn=>if_neg (by omega),fun n hn=>if_neg (by simp at hn; omega),heap_alloc_new w1 _,World.ownsRow_nil _ _ _ _,if_pos rfl,fun g hg=>by simp [Value.ownBlock] at hg,fun i hi=>.inl ⟨rfl,rfl⟩⟩
theorem hears_acts (Es:List Ev):∀ M:Hm,(hearsM M Es).acts=M.acts:=by
 induction Es with
 | nil=>intro M; rfl
 | cons E r ih=>intro M; exact (ih (hearM E M)).trans rfl
theorem hap_acts (M:Hm) (X:Ld) (Es:List Ev):(hapM M X Es).acts=M.acts:=(hears_acts Es _).trans rfl
theorem order_acts (M:Hm) (b:Int) (O:Od):(orderM M b O).acts=M.acts:=by
 unfold orderM; split
 ·exact hap_acts _ _ _
 ·rfl
theorem leave_acts (M:Hm) (i:Nat):(leaveM M i).acts=M.acts:=by
 unfold leaveM; split
 ·rfl
 ·split
  ·exact (order_acts _ _ _).trans rfl
  ·rfl
theorem enter_acts (M:Hm) (i:Nat) (S:Se) (nm:ByteArray):(enterM M i S nm).acts=M.acts:=by
 unfold enterM; split
 ·exact (hap_acts _ _ _).trans rfl
 ·split <;> rfl
theorem obey_acts (M:Hm) (i:Nat) (S:Se) (l:List UInt8):(obeyM M i S l).acts=M.acts:=by
 unfold obeyM; split
 ·rfl
 ·split
  ·exact leave_acts M i
  ·exact order_acts _ _ _
theorem turn_acts (M:Hm) (i:Nat):(turnM M i).acts=M.acts:=by
 unfold turnM; split
 ·rfl
 ·split
  ·rfl
  ·split
   ·rfl
   ·split
    ·exact (obey_acts _ _ _ _).trans rfl
    ·exact (enter_acts _ _ _ _).trans rfl
theorem turns_acts (M:Hm):∀ k,(turnsM M k).acts=M.acts
 | 0=>rfl
 | k+1=>(turn_acts _ k).trans (turns_acts M k)
theorem pulse_acts (M:Hm) (n:Int):(pulseM M n).acts=M.acts:=(hap_acts _ _ _).trans (turns_acts M 4)
theorem cuts_acts (M:Hm) (i:Nat):(cutsM M i).1.acts=M.acts:=by
 unfold cutsM; split
 ·rfl
 ·split
  ·exact (leave_acts _ _).trans rfl
  ·rfl
theorem cutK_acts (M:Hm):∀ k,(cutK M k).1.acts=M.acts
 | 0=>rfl
 | k+1=>(cuts_acts _ k).trans (cutK_acts M k)
theorem flowN_acts:∀ (n:Nat) (M:Hm),(flowN n M).acts=M.acts
 | 0,_=>rfl
 | n+1,M=>by
  unfold flowN; split
  ·exact (flowN_acts n _).trans (cutK_acts M 4)
  ·exact cutK_acts M 4
theorem act_acts (M:Hm) (a:Ac):(actM M a).1.acts=M.acts:=by
 unfold actM; split
 ·exact pulse_acts _ _
 ·split
  ·rfl
  ·split
   ·rfl
   ·split
    ·rfl
    ·split
     ·rfl
     ·exact leave_acts _ _
theorem do_acts (M:Hm) (a:Ac):(doM M a).1.acts=if 400≤M.acts then M.acts else M.acts+1:=by
 unfold doM
 by_cases h:400≤M.acts
 ·rw [if_pos h,if_pos h]
 ·rw [if_neg h,if_neg h]
  split
  ·exact (flowN_acts 5 _).trans (act_acts _ _)
  ·rfl
theorem do_le {M:Hm} (a:Ac) (h:M.acts≤400):(doM M a).1.acts≤400:=by
 rw [do_acts]; split <;> omega
open Go.RowKit
theorem line_any {W0:World} {lab:Nat→Nat} {w:World} {hb:Nat} {M:Hm} (h:HoC W0 lab w hb M) (i:Int) (hl:(lineOf (seatAt M i)).q.length≤1000000) :
 Calls Tryz.prog 24 #[.pointer (some ⟨hb,0,none⟩),.int .i64 i] w fun e w'=>∃ v,e=.returned (.agg ((lineOf (seatAt M i)).cells v))∧w'.ownsRow w.heap.size 9 1 v (lineOf (seatAt M i)).q.length (scells (lineOf (seatAt M i)).q)∧Below w.heap.size w w':=by
 have hz:=(zero_of_info Tryz.zLine).1
 have B0:=below_box w (.cells (Li.zl.cells (.slice none 0 0)) 55)
 have h1:=h.below B0
 have Z0:=hide (heap_alloc_new w (.cells (Li.zl.cells (.slice none 0 0)) 55))
 obtain ⟨p,vl,hV⟩:=h1
 rcases at_cases hV i with ⟨e,hC⟩ | ⟨k,S,vq,vp,vt,e,hS,hC⟩
 ·rw [e]
  have C:=hide (hC _ rfl)
  clear hC hV h
  go_enter Tryz.func24,Tryz.ntmps24
  go_wp2_with fail
  refine C.out.mono ?_
  rintro e w2 ⟨rfl,hw2⟩
  subst hw2
  go_wp2_with (refine wl_over 55 (.tmp 4) (.tmp 12) rfl rfl w.heap.size 0 (Li.zl.cells (.slice none 0 0)) _ _ 55 rfl rfl Z0.out (by show 0+4≤4; omega) Tryz.sizeLine (one_lin rfl) (show over (Li.zl.cells (.slice none 0 0)) 0 (Li.zl.cells (.slice none 0 0)).toList=Li.zl.cells (.slice none 0 0) from rfl) ?_; intro W1 g1 u1)
  exact bodyPost_ret (v:=.agg (Li.zl.cells (.slice none 0 0))) (results_cell_row rfl _ _ w.heap.size 55 (Li.zl.cells (.slice none 0 0)) (0,0) _ rfl g1 Tryz.underlying55 rfl Tryz.sizeLine) rfl ⟨_,rfl,World.ownsRow_nil _ _ _ _,Upd.below B0 u1 (Nat.le_refl _)⟩
 ·rw [e] at hl ⊢
  have hl2:S.lin.q.length≤1000000:=hl
  show Calls _ _ _ _ fun e w'=>∃ v,e=.returned (.agg (S.lin.cells v))∧w'.ownsRow w.heap.size 9 1 v S.lin.q.length (scells S.lin.q)∧Below w.heap.size w w'
  have C:=hide (hC _ rfl)
  have S0:=hide hS
  have hkl:k < w.heap.size+1:=by have:=hS.lt; simpa using this
  have hv0:=slice_one hS.q
  generalize hPP:S.lin=P at *
  have B1:=B0.alloc (by simp) (.cells (Li.zl.cells (.slice none 0 0)) 55)
  have P1:=hide (show ((w.alloc (.cells (Li.zl.cells (.slice none 0 0)) 55)).alloc (.cells (Li.zl.cells (.slice none 0 0)) 55)).heap[w.heap.size+1]?=some (.cells (Li.zl.cells (.slice none 0 0)) 55 (0,0)) by
   have:=heap_alloc_new (w.alloc (.cells (Li.zl.cells (.slice none 0 0)) 55)) (.cells (Li.zl.cells (.slice none 0 0)) 55)
   rw [World.size_alloc] at this; exact this)
  have Z1:=hide ((Below.heap_alloc (w.alloc (.cells (Li.zl.cells (.slice none 0 0)) 55)) (.cells (Li.zl.cells (.slice none 0 0)) 55) w.heap.size (by simp)).trans Z0.out)
  have hrp:Reads (w.alloc (.cells (Li.zl.cells (.slice none 0 0)) 55)) vq P.q:=by rw [← hPP]; exact S0.out.q
  have RP:=hide hrp
  obtain ⟨av,cap,rfl⟩:=hrp.shape
  clear hC hV h hrp hS
  go_enter Tryz.func24,Tryz.ntmps24
  go_wp2_with fail
  refine C.out.mono ?_
  rintro e w2 ⟨rfl,hw2⟩
  subst hw2
  go_upto_region 5 with (first | (refine wl_llin (.tmp 15) rfl rfl rfl S0.out.cell ?_; rw [hPP]) | (refine wl_over 55 (.tmp 6) (.tmp 16) rfl rfl (w.heap.size+1) 0 (P.cells (.slice av P.q.length cap)) _ _ 55 rfl rfl P1.out (by show 0+4≤4; omega) Tryz.sizeLine (one_lin hv0) (show over (Li.zl.cells (.slice none 0 0)) 0 (P.cells (.slice av P.q.length cap)).toList=P.cells (.slice av P.q.length cap) from rfl) ?_; intro W1 g1 u1))
  have RW:=hide (Reads.same (RP.out.alloc (.cells (Li.zl.cells (.slice none 0 0)) 55)) (w':=W1) fun h0 b off n c e=>u1.block b (by have:=RP.out.lt h0 b off n c e; simp at this; omega))
  have CC:=hide (Li.clone_any P.q _ W1 RW.out (by omega))
  have cw:W1.cell? ⟨w.heap.size+1,3,none⟩=some (.slice av P.q.length cap):=by rw [cell_of_row _ _ _ _ _ _ g1]; rfl
  have hsz1:W1.heap.size=w.heap.size+2:=by rw [u1.size]; simp
  have Z2:=hide ((u1.block w.heap.size (by omega)).trans Z1.out)
  have B2:=hide (Upd.below B1 u1 (by omega))
  have G1:=hide g1
  clear g1 u1 RP RW P1 Z1 B1 Z0 B0
  simp only [Act.put]
  go_upto_region 6 with fail
  refine CC.out.mono ?_
  rintro e w3 ⟨v3,rfl,ho,hb3⟩
  have hs3:=hb3.size
  have P3:=hide ((hb3.block (w.heap.size+1) (by omega)).trans G1.out)
  have Z3:=hide ((hb3.block w.heap.size (by omega)).trans Z2.out)
  have B3:=hide (B2.out.trans (hb3.mono (by omega)))
  have hv3:=own_one ho
  have O3:=hide ho
  clear CC ho hb3 G1 Z2 cw C S0 B2
  go_upto_region 6 with (refine wl_over1 47 (.tmp 20) (.tmp 19) rfl rfl (w.heap.size+1) 3 v3 _ (P.cells v3) 55 rfl rfl P3.out (by show 3 < 4; omega) Tryz.sizeStrs hv3 rfl ?_; intro W4 g4 u4)
  have Z4:=hide ((u4.block w.heap.size (by omega)).trans Z3.out)
  have G4:=hide g4
  have O4:=hide (own_same O3.out (w':=W4) fun g hg=>u4.block g (by have:=own_lt O3.out g hg; omega))
  have B4:=hide (Upd.below B3.out u4 (by omega))
  clear g4 u4 Z3 O3 B3 P3
  go_wp2_with (first | (refine wl_wanted rfl (wp_load_row 55 (.tmp 6) rfl (w.heap.size+1) rfl 55 (P.cells v3) (0,0) _ G4.out Tryz.underlying55 rfl Tryz.sizeLine ?_)) | (refine wl_over 55 (.tmp 4) (.tmp 21) rfl rfl w.heap.size 0 (P.cells v3) _ _ 55 rfl rfl Z4.out (by show 0+4≤4; omega) Tryz.sizeLine (one_lin hv3) (show over (Li.zl.cells (.slice none 0 0)) 0 (P.cells v3).toList=P.cells v3 from rfl) ?_; intro W5 g5 u5))
  exact bodyPost_ret (v:=.agg (P.cells v3)) (results_cell_row rfl _ _ w.heap.size 55 (P.cells v3) (0,0) _ rfl g5 Tryz.underlying55 rfl Tryz.sizeLine) rfl ⟨v3,rfl,own_weak (own_same O4.out fun g hg=>u5.block g (by have:=own_lt O4.out g hg; omega)) (by omega),Upd.below B4.out u5 (Nat.le_refl _)⟩
open Go.RowKit
def aCome:Ac:=⟨1,2,0,⟨#[]⟩⟩
def aAnn:Ac:=⟨2,2,0,⟨#[97,110,110,13,10]⟩⟩
def aPulse:Ac:=⟨5,0,0,⟨#[]⟩⟩
theorem ali_a:((doM newM aCome).2.1==0)=true:=by kernel_rfl
theorem ali_b:((doM (doM (doM newM aCome).1 aAnn).1 aPulse).2.1==0)=true:=by kernel_rfl
theorem ali_c:(stateOf (seatAt (doM (doM (doM newM aCome).1 aAnn).1 aPulse).1 2)==(2,2))=true:=by kernel_rfl
theorem ali_d:decide (2 < (toldOf (seatAt (doM (doM (doM newM aCome).1 aAnn).1 aPulse).1 2)).length∧(toldOf (seatAt (doM (doM (doM newM aCome).1 aAnn).1 aPulse).1 2)).length≤1000)=true:=by kernel_rfl
theorem alive_pure:∃ M1 o1 M2 c2 o2 M3 o3,doM newM aCome=(M1,0,o1)∧doM M1 aAnn=(M2,c2,o2)∧doM M2 aPulse=(M3,0,o3)∧stateOf (seatAt M3 2)=(2,2)∧2 < (toldOf (seatAt M3 2)).length∧(toldOf (seatAt M3 2)).length≤1000:=by
 have h1:=of_decide_eq_true ali_d
 exact ⟨_,_,_,_,_,_,_,Prod.ext rfl (Prod.ext (beq_iff_eq.1 ali_a) rfl),rfl,Prod.ext rfl (Prod.ext (beq_iff_eq.1 ali_b) rfl),beq_iff_eq.1 ali_c,h1.1,h1.2⟩
open Go.RowKit
structure Rb (g:Nat) (c:Int) (s:ByteArray) (lab:Nat→Nat) (W:World):Prop where
 l:lab g=9
 h:W.heap[g]?=some (.cells #[.int .i64 c,.string s] 29 (0,0))
section
variable {g:Nat} {c:Int} {s:ByteArray} {lab lab':Nat→Nat} {W W':World}
theorem Rb.step (h:Rb g c s lab W) (hG:Gr lab lab' W W'):Rb g c s lab' W':=by
 have e1:=(Array.getElem?_eq_some_iff.1 h.h).1
 exact ⟨(hG.old _ e1).trans h.l,(hG.same _ e1 (.inr h.l)).trans h.h⟩
theorem Rb.c0 (h:Rb g c s lab W):W.cell? ⟨g,0,none⟩=some (.int .i64 c):=by rw [cell_of_row _ _ _ _ _ _ h.h]; rfl
theorem Rb.c1 (h:Rb g c s lab W):W.cell? ⟨g,1,none⟩=some (.string s):=by rw [cell_of_row _ _ _ _ _ _ h.h]; rfl
end
theorem alive_any {w:World} (hvb:Vb w) (hai:Ai w):Calls Tryz.prog 41 #[] w fun e w'=>e=.returned (.bool true)∧Below w.heap.size w w':=by
 obtain ⟨M1,o1,M2,c2,o2,M3,o3,e1,e2,e3,es,ed,ed2⟩:=alive_pure
 have I1:=iv_new.does aCome
 rw [e1] at I1
 have I2:=I1.does aAnn
 rw [e2] at I2
 have A1:M1.acts≤400:=by have:=do_le (M:=newM) aCome (by decide); rw [e1] at this; exact this
 have A2:M2.acts≤400:=by have:=do_le aAnn A1; rw [e2] at this; exact this
 have E1:=hide e1
 have E2:=hide e2
 have E3:=hide e3
 have ES:=hide es
 have J1:=hide I1
 have J2:=hide I2
 have J0:=hide iv_new
 clear e1 e2 e3 es I1 I2
 go_enter Tryz.func41,Tryz.ntmps41
 go_wp2_with fail
 refine (new_house (W0:=w) (Below.refl _ _)).mono ?_
 rintro e w1 ⟨hb,rfl,hh1,hh2,H1,B1⟩
 have D1:=do_house hvb hai H1 J0.out (by decide) aCome (by decide)
 rw [E1.out] at D1
 have D:=hide D1
 clear D1 H1 B1 J0
 go_upto_region 5 with (go_at_call 17; refine D.out.mono ?_; rintro e w2 ⟨rfl,lab2,H2,G2⟩; simp only [repC])
 have R2:=hide (show Rb w2.heap.size 0 o1 lab2 (w2.alloc (.cells #[.int .i64 0,.string o1] 29)) from ⟨H2.outs _ (Nat.le_refl _),heap_alloc_new w2 _⟩)
 have H2':=hide (H2.below (below_box w2 (.cells #[.int .i64 0,.string o1] 29)))
 have D1:=do_house hvb hai H2'.out J1.out A1 aAnn (by decide)
 rw [E2.out] at D1
 clear D G2 H2
 have D:=hide D1
 clear D1
 generalize w2.heap.size=g2 at *
 generalize w2.alloc (.cells #[.int .i64 0,.string o1] 29)=W2 at *
 go_upto_region 6 with (go_at_call 17; refine D.out.mono ?_; rintro e w3 ⟨rfl,lab3,H3,G3⟩; simp only [repC])
 have R3:=hide (R2.out.step G3)
 have D1:=do_house hvb hai H3 J2.out A2 aPulse (by decide)
 rw [E3.out] at D1
 clear D G3 H3 R2 H2'
 have D:=hide D1
 clear D1
 go_upto_region 7 with (go_at_call 17; refine D.out.mono ?_; rintro e w4 ⟨rfl,lab4,H4,G4⟩; simp only [repC])
 have R4:=hide ((R3.out.step G4).step (Gr.below (lab:=lab4) (below_box w4 (.cells #[.int .i64 0,.string o3] 29))))
 have R5:=hide (show Rb w4.heap.size 0 o3 lab4 (w4.alloc (.cells #[.int .i64 0,.string o3] 29)) from ⟨H4.outs _ (Nat.le_refl _),heap_alloc_new w4 _⟩)
 have H5:=hide (H4.below (below_box w4 (.cells #[.int .i64 0,.string o3] 29)))
 clear D G4 H4 R3
 generalize w4.heap.size=g4 at *
 generalize w4.alloc (.cells #[.int .i64 0,.string o3] 29)=W4 at *
 have CS:=state_any H5.out 2
 rw [ES.out] at CS
 have C:=hide CS
 clear CS
 go_upto_region 8 with (go_at_call 16; refine C.out.mono ?_; rintro e w5 ⟨rfl,hb5⟩)
 have H6:=hide (H5.out.below hb5)
 have c1:=((R4.out.step (Gr.below (lab:=lab4) hb5))).c0
 have c2:=((R5.out.step (Gr.below (lab:=lab4) hb5))).c0
 have CT:=hide (told_any H6.out 2 (by omega))
 clear C H5 R4 R5 hb5
 have hd2:(2:Int) < ((toldOf (seatAt M3 2)).length:Int):=by omega
 go_wp2_with (go_at_call 20; refine CT.out.mono ?_; rintro e w6 ⟨v,rfl,ho,hb6⟩; obtain ⟨av,cap,rfl⟩:=own_shape ho)
 go_ret
 exact ⟨rfl,(H6.out.below hb6).low⟩
end Go.Proofs.YtncgcejlkmoliaaGreatDoor.Ho
