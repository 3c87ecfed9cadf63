import Derived.Test.YtncgcejlkmoliaaGreatDoorMh23
set_option linter.unusedVariables false
set_option maxRecDepth 100000
set_option maxHeartbeats 16000000
namespace Go.Proofs.YtncgcejlkmoliaaGreatDoor.Te
open Go.RowKit
theorem settle_253_1_a (t:Tel) (b:Nat) (w:World) (h:Cod w b t) (hv:t.verb=253) (hn:t.u0=0) :
 Calls Tryz.prog 78 #[.pointer (some ⟨b,0,none⟩),.int .i64 1] w fun e w'=>e=.returned (.string ⟨(sayL 251 1:List UInt8).toArray⟩)∧Cod w' b { t with pos:=0,verb:=0,u0:=1 }∧w.grownBy w' (some b):=by
 obtain ⟨c0,c1,c2,c3,c4,c5,c6,c7,c8,c9,hfz⟩:=h.all
 have hbl:=h.lt
 rw [hv] at c1
 rw [hn] at c3
 clear hv hn
 go_enter Tryz.func78,Tryz.ntmps78
 go_wp2_with fail
 refine (ours_1 b _).mono ?_
 rintro e w1 ⟨rfl,n,rfl⟩
 go_wp2_with fail
 refine (begin_no b 3 251 252 1 (by omega) (by omega) (by omega) (by omega) _ (by go_simp) (by go_simp)).mono ?_
 rintro e w2 ⟨rfl,hb⟩
 go_wp2
 go_ret
 exact ⟨rfl,cod_mk (cod_below (cod_set (cod_drewN (cod_set (cod_set h _ _) _ _) _) _ _) hb (by simpa using hbl)) rfl,grown_below (grown_set (grown_drewN (grown_set (grown_set (grown_refl _ _) _ _) _ _) _) _ _) hb (by simp)⟩
theorem settle_253_1_n (t:Tel) (b:Nat) (w:World) (h:Cod w b t) (hv:t.verb=253) (hn:(t.u0==0)=false) :
 Calls Tryz.prog 78 #[.pointer (some ⟨b,0,none⟩),.int .i64 1] w fun e w'=>e=.returned (.string ⟨([]:List UInt8).toArray⟩)∧Cod w' b { t with pos:=0,verb:=0,u0:=1 }∧w.grownBy w' (some b):=by
 obtain ⟨c0,c1,c2,c3,c4,c5,c6,c7,c8,c9,hfz⟩:=h.all
 have hbl:=h.lt
 rw [hv] at c1
 clear hv
 go_enter Tryz.func78,Tryz.ntmps78
 go_wp2_with fail
 refine (ours_1 b _).mono ?_
 rintro e w1 ⟨rfl,n,rfl⟩
 go_wp2_with fail
 refine (begin_yes b 3 251 252 1 t.u0 hn _ (by go_simp) (by go_simp)).mono ?_
 rintro e w2 ⟨rfl,rfl⟩
 go_wp2
 go_ret
 exact ⟨rfl,cod_mk (cod_set (cod_drewN (cod_set (cod_set h _ _) _ _) _) _ _) rfl,grown_set (grown_drewN (grown_set (grown_set (grown_refl _ _) _ _) _ _) _) _ _⟩
theorem settle_253_3_a (t:Tel) (b:Nat) (w:World) (h:Cod w b t) (hv:t.verb=253) (hn:t.u1=0) :
 Calls Tryz.prog 78 #[.pointer (some ⟨b,0,none⟩),.int .i64 3] w fun e w'=>e=.returned (.string ⟨(sayL 251 3:List UInt8).toArray⟩)∧Cod w' b { t with pos:=0,verb:=0,u1:=1 }∧w.grownBy w' (some b):=by
 obtain ⟨c0,c1,c2,c3,c4,c5,c6,c7,c8,c9,hfz⟩:=h.all
 have hbl:=h.lt
 rw [hv] at c1
 rw [hn] at c4
 clear hv hn
 go_enter Tryz.func78,Tryz.ntmps78
 go_wp2_with fail
 refine (ours_3 b _).mono ?_
 rintro e w1 ⟨rfl,n,rfl⟩
 go_wp2_with fail
 refine (begin_no b 4 251 252 3 (by omega) (by omega) (by omega) (by omega) _ (by go_simp) (by go_simp)).mono ?_
 rintro e w2 ⟨rfl,hb⟩
 go_wp2
 go_ret
 exact ⟨rfl,cod_mk (cod_below (cod_set (cod_drewN (cod_set (cod_set h _ _) _ _) _) _ _) hb (by simpa using hbl)) rfl,grown_below (grown_set (grown_drewN (grown_set (grown_set (grown_refl _ _) _ _) _ _) _) _ _) hb (by simp)⟩
theorem settle_253_3_n (t:Tel) (b:Nat) (w:World) (h:Cod w b t) (hv:t.verb=253) (hn:(t.u1==0)=false) :
 Calls Tryz.prog 78 #[.pointer (some ⟨b,0,none⟩),.int .i64 3] w fun e w'=>e=.returned (.string ⟨([]:List UInt8).toArray⟩)∧Cod w' b { t with pos:=0,verb:=0,u1:=1 }∧w.grownBy w' (some b):=by
 obtain ⟨c0,c1,c2,c3,c4,c5,c6,c7,c8,c9,hfz⟩:=h.all
 have hbl:=h.lt
 rw [hv] at c1
 clear hv
 go_enter Tryz.func78,Tryz.ntmps78
 go_wp2_with fail
 refine (ours_3 b _).mono ?_
 rintro e w1 ⟨rfl,n,rfl⟩
 go_wp2_with fail
 refine (begin_yes b 4 251 252 3 t.u1 hn _ (by go_simp) (by go_simp)).mono ?_
 rintro e w2 ⟨rfl,rfl⟩
 go_wp2
 go_ret
 exact ⟨rfl,cod_mk (cod_set (cod_drewN (cod_set (cod_set h _ _) _ _) _) _ _) rfl,grown_set (grown_drewN (grown_set (grown_set (grown_refl _ _) _ _) _ _) _) _ _⟩
theorem settle_253_no (t:Tel) (b:Nat) (o:Int) (w:World) (h:Cod w b t) (hv:t.verb=253) (e1:(o==1)=false) (e2:(o==3)=false) (h0:0≤o) (h255:o≤255) :
 Calls Tryz.prog 78 #[.pointer (some ⟨b,0,none⟩),.int .i64 o] w fun e w'=>e=.returned (.string ⟨(sayL 252 o:List UInt8).toArray⟩)∧Cod w' b { t with pos:=0,verb:=0 }∧w.grownBy w' (some b):=by
 obtain ⟨c0,c1,c2,c3,c4,c5,c6,c7,c8,c9,hfz⟩:=h.all
 have hbl:=h.lt
 rw [hv] at c1
 clear hv
 go_enter Tryz.func78,Tryz.ntmps78
 go_wp2_with fail
 refine (ours_no b o e1 e2 _).mono ?_
 rintro e w1 ⟨rfl,n,rfl⟩
 go_wp2_with fail
 refine (begin_nil 251 252 o (by omega) (by omega) h0 h255 _).mono ?_
 rintro e w2 ⟨rfl,hb⟩
 go_wp2
 go_ret
 exact ⟨rfl,cod_mk (cod_below (cod_drewN (cod_set (cod_set h _ _) _ _) _) hb (by simpa using hbl)) rfl,grown_below (grown_drewN (grown_set (grown_set (grown_refl _ _) _ _) _ _) _) hb (by simp)⟩
theorem settle_254_1_a (t:Tel) (b:Nat) (w:World) (h:Cod w b t) (hv:t.verb=254) (hn:t.u0=1) :
 Calls Tryz.prog 78 #[.pointer (some ⟨b,0,none⟩),.int .i64 1] w fun e w'=>e=.returned (.string ⟨(sayL 252 1:List UInt8).toArray⟩)∧Cod w' b { t with pos:=0,verb:=0,u0:=0 }∧w.grownBy w' (some b):=by
 obtain ⟨c0,c1,c2,c3,c4,c5,c6,c7,c8,c9,hfz⟩:=h.all
 have hbl:=h.lt
 rw [hv] at c1
 rw [hn] at c3
 clear hv hn
 go_enter Tryz.func78,Tryz.ntmps78
 go_wp2_with fail
 refine (ours_1 b _).mono ?_
 rintro e w1 ⟨rfl,n,rfl⟩
 go_wp2_with fail
 refine (end_yes b 3 252 1 (by omega) (by omega) (by omega) (by omega) _ (by go_simp) (by go_simp)).mono ?_
 rintro e w2 ⟨rfl,hb⟩
 go_wp2
 go_ret
 exact ⟨rfl,cod_mk (cod_below (cod_set (cod_drewN (cod_set (cod_set h _ _) _ _) _) _ _) hb (by simpa using hbl)) rfl,grown_below (grown_set (grown_drewN (grown_set (grown_set (grown_refl _ _) _ _) _ _) _) _ _) hb (by simp)⟩
theorem settle_254_1_n (t:Tel) (b:Nat) (w:World) (h:Cod w b t) (hv:t.verb=254) (hn:(t.u0==1)=false) :
 Calls Tryz.prog 78 #[.pointer (some ⟨b,0,none⟩),.int .i64 1] w fun e w'=>e=.returned (.string ⟨([]:List UInt8).toArray⟩)∧Cod w' b { t with pos:=0,verb:=0,u0:=0 }∧w.grownBy w' (some b):=by
 obtain ⟨c0,c1,c2,c3,c4,c5,c6,c7,c8,c9,hfz⟩:=h.all
 have hbl:=h.lt
 rw [hv] at c1
 clear hv
 go_enter Tryz.func78,Tryz.ntmps78
 go_wp2_with fail
 refine (ours_1 b _).mono ?_
 rintro e w1 ⟨rfl,n,rfl⟩
 go_wp2_with fail
 refine (end_no b 3 252 1 t.u0 hn _ (by go_simp) (by go_simp)).mono ?_
 rintro e w2 ⟨rfl,rfl⟩
 go_wp2
 go_ret
 exact ⟨rfl,cod_mk (cod_set (cod_drewN (cod_set (cod_set h _ _) _ _) _) _ _) rfl,grown_set (grown_drewN (grown_set (grown_set (grown_refl _ _) _ _) _ _) _) _ _⟩
theorem settle_254_3_a (t:Tel) (b:Nat) (w:World) (h:Cod w b t) (hv:t.verb=254) (hn:t.u1=1) :
 Calls Tryz.prog 78 #[.pointer (some ⟨b,0,none⟩),.int .i64 3] w fun e w'=>e=.returned (.string ⟨(sayL 252 3:List UInt8).toArray⟩)∧Cod w' b { t with pos:=0,verb:=0,u1:=0 }∧w.grownBy w' (some b):=by
 obtain ⟨c0,c1,c2,c3,c4,c5,c6,c7,c8,c9,hfz⟩:=h.all
 have hbl:=h.lt
 rw [hv] at c1
 rw [hn] at c4
 clear hv hn
 go_enter Tryz.func78,Tryz.ntmps78
 go_wp2_with fail
 refine (ours_3 b _).mono ?_
 rintro e w1 ⟨rfl,n,rfl⟩
 go_wp2_with fail
 refine (end_yes b 4 252 3 (by omega) (by omega) (by omega) (by omega) _ (by go_simp) (by go_simp)).mono ?_
 rintro e w2 ⟨rfl,hb⟩
 go_wp2
 go_ret
 exact ⟨rfl,cod_mk (cod_below (cod_set (cod_drewN (cod_set (cod_set h _ _) _ _) _) _ _) hb (by simpa using hbl)) rfl,grown_below (grown_set (grown_drewN (grown_set (grown_set (grown_refl _ _) _ _) _ _) _) _ _) hb (by simp)⟩
theorem settle_254_3_n (t:Tel) (b:Nat) (w:World) (h:Cod w b t) (hv:t.verb=254) (hn:(t.u1==1)=false) :
 Calls Tryz.prog 78 #[.pointer (some ⟨b,0,none⟩),.int .i64 3] w fun e w'=>e=.returned (.string ⟨([]:List UInt8).toArray⟩)∧Cod w' b { t with pos:=0,verb:=0,u1:=0 }∧w.grownBy w' (some b):=by
 obtain ⟨c0,c1,c2,c3,c4,c5,c6,c7,c8,c9,hfz⟩:=h.all
 have hbl:=h.lt
 rw [hv] at c1
 clear hv
 go_enter Tryz.func78,Tryz.ntmps78
 go_wp2_with fail
 refine (ours_3 b _).mono ?_
 rintro e w1 ⟨rfl,n,rfl⟩
 go_wp2_with fail
 refine (end_no b 4 252 3 t.u1 hn _ (by go_simp) (by go_simp)).mono ?_
 rintro e w2 ⟨rfl,rfl⟩
 go_wp2
 go_ret
 exact ⟨rfl,cod_mk (cod_set (cod_drewN (cod_set (cod_set h _ _) _ _) _) _ _) rfl,grown_set (grown_drewN (grown_set (grown_set (grown_refl _ _) _ _) _ _) _) _ _⟩
theorem settle_254_no (t:Tel) (b:Nat) (o:Int) (w:World) (h:Cod w b t) (hv:t.verb=254) (e1:(o==1)=false) (e2:(o==3)=false) (h0:0≤o) (h255:o≤255) :
 Calls Tryz.prog 78 #[.pointer (some ⟨b,0,none⟩),.int .i64 o] w fun e w'=>e=.returned (.string ⟨([]:List UInt8).toArray⟩)∧Cod w' b { t with pos:=0,verb:=0 }∧w.grownBy w' (some b):=by
 obtain ⟨c0,c1,c2,c3,c4,c5,c6,c7,c8,c9,hfz⟩:=h.all
 have hbl:=h.lt
 rw [hv] at c1
 clear hv
 go_enter Tryz.func78,Tryz.ntmps78
 go_wp2_with fail
 refine (ours_no b o e1 e2 _).mono ?_
 rintro e w1 ⟨rfl,n,rfl⟩
 go_wp2_with fail
 refine (end_nil 252 o _).mono ?_
 rintro e w2 ⟨rfl,rfl⟩
 go_wp2
 go_ret
 exact ⟨rfl,cod_mk (cod_drewN (cod_set (cod_set h _ _) _ _) _) rfl,grown_drewN (grown_set (grown_set (grown_refl _ _) _ _) _ _) _⟩
theorem settle_251_3_a (t:Tel) (b:Nat) (w:World) (h:Cod w b t) (hv:t.verb=251) (hn:t.t1=0) :
 Calls Tryz.prog 78 #[.pointer (some ⟨b,0,none⟩),.int .i64 3] w fun e w'=>e=.returned (.string ⟨(sayL 253 3:List UInt8).toArray⟩)∧Cod w' b { t with pos:=0,verb:=0,t1:=1 }∧w.grownBy w' (some b):=by
 obtain ⟨c0,c1,c2,c3,c4,c5,c6,c7,c8,c9,hfz⟩:=h.all
 have hbl:=h.lt
 rw [hv] at c1
 rw [hn] at c7
 clear hv hn
 go_enter Tryz.func78,Tryz.ntmps78
 go_wp2_with fail
 refine (theirs_3 b _).mono ?_
 rintro e w1 ⟨rfl,n,rfl⟩
 go_wp2_with fail
 refine (begin_no b 7 253 254 3 (by omega) (by omega) (by omega) (by omega) _ (by go_simp) (by go_simp)).mono ?_
 rintro e w2 ⟨rfl,hb⟩
 go_wp2
 go_ret
 exact ⟨rfl,cod_mk (cod_below (cod_set (cod_drewN (cod_set (cod_set h _ _) _ _) _) _ _) hb (by simpa using hbl)) rfl,grown_below (grown_set (grown_drewN (grown_set (grown_set (grown_refl _ _) _ _) _ _) _) _ _) hb (by simp)⟩
theorem settle_251_3_n (t:Tel) (b:Nat) (w:World) (h:Cod w b t) (hv:t.verb=251) (hn:(t.t1==0)=false) :
 Calls Tryz.prog 78 #[.pointer (some ⟨b,0,none⟩),.int .i64 3] w fun e w'=>e=.returned (.string ⟨([]:List UInt8).toArray⟩)∧Cod w' b { t with pos:=0,verb:=0,t1:=1 }∧w.grownBy w' (some b):=by
 obtain ⟨c0,c1,c2,c3,c4,c5,c6,c7,c8,c9,hfz⟩:=h.all
 have hbl:=h.lt
 rw [hv] at c1
 clear hv
 go_enter Tryz.func78,Tryz.ntmps78
 go_wp2_with fail
 refine (theirs_3 b _).mono ?_
 rintro e w1 ⟨rfl,n,rfl⟩
 go_wp2_with fail
 refine (begin_yes b 7 253 254 3 t.t1 hn _ (by go_simp) (by go_simp)).mono ?_
 rintro e w2 ⟨rfl,rfl⟩
 go_wp2
 go_ret
 exact ⟨rfl,cod_mk (cod_set (cod_drewN (cod_set (cod_set h _ _) _ _) _) _ _) rfl,grown_set (grown_drewN (grown_set (grown_set (grown_refl _ _) _ _) _ _) _) _ _⟩
theorem settle_251_31_a (t:Tel) (b:Nat) (w:World) (h:Cod w b t) (hv:t.verb=251) (hn:t.t2=0) :
 Calls Tryz.prog 78 #[.pointer (some ⟨b,0,none⟩),.int .i64 31] w fun e w'=>e=.returned (.string ⟨(sayL 253 31:List UInt8).toArray⟩)∧Cod w' b { t with pos:=0,verb:=0,t2:=1 }∧w.grownBy w' (some b):=by
 obtain ⟨c0,c1,c2,c3,c4,c5,c6,c7,c8,c9,hfz⟩:=h.all
 have hbl:=h.lt
 rw [hv] at c1
 rw [hn] at c8
 clear hv hn
 go_enter Tryz.func78,Tryz.ntmps78
 go_wp2_with fail
 refine (theirs_31 b _).mono ?_
 rintro e w1 ⟨rfl,n,rfl⟩
 go_wp2_with fail
 refine (begin_no b 8 253 254 31 (by omega) (by omega) (by omega) (by omega) _ (by go_simp) (by go_simp)).mono ?_
 rintro e w2 ⟨rfl,hb⟩
 go_wp2
 go_ret
 exact ⟨rfl,cod_mk (cod_below (cod_set (cod_drewN (cod_set (cod_set h _ _) _ _) _) _ _) hb (by simpa using hbl)) rfl,grown_below (grown_set (grown_drewN (grown_set (grown_set (grown_refl _ _) _ _) _ _) _) _ _) hb (by simp)⟩
theorem settle_251_31_n (t:Tel) (b:Nat) (w:World) (h:Cod w b t) (hv:t.verb=251) (hn:(t.t2==0)=false) :
 Calls Tryz.prog 78 #[.pointer (some ⟨b,0,none⟩),.int .i64 31] w fun e w'=>e=.returned (.string ⟨([]:List UInt8).toArray⟩)∧Cod w' b { t with pos:=0,verb:=0,t2:=1 }∧w.grownBy w' (some b):=by
 obtain ⟨c0,c1,c2,c3,c4,c5,c6,c7,c8,c9,hfz⟩:=h.all
 have hbl:=h.lt
 rw [hv] at c1
 clear hv
 go_enter Tryz.func78,Tryz.ntmps78
 go_wp2_with fail
 refine (theirs_31 b _).mono ?_
 rintro e w1 ⟨rfl,n,rfl⟩
 go_wp2_with fail
 refine (begin_yes b 8 253 254 31 t.t2 hn _ (by go_simp) (by go_simp)).mono ?_
 rintro e w2 ⟨rfl,rfl⟩
 go_wp2
 go_ret
 exact ⟨rfl,cod_mk (cod_set (cod_drewN (cod_set (cod_set h _ _) _ _) _) _ _) rfl,grown_set (grown_drewN (grown_set (grown_set (grown_refl _ _) _ _) _ _) _) _ _⟩
theorem settle_251_no (t:Tel) (b:Nat) (o:Int) (w:World) (h:Cod w b t) (hv:t.verb=251) (e1:(o==3)=false) (e2:(o==31)=false) (h0:0≤o) (h255:o≤255) :
 Calls Tryz.prog 78 #[.pointer (some ⟨b,0,none⟩),.int .i64 o] w fun e w'=>e=.returned (.string ⟨(sayL 254 o:List UInt8).toArray⟩)∧Cod w' b { t with pos:=0,verb:=0 }∧w.grownBy w' (some b):=by
 obtain ⟨c0,c1,c2,c3,c4,c5,c6,c7,c8,c9,hfz⟩:=h.all
 have hbl:=h.lt
 rw [hv] at c1
 clear hv
 go_enter Tryz.func78,Tryz.ntmps78
 go_wp2_with fail
 refine (theirs_no b o e1 e2 _).mono ?_
 rintro e w1 ⟨rfl,n,rfl⟩
 go_wp2_with fail
 refine (begin_nil 253 254 o (by omega) (by omega) h0 h255 _).mono ?_
 rintro e w2 ⟨rfl,hb⟩
 go_wp2
 go_ret
 exact ⟨rfl,cod_mk (cod_below (cod_drewN (cod_set (cod_set h _ _) _ _) _) hb (by simpa using hbl)) rfl,grown_below (grown_drewN (grown_set (grown_set (grown_refl _ _) _ _) _ _) _) hb (by simp)⟩
theorem settle_252_3_a (t:Tel) (b:Nat) (w:World) (h:Cod w b t) (hv:t.verb=252) (hn:t.t1=1) :
 Calls Tryz.prog 78 #[.pointer (some ⟨b,0,none⟩),.int .i64 3] w fun e w'=>e=.returned (.string ⟨(sayL 254 3:List UInt8).toArray⟩)∧Cod w' b { t with pos:=0,verb:=0,t1:=0 }∧w.grownBy w' (some b):=by
 obtain ⟨c0,c1,c2,c3,c4,c5,c6,c7,c8,c9,hfz⟩:=h.all
 have hbl:=h.lt
 rw [hv] at c1
 rw [hn] at c7
 clear hv hn
 go_enter Tryz.func78,Tryz.ntmps78
 go_wp2_with fail
 refine (theirs_3 b _).mono ?_
 rintro e w1 ⟨rfl,n,rfl⟩
 go_wp2_with fail
 refine (end_yes b 7 254 3 (by omega) (by omega) (by omega) (by omega) _ (by go_simp) (by go_simp)).mono ?_
 rintro e w2 ⟨rfl,hb⟩
 go_wp2
 go_ret
 exact ⟨rfl,cod_mk (cod_below (cod_set (cod_drewN (cod_set (cod_set h _ _) _ _) _) _ _) hb (by simpa using hbl)) rfl,grown_below (grown_set (grown_drewN (grown_set (grown_set (grown_refl _ _) _ _) _ _) _) _ _) hb (by simp)⟩
theorem settle_252_3_n (t:Tel) (b:Nat) (w:World) (h:Cod w b t) (hv:t.verb=252) (hn:(t.t1==1)=false) :
 Calls Tryz.prog 78 #[.pointer (some ⟨b,0,none⟩),.int .i64 3] w fun e w'=>e=.returned (.string ⟨([]:List UInt8).toArray⟩)∧Cod w' b { t with pos:=0,verb:=0,t1:=0 }∧w.grownBy w' (some b):=by
 obtain ⟨c0,c1,c2,c3,c4,c5,c6,c7,c8,c9,hfz⟩:=h.all
 have hbl:=h.lt
 rw [hv] at c1
 clear hv
 go_enter Tryz.func78,Tryz.ntmps78
 go_wp2_with fail
 refine (theirs_3 b _).mono ?_
 rintro e w1 ⟨rfl,n,rfl⟩
 go_wp2_with fail
 refine (end_no b 7 254 3 t.t1 hn _ (by go_simp) (by go_simp)).mono ?_
 rintro e w2 ⟨rfl,rfl⟩
 go_wp2
 go_ret
 exact ⟨rfl,cod_mk (cod_set (cod_drewN (cod_set (cod_set h _ _) _ _) _) _ _) rfl,grown_set (grown_drewN (grown_set (grown_set (grown_refl _ _) _ _) _ _) _) _ _⟩
theorem settle_252_31_a (t:Tel) (b:Nat) (w:World) (h:Cod w b t) (hv:t.verb=252) (hn:t.t2=1) :
 Calls Tryz.prog 78 #[.pointer (some ⟨b,0,none⟩),.int .i64 31] w fun e w'=>e=.returned (.string ⟨(sayL 254 31:List UInt8).toArray⟩)∧Cod w' b { t with pos:=0,verb:=0,t2:=0 }∧w.grownBy w' (some b):=by
 obtain ⟨c0,c1,c2,c3,c4,c5,c6,c7,c8,c9,hfz⟩:=h.all
 have hbl:=h.lt
 rw [hv] at c1
 rw [hn] at c8
 clear hv hn
 go_enter Tryz.func78,Tryz.ntmps78
 go_wp2_with fail
 refine (theirs_31 b _).mono ?_
 rintro e w1 ⟨rfl,n,rfl⟩
 go_wp2_with fail
 refine (end_yes b 8 254 31 (by omega) (by omega) (by omega) (by omega) _ (by go_simp) (by go_simp)).mono ?_
 rintro e w2 ⟨rfl,hb⟩
 go_wp2
 go_ret
 exact ⟨rfl,cod_mk (cod_below (cod_set (cod_drewN (cod_set (cod_set h _ _) _ _) _) _ _) hb (by simpa using hbl)) rfl,grown_below (grown_set (grown_drewN (grown_set (grown_set (grown_refl _ _) _ _) _ _) _) _ _) hb (by simp)⟩
theorem settle_252_31_n (t:Tel) (b:Nat) (w:World) (h:Cod w b t) (hv:t.verb=252) (hn:(t.t2==1)=false) :
 Calls Tryz.prog 78 #[.pointer (some ⟨b,0,none⟩),.int .i64 31] w fun e w'=>e=.returned (.string ⟨([]:List UInt8).toArray⟩)∧Cod w' b { t with pos:=0,verb:=0,t2:=0 }∧w.grownBy w' (some b):=by
 obtain ⟨c0,c1,c2,c3,c4,c5,c6,c7,c8,c9,hfz⟩:=h.all
 have hbl:=h.lt
 rw [hv] at c1
 clear hv
 go_enter Tryz.func78,Tryz.ntmps78
 go_wp2_with fail
 refine (theirs_31 b _).mono ?_
 rintro e w1 ⟨rfl,n,rfl⟩
 go_wp2_with fail
 refine (end_no b 8 254 31 t.t2 hn _ (by go_simp) (by go_simp)).mono ?_
 rintro e w2 ⟨rfl,rfl⟩
 go_wp2
 go_ret
 exact ⟨rfl,cod_mk (cod_set (cod_drewN (cod_set (cod_set h _ _) _ _) _) _ _) rfl,grown_set (grown_drewN (grown_set (grown_set (grown_refl _ _) _ _) _ _) _) _ _⟩
theorem settle_252_no (t:Tel) (b:Nat) (o:Int) (w:World) (h:Cod w b t) (hv:t.verb=252) (e1:(o==3)=false) (e2:(o==31)=false) (h0:0≤o) (h255:o≤255) :
 Calls Tryz.prog 78 #[.pointer (some ⟨b,0,none⟩),.int .i64 o] w fun e w'=>e=.returned (.string ⟨([]:List UInt8).toArray⟩)∧Cod w' b { t with pos:=0,verb:=0 }∧w.grownBy w' (some b):=by
 obtain ⟨c0,c1,c2,c3,c4,c5,c6,c7,c8,c9,hfz⟩:=h.all
 have hbl:=h.lt
 rw [hv] at c1
 clear hv
 go_enter Tryz.func78,Tryz.ntmps78
 go_wp2_with fail
 refine (theirs_no b o e1 e2 _).mono ?_
 rintro e w1 ⟨rfl,n,rfl⟩
 go_wp2_with fail
 refine (end_nil 254 o _).mono ?_
 rintro e w2 ⟨rfl,rfl⟩
 go_wp2
 go_ret
 exact ⟨rfl,cod_mk (cod_drewN (cod_set (cod_set h _ _) _ _) _) rfl,grown_drewN (grown_set (grown_set (grown_refl _ _) _ _) _ _) _⟩
theorem settle_any (t:Tel) (b:Nat) (o:Int) (w:World) (h:Cod w b t) (hv:251≤t.verb) (hv':t.verb≤254) (h0:0≤o) (h255:o≤255) :
 Calls Tryz.prog 78 #[.pointer (some ⟨b,0,none⟩),.int .i64 o] w fun e w'=>e=.returned (.string ⟨(setl t o).2.toArray⟩)∧Cod w' b (setl t o).1∧w.grownBy w' (some b):=by
 have hf:t.verb=253∨t.verb=254∨t.verb=251∨t.verb=252:=by omega
 unfold setl
 rcases hf with hf | hf | hf | hf
 ·rw [if_pos hf]
  by_cases h1:o=1
  ·subst h1
   rw [if_pos rfl]
   by_cases hn:t.u0=0
   ·rw [if_pos hn]; exact settle_253_1_a t b w h hf hn
   ·rw [if_neg hn]; exact settle_253_1_n t b w h hf (by simpa using hn)
  by_cases h2:o=3
  ·subst h2
   rw [if_neg h1,if_pos rfl]
   by_cases hn:t.u1=0
   ·rw [if_pos hn]; exact settle_253_3_a t b w h hf hn
   ·rw [if_neg hn]; exact settle_253_3_n t b w h hf (by simpa using hn)
  rw [if_neg h1,if_neg h2]
  exact settle_253_no t b o w h hf (by simpa using h1) (by simpa using h2) h0 h255
 ·rw [if_neg (by omega),if_pos hf]
  by_cases h1:o=1
  ·subst h1
   rw [if_pos rfl]
   by_cases hn:t.u0=1
   ·rw [if_pos hn]; exact settle_254_1_a t b w h hf hn
   ·rw [if_neg hn]; exact settle_254_1_n t b w h hf (by simpa using hn)
  by_cases h2:o=3
  ·subst h2
   rw [if_neg h1,if_pos rfl]
   by_cases hn:t.u1=1
   ·rw [if_pos hn]; exact settle_254_3_a t b w h hf hn
   ·rw [if_neg hn]; exact settle_254_3_n t b w h hf (by simpa using hn)
  rw [if_neg h1,if_neg h2]
  exact settle_254_no t b o w h hf (by simpa using h1) (by simpa using h2) h0 h255
 ·rw [if_neg (by omega),if_neg (by omega),if_pos hf]
  by_cases h1:o=3
  ·subst h1
   rw [if_pos rfl]
   by_cases hn:t.t1=0
   ·rw [if_pos hn]; exact settle_251_3_a t b w h hf hn
   ·rw [if_neg hn]; exact settle_251_3_n t b w h hf (by simpa using hn)
  by_cases h2:o=31
  ·subst h2
   rw [if_neg h1,if_pos rfl]
   by_cases hn:t.t2=0
   ·rw [if_pos hn]; exact settle_251_31_a t b w h hf hn
   ·rw [if_neg hn]; exact settle_251_31_n t b w h hf (by simpa using hn)
  rw [if_neg h1,if_neg h2]
  exact settle_251_no t b o w h hf (by simpa using h1) (by simpa using h2) h0 h255
 ·rw [if_neg (by omega),if_neg (by omega),if_neg (by omega),if_pos hf]
  by_cases h1:o=3
  ·subst h1
   rw [if_pos rfl]
   by_cases hn:t.t1=1
   ·rw [if_pos hn]; exact settle_252_3_a t b w h hf hn
   ·rw [if_neg hn]; exact settle_252_3_n t b w h hf (by simpa using hn)
  by_cases h2:o=31
  ·subst h2
   rw [if_neg h1,if_pos rfl]
   by_cases hn:t.t2=1
   ·rw [if_pos hn]; exact settle_252_31_a t b w h hf hn
   ·rw [if_neg hn]; exact settle_252_31_n t b w h hf (by simpa using hn)
  rw [if_neg h1,if_neg h2]
  exact settle_252_no t b o w h hf (by simpa using h1) (by simpa using h2) h0 h255
open Go.RowKit
theorem Tryz.info5:(Tryz.prog.info? 5).map (fun i=>(i.zero,i.size,i.bytes))=some (some (.int .u8 0),1,1):=by kernel_rfl
theorem bcells_length (l:List UInt8):(bcells l).length=l.length:=by simp [bcells]
theorem bcells_append (l m:List UInt8):bcells (l++m)=bcells l++bcells m:=by simp [bcells]
theorem bcells_str (l:List UInt8):Lib.strCells ⟨l.toArray⟩=bcells l:=by simp [Lib.strCells,bcells]
theorem size_mk (l:List UInt8):(ByteArray.mk l.toArray).size=l.length:=by simp [ByteArray.size]
theorem append1 (w:World) (ty:TypeId) (base:Nat) (v:Value) (l:List UInt8) (hown:w.ownsRow base 5 1 v l.length (bcells l)) (c:UInt8) (ad:Addr)
 (hnew:w.cell? ad=some (.int .u8 c.toNat)) (hsz:l.length+1≤140737488355328) (hbase:base≤w.heap.size) :
 ∃ v' w',(Builtin.append_ #[123,123] ty #[v,.slice (some ad) 1 1]).run Tryz.prog w=.ok v' w'∧w'.ownsRow base 5 1 v' (l++[c]).length (bcells (l++[c]))∧w.grownBy w' v.ownBlock ∧
  (v'.ownBlock=v.ownBlock∨v'.ownBlock=some w.heap.size):=by
 obtain ⟨i0,hi,hz0,hz1,hz2⟩:=info_parts Tryz.info5
 have hn:∀ j u,([Value.int .u8 c.toNat]:List Value)[j]?=some u→w.cell? (ad.add j)=some u:=by
  intro j u hj
  cases j with
  | zero=>simp at hj; subst hj; simpa [Addr.add] using hnew
  | succ j=>simp at hj
 have h1:∀ u ∈ ([Value.int .u8 c.toNat]:List Value),u.oneCell'=true:=by intro u hu; simp at hu; subst hu; rfl
 have hm:l.length+1≤maxLen:=by unfold maxLen; omega
 obtain ⟨v',w',hr,ho,hg,_⟩:=run_append_own (P:=Tryz.prog) w base 123 ty 5 i0 (.int .u8 0) 1 1 Tryz.underlying123 hi hz0 hz1 hz2 rfl (by decide) v l.length (bcells l) hown ad 1 1 [.int .u8 c.toNat] rfl hn h1 hm (by omega) hbase
 refine ⟨v',w',hr,by simpa [bcells] using ho,hg,?_⟩
 have hl:([Value.int .u8 c.toNat]:List Value).length=1*i0.size:=by rw [hz1]; rfl
 rcases hown.2 with ⟨rfl,h0⟩ | ⟨g,cap,cur,rfl,hbg,hgg,hnc,hcm,hcs,htake⟩
 ·have:=run_append_nil (P:=Tryz.prog) w 123 ty 5 i0 (.int .u8 0) Tryz.underlying123 hi hz0 ad 1 1 [.int .u8 c.toNat] hl hn (by omega) (by omega) (by rw [hz2]; omega)
  rw [this] at hr
  injection hr with e1 e2
  subst e1
  right
  simp [Value.ownBlock]
 ·by_cases hroom:l.length+1≤cap
  ·have:=run_append_room (P:=Tryz.prog) w 123 ty 5 i0 Tryz.underlying123 hi g l.length cap cur hgg ad 1 1 [.int .u8 c.toNat] hl hn h1 hroom (by rw [hz1,hcs]; simp; omega)
   rw [this] at hr
   injection hr with e1 e2
   subst e1
   left
   simp [Value.ownBlock]
  ·have holds:∀ j u,(bcells l)[j]?=some u→w.cell? ((⟨g,0,none⟩:Addr).add j)=some u:=hown.cells (g:=g) rfl
   have:=run_append_grow (P:=Tryz.prog) w 123 ty 5 i0 (.int .u8 0) Tryz.underlying123 hi hz0 ⟨g,0,none⟩ l.length cap (bcells l) (by rw [hz1,bcells_length]; omega) holds ad 1 1 [.int .u8 c.toNat] hl hn (by omega) (by omega) (growslice_fits (by omega) (by rw [hz2]; omega))
   rw [this] at hr
   injection hr with e1 e2
   subst e1
   right
   simp [Value.ownBlock]
theorem appendS (w:World) (ty:TypeId) (base:Nat) (v:Value) (l m:List UInt8) (hown:w.ownsRow base 5 1 v l.length (bcells l))
 (hsz:l.length+m.length≤140737488355328) (hbase:base≤w.heap.size) :
 ∃ v' w',(Builtin.append_ #[123,9] ty #[v,.string ⟨m.toArray⟩]).run Tryz.prog w=.ok v' w'∧w'.ownsRow base 5 1 v' (l++m).length (bcells (l++m))∧w.grownBy w' v.ownBlock ∧
  (v'.ownBlock=v.ownBlock∨v'.ownBlock=some w.heap.size):=by
 obtain ⟨i0,hi,hz0,hz1,hz2⟩:=info_parts Tryz.info5
 have hm:l.length+m.length≤maxLen:=by unfold maxLen; omega
 have em:(ByteArray.mk m.toArray).size=m.length:=size_mk m
 obtain ⟨v',w',hr,ho,hg,hn0⟩:=Lib.run_append_own_string (P:=Tryz.prog) w base 123 9 ty 5 i0 Tryz.underlying123 Tryz.underlying9 hi hz0 hz1 hz2 v l.length (bcells l) hown ⟨m.toArray⟩ (by rw [em]; exact hm) (by rw [em]; omega) hbase
 refine ⟨v',w',hr,by rw [bcells_append,List.length_append,← em,← bcells_str m]; exact ho,hg,?_⟩
 rcases hown.2 with ⟨rfl,h0⟩ | ⟨g,cap,cur,rfl,hbg,hgg,hnc,hcm,hcs,htake⟩
 ·by_cases hm0:m.length=0
  ·left
   have:=hn0.2 ⟨rfl,by rw [em]; exact hm0⟩
   rw [this]
  ·have:=run_append_nil_string (P:=Tryz.prog) w 123 9 ty 5 i0 (.int .u8 0) Tryz.underlying123 Tryz.underlying9 hi hz0 ⟨m.toArray⟩ (by rw [em]; omega) (by rw [em]; omega) (by rw [em,hz2]; omega)
   rw [this] at hr
   injection hr with e1 e2
   subst e1
   right
   simp [Value.ownBlock]
 ·by_cases hroom:l.length+m.length≤cap
  ·have:=Lib.run_append_room_string (P:=Tryz.prog) w 123 9 ty 5 i0 Tryz.underlying123 Tryz.underlying9 hi hz1 g l.length cap cur hgg ⟨m.toArray⟩ (by rw [em]; exact hroom) (by rw [em,hcs]; omega)
   rw [this] at hr
   injection hr with e1 e2
   subst e1
   left
   simp [Value.ownBlock]
  ·have holds:∀ j u,(bcells l)[j]?=some u→w.cell? ((⟨g,0,none⟩:Addr).add j)=some u:=hown.cells (g:=g) rfl
   have:=Lib.run_append_grow_string (P:=Tryz.prog) w 123 9 ty 5 i0 (.int .u8 0) Tryz.underlying123 Tryz.underlying9 hi hz0 ⟨g,0,none⟩ l.length cap (bcells l) (by rw [hz1,bcells_length]; omega) holds ⟨m.toArray⟩ (by rw [em]; omega) (by rw [em]; omega) (growslice_fits (by rw [em]; omega) (by rw [em,hz2]; omega))
   rw [this] at hr
   injection hr with e1 e2
   subst e1
   right
   simp [Value.ownBlock]
theorem wp_append1 {ops:Array Oper} {rest:List Oper} {o:Oper} {a:Act} {Q:Exit→Act→World→Prop} (w:World) (hgd:o.guard=none) (s x:Operand)
 (ho:o.op=.call { callee:=.builtin .append,args:=#[s,x],argTypes:=#[123,123] }) (base:Nat) (v:Value) (l:List UInt8) (hs:a.eval s=v)
 (hown:w.ownsRow base 5 1 v l.length (bcells l)) (c:UInt8) (ad:Addr) (hx:a.eval x=.slice (some ad) 1 1)
 (hnew:w.cell? ad=some (.int .u8 c.toNat)) (hsz:l.length+1≤140737488355328) (hbase:base≤w.heap.size)
 (h:∀ v' w',w'.ownsRow base 5 1 v' (l++[c]).length (bcells (l++[c]))→w.grownBy w' v.ownBlock→(v'.ownBlock=v.ownBlock∨v'.ownBlock=some w.heap.size)→wpList Tryz.prog ops Q rest (a.put o.dst v') w') :
 wpList Tryz.prog ops Q (o::rest) a w:=by
 refine wpList_plain hgd fun K hK=>?_
 obtain ⟨v',w',hr,h2,h3,h4⟩:=append1 w o.type base v l hown c ad hnew hsz hbase
 unfold Oper.wp execOp
 simp only [ho,resolve,invoke,builtin,Sem.run_bind,Sem.run_pure,Result.andThen_ok,List.map_toArray,List.map_cons,List.map_nil,hs,hx,hr]
 exact hK _ _ (h v' w' h2 h3 h4)
theorem wp_appendS {ops:Array Oper} {rest:List Oper} {o:Oper} {a:Act} {Q:Exit→Act→World→Prop} (w:World) (hgd:o.guard=none) (s x:Operand)
 (ho:o.op=.call { callee:=.builtin .append,args:=#[s,x],argTypes:=#[123,9] }) (base:Nat) (v:Value) (l m:List UInt8) (hs:a.eval s=v)
 (hown:w.ownsRow base 5 1 v l.length (bcells l)) (hx:a.eval x=.string ⟨m.toArray⟩) (hsz:l.length+m.length≤140737488355328) (hbase:base≤w.heap.size)
 (h:∀ v' w',w'.ownsRow base 5 1 v' (l++m).length (bcells (l++m))→w.grownBy w' v.ownBlock→(v'.ownBlock=v.ownBlock∨v'.ownBlock=some w.heap.size)→wpList Tryz.prog ops Q rest (a.put o.dst v') w') :
 wpList Tryz.prog ops Q (o::rest) a w:=by
 refine wpList_plain hgd fun K hK=>?_
 obtain ⟨v',w',hr,h2,h3,h4⟩:=appendS w o.type base v l m hown hsz hbase
 unfold Oper.wp execOp
 simp only [ho,resolve,invoke,builtin,Sem.run_bind,Sem.run_pure,Result.andThen_ok,List.map_toArray,List.map_cons,List.map_nil,hs,hx,hr]
 exact hK _ _ (h v' w' h2 h3 h4)
theorem conv_nil (w:World):(convert 123 9 (.slice none 0 0)).run Tryz.prog w=.ok (.string ⟨#[]⟩) w:=by
 rw [run_convert_bytes_string w 123 9 5 none 0 0 Tryz.underlying123 Tryz.underlying5 Tryz.underlying9]
 rfl
theorem conv_own (w:World) (base:Nat) (v:Value) (l:List UInt8) (hown:w.ownsRow base 5 1 v l.length (bcells l)) (W:World) (hW:W.heap=w.heap) :
 (convert 123 9 v).run Tryz.prog W=.ok (.string ⟨l.toArray⟩) W:=by
 rcases hown.2 with ⟨rfl,h0⟩ | ⟨g,cap,cur,rfl,hbg,hgg,hnc,hcm,hcs,htake⟩
 ·have:l=[]:=List.eq_nil_of_length_eq_zero h0
  subst this
  exact conv_nil W
 ·refine conv_bytes W _ _ _ l rfl ?_
  intro j u hj
  have:=hown.cells (g:=g) rfl j u hj
  simpa [World.cell?,hW] using this
end Go.Proofs.YtncgcejlkmoliaaGreatDoor.Te
