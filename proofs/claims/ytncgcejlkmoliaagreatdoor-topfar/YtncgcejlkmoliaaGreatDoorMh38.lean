import Derived.Test.YtncgcejlkmoliaaGreatDoorMh37
set_option linter.unusedVariables false
set_option maxRecDepth 100000
set_option maxHeartbeats 16000000
namespace Go.Proofs.YtncgcejlkmoliaaGreatDoor
open Go.RowKit
theorem parse_way12 (s:ByteArray) (w:World) (hs:s.size≤8796093022207) (hv:Vb w) (x y:List UInt8) (v:Nat) (hL:splitL s.data.toList=[x,y]) (hx:verbL x=some v) (hk:v=12) (d:Nat) (hy:verbL y=some d) (h6:d < 6) :
 Calls Tryz.prog 140 #[.string s] w fun e w'=>e=.returned (.tuple #[.agg (parseL s.data.toList).1.cells,.int .i64 (parseL s.data.toList).2])∧Below w.heap.size w w':=by
 have HV:=hide (show parseL s.data.toList=({ zo with verb:=v,nth:=1,name:=calledL d },0) by subst hk; simp [parseL,hL,hx,orderL,aloneB,hy,h6])
 have HX:=hide (verbA_some hx)
 have ha:aloneB v=false:=by subst hk; rfl
 have C2:=hide (fun w'=>alone_any v w' (verb_lt hx))
 rw [ha] at C2
 have HY:=hide (verbA_some hy)
 have HC:=hide (calledI_nat d)
 have b11:((v:Int)==11)=false:=by subst hk; rfl
 have b12:((v:Int)==12)=true:=by subst hk; rfl
 have C1:=hide (fun w'=>split_any s w' hs)
 rw [hL] at C1
 replace hv:=hide hv
 clear hL hx ha hk hy
 go_enter Tryz.func140,Tryz.ntmps140
 go_wp2_with fail
 refine (C1.out _).mono ?_
 rintro e w1 ⟨u,rfl,hr,hb1⟩
 have z1:=hide ((zo_new w).behind hb1)
 have v1:=hide ((hv.out.alloc _).below hb1 (Nat.le_refl _))
 clear hb1
 obtain ⟨b,off,cap,rfl,hl,hm,c0,ht⟩:=hr.cons
 unfold maxLen at hm
 clear hr
 have hlen:([y]:List (List UInt8)).length=1:=rfl
 rw [hlen] at hl ht ⊢
 clear hlen
 have hc1:¬ cap=1:=by omega
 rw [if_neg hc1] at ht
 obtain ⟨b',off',cap',e,_,_,c1,hd⟩:=ht.cons
 injection e with f1 f2 f3; injection f1 with f1; injection f1 with f4 f5
 subst f4 f5 f3
 clear ht f2
 clear hd
 go_wp2_with fail
 refine (verb_any (bs x) _ v1.out).mono ?_
 rintro e w2 ⟨rfl,rfl⟩
 rw [bs_data,HX.out]
 go_wp2_with fail
 refine (C2.out _).mono ?_
 rintro e w3 ⟨rfl,rfl⟩
 go_wp2_with fail
 refine (verb_any (bs y) _ v1.out).mono ?_
 rintro e w5 ⟨rfl,rfl⟩
 rw [bs_data,HY.out]
 go_wp2_with fail
 refine (called_any d _ v1.out).mono ?_
 rintro e w6 ⟨rfl,rfl⟩
 rw [HC.out]
 go_wp2_with (refine wl_put (.tmp 2) (.tmp 78) rfl rfl z1.out rfl v 1 false (bs (calledL d)) ⟨#[]⟩ ⟨#[]⟩ rfl ?_)
 refine bodyPost_ret (resO rfl rfl rfl (z1.out.done _).1 rfl) rfl ⟨ret_any ?_,(z1.out.done _).2⟩
 rw [HV.out]; rfl
theorem parse_far12 (s:ByteArray) (w:World) (hs:s.size≤8796093022207) (hv:Vb w) (x y:List UInt8) (v:Nat) (hL:splitL s.data.toList=[x,y]) (hx:verbL x=some v) (hk:v=12) (d:Nat) (hy:verbL y=some d) (h6:6≤d) :
 Calls Tryz.prog 140 #[.string s] w fun e w'=>e=.returned (.tuple #[.agg (parseL s.data.toList).1.cells,.int .i64 (parseL s.data.toList).2])∧Below w.heap.size w w':=by
 have HV:=hide (show parseL s.data.toList=((deedR v y []).1,(deedR v y []).2) by subst hk; simp [parseL,hL,hx,orderL,aloneB,hy,show ¬ d < 6 by omega,deedR]; cases deedL _ y [] <;> rfl)
 have HX:=hide (verbA_some hx)
 have ha:aloneB v=false:=by subst hk; rfl
 have C2:=hide (fun w'=>alone_any v w' (verb_lt hx))
 rw [ha] at C2
 have HL:Hid (y.length≤140737488355328):=by
  have h1:=split_short (l:=s.data.toList) (y:=y) (by rw [hL]; simp)
  rw [size_len] at h1
  show y.length≤_
  omega
 have HY:=hide (verbA_some hy)
 have b11:((v:Int)==11)=false:=by subst hk; rfl
 have b12:((v:Int)==12)=true:=by subst hk; rfl
 have C1:=hide (fun w'=>split_any s w' hs)
 rw [hL] at C1
 replace hv:=hide hv
 clear hL hx ha hk hy
 go_enter Tryz.func140,Tryz.ntmps140
 go_wp2_with fail
 refine (C1.out _).mono ?_
 rintro e w1 ⟨u,rfl,hr,hb1⟩
 have z1:=hide ((zo_new w).behind hb1)
 have v1:=hide ((hv.out.alloc _).below hb1 (Nat.le_refl _))
 clear hb1
 obtain ⟨b,off,cap,rfl,hl,hm,c0,ht⟩:=hr.cons
 unfold maxLen at hm
 clear hr
 have hlen:([y]:List (List UInt8)).length=1:=rfl
 rw [hlen] at hl ht ⊢
 clear hlen
 have hc1:¬ cap=1:=by omega
 rw [if_neg hc1] at ht
 obtain ⟨b',off',cap',e,_,_,c1,hd⟩:=ht.cons
 injection e with f1 f2 f3; injection f1 with f1; injection f1 with f4 f5
 subst f4 f5 f3
 clear ht f2
 by_cases hc2:cap - 1=1
 ·obtain rfl:cap=2:=by omega
  simp only [List.length_nil,Nat.reduceSub,if_true] at hd hl hc1 hc2 ⊢
  go_wp2_with fail
  refine (verb_any (bs x) _ v1.out).mono ?_
  rintro e w2 ⟨rfl,rfl⟩
  rw [bs_data,HX.out]
  go_wp2_with fail
  refine (C2.out _).mono ?_
  rintro e w3 ⟨rfl,rfl⟩
  go_wp2_with fail
  refine (verb_any (bs y) _ v1.out).mono ?_
  rintro e w5 ⟨rfl,rfl⟩
  rw [bs_data,HY.out]
  go_wp2
  have C3:=hide (deed_r v y [] _ w5.drew HL.out (hd.below (w':=w5.drew) ⟨rfl,rfl,rfl,Nat.le_refl _,fun _ _=>rfl⟩ (Nat.le_refl _)))
  have zd:=hide z1.out.drew
  generalize (deedR v y []).1=o at C3 HV
  generalize (deedR v y []).2=n at C3 HV
  clear z1 hd c0
  go_region_with (go_at_call 172; refine C3.out.mono ?_; rintro e w4 ⟨rfl,hb4⟩; have z4:=hide (zd.out.behind hb4); have k0:w4.cell? ⟨w.heap.size,0,none⟩=some _:=z4.out.cell 0; have k1:w4.cell? ⟨w.heap.size,1,none⟩=some _:=z4.out.cell 1; have k2:w4.cell? ⟨w.heap.size,2,none⟩=some _:=z4.out.cell 2; have k3:w4.cell? ⟨w.heap.size,3,none⟩=some _:=z4.out.cell 3; have k4:w4.cell? ⟨w.heap.size,4,none⟩=some _:=z4.out.cell 4; have k5:w4.cell? ⟨w.heap.size,5,none⟩=some _:=z4.out.cell 5; have kf:=z4.out.frozen; clear hb4)
  all_goals go_wp2
  all_goals refine bodyPost_ret (resO rfl rfl rfl (z4.out.six _ _ _ _ _ _) rfl) rfl ⟨ret_any ?_,z4.out.six_below _ _ _ _ _ _⟩
  all_goals rw [HV.out]
  all_goals rfl
 ·rw [if_neg hc2] at hd
  simp only [List.length_nil] at hd
  go_wp2_with fail
  refine (verb_any (bs x) _ v1.out).mono ?_
  rintro e w2 ⟨rfl,rfl⟩
  rw [bs_data,HX.out]
  go_wp2_with fail
  refine (C2.out _).mono ?_
  rintro e w3 ⟨rfl,rfl⟩
  go_wp2_with fail
  refine (verb_any (bs y) _ v1.out).mono ?_
  rintro e w5 ⟨rfl,rfl⟩
  rw [bs_data,HY.out]
  go_wp2
  have C3:=hide (deed_r v y [] _ w5.drew HL.out (hd.below (w':=w5.drew) ⟨rfl,rfl,rfl,Nat.le_refl _,fun _ _=>rfl⟩ (Nat.le_refl _)))
  have zd:=hide z1.out.drew
  generalize (deedR v y []).1=o at C3 HV
  generalize (deedR v y []).2=n at C3 HV
  clear z1 hd c0
  go_region_with (go_at_call 172; refine C3.out.mono ?_; rintro e w4 ⟨rfl,hb4⟩; have z4:=hide (zd.out.behind hb4); have k0:w4.cell? ⟨w.heap.size,0,none⟩=some _:=z4.out.cell 0; have k1:w4.cell? ⟨w.heap.size,1,none⟩=some _:=z4.out.cell 1; have k2:w4.cell? ⟨w.heap.size,2,none⟩=some _:=z4.out.cell 2; have k3:w4.cell? ⟨w.heap.size,3,none⟩=some _:=z4.out.cell 3; have k4:w4.cell? ⟨w.heap.size,4,none⟩=some _:=z4.out.cell 4; have k5:w4.cell? ⟨w.heap.size,5,none⟩=some _:=z4.out.cell 5; have kf:=z4.out.frozen; clear hb4)
  all_goals go_wp2
  all_goals refine bodyPost_ret (resO rfl rfl rfl (z4.out.six _ _ _ _ _ _) rfl) rfl ⟨ret_any ?_,z4.out.six_below _ _ _ _ _ _⟩
  all_goals rw [HV.out]
  all_goals rfl
theorem parse_word12 (s:ByteArray) (w:World) (hs:s.size≤8796093022207) (hv:Vb w) (x y:List UInt8) (v:Nat) (hL:splitL s.data.toList=[x,y]) (hx:verbL x=some v) (hk:v=12) (hy:verbL y=none) :
 Calls Tryz.prog 140 #[.string s] w fun e w'=>e=.returned (.tuple #[.agg (parseL s.data.toList).1.cells,.int .i64 (parseL s.data.toList).2])∧Below w.heap.size w w':=by
 have HV:=hide (show parseL s.data.toList=((deedR v y []).1,(deedR v y []).2) by subst hk; simp [parseL,hL,hx,orderL,aloneB,hy,deedR]; cases deedL _ y [] <;> rfl)
 have HX:=hide (verbA_some hx)
 have ha:aloneB v=false:=by subst hk; rfl
 have C2:=hide (fun w'=>alone_any v w' (verb_lt hx))
 rw [ha] at C2
 have HL:Hid (y.length≤140737488355328):=by
  have h1:=split_short (l:=s.data.toList) (y:=y) (by rw [hL]; simp)
  rw [size_len] at h1
  show y.length≤_
  omega
 have HY:=hide (verbA_none hy)
 have b11:((v:Int)==11)=false:=by subst hk; rfl
 have b12:((v:Int)==12)=true:=by subst hk; rfl
 have C1:=hide (fun w'=>split_any s w' hs)
 rw [hL] at C1
 replace hv:=hide hv
 clear hL hx ha hk hy
 go_enter Tryz.func140,Tryz.ntmps140
 go_wp2_with fail
 refine (C1.out _).mono ?_
 rintro e w1 ⟨u,rfl,hr,hb1⟩
 have z1:=hide ((zo_new w).behind hb1)
 have v1:=hide ((hv.out.alloc _).below hb1 (Nat.le_refl _))
 clear hb1
 obtain ⟨b,off,cap,rfl,hl,hm,c0,ht⟩:=hr.cons
 unfold maxLen at hm
 clear hr
 have hlen:([y]:List (List UInt8)).length=1:=rfl
 rw [hlen] at hl ht ⊢
 clear hlen
 have hc1:¬ cap=1:=by omega
 rw [if_neg hc1] at ht
 obtain ⟨b',off',cap',e,_,_,c1,hd⟩:=ht.cons
 injection e with f1 f2 f3; injection f1 with f1; injection f1 with f4 f5
 subst f4 f5 f3
 clear ht f2
 by_cases hc2:cap - 1=1
 ·obtain rfl:cap=2:=by omega
  simp only [List.length_nil,Nat.reduceSub,if_true] at hd hl hc1 hc2 ⊢
  go_wp2_with fail
  refine (verb_any (bs x) _ v1.out).mono ?_
  rintro e w2 ⟨rfl,rfl⟩
  rw [bs_data,HX.out]
  go_wp2_with fail
  refine (C2.out _).mono ?_
  rintro e w3 ⟨rfl,rfl⟩
  go_wp2_with fail
  refine (verb_any (bs y) _ v1.out).mono ?_
  rintro e w5 ⟨rfl,rfl⟩
  rw [bs_data,HY.out]
  go_wp2
  have C3:=hide (deed_r v y [] _ w5.drew HL.out (hd.below (w':=w5.drew) ⟨rfl,rfl,rfl,Nat.le_refl _,fun _ _=>rfl⟩ (Nat.le_refl _)))
  have zd:=hide z1.out.drew
  generalize (deedR v y []).1=o at C3 HV
  generalize (deedR v y []).2=n at C3 HV
  clear z1 hd c0
  go_region_with (go_at_call 172; refine C3.out.mono ?_; rintro e w4 ⟨rfl,hb4⟩; have z4:=hide (zd.out.behind hb4); have k0:w4.cell? ⟨w.heap.size,0,none⟩=some _:=z4.out.cell 0; have k1:w4.cell? ⟨w.heap.size,1,none⟩=some _:=z4.out.cell 1; have k2:w4.cell? ⟨w.heap.size,2,none⟩=some _:=z4.out.cell 2; have k3:w4.cell? ⟨w.heap.size,3,none⟩=some _:=z4.out.cell 3; have k4:w4.cell? ⟨w.heap.size,4,none⟩=some _:=z4.out.cell 4; have k5:w4.cell? ⟨w.heap.size,5,none⟩=some _:=z4.out.cell 5; have kf:=z4.out.frozen; clear hb4)
  all_goals go_wp2
  all_goals refine bodyPost_ret (resO rfl rfl rfl (z4.out.six _ _ _ _ _ _) rfl) rfl ⟨ret_any ?_,z4.out.six_below _ _ _ _ _ _⟩
  all_goals rw [HV.out]
  all_goals rfl
 ·rw [if_neg hc2] at hd
  simp only [List.length_nil] at hd
  go_wp2_with fail
  refine (verb_any (bs x) _ v1.out).mono ?_
  rintro e w2 ⟨rfl,rfl⟩
  rw [bs_data,HX.out]
  go_wp2_with fail
  refine (C2.out _).mono ?_
  rintro e w3 ⟨rfl,rfl⟩
  go_wp2_with fail
  refine (verb_any (bs y) _ v1.out).mono ?_
  rintro e w5 ⟨rfl,rfl⟩
  rw [bs_data,HY.out]
  go_wp2
  have C3:=hide (deed_r v y [] _ w5.drew HL.out (hd.below (w':=w5.drew) ⟨rfl,rfl,rfl,Nat.le_refl _,fun _ _=>rfl⟩ (Nat.le_refl _)))
  have zd:=hide z1.out.drew
  generalize (deedR v y []).1=o at C3 HV
  generalize (deedR v y []).2=n at C3 HV
  clear z1 hd c0
  go_region_with (go_at_call 172; refine C3.out.mono ?_; rintro e w4 ⟨rfl,hb4⟩; have z4:=hide (zd.out.behind hb4); have k0:w4.cell? ⟨w.heap.size,0,none⟩=some _:=z4.out.cell 0; have k1:w4.cell? ⟨w.heap.size,1,none⟩=some _:=z4.out.cell 1; have k2:w4.cell? ⟨w.heap.size,2,none⟩=some _:=z4.out.cell 2; have k3:w4.cell? ⟨w.heap.size,3,none⟩=some _:=z4.out.cell 3; have k4:w4.cell? ⟨w.heap.size,4,none⟩=some _:=z4.out.cell 4; have k5:w4.cell? ⟨w.heap.size,5,none⟩=some _:=z4.out.cell 5; have kf:=z4.out.frozen; clear hb4)
  all_goals go_wp2
  all_goals refine bodyPost_ret (resO rfl rfl rfl (z4.out.six _ _ _ _ _ _) rfl) rfl ⟨ret_any ?_,z4.out.six_below _ _ _ _ _ _⟩
  all_goals rw [HV.out]
  all_goals rfl
theorem parse_more12 (s:ByteArray) (w:World) (hs:s.size≤8796093022207) (hv:Vb w) (x y z:List UInt8) (r:List (List UInt8)) (v:Nat) (hL:splitL s.data.toList=x::y::z::r) (hx:verbL x=some v) (hk:v=12) :
 Calls Tryz.prog 140 #[.string s] w fun e w'=>e=.returned (.tuple #[.agg (parseL s.data.toList).1.cells,.int .i64 (parseL s.data.toList).2])∧Below w.heap.size w w':=by
 have HV:=hide (show parseL s.data.toList=((deedR v y (z::r)).1,(deedR v y (z::r)).2) by subst hk; simp [parseL,hL,hx,orderL,aloneB,deedR]; cases deedL _ y (z::r) <;> rfl)
 have HX:=hide (verbA_some hx)
 have ha:aloneB v=false:=by subst hk; rfl
 have C2:=hide (fun w'=>alone_any v w' (verb_lt hx))
 rw [ha] at C2
 have HL:Hid (y.length≤140737488355328):=by
  have h1:=split_short (l:=s.data.toList) (y:=y) (by rw [hL]; simp)
  rw [size_len] at h1
  show y.length≤_
  omega
 have b11:((v:Int)==11)=false:=by subst hk; rfl
 have b12:((v:Int)==12)=true:=by subst hk; rfl
 have hb0:(((r.length+1+1+1:Nat):Int)==0)=false:=by simp; omega
 have hb1:(((r.length+1+1:Nat):Int)==0)=false:=by simp; omega
 have hb2:(((r.length+1+1:Nat):Int)==1)=false:=by simp; omega
 have C1:=hide (fun w'=>split_any s w' hs)
 rw [hL] at C1
 replace hv:=hide hv
 clear hL hx ha hk
 go_enter Tryz.func140,Tryz.ntmps140
 go_wp2_with fail
 refine (C1.out _).mono ?_
 rintro e w1 ⟨u,rfl,hr,hb1⟩
 have z1:=hide ((zo_new w).behind hb1)
 have v1:=hide ((hv.out.alloc _).below hb1 (Nat.le_refl _))
 clear hb1
 obtain ⟨b,off,cap,rfl,hl,hm,c0,ht⟩:=hr.cons
 unfold maxLen at hm
 clear hr
 have hlen:(y::z::r).length=r.length+1+1:=rfl
 rw [hlen] at hl ht ⊢
 clear hlen
 have hc1:¬ cap=1:=by omega
 rw [if_neg hc1] at ht
 obtain ⟨b',off',cap',e,_,_,c1,hd⟩:=ht.cons
 injection e with e1 e2 e3; injection e1 with e1; injection e1 with e1 e2
 subst e1 e2 e3
 clear ht
 have hc2:¬ cap - 1=1:=by omega
 rw [if_neg hc2] at hd
 have hlen:(z::r).length=r.length+1:=rfl
 rw [hlen] at hd
 clear hlen
 go_wp2_with fail
 refine (verb_any (bs x) _ v1.out).mono ?_
 rintro e w2 ⟨rfl,rfl⟩
 rw [bs_data,HX.out]
 go_wp2_with fail
 refine (C2.out _).mono ?_
 rintro e w3 ⟨rfl,rfl⟩
 go_wp2
 have C3:=hide (deed_r v y (z::r) _ w3.drew HL.out (hd.below (w':=w3.drew) ⟨rfl,rfl,rfl,Nat.le_refl _,fun _ _=>rfl⟩ (Nat.le_refl _)))
 have zd:=hide z1.out.drew
 generalize (deedR v y (z::r)).1=o at C3 HV
 generalize (deedR v y (z::r)).2=n at C3 HV
 clear z1 hd c0
 go_region_with (go_at_call 172; refine C3.out.mono ?_; rintro e w4 ⟨rfl,hb4⟩; have z4:=hide (zd.out.behind hb4); have k0:w4.cell? ⟨w.heap.size,0,none⟩=some _:=z4.out.cell 0; have k1:w4.cell? ⟨w.heap.size,1,none⟩=some _:=z4.out.cell 1; have k2:w4.cell? ⟨w.heap.size,2,none⟩=some _:=z4.out.cell 2; have k3:w4.cell? ⟨w.heap.size,3,none⟩=some _:=z4.out.cell 3; have k4:w4.cell? ⟨w.heap.size,4,none⟩=some _:=z4.out.cell 4; have k5:w4.cell? ⟨w.heap.size,5,none⟩=some _:=z4.out.cell 5; have kf:=z4.out.frozen; clear hb4)
 all_goals go_wp2
 all_goals refine bodyPost_ret (resO rfl rfl rfl (z4.out.six _ _ _ _ _ _) rfl) rfl ⟨ret_any ?_,z4.out.six_below _ _ _ _ _ _⟩
 all_goals rw [HV.out]
 all_goals rfl
theorem parse_way13 (s:ByteArray) (w:World) (hs:s.size≤8796093022207) (hv:Vb w) (x y:List UInt8) (v:Nat) (hL:splitL s.data.toList=[x,y]) (hx:verbL x=some v) (hk:v=13) (d:Nat) (hy:verbL y=some d) (h6:d < 6) :
 Calls Tryz.prog 140 #[.string s] w fun e w'=>e=.returned (.tuple #[.agg (parseL s.data.toList).1.cells,.int .i64 (parseL s.data.toList).2])∧Below w.heap.size w w':=by
 have HV:=hide (show parseL s.data.toList=({ zo with verb:=v,nth:=1,name:=calledL d },0) by subst hk; simp [parseL,hL,hx,orderL,aloneB,hy,h6])
 have HX:=hide (verbA_some hx)
 have ha:aloneB v=false:=by subst hk; rfl
 have C2:=hide (fun w'=>alone_any v w' (verb_lt hx))
 rw [ha] at C2
 have HY:=hide (verbA_some hy)
 have HC:=hide (calledI_nat d)
 have b11:((v:Int)==11)=false:=by subst hk; rfl
 have b12:((v:Int)==12)=false:=by subst hk; rfl
 have b13:((v:Int)==13)=true:=by subst hk; rfl
 have C1:=hide (fun w'=>split_any s w' hs)
 rw [hL] at C1
 replace hv:=hide hv
 clear hL hx ha hk hy
 go_enter Tryz.func140,Tryz.ntmps140
 go_wp2_with fail
 refine (C1.out _).mono ?_
 rintro e w1 ⟨u,rfl,hr,hb1⟩
 have z1:=hide ((zo_new w).behind hb1)
 have v1:=hide ((hv.out.alloc _).below hb1 (Nat.le_refl _))
 clear hb1
 obtain ⟨b,off,cap,rfl,hl,hm,c0,ht⟩:=hr.cons
 unfold maxLen at hm
 clear hr
 have hlen:([y]:List (List UInt8)).length=1:=rfl
 rw [hlen] at hl ht ⊢
 clear hlen
 have hc1:¬ cap=1:=by omega
 rw [if_neg hc1] at ht
 obtain ⟨b',off',cap',e,_,_,c1,hd⟩:=ht.cons
 injection e with f1 f2 f3; injection f1 with f1; injection f1 with f4 f5
 subst f4 f5 f3
 clear ht f2
 clear hd
 go_wp2_with fail
 refine (verb_any (bs x) _ v1.out).mono ?_
 rintro e w2 ⟨rfl,rfl⟩
 rw [bs_data,HX.out]
 go_wp2_with fail
 refine (C2.out _).mono ?_
 rintro e w3 ⟨rfl,rfl⟩
 go_wp2_with fail
 refine (verb_any (bs y) _ v1.out).mono ?_
 rintro e w5 ⟨rfl,rfl⟩
 rw [bs_data,HY.out]
 go_wp2_with fail
 refine (called_any d _ v1.out).mono ?_
 rintro e w6 ⟨rfl,rfl⟩
 rw [HC.out]
 go_wp2_with (refine wl_put (.tmp 2) (.tmp 78) rfl rfl z1.out rfl v 1 false (bs (calledL d)) ⟨#[]⟩ ⟨#[]⟩ rfl ?_)
 refine bodyPost_ret (resO rfl rfl rfl (z1.out.done _).1 rfl) rfl ⟨ret_any ?_,(z1.out.done _).2⟩
 rw [HV.out]; rfl
theorem parse_far13 (s:ByteArray) (w:World) (hs:s.size≤8796093022207) (hv:Vb w) (x y:List UInt8) (v:Nat) (hL:splitL s.data.toList=[x,y]) (hx:verbL x=some v) (hk:v=13) (d:Nat) (hy:verbL y=some d) (h6:6≤d) :
 Calls Tryz.prog 140 #[.string s] w fun e w'=>e=.returned (.tuple #[.agg (parseL s.data.toList).1.cells,.int .i64 (parseL s.data.toList).2])∧Below w.heap.size w w':=by
 have HV:=hide (show parseL s.data.toList=((deedR v y []).1,(deedR v y []).2) by subst hk; simp [parseL,hL,hx,orderL,aloneB,hy,show ¬ d < 6 by omega,deedR]; cases deedL _ y [] <;> rfl)
 have HX:=hide (verbA_some hx)
 have ha:aloneB v=false:=by subst hk; rfl
 have C2:=hide (fun w'=>alone_any v w' (verb_lt hx))
 rw [ha] at C2
 have HL:Hid (y.length≤140737488355328):=by
  have h1:=split_short (l:=s.data.toList) (y:=y) (by rw [hL]; simp)
  rw [size_len] at h1
  show y.length≤_
  omega
 have HY:=hide (verbA_some hy)
 have b11:((v:Int)==11)=false:=by subst hk; rfl
 have b12:((v:Int)==12)=false:=by subst hk; rfl
 have b13:((v:Int)==13)=true:=by subst hk; rfl
 have C1:=hide (fun w'=>split_any s w' hs)
 rw [hL] at C1
 replace hv:=hide hv
 clear hL hx ha hk hy
 go_enter Tryz.func140,Tryz.ntmps140
 go_wp2_with fail
 refine (C1.out _).mono ?_
 rintro e w1 ⟨u,rfl,hr,hb1⟩
 have z1:=hide ((zo_new w).behind hb1)
 have v1:=hide ((hv.out.alloc _).below hb1 (Nat.le_refl _))
 clear hb1
 obtain ⟨b,off,cap,rfl,hl,hm,c0,ht⟩:=hr.cons
 unfold maxLen at hm
 clear hr
 have hlen:([y]:List (List UInt8)).length=1:=rfl
 rw [hlen] at hl ht ⊢
 clear hlen
 have hc1:¬ cap=1:=by omega
 rw [if_neg hc1] at ht
 obtain ⟨b',off',cap',e,_,_,c1,hd⟩:=ht.cons
 injection e with f1 f2 f3; injection f1 with f1; injection f1 with f4 f5
 subst f4 f5 f3
 clear ht f2
 by_cases hc2:cap - 1=1
 ·obtain rfl:cap=2:=by omega
  simp only [List.length_nil,Nat.reduceSub,if_true] at hd hl hc1 hc2 ⊢
  go_wp2_with fail
  refine (verb_any (bs x) _ v1.out).mono ?_
  rintro e w2 ⟨rfl,rfl⟩
  rw [bs_data,HX.out]
  go_wp2_with fail
  refine (C2.out _).mono ?_
  rintro e w3 ⟨rfl,rfl⟩
  go_wp2_with fail
  refine (verb_any (bs y) _ v1.out).mono ?_
  rintro e w5 ⟨rfl,rfl⟩
  rw [bs_data,HY.out]
  go_wp2
  have C3:=hide (deed_r v y [] _ w5.drew HL.out (hd.below (w':=w5.drew) ⟨rfl,rfl,rfl,Nat.le_refl _,fun _ _=>rfl⟩ (Nat.le_refl _)))
  have zd:=hide z1.out.drew
  generalize (deedR v y []).1=o at C3 HV
  generalize (deedR v y []).2=n at C3 HV
  clear z1 hd c0
  go_region_with (go_at_call 172; refine C3.out.mono ?_; rintro e w4 ⟨rfl,hb4⟩; have z4:=hide (zd.out.behind hb4); have k0:w4.cell? ⟨w.heap.size,0,none⟩=some _:=z4.out.cell 0; have k1:w4.cell? ⟨w.heap.size,1,none⟩=some _:=z4.out.cell 1; have k2:w4.cell? ⟨w.heap.size,2,none⟩=some _:=z4.out.cell 2; have k3:w4.cell? ⟨w.heap.size,3,none⟩=some _:=z4.out.cell 3; have k4:w4.cell? ⟨w.heap.size,4,none⟩=some _:=z4.out.cell 4; have k5:w4.cell? ⟨w.heap.size,5,none⟩=some _:=z4.out.cell 5; have kf:=z4.out.frozen; clear hb4)
  all_goals go_wp2
  all_goals refine bodyPost_ret (resO rfl rfl rfl (z4.out.six _ _ _ _ _ _) rfl) rfl ⟨ret_any ?_,z4.out.six_below _ _ _ _ _ _⟩
  all_goals rw [HV.out]
  all_goals rfl
 ·rw [if_neg hc2] at hd
  simp only [List.length_nil] at hd
  go_wp2_with fail
  refine (verb_any (bs x) _ v1.out).mono ?_
  rintro e w2 ⟨rfl,rfl⟩
  rw [bs_data,HX.out]
  go_wp2_with fail
  refine (C2.out _).mono ?_
  rintro e w3 ⟨rfl,rfl⟩
  go_wp2_with fail
  refine (verb_any (bs y) _ v1.out).mono ?_
  rintro e w5 ⟨rfl,rfl⟩
  rw [bs_data,HY.out]
  go_wp2
  have C3:=hide (deed_r v y [] _ w5.drew HL.out (hd.below (w':=w5.drew) ⟨rfl,rfl,rfl,Nat.le_refl _,fun _ _=>rfl⟩ (Nat.le_refl _)))
  have zd:=hide z1.out.drew
  generalize (deedR v y []).1=o at C3 HV
  generalize (deedR v y []).2=n at C3 HV
  clear z1 hd c0
  go_region_with (go_at_call 172; refine C3.out.mono ?_; rintro e w4 ⟨rfl,hb4⟩; have z4:=hide (zd.out.behind hb4); have k0:w4.cell? ⟨w.heap.size,0,none⟩=some _:=z4.out.cell 0; have k1:w4.cell? ⟨w.heap.size,1,none⟩=some _:=z4.out.cell 1; have k2:w4.cell? ⟨w.heap.size,2,none⟩=some _:=z4.out.cell 2; have k3:w4.cell? ⟨w.heap.size,3,none⟩=some _:=z4.out.cell 3; have k4:w4.cell? ⟨w.heap.size,4,none⟩=some _:=z4.out.cell 4; have k5:w4.cell? ⟨w.heap.size,5,none⟩=some _:=z4.out.cell 5; have kf:=z4.out.frozen; clear hb4)
  all_goals go_wp2
  all_goals refine bodyPost_ret (resO rfl rfl rfl (z4.out.six _ _ _ _ _ _) rfl) rfl ⟨ret_any ?_,z4.out.six_below _ _ _ _ _ _⟩
  all_goals rw [HV.out]
  all_goals rfl
theorem parse_word13 (s:ByteArray) (w:World) (hs:s.size≤8796093022207) (hv:Vb w) (x y:List UInt8) (v:Nat) (hL:splitL s.data.toList=[x,y]) (hx:verbL x=some v) (hk:v=13) (hy:verbL y=none) :
 Calls Tryz.prog 140 #[.string s] w fun e w'=>e=.returned (.tuple #[.agg (parseL s.data.toList).1.cells,.int .i64 (parseL s.data.toList).2])∧Below w.heap.size w w':=by
 have HV:=hide (show parseL s.data.toList=((deedR v y []).1,(deedR v y []).2) by subst hk; simp [parseL,hL,hx,orderL,aloneB,hy,deedR]; cases deedL _ y [] <;> rfl)
 have HX:=hide (verbA_some hx)
 have ha:aloneB v=false:=by subst hk; rfl
 have C2:=hide (fun w'=>alone_any v w' (verb_lt hx))
 rw [ha] at C2
 have HL:Hid (y.length≤140737488355328):=by
  have h1:=split_short (l:=s.data.toList) (y:=y) (by rw [hL]; simp)
  rw [size_len] at h1
  show y.length≤_
  omega
 have HY:=hide (verbA_none hy)
 have b11:((v:Int)==11)=false:=by subst hk; rfl
 have b12:((v:Int)==12)=false:=by subst hk; rfl
 have b13:((v:Int)==13)=true:=by subst hk; rfl
 have C1:=hide (fun w'=>split_any s w' hs)
 rw [hL] at C1
 replace hv:=hide hv
 clear hL hx ha hk hy
 go_enter Tryz.func140,Tryz.ntmps140
 go_wp2_with fail
 refine (C1.out _).mono ?_
 rintro e w1 ⟨u,rfl,hr,hb1⟩
 have z1:=hide ((zo_new w).behind hb1)
 have v1:=hide ((hv.out.alloc _).below hb1 (Nat.le_refl _))
 clear hb1
 obtain ⟨b,off,cap,rfl,hl,hm,c0,ht⟩:=hr.cons
 unfold maxLen at hm
 clear hr
 have hlen:([y]:List (List UInt8)).length=1:=rfl
 rw [hlen] at hl ht ⊢
 clear hlen
 have hc1:¬ cap=1:=by omega
 rw [if_neg hc1] at ht
 obtain ⟨b',off',cap',e,_,_,c1,hd⟩:=ht.cons
 injection e with f1 f2 f3; injection f1 with f1; injection f1 with f4 f5
 subst f4 f5 f3
 clear ht f2
 by_cases hc2:cap - 1=1
 ·obtain rfl:cap=2:=by omega
  simp only [List.length_nil,Nat.reduceSub,if_true] at hd hl hc1 hc2 ⊢
  go_wp2_with fail
  refine (verb_any (bs x) _ v1.out).mono ?_
  rintro e w2 ⟨rfl,rfl⟩
  rw [bs_data,HX.out]
  go_wp2_with fail
  refine (C2.out _).mono ?_
  rintro e w3 ⟨rfl,rfl⟩
  go_wp2_with fail
  refine (verb_any (bs y) _ v1.out).mono ?_
  rintro e w5 ⟨rfl,rfl⟩
  rw [bs_data,HY.out]
  go_wp2
  have C3:=hide (deed_r v y [] _ w5.drew HL.out (hd.below (w':=w5.drew) ⟨rfl,rfl,rfl,Nat.le_refl _,fun _ _=>rfl⟩ (Nat.le_refl _)))
  have zd:=hide z1.out.drew
  generalize (deedR v y []).1=o at C3 HV
  generalize (deedR v y []).2=n at C3 HV
  clear z1 hd c0
  go_region_with (go_at_call 172; refine C3.out.mono ?_; rintro e w4 ⟨rfl,hb4⟩; have z4:=hide (zd.out.behind hb4); have k0:w4.cell? ⟨w.heap.size,0,none⟩=some _:=z4.out.cell 0; have k1:w4.cell? ⟨w.heap.size,1,none⟩=some _:=z4.out.cell 1; have k2:w4.cell? ⟨w.heap.size,2,none⟩=some _:=z4.out.cell 2; have k3:w4.cell? ⟨w.heap.size,3,none⟩=some _:=z4.out.cell 3; have k4:w4.cell? ⟨w.heap.size,4,none⟩=some _:=z4.out.cell 4; have k5:w4.cell? ⟨w.heap.size,5,none⟩=some _:=z4.out.cell 5; have kf:=z4.out.frozen; clear hb4)
  all_goals go_wp2
  all_goals refine bodyPost_ret (resO rfl rfl rfl (z4.out.six _ _ _ _ _ _) rfl) rfl ⟨ret_any ?_,z4.out.six_below _ _ _ _ _ _⟩
  all_goals rw [HV.out]
  all_goals rfl
 ·rw [if_neg hc2] at hd
  simp only [List.length_nil] at hd
  go_wp2_with fail
  refine (verb_any (bs x) _ v1.out).mono ?_
  rintro e w2 ⟨rfl,rfl⟩
  rw [bs_data,HX.out]
  go_wp2_with fail
  refine (C2.out _).mono ?_
  rintro e w3 ⟨rfl,rfl⟩
  go_wp2_with fail
  refine (verb_any (bs y) _ v1.out).mono ?_
  rintro e w5 ⟨rfl,rfl⟩
  rw [bs_data,HY.out]
  go_wp2
  have C3:=hide (deed_r v y [] _ w5.drew HL.out (hd.below (w':=w5.drew) ⟨rfl,rfl,rfl,Nat.le_refl _,fun _ _=>rfl⟩ (Nat.le_refl _)))
  have zd:=hide z1.out.drew
  generalize (deedR v y []).1=o at C3 HV
  generalize (deedR v y []).2=n at C3 HV
  clear z1 hd c0
  go_region_with (go_at_call 172; refine C3.out.mono ?_; rintro e w4 ⟨rfl,hb4⟩; have z4:=hide (zd.out.behind hb4); have k0:w4.cell? ⟨w.heap.size,0,none⟩=some _:=z4.out.cell 0; have k1:w4.cell? ⟨w.heap.size,1,none⟩=some _:=z4.out.cell 1; have k2:w4.cell? ⟨w.heap.size,2,none⟩=some _:=z4.out.cell 2; have k3:w4.cell? ⟨w.heap.size,3,none⟩=some _:=z4.out.cell 3; have k4:w4.cell? ⟨w.heap.size,4,none⟩=some _:=z4.out.cell 4; have k5:w4.cell? ⟨w.heap.size,5,none⟩=some _:=z4.out.cell 5; have kf:=z4.out.frozen; clear hb4)
  all_goals go_wp2
  all_goals refine bodyPost_ret (resO rfl rfl rfl (z4.out.six _ _ _ _ _ _) rfl) rfl ⟨ret_any ?_,z4.out.six_below _ _ _ _ _ _⟩
  all_goals rw [HV.out]
  all_goals rfl
theorem parse_more13 (s:ByteArray) (w:World) (hs:s.size≤8796093022207) (hv:Vb w) (x y z:List UInt8) (r:List (List UInt8)) (v:Nat) (hL:splitL s.data.toList=x::y::z::r) (hx:verbL x=some v) (hk:v=13) :
 Calls Tryz.prog 140 #[.string s] w fun e w'=>e=.returned (.tuple #[.agg (parseL s.data.toList).1.cells,.int .i64 (parseL s.data.toList).2])∧Below w.heap.size w w':=by
 have HV:=hide (show parseL s.data.toList=((deedR v y (z::r)).1,(deedR v y (z::r)).2) by subst hk; simp [parseL,hL,hx,orderL,aloneB,deedR]; cases deedL _ y (z::r) <;> rfl)
 have HX:=hide (verbA_some hx)
 have ha:aloneB v=false:=by subst hk; rfl
 have C2:=hide (fun w'=>alone_any v w' (verb_lt hx))
 rw [ha] at C2
 have HL:Hid (y.length≤140737488355328):=by
  have h1:=split_short (l:=s.data.toList) (y:=y) (by rw [hL]; simp)
  rw [size_len] at h1
  show y.length≤_
  omega
 have b11:((v:Int)==11)=false:=by subst hk; rfl
 have b12:((v:Int)==12)=false:=by subst hk; rfl
 have b13:((v:Int)==13)=true:=by subst hk; rfl
 have hb0:(((r.length+1+1+1:Nat):Int)==0)=false:=by simp; omega
 have hb1:(((r.length+1+1:Nat):Int)==0)=false:=by simp; omega
 have hb2:(((r.length+1+1:Nat):Int)==1)=false:=by simp; omega
 have C1:=hide (fun w'=>split_any s w' hs)
 rw [hL] at C1
 replace hv:=hide hv
 clear hL hx ha hk
 go_enter Tryz.func140,Tryz.ntmps140
 go_wp2_with fail
 refine (C1.out _).mono ?_
 rintro e w1 ⟨u,rfl,hr,hb1⟩
 have z1:=hide ((zo_new w).behind hb1)
 have v1:=hide ((hv.out.alloc _).below hb1 (Nat.le_refl _))
 clear hb1
 obtain ⟨b,off,cap,rfl,hl,hm,c0,ht⟩:=hr.cons
 unfold maxLen at hm
 clear hr
 have hlen:(y::z::r).length=r.length+1+1:=rfl
 rw [hlen] at hl ht ⊢
 clear hlen
 have hc1:¬ cap=1:=by omega
 rw [if_neg hc1] at ht
 obtain ⟨b',off',cap',e,_,_,c1,hd⟩:=ht.cons
 injection e with e1 e2 e3; injection e1 with e1; injection e1 with e1 e2
 subst e1 e2 e3
 clear ht
 have hc2:¬ cap - 1=1:=by omega
 rw [if_neg hc2] at hd
 have hlen:(z::r).length=r.length+1:=rfl
 rw [hlen] at hd
 clear hlen
 go_wp2_with fail
 refine (verb_any (bs x) _ v1.out).mono ?_
 rintro e w2 ⟨rfl,rfl⟩
 rw [bs_data,HX.out]
 go_wp2_with fail
 refine (C2.out _).mono ?_
 rintro e w3 ⟨rfl,rfl⟩
 go_wp2
 have C3:=hide (deed_r v y (z::r) _ w3.drew HL.out (hd.below (w':=w3.drew) ⟨rfl,rfl,rfl,Nat.le_refl _,fun _ _=>rfl⟩ (Nat.le_refl _)))
 have zd:=hide z1.out.drew
 generalize (deedR v y (z::r)).1=o at C3 HV
 generalize (deedR v y (z::r)).2=n at C3 HV
 clear z1 hd c0
 go_region_with (go_at_call 172; refine C3.out.mono ?_; rintro e w4 ⟨rfl,hb4⟩; have z4:=hide (zd.out.behind hb4); have k0:w4.cell? ⟨w.heap.size,0,none⟩=some _:=z4.out.cell 0; have k1:w4.cell? ⟨w.heap.size,1,none⟩=some _:=z4.out.cell 1; have k2:w4.cell? ⟨w.heap.size,2,none⟩=some _:=z4.out.cell 2; have k3:w4.cell? ⟨w.heap.size,3,none⟩=some _:=z4.out.cell 3; have k4:w4.cell? ⟨w.heap.size,4,none⟩=some _:=z4.out.cell 4; have k5:w4.cell? ⟨w.heap.size,5,none⟩=some _:=z4.out.cell 5; have kf:=z4.out.frozen; clear hb4)
 all_goals go_wp2
 all_goals refine bodyPost_ret (resO rfl rfl rfl (z4.out.six _ _ _ _ _ _) rfl) rfl ⟨ret_any ?_,z4.out.six_below _ _ _ _ _ _⟩
 all_goals rw [HV.out]
 all_goals rfl
open Go.RowKit
theorem parse_any (s:ByteArray) (w:World) (hs:s.size≤8796093022207) (hv:Vb w) :
 Calls Tryz.prog 140 #[.string s] w fun e w'=>e=.returned (.tuple #[.agg (parseL s.data.toList).1.cells,.int .i64 (parseL s.data.toList).2])∧Below w.heap.size w w':=by
 match hL:splitL s.data.toList with
 | []=>exact parse_none s w hs hv hL
 | x::rest =>
  match hx:verbL x with
  | none=>exact parse_noverb s w hs hv x rest hL hx
  | some v =>
   by_cases h11:v=11
   ·subst h11
    cases ho:speechL s.data.toList with
    | none=>exact parse_say_none s w hs hv x rest hL hx ho
    | some o=>exact parse_say_some s w hs hv x rest hL hx o ho
   cases ha:aloneB v
   ·match rest,hL with
    | [],hL=>exact parse_lacks s w hs hv x v hL hx h11 ha
    | y::r,hL =>
     by_cases h12:v=12
     ·match r,hL with
      | [],hL =>
       match hy:verbL y with
       | none=>exact parse_word12 s w hs hv x y v hL hx h12 hy
       | some d =>
        by_cases h6:d < 6
        ·exact parse_way12 s w hs hv x y v hL hx h12 d hy h6
        ·exact parse_far12 s w hs hv x y v hL hx h12 d hy (by omega)
      | z::r,hL=>exact parse_more12 s w hs hv x y z r v hL hx h12
     by_cases h13:v=13
     ·match r,hL with
      | [],hL =>
       match hy:verbL y with
       | none=>exact parse_word13 s w hs hv x y v hL hx h13 hy
       | some d =>
        by_cases h6:d < 6
        ·exact parse_way13 s w hs hv x y v hL hx h13 d hy h6
        ·exact parse_far13 s w hs hv x y v hL hx h13 d hy (by omega)
      | z::r,hL=>exact parse_more13 s w hs hv x y z r v hL hx h13
     ·exact parse_deed s w hs hv x y r v hL hx h11 h12 h13 ha
   ·match rest,hL with
    | [],hL=>exact parse_alone s w hs hv x v hL hx h11 ha
    | y::r,hL=>exact parse_alone_more s w hs hv x y r v hL hx h11 ha
end Go.Proofs.YtncgcejlkmoliaaGreatDoor
