import Derived.Test.YtncgcejlkmoliaaGreatDoorMh36
set_option linter.unusedVariables false
set_option maxRecDepth 100000
set_option maxHeartbeats 16000000
namespace Go.Proofs.YtncgcejlkmoliaaGreatDoor
open Go.RowKit
theorem deed_none (v:Nat) (s:ByteArray) (rest:List (List UInt8)) (u:Value) (w:World) (hs:s.size≤140737488355328) (hr:Rd w u rest) (hn:nounL s.data.toList=none) :
 Calls Tryz.prog 172 #[.int .i64 (v:Int),.string s,u] w fun e w'=>e=.returned (ordA (deedL v s.data.toList rest))∧Below w.heap.size w w':=by
 have HV:=hide (show deedL v s.data.toList rest=none by simp [deedL,hn])
 have C1:=hide (fun w'=>noun_b s w' hs)
 rw [hn] at C1
 simp only [nounA] at C1
 replace hr:=hide hr
 clear hn
 go_enter Tryz.func172,Tryz.ntmps172
 go_wp2_with fail
 refine (C1.out _).mono ?_
 rintro e w1 ⟨rfl,hb1⟩
 have z1:=hide ((zo_new w).behind hb1)
 have r1:=hide ((hr.out.alloc _).below hb1 (Nat.le_refl _))
 clear hb1
 go_wp2_with (refine wl_put (.tmp 6) (.tmp 38) rfl rfl z1.out rfl 0 0 false ⟨#[]⟩ ⟨#[]⟩ ⟨#[]⟩ rfl ?_)
 refine bodyPost_ret (resO rfl rfl rfl (z1.out.done _).1 rfl) rfl ⟨ret_any ?_,(z1.out.done _).2⟩
 rw [HV.out]; rfl
theorem deed_wrong (v:Nat) (s:ByteArray) (rest:List (List UInt8)) (u:Value) (w:World) (hs:s.size≤140737488355328) (hr:Rd w u rest) (n:Nat) (name:List UInt8) (hn:nounL s.data.toList=some (n,name,true)) (h7:v ≠ 7) (h8:v ≠ 8) (h9:v ≠ 9) :
 Calls Tryz.prog 172 #[.int .i64 (v:Int),.string s,u] w fun e w'=>e=.returned (ordA (deedL v s.data.toList rest))∧Below w.heap.size w w':=by
 have HV:=hide (show deedL v s.data.toList rest=none by simp [deedL,hn,h7,h8,h9])
 have C1:=hide (fun w'=>noun_b s w' hs)
 rw [hn] at C1
 simp only [nounA] at C1
 have b7:((v:Int) != 7)=true:=by simp; omega
 have b8:((v:Int) != 8)=true:=by simp; omega
 have b9:((v:Int) != 9)=true:=by simp; omega
 replace hr:=hide hr
 clear hn h7 h8 h9
 go_enter Tryz.func172,Tryz.ntmps172
 go_wp2_with fail
 refine (C1.out _).mono ?_
 rintro e w1 ⟨rfl,hb1⟩
 have z1:=hide ((zo_new w).behind hb1)
 have r1:=hide ((hr.out.alloc _).below hb1 (Nat.le_refl _))
 clear hb1
 go_wp2_with (refine wl_put (.tmp 6) (.tmp 38) rfl rfl z1.out rfl 0 0 false ⟨#[]⟩ ⟨#[]⟩ ⟨#[]⟩ rfl ?_)
 refine bodyPost_ret (resO rfl rfl rfl (z1.out.done _).1 rfl) rfl ⟨ret_any ?_,(z1.out.done _).2⟩
 rw [HV.out]; rfl
theorem deed_one_none (v:Nat) (s:ByteArray) (rest:List (List UInt8)) (u:Value) (w:World) (hs:s.size≤140737488355328) (hr:Rd w u rest) (n:Nat) (name:List UInt8) (hn:nounL s.data.toList=some (n,name,false)) (h2:secondL v rest=none) :
 Calls Tryz.prog 172 #[.int .i64 (v:Int),.string s,u] w fun e w'=>e=.returned (ordA (deedL v s.data.toList rest))∧Below w.heap.size w w':=by
 have HV:=hide (show deedL v s.data.toList rest=none by simp [deedL,hn,h2])
 have C1:=hide (fun w'=>noun_b s w' hs)
 have C2:=hide (fun w' h=>second_any v rest u w' h)
 rw [hn] at C1
 simp only [nounA] at C1
 simp only [secA,h2] at C2
 replace hr:=hide hr
 clear hn h2
 go_enter Tryz.func172,Tryz.ntmps172
 go_wp2_with fail
 refine (C1.out _).mono ?_
 rintro e w1 ⟨rfl,hb1⟩
 have z1:=hide ((zo_new w).behind hb1)
 have r1:=hide ((hr.out.alloc _).below hb1 (Nat.le_refl _))
 clear hb1
 go_wp2_with fail
 refine (C2.out _ r1.out).mono ?_
 rintro e w2 ⟨rfl,rfl⟩
 go_wp2_with (refine wl_put (.tmp 6) (.tmp 47) rfl rfl z1.out rfl 0 0 false ⟨#[]⟩ ⟨#[]⟩ ⟨#[]⟩ rfl ?_)
 refine bodyPost_ret (resO rfl rfl rfl (z1.out.done _).1 rfl) rfl ⟨ret_any ?_,(z1.out.done _).2⟩
 rw [HV.out]; rfl
theorem deed_one_some (v:Nat) (s:ByteArray) (rest:List (List UInt8)) (u:Value) (w:World) (hs:s.size≤140737488355328) (hr:Rd w u rest) (n:Nat) (name:List UInt8) (hn:nounL s.data.toList=some (n,name,false)) (tw:List UInt8) (h2:secondL v rest=some tw) :
 Calls Tryz.prog 172 #[.int .i64 (v:Int),.string s,u] w fun e w'=>e=.returned (ordA (deedL v s.data.toList rest))∧Below w.heap.size w w':=by
 have HV:=hide (show deedL v s.data.toList rest=some { verb:=v,nth:=n,all:=false,name:=name,second:=tw,text:=[] } by simp [deedL,hn,h2])
 have C1:=hide (fun w'=>noun_b s w' hs)
 have C2:=hide (fun w' h=>second_any v rest u w' h)
 rw [hn] at C1
 simp only [nounA] at C1
 simp only [secA,h2] at C2
 replace hr:=hide hr
 clear hn h2
 go_enter Tryz.func172,Tryz.ntmps172
 go_wp2_with fail
 refine (C1.out _).mono ?_
 rintro e w1 ⟨rfl,hb1⟩
 have z1:=hide ((zo_new w).behind hb1)
 have r1:=hide ((hr.out.alloc _).below hb1 (Nat.le_refl _))
 clear hb1
 go_wp2_with fail
 refine (C2.out _ r1.out).mono ?_
 rintro e w2 ⟨rfl,rfl⟩
 go_wp2_with (refine wl_put (.tmp 6) (.tmp 53) rfl rfl z1.out rfl v n false (bs name) (bs tw) ⟨#[]⟩ rfl ?_)
 refine bodyPost_ret (resO rfl rfl rfl (z1.out.done _).1 rfl) rfl ⟨ret_any ?_,(z1.out.done _).2⟩
 rw [HV.out]; rfl
theorem deed_all7_none (v:Nat) (s:ByteArray) (rest:List (List UInt8)) (u:Value) (w:World) (hs:s.size≤140737488355328) (hr:Rd w u rest) (n:Nat) (name:List UInt8) (hn:nounL s.data.toList=some (n,name,true)) (hv:v=7) (h2:secondL v rest=none) :
 Calls Tryz.prog 172 #[.int .i64 (v:Int),.string s,u] w fun e w'=>e=.returned (ordA (deedL v s.data.toList rest))∧Below w.heap.size w w':=by
 have HV:=hide (show deedL v s.data.toList rest=none by simp [deedL,hn,h2])
 have C1:=hide (fun w'=>noun_b s w' hs)
 have C2:=hide (fun w' h=>second_any v rest u w' h)
 rw [hn] at C1
 simp only [nounA] at C1
 simp only [secA,h2] at C2
 have b7:((v:Int) != 7)=false:=by subst hv; rfl
 replace hr:=hide hr
 clear hn h2 hv
 go_enter Tryz.func172,Tryz.ntmps172
 go_wp2_with fail
 refine (C1.out _).mono ?_
 rintro e w1 ⟨rfl,hb1⟩
 have z1:=hide ((zo_new w).behind hb1)
 have r1:=hide ((hr.out.alloc _).below hb1 (Nat.le_refl _))
 clear hb1
 go_wp2_with fail
 refine (C2.out _ r1.out).mono ?_
 rintro e w2 ⟨rfl,rfl⟩
 go_wp2_with (refine wl_put (.tmp 6) (.tmp 47) rfl rfl z1.out rfl 0 0 false ⟨#[]⟩ ⟨#[]⟩ ⟨#[]⟩ rfl ?_)
 refine bodyPost_ret (resO rfl rfl rfl (z1.out.done _).1 rfl) rfl ⟨ret_any ?_,(z1.out.done _).2⟩
 rw [HV.out]; rfl
theorem deed_all7_some (v:Nat) (s:ByteArray) (rest:List (List UInt8)) (u:Value) (w:World) (hs:s.size≤140737488355328) (hr:Rd w u rest) (n:Nat) (name:List UInt8) (hn:nounL s.data.toList=some (n,name,true)) (hv:v=7) (tw:List UInt8) (h2:secondL v rest=some tw) :
 Calls Tryz.prog 172 #[.int .i64 (v:Int),.string s,u] w fun e w'=>e=.returned (ordA (deedL v s.data.toList rest))∧Below w.heap.size w w':=by
 have HV:=hide (show deedL v s.data.toList rest=some { verb:=v,nth:=n,all:=true,name:=name,second:=tw,text:=[] } by simp [deedL,hn,h2]; omega)
 have C1:=hide (fun w'=>noun_b s w' hs)
 have C2:=hide (fun w' h=>second_any v rest u w' h)
 rw [hn] at C1
 simp only [nounA] at C1
 simp only [secA,h2] at C2
 have b7:((v:Int) != 7)=false:=by subst hv; rfl
 replace hr:=hide hr
 clear hn h2 hv
 go_enter Tryz.func172,Tryz.ntmps172
 go_wp2_with fail
 refine (C1.out _).mono ?_
 rintro e w1 ⟨rfl,hb1⟩
 have z1:=hide ((zo_new w).behind hb1)
 have r1:=hide ((hr.out.alloc _).below hb1 (Nat.le_refl _))
 clear hb1
 go_wp2_with fail
 refine (C2.out _ r1.out).mono ?_
 rintro e w2 ⟨rfl,rfl⟩
 go_wp2_with (refine wl_put (.tmp 6) (.tmp 53) rfl rfl z1.out rfl v n true (bs name) (bs tw) ⟨#[]⟩ rfl ?_)
 refine bodyPost_ret (resO rfl rfl rfl (z1.out.done _).1 rfl) rfl ⟨ret_any ?_,(z1.out.done _).2⟩
 rw [HV.out]; rfl
theorem deed_all8_none (v:Nat) (s:ByteArray) (rest:List (List UInt8)) (u:Value) (w:World) (hs:s.size≤140737488355328) (hr:Rd w u rest) (n:Nat) (name:List UInt8) (hn:nounL s.data.toList=some (n,name,true)) (hv:v=8) (h2:secondL v rest=none) :
 Calls Tryz.prog 172 #[.int .i64 (v:Int),.string s,u] w fun e w'=>e=.returned (ordA (deedL v s.data.toList rest))∧Below w.heap.size w w':=by
 have HV:=hide (show deedL v s.data.toList rest=none by simp [deedL,hn,h2])
 have C1:=hide (fun w'=>noun_b s w' hs)
 have C2:=hide (fun w' h=>second_any v rest u w' h)
 rw [hn] at C1
 simp only [nounA] at C1
 simp only [secA,h2] at C2
 have b7:((v:Int) != 7)=true:=by subst hv; rfl
 have b8:((v:Int) != 8)=false:=by subst hv; rfl
 replace hr:=hide hr
 clear hn h2 hv
 go_enter Tryz.func172,Tryz.ntmps172
 go_wp2_with fail
 refine (C1.out _).mono ?_
 rintro e w1 ⟨rfl,hb1⟩
 have z1:=hide ((zo_new w).behind hb1)
 have r1:=hide ((hr.out.alloc _).below hb1 (Nat.le_refl _))
 clear hb1
 go_wp2_with fail
 refine (C2.out _ r1.out).mono ?_
 rintro e w2 ⟨rfl,rfl⟩
 go_wp2_with (refine wl_put (.tmp 6) (.tmp 47) rfl rfl z1.out rfl 0 0 false ⟨#[]⟩ ⟨#[]⟩ ⟨#[]⟩ rfl ?_)
 refine bodyPost_ret (resO rfl rfl rfl (z1.out.done _).1 rfl) rfl ⟨ret_any ?_,(z1.out.done _).2⟩
 rw [HV.out]; rfl
theorem deed_all8_some (v:Nat) (s:ByteArray) (rest:List (List UInt8)) (u:Value) (w:World) (hs:s.size≤140737488355328) (hr:Rd w u rest) (n:Nat) (name:List UInt8) (hn:nounL s.data.toList=some (n,name,true)) (hv:v=8) (tw:List UInt8) (h2:secondL v rest=some tw) :
 Calls Tryz.prog 172 #[.int .i64 (v:Int),.string s,u] w fun e w'=>e=.returned (ordA (deedL v s.data.toList rest))∧Below w.heap.size w w':=by
 have HV:=hide (show deedL v s.data.toList rest=some { verb:=v,nth:=n,all:=true,name:=name,second:=tw,text:=[] } by simp [deedL,hn,h2]; omega)
 have C1:=hide (fun w'=>noun_b s w' hs)
 have C2:=hide (fun w' h=>second_any v rest u w' h)
 rw [hn] at C1
 simp only [nounA] at C1
 simp only [secA,h2] at C2
 have b7:((v:Int) != 7)=true:=by subst hv; rfl
 have b8:((v:Int) != 8)=false:=by subst hv; rfl
 replace hr:=hide hr
 clear hn h2 hv
 go_enter Tryz.func172,Tryz.ntmps172
 go_wp2_with fail
 refine (C1.out _).mono ?_
 rintro e w1 ⟨rfl,hb1⟩
 have z1:=hide ((zo_new w).behind hb1)
 have r1:=hide ((hr.out.alloc _).below hb1 (Nat.le_refl _))
 clear hb1
 go_wp2_with fail
 refine (C2.out _ r1.out).mono ?_
 rintro e w2 ⟨rfl,rfl⟩
 go_wp2_with (refine wl_put (.tmp 6) (.tmp 53) rfl rfl z1.out rfl v n true (bs name) (bs tw) ⟨#[]⟩ rfl ?_)
 refine bodyPost_ret (resO rfl rfl rfl (z1.out.done _).1 rfl) rfl ⟨ret_any ?_,(z1.out.done _).2⟩
 rw [HV.out]; rfl
theorem deed_all9_none (v:Nat) (s:ByteArray) (rest:List (List UInt8)) (u:Value) (w:World) (hs:s.size≤140737488355328) (hr:Rd w u rest) (n:Nat) (name:List UInt8) (hn:nounL s.data.toList=some (n,name,true)) (hv:v=9) (h2:secondL v rest=none) :
 Calls Tryz.prog 172 #[.int .i64 (v:Int),.string s,u] w fun e w'=>e=.returned (ordA (deedL v s.data.toList rest))∧Below w.heap.size w w':=by
 have HV:=hide (show deedL v s.data.toList rest=none by simp [deedL,hn,h2])
 have C1:=hide (fun w'=>noun_b s w' hs)
 have C2:=hide (fun w' h=>second_any v rest u w' h)
 rw [hn] at C1
 simp only [nounA] at C1
 simp only [secA,h2] at C2
 have b7:((v:Int) != 7)=true:=by subst hv; rfl
 have b8:((v:Int) != 8)=true:=by subst hv; rfl
 have b9:((v:Int) != 9)=false:=by subst hv; rfl
 replace hr:=hide hr
 clear hn h2 hv
 go_enter Tryz.func172,Tryz.ntmps172
 go_wp2_with fail
 refine (C1.out _).mono ?_
 rintro e w1 ⟨rfl,hb1⟩
 have z1:=hide ((zo_new w).behind hb1)
 have r1:=hide ((hr.out.alloc _).below hb1 (Nat.le_refl _))
 clear hb1
 go_wp2_with fail
 refine (C2.out _ r1.out).mono ?_
 rintro e w2 ⟨rfl,rfl⟩
 go_wp2_with (refine wl_put (.tmp 6) (.tmp 47) rfl rfl z1.out rfl 0 0 false ⟨#[]⟩ ⟨#[]⟩ ⟨#[]⟩ rfl ?_)
 refine bodyPost_ret (resO rfl rfl rfl (z1.out.done _).1 rfl) rfl ⟨ret_any ?_,(z1.out.done _).2⟩
 rw [HV.out]; rfl
theorem deed_all9_some (v:Nat) (s:ByteArray) (rest:List (List UInt8)) (u:Value) (w:World) (hs:s.size≤140737488355328) (hr:Rd w u rest) (n:Nat) (name:List UInt8) (hn:nounL s.data.toList=some (n,name,true)) (hv:v=9) (tw:List UInt8) (h2:secondL v rest=some tw) :
 Calls Tryz.prog 172 #[.int .i64 (v:Int),.string s,u] w fun e w'=>e=.returned (ordA (deedL v s.data.toList rest))∧Below w.heap.size w w':=by
 have HV:=hide (show deedL v s.data.toList rest=some { verb:=v,nth:=n,all:=true,name:=name,second:=tw,text:=[] } by simp [deedL,hn,h2]; omega)
 have C1:=hide (fun w'=>noun_b s w' hs)
 have C2:=hide (fun w' h=>second_any v rest u w' h)
 rw [hn] at C1
 simp only [nounA] at C1
 simp only [secA,h2] at C2
 have b7:((v:Int) != 7)=true:=by subst hv; rfl
 have b8:((v:Int) != 8)=true:=by subst hv; rfl
 have b9:((v:Int) != 9)=false:=by subst hv; rfl
 replace hr:=hide hr
 clear hn h2 hv
 go_enter Tryz.func172,Tryz.ntmps172
 go_wp2_with fail
 refine (C1.out _).mono ?_
 rintro e w1 ⟨rfl,hb1⟩
 have z1:=hide ((zo_new w).behind hb1)
 have r1:=hide ((hr.out.alloc _).below hb1 (Nat.le_refl _))
 clear hb1
 go_wp2_with fail
 refine (C2.out _ r1.out).mono ?_
 rintro e w2 ⟨rfl,rfl⟩
 go_wp2_with (refine wl_put (.tmp 6) (.tmp 53) rfl rfl z1.out rfl v n true (bs name) (bs tw) ⟨#[]⟩ rfl ?_)
 refine bodyPost_ret (resO rfl rfl rfl (z1.out.done _).1 rfl) rfl ⟨ret_any ?_,(z1.out.done _).2⟩
 rw [HV.out]; rfl
theorem deed_any (v:Nat) (s:ByteArray) (rest:List (List UInt8)) (u:Value) (w:World) (hs:s.size≤140737488355328) (hr:Rd w u rest) :
 Calls Tryz.prog 172 #[.int .i64 (v:Int),.string s,u] w fun e w'=>e=.returned (ordA (deedL v s.data.toList rest))∧Below w.heap.size w w':=by
 cases hn:nounL s.data.toList with
 | none=>exact deed_none v s rest u w hs hr hn
 | some t =>
  obtain ⟨n,name,every⟩:=t
  cases every
  ·cases h2:secondL v rest with
   | none=>exact deed_one_none v s rest u w hs hr n name hn h2
   | some tw=>exact deed_one_some v s rest u w hs hr n name hn tw h2
  ·by_cases h7:v=7
   ·cases h2:secondL v rest with
    | none=>exact deed_all7_none v s rest u w hs hr n name hn h7 h2
    | some tw=>exact deed_all7_some v s rest u w hs hr n name hn h7 tw h2
   by_cases h8:v=8
   ·cases h2:secondL v rest with
    | none=>exact deed_all8_none v s rest u w hs hr n name hn h8 h2
    | some tw=>exact deed_all8_some v s rest u w hs hr n name hn h8 tw h2
   by_cases h9:v=9
   ·cases h2:secondL v rest with
    | none=>exact deed_all9_none v s rest u w hs hr n name hn h9 h2
    | some tw=>exact deed_all9_some v s rest u w hs hr n name hn h9 tw h2
   ·exact deed_wrong v s rest u w hs hr n name hn h7 h8 h9
open Go.RowKit
theorem verbA_some {x:List UInt8} {v:Nat} (h:verbL x=some v):verbA x=((v:Int),0):=by simp [verbA,h]
theorem verbA_none {x:List UInt8} (h:verbL x=none):verbA x=(0,3):=by simp [verbA,h]
theorem parse_none (s:ByteArray) (w:World) (hs:s.size≤8796093022207) (hv:Vb w) (hL:splitL s.data.toList=[]) :
 Calls Tryz.prog 140 #[.string s] w fun e w'=>e=.returned (.tuple #[.agg (parseL s.data.toList).1.cells,.int .i64 (parseL s.data.toList).2])∧Below w.heap.size w w':=by
 have HV:=hide (show parseL s.data.toList=(zo,1) by simp [parseL,hL])
 have C1:=hide (fun w'=>split_any s w' hs)
 rw [hL] at C1
 replace hv:=hide hv
 clear hL
 go_enter Tryz.func140,Tryz.ntmps140
 go_wp2_with fail
 refine (C1.out _).mono ?_
 rintro e w1 ⟨u,rfl,hr,hb1⟩
 have z1:=hide ((zo_new w).behind hb1)
 have v1:=hide ((hv.out.alloc _).below hb1 (Nat.le_refl _))
 clear hb1
 obtain ⟨av,cap,rfl,hm⟩:=hr.none
 clear hr
 go_wp2_with (refine wl_put (.tmp 2) (.tmp 15) rfl rfl z1.out rfl 0 0 false ⟨#[]⟩ ⟨#[]⟩ ⟨#[]⟩ rfl ?_)
 refine bodyPost_ret (resO rfl rfl rfl (z1.out.done _).1 rfl) rfl ⟨ret_any ?_,(z1.out.done _).2⟩
 rw [HV.out]; rfl
theorem parse_noverb (s:ByteArray) (w:World) (hs:s.size≤8796093022207) (hv:Vb w) (x:List UInt8) (rest:List (List UInt8)) (hL:splitL s.data.toList=x::rest) (hx:verbL x=none) :
 Calls Tryz.prog 140 #[.string s] w fun e w'=>e=.returned (.tuple #[.agg (parseL s.data.toList).1.cells,.int .i64 (parseL s.data.toList).2])∧Below w.heap.size w w':=by
 have HV:=hide (show parseL s.data.toList=(zo,3) by simp [parseL,hL,hx])
 have HX:=hide (verbA_none hx)
 have hb0:(((rest.length+1:Nat):Int)==0)=false:=by simp; omega
 have C1:=hide (fun w'=>split_any s w' hs)
 rw [hL] at C1
 replace hv:=hide hv
 clear hL hx
 go_enter Tryz.func140,Tryz.ntmps140
 go_wp2_with fail
 refine (C1.out _).mono ?_
 rintro e w1 ⟨u,rfl,hr,hb1⟩
 have z1:=hide ((zo_new w).behind hb1)
 have v1:=hide ((hv.out.alloc _).below hb1 (Nat.le_refl _))
 clear hb1
 obtain ⟨b,off,cap,rfl,hl,hm,c0,ht⟩:=hr.cons
 unfold maxLen at hm
 clear hr ht
 go_wp2_with fail
 refine (verb_any (bs x) _ v1.out).mono ?_
 rintro e w2 ⟨rfl,rfl⟩
 rw [bs_data,HX.out]
 go_wp2_with (refine wl_put (.tmp 2) (.tmp 25) rfl rfl z1.out rfl 0 0 false ⟨#[]⟩ ⟨#[]⟩ ⟨#[]⟩ rfl ?_)
 refine bodyPost_ret (resO rfl rfl rfl (z1.out.done _).1 rfl) rfl ⟨ret_any ?_,(z1.out.done _).2⟩
 rw [HV.out]; rfl
theorem parse_say_none (s:ByteArray) (w:World) (hs:s.size≤8796093022207) (hv:Vb w) (x:List UInt8) (rest:List (List UInt8)) (hL:splitL s.data.toList=x::rest) (hx:verbL x=some 11) (ho:speechL s.data.toList=none) :
 Calls Tryz.prog 140 #[.string s] w fun e w'=>e=.returned (.tuple #[.agg (parseL s.data.toList).1.cells,.int .i64 (parseL s.data.toList).2])∧Below w.heap.size w w':=by
 have HV:=hide (show parseL s.data.toList=(zo,1) by simp [parseL,hL,hx,orderL,ho])
 have HX:=hide (verbA_some hx)
 have hb0:(((rest.length+1:Nat):Int)==0)=false:=by simp; omega
 have C2:=hide (fun w'=>speech_any s w' (by omega))
 rw [ho] at C2
 simp only [ordA] at C2
 have C1:=hide (fun w'=>split_any s w' hs)
 rw [hL] at C1
 replace hv:=hide hv
 clear hL hx ho
 go_enter Tryz.func140,Tryz.ntmps140
 go_wp2_with fail
 refine (C1.out _).mono ?_
 rintro e w1 ⟨u,rfl,hr,hb1⟩
 have z1:=hide ((zo_new w).behind hb1)
 have v1:=hide ((hv.out.alloc _).below hb1 (Nat.le_refl _))
 clear hb1
 obtain ⟨b,off,cap,rfl,hl,hm,c0,ht⟩:=hr.cons
 unfold maxLen at hm
 clear hr ht
 by_cases hc1:cap=1
 ·subst hc1
  go_wp2_with fail
  refine (verb_any (bs x) _ v1.out).mono ?_
  rintro e w2 ⟨rfl,rfl⟩
  rw [bs_data,HX.out]
  go_wp2_with fail
  refine (C2.out _).mono ?_
  rintro e w3 ⟨rfl,hb3⟩
  have z3:=hide (z1.out.behind hb3)
  clear hb3
  go_wp2_with (refine wl_put (.tmp 2) (.tmp 34) rfl rfl z3.out rfl 0 0 false ⟨#[]⟩ ⟨#[]⟩ ⟨#[]⟩ rfl ?_)
  refine bodyPost_ret (resO rfl rfl rfl (z3.out.done _).1 rfl) rfl ⟨ret_any ?_,(z3.out.done _).2⟩
  rw [HV.out]; rfl
 ·skip
  go_wp2_with fail
  refine (verb_any (bs x) _ v1.out).mono ?_
  rintro e w2 ⟨rfl,rfl⟩
  rw [bs_data,HX.out]
  go_wp2_with fail
  refine (C2.out _).mono ?_
  rintro e w3 ⟨rfl,hb3⟩
  have z3:=hide (z1.out.behind hb3)
  clear hb3
  go_wp2_with (refine wl_put (.tmp 2) (.tmp 34) rfl rfl z3.out rfl 0 0 false ⟨#[]⟩ ⟨#[]⟩ ⟨#[]⟩ rfl ?_)
  refine bodyPost_ret (resO rfl rfl rfl (z3.out.done _).1 rfl) rfl ⟨ret_any ?_,(z3.out.done _).2⟩
  rw [HV.out]; rfl
theorem parse_say_some (s:ByteArray) (w:World) (hs:s.size≤8796093022207) (hv:Vb w) (x:List UInt8) (rest:List (List UInt8)) (hL:splitL s.data.toList=x::rest) (hx:verbL x=some 11) (o:Ord) (ho:speechL s.data.toList=some o) :
 Calls Tryz.prog 140 #[.string s] w fun e w'=>e=.returned (.tuple #[.agg (parseL s.data.toList).1.cells,.int .i64 (parseL s.data.toList).2])∧Below w.heap.size w w':=by
 have HV:=hide (show parseL s.data.toList=(o,0) by simp [parseL,hL,hx,orderL,ho])
 have HX:=hide (verbA_some hx)
 have hb0:(((rest.length+1:Nat):Int)==0)=false:=by simp; omega
 have C2:=hide (fun w'=>speech_any s w' (by omega))
 rw [ho] at C2
 simp only [ordA] at C2
 have C1:=hide (fun w'=>split_any s w' hs)
 rw [hL] at C1
 replace hv:=hide hv
 clear hL hx ho
 go_enter Tryz.func140,Tryz.ntmps140
 go_wp2_with fail
 refine (C1.out _).mono ?_
 rintro e w1 ⟨u,rfl,hr,hb1⟩
 have z1:=hide ((zo_new w).behind hb1)
 have v1:=hide ((hv.out.alloc _).below hb1 (Nat.le_refl _))
 clear hb1
 obtain ⟨b,off,cap,rfl,hl,hm,c0,ht⟩:=hr.cons
 unfold maxLen at hm
 clear hr ht
 by_cases hc1:cap=1
 ·subst hc1
  go_wp2_with fail
  refine (verb_any (bs x) _ v1.out).mono ?_
  rintro e w2 ⟨rfl,rfl⟩
  rw [bs_data,HX.out]
  go_wp2_with fail
  refine (C2.out _).mono ?_
  rintro e w3 ⟨rfl,hb3⟩
  have z3:=hide (z1.out.behind hb3)
  clear hb3
  go_wp2_with (refine wl_put (.tmp 2) (.tmp 34) rfl rfl z3.out rfl o.verb o.nth o.all (bs o.name) (bs o.second) (bs o.text) rfl ?_)
  refine bodyPost_ret (resO rfl rfl rfl (z3.out.done _).1 rfl) rfl ⟨ret_any ?_,(z3.out.done _).2⟩
  rw [HV.out]; rfl
 ·skip
  go_wp2_with fail
  refine (verb_any (bs x) _ v1.out).mono ?_
  rintro e w2 ⟨rfl,rfl⟩
  rw [bs_data,HX.out]
  go_wp2_with fail
  refine (C2.out _).mono ?_
  rintro e w3 ⟨rfl,hb3⟩
  have z3:=hide (z1.out.behind hb3)
  clear hb3
  go_wp2_with (refine wl_put (.tmp 2) (.tmp 34) rfl rfl z3.out rfl o.verb o.nth o.all (bs o.name) (bs o.second) (bs o.text) rfl ?_)
  refine bodyPost_ret (resO rfl rfl rfl (z3.out.done _).1 rfl) rfl ⟨ret_any ?_,(z3.out.done _).2⟩
  rw [HV.out]; rfl
theorem parse_alone (s:ByteArray) (w:World) (hs:s.size≤8796093022207) (hv:Vb w) (x:List UInt8) (v:Nat) (hL:splitL s.data.toList=[x]) (hx:verbL x=some v) (h11:v ≠ 11) (ha:aloneB v=true) :
 Calls Tryz.prog 140 #[.string s] w fun e w'=>e=.returned (.tuple #[.agg (parseL s.data.toList).1.cells,.int .i64 (parseL s.data.toList).2])∧Below w.heap.size w w':=by
 have HV:=hide (show parseL s.data.toList=({ zo with verb:=v },0) by simp [parseL,hL,hx,orderL,h11,ha])
 have HX:=hide (verbA_some hx)
 have C2:=hide (fun w'=>alone_any v w' (verb_lt hx))
 rw [ha] at C2
 have b11:((v:Int)==11)=false:=by simp; omega
 have C1:=hide (fun w'=>split_any s w' hs)
 rw [hL] at C1
 replace hv:=hide hv
 clear hL hx ha h11
 go_enter Tryz.func140,Tryz.ntmps140
 go_wp2_with fail
 refine (C1.out _).mono ?_
 rintro e w1 ⟨u,rfl,hr,hb1⟩
 have z1:=hide ((zo_new w).behind hb1)
 have v1:=hide ((hv.out.alloc _).below hb1 (Nat.le_refl _))
 clear hb1
 obtain ⟨b,off,cap,rfl,hl,hm,c0,ht⟩:=hr.cons
 unfold maxLen at hm
 clear hr ht
 by_cases hc1:cap=1
 ·subst hc1
  go_wp2_with fail
  refine (verb_any (bs x) _ v1.out).mono ?_
  rintro e w2 ⟨rfl,rfl⟩
  rw [bs_data,HX.out]
  go_wp2_with fail
  refine (C2.out _).mono ?_
  rintro e w3 ⟨rfl,rfl⟩
  go_wp2_with (refine wl_put (.tmp 2) (.tmp 44) rfl rfl z1.out rfl v 0 false ⟨#[]⟩ ⟨#[]⟩ ⟨#[]⟩ rfl ?_)
  refine bodyPost_ret (resO rfl rfl rfl (z1.out.done _).1 rfl) rfl ⟨ret_any ?_,(z1.out.done _).2⟩
  rw [HV.out]; rfl
 ·skip
  go_wp2_with fail
  refine (verb_any (bs x) _ v1.out).mono ?_
  rintro e w2 ⟨rfl,rfl⟩
  rw [bs_data,HX.out]
  go_wp2_with fail
  refine (C2.out _).mono ?_
  rintro e w3 ⟨rfl,rfl⟩
  go_wp2_with (refine wl_put (.tmp 2) (.tmp 44) rfl rfl z1.out rfl v 0 false ⟨#[]⟩ ⟨#[]⟩ ⟨#[]⟩ rfl ?_)
  refine bodyPost_ret (resO rfl rfl rfl (z1.out.done _).1 rfl) rfl ⟨ret_any ?_,(z1.out.done _).2⟩
  rw [HV.out]; rfl
theorem parse_alone_more (s:ByteArray) (w:World) (hs:s.size≤8796093022207) (hv:Vb w) (x y:List UInt8) (r:List (List UInt8)) (v:Nat) (hL:splitL s.data.toList=x::y::r) (hx:verbL x=some v) (h11:v ≠ 11) (ha:aloneB v=true) :
 Calls Tryz.prog 140 #[.string s] w fun e w'=>e=.returned (.tuple #[.agg (parseL s.data.toList).1.cells,.int .i64 (parseL s.data.toList).2])∧Below w.heap.size w w':=by
 have HV:=hide (show parseL s.data.toList=(zo,1) by simp [parseL,hL,hx,orderL,h11,ha])
 have HX:=hide (verbA_some hx)
 have C2:=hide (fun w'=>alone_any v w' (verb_lt hx))
 rw [ha] at C2
 have b11:((v:Int)==11)=false:=by simp; omega
 have hb0:(((r.length+1+1:Nat):Int)==0)=false:=by simp; omega
 have hb1:(((r.length+1:Nat):Int)==0)=false:=by simp; omega
 have C1:=hide (fun w'=>split_any s w' hs)
 rw [hL] at C1
 replace hv:=hide hv
 clear hL hx ha h11
 go_enter Tryz.func140,Tryz.ntmps140
 go_wp2_with fail
 refine (C1.out _).mono ?_
 rintro e w1 ⟨u,rfl,hr,hb1⟩
 have z1:=hide ((zo_new w).behind hb1)
 have v1:=hide ((hv.out.alloc _).below hb1 (Nat.le_refl _))
 clear hb1
 obtain ⟨b,off,cap,rfl,hl,hm,c0,ht⟩:=hr.cons
 unfold maxLen at hm
 clear hr ht
 have hlen:(y::r).length=r.length+1:=rfl
 rw [hlen] at hl ⊢
 clear hlen
 have hc1:¬ cap=1:=by omega
 go_wp2_with fail
 refine (verb_any (bs x) _ v1.out).mono ?_
 rintro e w2 ⟨rfl,rfl⟩
 rw [bs_data,HX.out]
 go_wp2_with fail
 refine (C2.out _).mono ?_
 rintro e w3 ⟨rfl,rfl⟩
 go_wp2_with (refine wl_put (.tmp 2) (.tmp 42) rfl rfl z1.out rfl 0 0 false ⟨#[]⟩ ⟨#[]⟩ ⟨#[]⟩ rfl ?_)
 refine bodyPost_ret (resO rfl rfl rfl (z1.out.done _).1 rfl) rfl ⟨ret_any ?_,(z1.out.done _).2⟩
 rw [HV.out]; rfl
theorem parse_lacks (s:ByteArray) (w:World) (hs:s.size≤8796093022207) (hv:Vb w) (x:List UInt8) (v:Nat) (hL:splitL s.data.toList=[x]) (hx:verbL x=some v) (h11:v ≠ 11) (ha:aloneB v=false) :
 Calls Tryz.prog 140 #[.string s] w fun e w'=>e=.returned (.tuple #[.agg (parseL s.data.toList).1.cells,.int .i64 (parseL s.data.toList).2])∧Below w.heap.size w w':=by
 have HV:=hide (show parseL s.data.toList=(zo,1) by simp [parseL,hL,hx,orderL,h11,ha])
 have HX:=hide (verbA_some hx)
 have C2:=hide (fun w'=>alone_any v w' (verb_lt hx))
 rw [ha] at C2
 have b11:((v:Int)==11)=false:=by simp; omega
 have C1:=hide (fun w'=>split_any s w' hs)
 rw [hL] at C1
 replace hv:=hide hv
 clear hL hx ha h11
 go_enter Tryz.func140,Tryz.ntmps140
 go_wp2_with fail
 refine (C1.out _).mono ?_
 rintro e w1 ⟨u,rfl,hr,hb1⟩
 have z1:=hide ((zo_new w).behind hb1)
 have v1:=hide ((hv.out.alloc _).below hb1 (Nat.le_refl _))
 clear hb1
 obtain ⟨b,off,cap,rfl,hl,hm,c0,ht⟩:=hr.cons
 unfold maxLen at hm
 clear hr ht
 by_cases hc1:cap=1
 ·subst hc1
  go_wp2_with fail
  refine (verb_any (bs x) _ v1.out).mono ?_
  rintro e w2 ⟨rfl,rfl⟩
  rw [bs_data,HX.out]
  go_wp2_with fail
  refine (C2.out _).mono ?_
  rintro e w3 ⟨rfl,rfl⟩
  go_wp2_with (refine wl_put (.tmp 2) (.tmp 49) rfl rfl z1.out rfl 0 0 false ⟨#[]⟩ ⟨#[]⟩ ⟨#[]⟩ rfl ?_)
  refine bodyPost_ret (resO rfl rfl rfl (z1.out.done _).1 rfl) rfl ⟨ret_any ?_,(z1.out.done _).2⟩
  rw [HV.out]; rfl
 ·skip
  go_wp2_with fail
  refine (verb_any (bs x) _ v1.out).mono ?_
  rintro e w2 ⟨rfl,rfl⟩
  rw [bs_data,HX.out]
  go_wp2_with fail
  refine (C2.out _).mono ?_
  rintro e w3 ⟨rfl,rfl⟩
  go_wp2_with (refine wl_put (.tmp 2) (.tmp 49) rfl rfl z1.out rfl 0 0 false ⟨#[]⟩ ⟨#[]⟩ ⟨#[]⟩ rfl ?_)
  refine bodyPost_ret (resO rfl rfl rfl (z1.out.done _).1 rfl) rfl ⟨ret_any ?_,(z1.out.done _).2⟩
  rw [HV.out]; rfl
open Go.RowKit
def deedR (v:Nat) (y:List UInt8) (r:List (List UInt8)):Ord × Int:=match deedL v y r with | some o=>(o,0) | none=>(zo,1)
theorem ordA_deed (v:Nat) (y:List UInt8) (r:List (List UInt8)):ordA (deedL v y r)=.tuple #[.agg (deedR v y r).1.cells,.int .i64 (deedR v y r).2]:=by
 unfold deedR
 cases deedL v y r <;> rfl
theorem deed_r (v:Nat) (y:List UInt8) (r:List (List UInt8)) (u:Value) (w:World) (hs:y.length≤140737488355328) (hr:Rd w u r) :
 Calls Tryz.prog 172 #[.int .i64 (v:Int),.string (bs y),u] w fun e w'=>e=.returned (.tuple #[.agg #[.int .i64 (deedR v y r).1.verb,.int .i64 (deedR v y r).1.nth,.bool (deedR v y r).1.all,.string (bs (deedR v y r).1.name),.string (bs (deedR v y r).1.second),.string (bs (deedR v y r).1.text)],.int .i64 (deedR v y r).2])∧Below w.heap.size w w':=by
 have h:=deed_any v (bs y) r u w (by rw [bs_size]; exact hs) hr
 rw [bs_data,ordA_deed] at h
 exact h
section
variable {w0 w:World} {b:Nat}
theorem Zo.cell (h:Zo w0 b w) (o:Nat):w.cell? ⟨b,o,none⟩=zo.cells[o]?:=by
 have:=h.blk; simp [World.cell?,this]
theorem Zo.frozen (h:Zo w0 b w) (o:Nat):w.frozen? ⟨b,o,none⟩=false:=by
 have:=h.blk; simp [World.frozen?,this]
theorem Zo.drew (h:Zo w0 b w):Zo w0 b w.drew:=⟨h.lo,h.blk,h.below.os,h.below.tape,h.below.output,h.below.size,h.below.block⟩
theorem Zo.six (h:Zo w0 b w) (v0 v1 v2 v3 v4 v5:Value) :
 ((((((w.setCell ⟨b,0,none⟩ v0).setCell ⟨b,1,none⟩ v1).setCell ⟨b,2,none⟩ v2).setCell ⟨b,3,none⟩ v3).setCell ⟨b,4,none⟩ v4).setCell ⟨b,5,none⟩ v5).heap[b]?=some (.cells #[v0,v1,v2,v3,v4,v5] 149 (0,0)):=by
 have h0:=heap_setCell_same w b 0 _ 149 v0 h.blk
 have h1:=heap_setCell_same _ b 1 _ 149 v1 h0
 have h2:=heap_setCell_same _ b 2 _ 149 v2 h1
 have h3:=heap_setCell_same _ b 3 _ 149 v3 h2
 have h4:=heap_setCell_same _ b 4 _ 149 v4 h3
 have h5:=heap_setCell_same _ b 5 _ 149 v5 h4
 rw [h5]
 simp [Ord.cells]
theorem Zo.six_below (h:Zo w0 b w) (v0 v1 v2 v3 v4 v5:Value) :
 Below w0.heap.size w0 ((((((w.setCell ⟨b,0,none⟩ v0).setCell ⟨b,1,none⟩ v1).setCell ⟨b,2,none⟩ v2).setCell ⟨b,3,none⟩ v3).setCell ⟨b,4,none⟩ v4).setCell ⟨b,5,none⟩ v5) :=
 (((((h.below.setCell h.lo _).setCell h.lo _).setCell h.lo _).setCell h.lo _).setCell h.lo _).setCell h.lo _
end
theorem parse_deed (s:ByteArray) (w:World) (hs:s.size≤8796093022207) (hv:Vb w) (x y:List UInt8) (r:List (List UInt8)) (v:Nat) (hL:splitL s.data.toList=x::y::r) (hx:verbL x=some v) (h11:v ≠ 11) (h12:v ≠ 12) (h13:v ≠ 13) (ha:aloneB v=false) :
 Calls Tryz.prog 140 #[.string s] w fun e w'=>e=.returned (.tuple #[.agg (parseL s.data.toList).1.cells,.int .i64 (parseL s.data.toList).2])∧Below w.heap.size w w':=by
 have HV:=hide (show parseL s.data.toList=((deedR v y r).1,(deedR v y r).2) by simp [parseL,hL,hx,orderL,h11,h12,h13,ha,deedR]; cases deedL v y r <;> rfl)
 have HX:=hide (verbA_some hx)
 have C2:=hide (fun w'=>alone_any v w' (verb_lt hx))
 rw [ha] at C2
 have HL:Hid (y.length≤140737488355328):=by
  have h1:=split_short (l:=s.data.toList) (y:=y) (by rw [hL]; simp)
  rw [size_len] at h1
  show y.length≤_
  omega
 have b11:((v:Int)==11)=false:=by simp; omega
 have b12:((v:Int)==12)=false:=by simp; omega
 have b13:((v:Int)==13)=false:=by simp; omega
 have hb0:(((r.length+1+1:Nat):Int)==0)=false:=by simp; omega
 have hb1:(((r.length+1:Nat):Int)==0)=false:=by simp; omega
 have C1:=hide (fun w'=>split_any s w' hs)
 rw [hL] at C1
 replace hv:=hide hv
 clear hL hx ha h11 h12 h13
 go_enter Tryz.func140,Tryz.ntmps140
 go_wp2_with fail
 refine (C1.out _).mono ?_
 rintro e w1 ⟨u,rfl,hr,hb1⟩
 have z1:=hide ((zo_new w).behind hb1)
 have v1:=hide ((hv.out.alloc _).below hb1 (Nat.le_refl _))
 clear hb1
 obtain ⟨b,off,cap,rfl,hl,hm,c0,ht⟩:=hr.cons
 unfold maxLen at hm
 clear hr
 have hlen:(y::r).length=r.length+1:=rfl
 rw [hlen] at hl ht ⊢
 clear hlen
 have hc1:¬ cap=1:=by omega
 rw [if_neg hc1] at ht
 obtain ⟨b',off',cap',e,_,_,c1,hd⟩:=ht.cons
 injection e with e1 e2 e3; injection e1 with e1; injection e1 with e1 e2
 subst e1 e2 e3
 clear ht
 by_cases hc2:cap - 1=1
 ·obtain rfl:cap=2:=by omega
  obtain rfl:r=[]:=List.eq_nil_of_length_eq_zero (by omega)
  simp only [List.length_nil,Nat.zero_add,Nat.reduceSub,Nat.reduceAdd,if_true] at hd hl hc1 hc2 ⊢
  go_wp2_with fail
  refine (verb_any (bs x) _ v1.out).mono ?_
  rintro e w2 ⟨rfl,rfl⟩
  rw [bs_data,HX.out]
  go_wp2_with fail
  refine (C2.out _).mono ?_
  rintro e w3 ⟨rfl,rfl⟩
  go_wp2
  have C3:=hide (deed_r v y [] _ w3.drew HL.out (hd.below (w':=w3.drew) ⟨rfl,rfl,rfl,Nat.le_refl _,fun _ _=>rfl⟩ (Nat.le_refl _)))
  have zd:=hide z1.out.drew
  generalize (deedR v y []).1=o at C3 HV
  generalize (deedR v y []).2=n at C3 HV
  clear z1 hd c0
  go_region_with (go_at_call 172; refine C3.out.mono ?_; rintro e w4 ⟨rfl,hb4⟩; have z4:=hide (zd.out.behind hb4); have k0:w4.cell? ⟨w.heap.size,0,none⟩=some _:=z4.out.cell 0; have k1:w4.cell? ⟨w.heap.size,1,none⟩=some _:=z4.out.cell 1; have k2:w4.cell? ⟨w.heap.size,2,none⟩=some _:=z4.out.cell 2; have k3:w4.cell? ⟨w.heap.size,3,none⟩=some _:=z4.out.cell 3; have k4:w4.cell? ⟨w.heap.size,4,none⟩=some _:=z4.out.cell 4; have k5:w4.cell? ⟨w.heap.size,5,none⟩=some _:=z4.out.cell 5; have kf:=z4.out.frozen; clear hb4)
  all_goals go_wp2
  all_goals refine bodyPost_ret (resO rfl rfl rfl (z4.out.six _ _ _ _ _ _) rfl) rfl ⟨ret_any ?_,z4.out.six_below _ _ _ _ _ _⟩
  all_goals rw [HV.out]
  all_goals rfl
 ·rw [if_neg hc2] at hd
  go_wp2_with fail
  refine (verb_any (bs x) _ v1.out).mono ?_
  rintro e w2 ⟨rfl,rfl⟩
  rw [bs_data,HX.out]
  go_wp2_with fail
  refine (C2.out _).mono ?_
  rintro e w3 ⟨rfl,rfl⟩
  go_wp2
  have C3:=hide (deed_r v y r _ w3.drew HL.out (hd.below (w':=w3.drew) ⟨rfl,rfl,rfl,Nat.le_refl _,fun _ _=>rfl⟩ (Nat.le_refl _)))
  have zd:=hide z1.out.drew
  generalize (deedR v y r).1=o at C3 HV
  generalize (deedR v y r).2=n at C3 HV
  clear z1 hd c0
  go_region_with (go_at_call 172; refine C3.out.mono ?_; rintro e w4 ⟨rfl,hb4⟩; have z4:=hide (zd.out.behind hb4); have k0:w4.cell? ⟨w.heap.size,0,none⟩=some _:=z4.out.cell 0; have k1:w4.cell? ⟨w.heap.size,1,none⟩=some _:=z4.out.cell 1; have k2:w4.cell? ⟨w.heap.size,2,none⟩=some _:=z4.out.cell 2; have k3:w4.cell? ⟨w.heap.size,3,none⟩=some _:=z4.out.cell 3; have k4:w4.cell? ⟨w.heap.size,4,none⟩=some _:=z4.out.cell 4; have k5:w4.cell? ⟨w.heap.size,5,none⟩=some _:=z4.out.cell 5; have kf:=z4.out.frozen; clear hb4)
  all_goals go_wp2
  all_goals refine bodyPost_ret (resO rfl rfl rfl (z4.out.six _ _ _ _ _ _) rfl) rfl ⟨ret_any ?_,z4.out.six_below _ _ _ _ _ _⟩
  all_goals rw [HV.out]
  all_goals rfl
end Go.Proofs.YtncgcejlkmoliaaGreatDoor
