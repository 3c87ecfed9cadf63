import Derived.WalkKit
import Derived.Test.YtncgcejlkmoliaaGreatDoorRows
import Derived.ProofKit
import Derived.OpenShut
import Derived.ShutString
import Derived.WalkSpells
import Derived.WalkLawsBesides
import Derived.Deep.QuietTactic
import Derived.BigQuiet
import Derived.Deep.RegionWith
set_option linter.unusedVariables false
set_option maxRecDepth 100000
set_option maxHeartbeats 16000000
namespace Go.Proofs.YtncgcejlkmoliaaGreatDoor.Te
structure Tel where
 pos:Int
 verb:Int
 sub:ByteArray
 u0:Int
 u1:Int
 u2:Int
 t0:Int
 t1:Int
 t2:Int
 height:Int
def Tel.cells (t:Tel):Array Value :=
 #[.int .i64 t.pos,.int .i64 t.verb,.string t.sub,.int .i64 t.u0,.int .i64 t.u1,.int .i64 t.u2,.int .i64 t.t0,.int .i64 t.t1,.int .i64 t.t2,.int .i64 t.height]
def Tel.val (t:Tel):Value:=.agg t.cells
def gs (s:Int) (k:Bool):Bool:=s==0 || ((s==1 || s==2)&&k)
def gopt (t:Tel):Bool:=gs t.u0 true&&gs t.t0 false&&gs t.u1 true&&gs t.t1 true&&gs t.u2 false&&gs t.t2 true
def gplace (t:Tel):Bool :=
 if t.pos < 0∨4 < t.pos∨16 < t.sub.size then false
 else if t.pos < 3∧t.sub.toList.isEmpty=false then false
 else if t.pos=2 then decide (251≤t.verb)&&decide (t.verb≤254) else t.verb==0
def good (t:Tel):Bool:=gplace t&&gopt t&&decide (0≤t.height)&&decide (t.height≤200)
open Go.RowKit
theorem ret_bool {a b:Bool} (h:a=b):Ending.returned (.bool a)=.returned (.bool b):=by rw [h]
theorem place_1 (w:World):Calls Tryz.prog 113 #[.int .i64 1] w fun e w'=>e=.returned (.int .i64 0)∧w'=w:=by
 go_enter Tryz.func113,Tryz.ntmps113
 go_wp2
 go_ret
 exact ⟨rfl,rfl⟩
theorem place_3 (w:World):Calls Tryz.prog 113 #[.int .i64 3] w fun e w'=>e=.returned (.int .i64 1)∧w'=w:=by
 go_enter Tryz.func113,Tryz.ntmps113
 go_wp2
 go_ret
 exact ⟨rfl,rfl⟩
theorem place_31 (w:World):Calls Tryz.prog 113 #[.int .i64 31] w fun e w'=>e=.returned (.int .i64 2)∧w'=w:=by
 go_enter Tryz.func113,Tryz.ntmps113
 go_wp2
 go_ret
 exact ⟨rfl,rfl⟩
theorem ours_1 (b:Nat) (w:World):Calls Tryz.prog 96 #[.pointer (some ⟨b,0,none⟩),.int .i64 1] w fun e w'=>e=.returned (.pointer (some ⟨b,3,none⟩))∧∃ n,w'=w.drewN n:=by
 go_enter Tryz.func96,Tryz.ntmps96
 go_wp2
 go_quiet ((go_at_call 113; exact Calls.quiet_of_same (place_1 _)))
 go_wp2
 go_ret
 exact ⟨rfl,_,rfl⟩
theorem ours_3 (b:Nat) (w:World):Calls Tryz.prog 96 #[.pointer (some ⟨b,0,none⟩),.int .i64 3] w fun e w'=>e=.returned (.pointer (some ⟨b,4,none⟩))∧∃ n,w'=w.drewN n:=by
 go_enter Tryz.func96,Tryz.ntmps96
 go_wp2
 go_quiet ((go_at_call 113; exact Calls.quiet_of_same (place_3 _)))
 go_wp2
 go_ret
 exact ⟨rfl,_,rfl⟩
theorem ours_no (b:Nat) (opt:Int) (h1:(opt==1)=false) (h3:(opt==3)=false) (w:World):Calls Tryz.prog 96 #[.pointer (some ⟨b,0,none⟩),.int .i64 opt] w fun e w'=>e=.returned (.pointer none)∧∃ n,w'=w.drewN n:=by
 go_enter Tryz.func96,Tryz.ntmps96
 go_wp2
 go_ret
 exact ⟨rfl,0,rfl⟩
theorem theirs_3 (b:Nat) (w:World):Calls Tryz.prog 98 #[.pointer (some ⟨b,0,none⟩),.int .i64 3] w fun e w'=>e=.returned (.pointer (some ⟨b,7,none⟩))∧∃ n,w'=w.drewN n:=by
 go_enter Tryz.func98,Tryz.ntmps98
 go_wp2
 go_quiet ((go_at_call 113; exact Calls.quiet_of_same (place_3 _)))
 go_wp2
 go_ret
 exact ⟨rfl,_,rfl⟩
theorem theirs_31 (b:Nat) (w:World):Calls Tryz.prog 98 #[.pointer (some ⟨b,0,none⟩),.int .i64 31] w fun e w'=>e=.returned (.pointer (some ⟨b,8,none⟩))∧∃ n,w'=w.drewN n:=by
 go_enter Tryz.func98,Tryz.ntmps98
 go_wp2
 go_quiet ((go_at_call 113; exact Calls.quiet_of_same (place_31 _)))
 go_wp2
 go_ret
 exact ⟨rfl,_,rfl⟩
theorem theirs_no (b:Nat) (opt:Int) (h1:(opt==3)=false) (h3:(opt==31)=false) (w:World):Calls Tryz.prog 98 #[.pointer (some ⟨b,0,none⟩),.int .i64 opt] w fun e w'=>e=.returned (.pointer none)∧∃ n,w'=w.drewN n:=by
 go_enter Tryz.func98,Tryz.ntmps98
 go_wp2
 go_ret
 exact ⟨rfl,0,rfl⟩
theorem state_any (s:Int) (k:Bool) (w:World):Calls Tryz.prog 114 #[.int .i64 s,.bool k] w fun e w'=>e=.returned (.bool (gs s k))∧w'=w:=by
 by_cases h0:s=0
 ·subst h0
  go_enter Tryz.func114,Tryz.ntmps114
  go_wp2
  go_ret
  exact ⟨rfl,rfl⟩
 ·have e0:(s==0)=false:=by simpa using h0
  by_cases h1:s=1
  ·subst h1
   go_enter Tryz.func114,Tryz.ntmps114
   go_wp2
   go_ret
   exact ⟨by simp [gs],rfl⟩
  ·have e1:(s==1)=false:=by simpa using h1
   by_cases h2:s=2
   ·subst h2
    go_enter Tryz.func114,Tryz.ntmps114
    go_wp2
    go_ret
    exact ⟨by simp [gs],rfl⟩
   ·have e2:(s==2)=false:=by simpa using h2
    have HG:Hid (gs s k=false):=by unfold gs; rw [e0,e1,e2]; rfl
    go_enter Tryz.func114,Tryz.ntmps114
    go_wp2
    go_ret
    exact ⟨ret_bool HG.out.symm,rfl⟩
theorem gplace_any (t:Tel) (w:World) (hs:t.sub.size≤maxLen):Calls Tryz.prog 93 #[t.val] w fun e w'=>e=.returned (.bool (gplace t))∧Below w.heap.size w w':=by
 unfold maxLen at hs
 unfold Tel.val Tel.cells
 go_enter Tryz.func93,Tryz.ntmps93
 go_wp2
 all_goals go_ret
 all_goals refine ⟨ret_bool ?_,(Below.refl _ _).alloc (Nat.le_refl _) _⟩
 all_goals unfold gplace
 all_goals repeat' split
 all_goals first | rfl | omega | (simp_all; done) | (simp_all; omega)
open Go.RowKit
theorem quiet_of2 {P:Program} {f:FuncId} {args:Array Value} {w:World} {q n:Nat} {v:Value}
 (h:Calls P f args (w.drewN (q+n)) fun e w'=>e=.returned v∧∃ m,w'=(w.drewN (q+n)).drewN m):Calls P f args (w.drewN (q+n)) fun e w''=>e=.returned v∧∃ m,w''=w.drewN (q+m) :=
 h.mono fun _ _ ⟨he,m,hm⟩=>⟨he,n+m,by rw [hm,World.drewN_drewN,Nat.add_assoc]⟩
theorem quiet_of_same2 {P:Program} {f:FuncId} {args:Array Value} {w:World} {q n:Nat} {v:Value}
 (h:Calls P f args (w.drewN (q+n)) fun e w'=>e=.returned v∧w'=w.drewN (q+n)):Calls P f args (w.drewN (q+n)) fun e w''=>e=.returned v∧∃ m,w''=w.drewN (q+m) :=
 h.mono fun _ _ ⟨he,hm⟩=>⟨he,n,hm⟩
theorem gopt_any (t:Tel) (w:World):Calls Tryz.prog 94 #[t.val] w fun e w'=>e=.returned (.bool (gopt t))∧Below w.heap.size w w':=by
 have i0:∀ w,(Instr.index 77 (.agg #[.int .i64 1,.int .i64 3,.int .i64 31]) (.int .i64 0)).run Tryz.prog w=.ok (.int .i64 1) w:=fun _=>by kernel_rfl
 have i1:∀ w,(Instr.index 77 (.agg #[.int .i64 1,.int .i64 3,.int .i64 31]) (.int .i64 1)).run Tryz.prog w=.ok (.int .i64 3) w:=fun _=>by kernel_rfl
 have i2:∀ w,(Instr.index 77 (.agg #[.int .i64 1,.int .i64 3,.int .i64 31]) (.int .i64 2)).run Tryz.prog w=.ok (.int .i64 31) w:=fun _=>by kernel_rfl
 unfold Tel.val Tel.cells
 go_enter Tryz.func94,Tryz.ntmps94
 go_wp2
 refine wp_loop_rounds 4 ?_
 rw [rounds_succ]
 go_wp2_with (go_at_call 113; refine (place_1 _).mono ?_; rintro e w' ⟨rfl,rfl⟩)
 cases g1:gs t.u0 true
 ·have HF:Hid (gopt t=false):=(by simp [gopt,g1]:gopt t=false)
  go_quiet ((first | (go_at_call 96; exact Calls.quiet_of (ours_1 _ _)) | (go_at_call 98; exact Calls.quiet_of (theirs_no _ _ rfl rfl _)) | (go_at_call 114; exact Calls.quiet_of_same (state_any _ _ _))))
  go_wp2
  go_ret
  exact ⟨ret_bool HF.out.symm,by repeat (first | exact Below.refl _ _ | refine below_drewN ?_ _ | refine Below.alloc ?_ (by simp) _)⟩
 cases g2:gs t.t0 false
 ·have HF:Hid (gopt t=false):=(by simp [gopt,g1,g2]:gopt t=false)
  go_quiet ((first | (go_at_call 96; exact Calls.quiet_of (ours_1 _ _)) | (go_at_call 98; exact Calls.quiet_of (theirs_no _ _ rfl rfl _)) | (go_at_call 114; exact Calls.quiet_of_same (state_any _ _ _))))
  go_wp2
  go_ret
  exact ⟨ret_bool HF.out.symm,by repeat (first | exact Below.refl _ _ | refine below_drewN ?_ _ | refine Below.alloc ?_ (by simp) _)⟩
 go_quiet ((first | (go_at_call 96; exact Calls.quiet_of (ours_1 _ _)) | (go_at_call 98; exact Calls.quiet_of (theirs_no _ _ rfl rfl _)) | (go_at_call 114; exact Calls.quiet_of_same (state_any _ _ _))))
 go_wp2
 rw [rounds_succ]
 go_wp2_with (go_at_call 113; refine (place_3 _).mono ?_; rintro e w' ⟨rfl,rfl⟩)
 cases g3:gs t.u1 true
 ·have HF:Hid (gopt t=false):=(by simp [gopt,g1,g2,g3]:gopt t=false)
  go_quiet ((first | (go_at_call 96; exact quiet_of2 (ours_3 _ _)) | (go_at_call 98; exact quiet_of2 (theirs_3 _ _)) | (go_at_call 114; exact quiet_of_same2 (state_any _ _ _))))
  go_wp2
  go_ret
  exact ⟨ret_bool HF.out.symm,by repeat (first | exact Below.refl _ _ | refine below_drewN ?_ _ | refine Below.alloc ?_ (by simp) _)⟩
 cases g4:gs t.t1 true
 ·have HF:Hid (gopt t=false):=(by simp [gopt,g1,g2,g3,g4]:gopt t=false)
  go_quiet ((first | (go_at_call 96; exact quiet_of2 (ours_3 _ _)) | (go_at_call 98; exact quiet_of2 (theirs_3 _ _)) | (go_at_call 114; exact quiet_of_same2 (state_any _ _ _))))
  go_wp2
  go_ret
  exact ⟨ret_bool HF.out.symm,by repeat (first | exact Below.refl _ _ | refine below_drewN ?_ _ | refine Below.alloc ?_ (by simp) _)⟩
 go_quiet ((first | (go_at_call 96; exact quiet_of2 (ours_3 _ _)) | (go_at_call 98; exact quiet_of2 (theirs_3 _ _)) | (go_at_call 114; exact quiet_of_same2 (state_any _ _ _))))
 go_wp2
 rw [rounds_succ]
 go_wp2_with (go_at_call 113; refine (place_31 _).mono ?_; rintro e w' ⟨rfl,rfl⟩)
 cases g5:gs t.u2 false
 ·have HF:Hid (gopt t=false):=(by simp [gopt,g1,g2,g3,g4,g5]:gopt t=false)
  go_quiet ((first | (go_at_call 96; exact quiet_of2 (ours_no _ _ rfl rfl _)) | (go_at_call 98; exact quiet_of2 (theirs_31 _ _)) | (go_at_call 114; exact quiet_of_same2 (state_any _ _ _))))
  go_wp2
  go_ret
  exact ⟨ret_bool HF.out.symm,by repeat (first | exact Below.refl _ _ | refine below_drewN ?_ _ | refine Below.alloc ?_ (by simp) _)⟩
 cases g6:gs t.t2 true
 ·have HF:Hid (gopt t=false):=(by simp [gopt,g1,g2,g3,g4,g5,g6]:gopt t=false)
  go_quiet ((first | (go_at_call 96; exact quiet_of2 (ours_no _ _ rfl rfl _)) | (go_at_call 98; exact quiet_of2 (theirs_31 _ _)) | (go_at_call 114; exact quiet_of_same2 (state_any _ _ _))))
  go_wp2
  go_ret
  exact ⟨ret_bool HF.out.symm,by repeat (first | exact Below.refl _ _ | refine below_drewN ?_ _ | refine Below.alloc ?_ (by simp) _)⟩
 go_quiet ((first | (go_at_call 96; exact quiet_of2 (ours_no _ _ rfl rfl _)) | (go_at_call 98; exact quiet_of2 (theirs_31 _ _)) | (go_at_call 114; exact quiet_of_same2 (state_any _ _ _))))
 go_wp2
 rw [rounds_succ]
 have HF:Hid (gopt t=true):=(by simp [gopt,g1,g2,g3,g4,g5,g6]:gopt t=true)
 go_wp2
 go_ret
 exact ⟨ret_bool HF.out.symm,by repeat (first | exact Below.refl _ _ | refine below_drewN ?_ _ | refine Below.alloc ?_ (by simp) _)⟩
open Go.RowKit
theorem bcell {W w1:World} (hb:Below W.heap.size W w1):(∀ b o,b < W.heap.size→w1.cell? ⟨b,o,none⟩=W.cell? ⟨b,o,none⟩)∧(∀ b o,b < W.heap.size→w1.frozen? ⟨b,o,none⟩=W.frozen? ⟨b,o,none⟩) :=
 ⟨fun b o h=>hb.cell (p:=⟨b,o,none⟩) h,fun b o h=>hb.frozen (p:=⟨b,o,none⟩) h⟩
theorem good_any (t:Tel) (w:World) (hs:t.sub.size≤maxLen):Calls Tryz.prog 76 #[t.val] w fun e w'=>e=.returned (.bool (good t))∧Below w.heap.size w w':=by
 unfold Tel.val Tel.cells
 cases g1:gplace t
 ·have HF:Hid (good t=false):=(by simp [good,g1]:good t=false)
  go_enter Tryz.func76,Tryz.ntmps76
  go_wp2_with (go_at_call 93; refine (gplace_any t _ hs).mono ?_; rintro e w1 ⟨rfl,hb1⟩)
  go_ret
  exact ⟨ret_bool HF.out.symm,((Below.refl _ _).alloc (Nat.le_refl _) _).trans (hb1.mono (by simp))⟩
 cases g2:gopt t
 ·have HF:Hid (good t=false):=(by simp [good,g1,g2]:good t=false)
  go_enter Tryz.func76,Tryz.ntmps76
  go_wp2_with (first | (go_at_call 93; refine (gplace_any t _ hs).mono ?_; rintro e w1 ⟨rfl,hb1⟩; obtain ⟨hc1,hf1⟩:=bcell hb1) | (go_at_call 94; refine (gopt_any t _).mono ?_; rintro e w2 ⟨rfl,hb2⟩; obtain ⟨hc2,hf2⟩:=bcell hb2))
  go_ret
  exact ⟨ret_bool HF.out.symm,(((Below.refl _ _).alloc (Nat.le_refl _) _).trans (hb1.mono (by simp))).trans (hb2.mono (by have:=hb1.size; simp at this; omega))⟩
 have HF:Hid (good t=(decide (0≤t.height)&&decide (t.height≤200))):=(by simp [good,g1,g2]:good t=(decide (0≤t.height)&&decide (t.height≤200)))
 go_enter Tryz.func76,Tryz.ntmps76
 go_wp2_with (first | (go_at_call 93; refine (gplace_any t _ hs).mono ?_; rintro e w1 ⟨rfl,hb1⟩; obtain ⟨hc1,hf1⟩:=bcell hb1; have hz1:w.heap.size < w1.heap.size:=(by have:=hb1.size; simp at this; omega)) | (go_at_call 94; refine (gopt_any t _).mono ?_; rintro e w2 ⟨rfl,hb2⟩; obtain ⟨hc2,hf2⟩:=bcell hb2))
 all_goals go_ret
 all_goals refine ⟨ret_bool ?_,(((Below.refl _ _).alloc (Nat.le_refl _) _).trans (hb1.mono (by simp))).trans (hb2.mono (by have:=hb1.size; simp at this; omega))⟩
 all_goals rw [HF.out]
 all_goals first | (simp_all; done) | (simp_all; omega)
end Go.Proofs.YtncgcejlkmoliaaGreatDoor.Te
