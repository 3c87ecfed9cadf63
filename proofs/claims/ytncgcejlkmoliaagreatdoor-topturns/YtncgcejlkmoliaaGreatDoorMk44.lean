import Derived.Test.YtncgcejlkmoliaaGreatDoorMk43
set_option linter.unusedVariables false
set_option maxRecDepth 100000
set_option maxHeartbeats 16000000
namespace Go.Proofs.YtncgcejlkmoliaaGreatDoor.Ho
open Go.RowKit
def Apart (lab lab':Nat→Nat):Prop:=∀ n,lab n=9∨lab' n=9
theorem Apart.symm {lab lab':Nat→Nat} (h:Apart lab lab'):Apart lab' lab:=fun n=>(h n).symm
section
variable {W0:World} {lab lab1 lab2:Nat→Nat} {w w':World} {hb:Nat} {M:Hm}
theorem HoC.base (h:HoC W0 lab w hb M):∀ n,n < W0.heap.size→lab n=9:=by obtain ⟨p,vl,h⟩:=h; exact h.base
theorem HoC.apart (h:HoC W0 lab w hb M) (ha:Apart lab lab1) (hbase:∀ n,n < W0.heap.size→lab1 n=9) (hG:Gr lab1 lab2 w w'):HoC W0 lab w' hb M∧Apart lab lab2∧∀ n,n < W0.heap.size→lab2 n=9:=by
 have hs:=h.low.size
 have ho:=h.outs
 obtain ⟨p,vl,h⟩:=h
 refine ⟨⟨p,vl,h.frame hG.os hG.tape hG.output hG.size (fun n hn=>hG.same n (by omega) (.inr (hbase n hn))) fun n hn hl=>hG.same n hn (.inr ((ha n).resolve_left hl))⟩,fun n=>?_,fun n hn=>(hG.old n (by omega)).trans (hbase n hn)⟩
 by_cases hn:n < w.heap.size
 ·rw [hG.old n hn]; exact ha n
 ·exact .inl (ho n (by omega))
end
theorem apart_new {lab:Nat→Nat} {hb n:Nat} (h:∀ k,n≤k→lab k=9) (hb':n≤hb):Apart lab (lab0 hb):=by
 intro k
 unfold lab0
 by_cases e:k=hb
 ·subst e; exact .inl (h k hb')
 ·exact .inr (if_neg e)
theorem quiet_any (x:Value) (a:Ac) (c:Int) (s:ByteArray) (w:World):Calls Tryz.prog 48 (#[x,.agg a.cells,.agg #[.int .i64 c,.string s]]++#[]) w fun e w'=>e=.returned (.bool true)∧Below w.heap.size w w':=by
 have e:(#[x,.agg a.cells,.agg #[.int .i64 c,.string s]]++#[]:Array Value)=#[x,.agg a.cells,.agg #[.int .i64 c,.string s]]:=by simp
 rw [e]
 have B0:=((Below.refl w.heap.size w).alloc (Nat.le_refl _) (.cells a.cells 23)).alloc (by simp) (.cells #[.int .i64 c,.string s] 29)
 go_enter Tryz.func48,Tryz.ntmps48
 go_wp2
 go_ret
 exact ⟨rfl,B0⟩
theorem quiet_enter (args:Array Value) (w:World):(callFunc 48 args).run Tryz.prog w=.ok (.enter 48 args) w:=by kernel_rfl
theorem playq {W0:World} (hvb:Vb W0) (hai:Ai W0) {v:Value} {l:List Ac} (hl:Rac W0 v l) (hsz:∀ a ∈ l,a.bytes.size≤140737488351232) {w:World} (hlow:Below W0.heap.size W0 w) :
 Calls Tryz.prog 25 #[v,.func (.func 48) #[] #[]] w fun e w'=>∃ hb lab,e=.returned (.tuple #[.pointer (some ⟨hb,0,none⟩),.bool true])∧HoC W0 lab w' hb (runM newM (l.take 150)) :=
 (play_any hvb hai hl hsz 48 #[] (fun _ _ _ _=>True) hlow quiet_enter (fun _ _ _ _ _=>trivial) (fun _ _ _ _ _ _ _ _ _=>trivial)
  (fun hb done a lab w _ _ H _=>(quiet_any _ a _ _ w).mono fun e w' ⟨he,hb'⟩=>⟨he,lab,H.below hb',trivial⟩)).mono fun e w' ⟨hb,lab,he,_,H,_⟩=>⟨hb,lab,he,H⟩
theorem playq2 {W0:World} (hvb:Vb W0) (hai:Ai W0) {v:Value} {l:List Ac} (hl:Rac W0 v l) (hsz:∀ a ∈ l,a.bytes.size≤140737488351232) {w:World} {lab1:Nat→Nat} {hb1:Nat} {M1:Hm} (H1:HoC W0 lab1 w hb1 M1) :
 Calls Tryz.prog 25 #[v,.func (.func 48) #[] #[]] w fun e w'=>∃ hb lab,e=.returned (.tuple #[.pointer (some ⟨hb,0,none⟩),.bool true])∧HoC W0 lab w' hb (runM newM (l.take 150))∧HoC W0 lab1 w' hb1 M1∧Apart lab1 lab :=
 (play_any hvb hai hl hsz 48 #[] (fun _ _ lab w=>HoC W0 lab1 w hb1 M1∧Apart lab1 lab∧∀ n,n < W0.heap.size→lab n=9) H1.low quiet_enter
  (fun hb w' hh hB hH=>⟨H1.below hB,apart_new H1.outs hh,hH.base⟩) (fun _ _ _ _ _ _ hJ _ hG=>hJ.1.apart hJ.2.1 hJ.2.2 hG)
  (fun hb done a lab w _ _ H hJ=>(quiet_any _ a _ _ w).mono fun e w' ⟨he,hb'⟩=>⟨he,lab,H.below hb',hJ.1.below hb',hJ.2⟩)).mono fun e w' ⟨hb,lab,he,_,H,hJ⟩=>⟨hb,lab,he,H,hJ.1,hJ.2.1⟩
theorem sm_forget (o:Option Se):Sm o (o.map fun S=>{ S with told:=[] }):=by
 cases o with
 | none=>exact ⟨rfl,rfl,rfl⟩
 | some S=>exact ⟨rfl,rfl,rfl⟩
theorem seat_forget (M:Hm) (n:Nat) (i:Int):seatAt { forgetM M with acts:=n } i=(seatAt M i).map fun S=>{ S with told:=[] }:=by
 unfold seatAt
 by_cases h:0≤i∧i < 4
 ·rw [if_pos h,if_pos h]; rfl
 ·rw [if_neg h,if_neg h]; rfl
theorem refused_pure {M:Hm} {a:Ac} (ha:M.acts < 400) (hc:(doM M a).2.1 ≠ 0):(doM M a).2.2=⟨#[]⟩∧(doM M a).1.last=[]∧M.L=(doM M a).1.L∧∀ i:Nat,i < 4→Sm (seatAt M i) (seatAt (doM M a).1 i):=by
 unfold doM at hc ⊢
 rw [if_neg (by omega)] at hc ⊢
 by_cases hr:refusedM (forgetM M) a=0
 ·rw [if_pos hr] at hc; exact absurd rfl hc
 ·rw [if_neg hr] at hc ⊢
  refine ⟨rfl,rfl,rfl,fun i hi=>?_⟩
  rw [seat_forget]
  exact sm_forget _
theorem run_acts (l:List Ac):∀ M:Hm,(runM M l).acts≤M.acts+l.length:=by
 induction l with
 | nil=>intro M; exact Nat.le_refl _
 | cons a r ih =>
  intro M
  have h1:=ih (doM M a).1
  have h2:=do_acts M a
  show (runM (doM M a).1 r).acts≤_
  simp only [List.length_cons]
  split at h2 <;> omega
theorem iv_small {M:Hm} (h:Iv 1000 M):∀ i:Nat,i < 4→(pageOf (seatAt M i)).wait.length≤1000000∧(lineOf (seatAt M i)).q.length≤1000000:=by
 intro i hi
 unfold seatAt
 rw [if_pos (by omega),Int.toNat_natCast]
 cases hS:M.seat i with
 | none=>exact ⟨Nat.zero_le _,Nat.zero_le _⟩
 | some S =>
  have:=(h.sv.seat i S hi hS).1
  exact ⟨Nat.le_trans this.pg.len (by omega),Nat.le_trans this.lin.len (by omega)⟩
end Go.Proofs.YtncgcejlkmoliaaGreatDoor.Ho
