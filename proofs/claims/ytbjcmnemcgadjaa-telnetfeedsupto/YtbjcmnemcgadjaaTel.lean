/-
  Plain mathematics of the telnet codec: the state, what is good, one byte's step, all bytes. Nothing of the program.
-/
import Derived.WalkKit
namespace Go.Proofs.Ytbjcmnemcgadjaa

/-- A codec's state. -/
structure Tel where
  pos : Int
  verb : Int
  sub : ByteArray
  u0 : Int
  u1 : Int
  u2 : Int
  t0 : Int
  t1 : Int
  t2 : Int
  height : Int

/-- Its cells in memory. -/
def Tel.cells (t : Tel) : Array Value :=
  #[.int .i64 t.pos, .int .i64 t.verb, .string t.sub, .int .i64 t.u0, .int .i64 t.u1, .int .i64 t.u2, .int .i64 t.t0, .int .i64 t.t1, .int .i64 t.t2, .int .i64 t.height]

def Tel.val (t : Tel) : Value := .agg t.cells

/-- May an option be in a state, by whether it is known? -/
def gs (s : Int) (k : Bool) : Bool := s == 0 || ((s == 1 || s == 2) && k)

def gopt (t : Tel) : Bool := gs t.u0 true && gs t.t0 false && gs t.u1 true && gs t.t1 true && gs t.u2 false && gs t.t2 true

def gplace (t : Tel) : Bool :=
  if t.pos < 0 ∨ 4 < t.pos ∨ 16 < t.sub.size then false
  else if t.pos < 3 ∧ t.sub.toList.isEmpty = false then false
  else if t.pos = 2 then decide (251 ≤ t.verb) && decide (t.verb ≤ 254) else t.verb == 0

def good (t : Tel) : Bool := gplace t && gopt t && decide (0 ≤ t.height) && decide (t.height ≤ 200)

end Go.Proofs.Ytbjcmnemcgadjaa
