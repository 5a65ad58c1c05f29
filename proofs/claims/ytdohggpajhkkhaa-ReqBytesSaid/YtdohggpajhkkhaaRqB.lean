/-
  A request as data; the walk through its fields by their letters. Condition: each letter is one of the thirteen.
-/
import Derived.Test.YtdohggpajhkkhaaRqA
import Derived.Lib.OthersKept
import Derived.WalkMore
namespace Go.Proofs.Ytdohggpajhkkhaa
open Go.RowKit
/-- A request: its kind, its eight numbers, its four keys, its data. -/
structure Rq where
  k : Int
  s : Int
  t : Int
  v : Int
  b : Int
  c : Int
  n : Int
  r : Int
  q : Int
  o : List Int
  f : List Int
  m : List Int
  x : List Int
  d : List Int
def numL (p : Rq) (l : Nat) : Int := if l = 115 then p.s else if l = 116 then p.t else if l = 118 then p.v else if l = 98 then p.b else if l = 99 then p.c else if l = 110 then p.n else if l = 114 then p.r else p.q
def keyL (p : Rq) (l : Nat) : List Int := if l = 111 then p.o else if l = 102 then p.f else if l = 109 then p.m else p.x
def isN (l : Nat) : Bool := l == 115 || l == 116 || l == 118 || l == 98 || l == 99 || l == 110 || l == 114 || l == 113
def isK (l : Nat) : Bool := l == 111 || l == 102 || l == 109 || l == 120
def isL (l : Nat) : Bool := isN l || isK l || l == 100
def widN (l : Nat) : Nat := if l = 116 then 1 else if l = 118 then 1 else if l = 110 then 1 else 2
def offL (l : Nat) : Nat := if l = 115 then 1 else if l = 116 then 2 else if l = 118 then 3 else if l = 98 then 4 else if l = 99 then 5 else if l = 110 then 6 else if l = 114 then 7 else if l = 113 then 8 else if l = 111 then 9 else if l = 102 then 41 else if l = 109 then 73 else if l = 120 then 105 else 137
theorem isL_cases {l : Nat} (h : isL l = true) : l = 115 ∨ l = 116 ∨ l = 118 ∨ l = 98 ∨ l = 99 ∨ l = 110 ∨ l = 114 ∨ l = 113 ∨ l = 111 ∨ l = 102 ∨ l = 109 ∨ l = 120 ∨ l = 100 := by
  unfold isL isN isK at h
  simp only [Bool.or_eq_true, beq_iff_eq] at h
  omega
/-- The world once one more letter is taken. -/
def Stp (St : Nat → World → Prop) (it k : Nat) (W : World) (e : Ending) (w' : World) : Prop := e = .returned (.tuple #[]) ∧ St (k + 1) w' ∧ w'.heap[it]? = W.heap[it]?
end Go.Proofs.Ytdohggpajhkkhaa
