import Derived.Test.YtnbhpmncppohaaaGreatDoorEnc
import Derived.Test.YtnbhpmncppohaaaGreatDoorTab
namespace Go.Proofs.YtnbhpmncppohaaaGreatDoor.Mill
open Go.RowKit

/-- a word of a text, its label not looked at yet -/
structure Ak where
  name : List UInt8
  sh : UInt8
  num : Nat
  s : Int
  t : Int
  d : Int
  n : Int
  raw : Int
  data : Bool
  goal : List UInt8
  line : Int

def Ak.cells (a : Ak) : Array Value := #[S a.name, B a.sh, .int .i64 a.num, .int .i64 a.s, .int .i64 a.t, .int .i64 a.d, .int .i64 a.n, .int .i64 a.raw, .bool a.data, S a.goal, .int .i64 a.line]
/-- none yet -/
def Ak.zero (line : Int) : Ak := { name := [], sh := 0, num := 0, s := 0, t := 0, d := 0, n := 0, raw := 0, data := false, goal := [], line := line }

/-- does what stands behind the bracket end with the other one -/
def closes (l : List UInt8) : Bool := l.getLast? == some 41

/-- one number -/
def numStep (o : List UInt8) (a : Ak) (e : Int) : Ak × Int × Bool :=
  if numOk o then ({ a with n := numVal o }, (if withinB a.sh (numVal o) then e else 4), true) else (a, e, false)
/-- one operand, by its letter: what it makes of a word; is it one -/
def opStep (c : UInt8) (o : List UInt8) (a : Ak) (e : Int) : Ak × Int × Bool :=
  if c == 109 then
    if cutH o 40 && closes (cutA o 40) then
      if regI (trim (cutA o 40).dropLast) < 0 then (a, e, false)
      else numStep (trim (cutB o 40)) { a with s := regI (trim (cutA o 40).dropLast) } e
    else (a, e, false)
  else if c == 110 then numStep o a e
  else if c == 108 then (if labelB o then ({ a with goal := o }, e, true) else (a, e, false))
  else if regI o < 0 then (a, e, false)
  else if c == 100 then ({ a with d := regI o }, e, true)
  else if c == 115 then ({ a with s := regI o }, e, true)
  else ({ a with t := regI o }, e, true)

def fillGo : List UInt8 → List (List UInt8) → Ak → Int → Ak × Int
  | c :: cs, o :: os, a, e => if (opStep c o a e).2.2 then fillGo cs os (opStep c o a e).1 (opStep c o a e).2.1 else ((opStep c o a e).1, 3)
  | _, _, a, e => (a, e)

/-- a word with its operands: the word, and the error -/
def fillS (a : Ak) (os : List (List UInt8)) : Ak × Int := if os.length = (opsOf a.sh).length then fillGo (opsOf a.sh) os a 0 else (a, 3)

theorem opStep_sh (c : UInt8) (o : List UInt8) (a : Ak) (e : Int) : (opStep c o a e).1.sh = a.sh := by
  unfold opStep numStep
  repeat' split
  all_goals rfl

end Go.Proofs.YtnbhpmncppohaaaGreatDoor.Mill
