import Derived.Test.YtnbhpmncppohaaaGreatDoorMBits
import Derived.Test.YtnbhpmncppohaaaGreatDoorSpec
import Derived.Test.YtnbhpmncppohaaaGreatDoorPlain
namespace Go.Proofs.YtnbhpmncppohaaaGreatDoor.Mill
open Go.RowKit

/-- a field: its lowest bit, its width, what may be told for it -/
structure Fd where
  lo : Int
  wi : Int
  least : Int
  most : Int

abbrev Fd.v (f : Fd) : Value := .agg #[.int .i64 f.lo, .int .i64 f.wi, .int .i64 f.least, .int .i64 f.most]

/-- by the operand's kind -/
def fieldOf (k : Nat) : Fd :=
  if k = 1 then ⟨21, 5, 0, 31⟩ else if k = 2 then ⟨16, 5, 0, 31⟩ else if k = 0 then ⟨11, 5, 0, 31⟩ else if k = 3 then ⟨6, 5, 0, 31⟩
  else if k = 4 ∨ k = 6 then ⟨0, 16, -32768, 32767⟩ else if k = 5 then ⟨0, 16, 0, 65535⟩ else if k = 8 then ⟨0, 32, -2147483648, 4294967295⟩ else ⟨0, 0, 0, 0⟩

/-- what a line says, as the program keeps it -/
structure Stm where
  label : List UInt8
  has : Bool
  word : Int
  shape : Value
  number : Int
  f : Fd
  goal : List UInt8

def Stm.zero : Stm := { label := [], has := false, word := 0, shape := .nilIface, number := 0, f := ⟨0, 0, 0, 0⟩, goal := [] }
abbrev Stm.cells (s : Stm) : Array Value := #[S s.label, .bool s.has, .int .u32 s.word, s.shape, .int .i64 s.number, .int .i64 s.f.lo, .int .i64 s.f.wi, .int .i64 s.f.least, .int .i64 s.f.most, S s.goal]

/-- a register's number in its place -/
def putR (k : Nat) (n : Int) : Int :=
  if k = 1 then bits .and .u32 (IntKind.u32.wrap (IntKind.u32.wrap n * 2097152)) 65011712
  else if k = 2 then bits .and .u32 (IntKind.u32.wrap (IntKind.u32.wrap n * 65536)) 2031616
  else bits .and .u32 (IntKind.u32.wrap (IntKind.u32.wrap n * 2048)) 63488

/-- one operand -/
def opP (k : Nat) (o : List UInt8) (s : Stm) : Option Stm :=
  if k ≤ 2 then (if regI o < 0 then none else some { s with word := bits .or .u32 s.word (putR k (regI o)) })
  else if k = 7 then (if labelB o then some { s with goal := o } else none)
  else if k = 6 then
    if cutH o 40 && closes (cutA o 40) then
      if regI (trim (cutA o 40).dropLast) < 0 then none
      else if numOk (trim (cutB o 40)) then some { s with word := bits .or .u32 s.word (putR 1 (regI (trim (cutA o 40).dropLast))), number := numVal (trim (cutB o 40)), f := fieldOf 6 }
      else none
    else none
  else if numOk o then some { s with number := numVal o, f := fieldOf k } else none

def opsP : List Nat → List (List UInt8) → Stm → Option Stm
  | k :: ks, o :: os, s => match opP k (trim o) s with
    | some s' => opsP ks os s'
    | none => none
  | _, _, s => some s
def pieces (t : List UInt8) : List (List UInt8) := if t = [] then [] else commas t
def operandsP (ks : List Nat) (t : List UInt8) (s : Stm) : Option Stm := if (pieces t).length = ks.length then opsP ks (pieces t) s else none

/-- the operands' kinds, by the shape -/
def kindsOf (sh : UInt8) : List Nat :=
  if sh = 114 then [0, 1, 2] else if sh = 115 then [0, 2, 3] else if sh = 118 then [0, 2, 1] else if sh = 106 then [1] else if sh = 108 then [0, 1]
  else if sh = 120 then [] else if sh = 105 then [2, 1, 4] else if sh = 117 then [2, 1, 5] else if sh = 104 then [2, 5] else if sh = 109 then [2, 6]
  else if sh = 98 then [1, 2, 7] else if sh = 122 ∨ sh = 121 then [1, 7] else [7]
/-- the word with all operands 0 -/
def bareOf (sh : UInt8) (num : Nat) : Int :=
  if sh = 114 ∨ sh = 115 ∨ sh = 118 ∨ sh = 106 ∨ sh = 108 ∨ sh = 120 then num else if sh = 121 then 67108864 + num * 65536 else num * 67108864

def wordN : List UInt8 := [46, 119, 111, 114, 100]
/-- what stands behind the label, with no blanks at its ends, and is not empty; sv: the shapes' values -/
def wordP (sv : UInt8 → Value) (code : List UInt8) (s : Stm) : Option Stm :=
  if nameOf code = wordN then operandsP [8] (behind code) { s with has := true }
  else match tab.find? (fun y => y.1 == nameOf code) with
    | some y => operandsP (kindsOf y.2.1) (behind code) { s with has := true, word := bareOf y.2.1 y.2.2, shape := sv y.2.1 }
    | none => none
def codeP (sv : UInt8 → Value) (t : List UInt8) (s : Stm) : Option Stm := if trim t = [] then some s else wordP sv (trim t) s
def lineP (sv : UInt8 → Value) (p : List UInt8) : Option Stm :=
  if cutH (cutB p 35) 58 then
    if labelB (trim (cutB (cutB p 35) 58)) then codeP sv (cutA (cutB p 35) 58) { Stm.zero with label := trim (cutB (cutB p 35) 58) } else none
  else codeP sv (cutB p 35) Stm.zero
end Go.Proofs.YtnbhpmncppohaaaGreatDoor.Mill
