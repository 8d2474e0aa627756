/-
  DERIVED. GIVEN WITH THE SEED: THE CARDS: each row of YtnbhpmncppohaaaGreatDoorRows.lean that lists a variable, with what it lists TIED to the program's text (the seventh form; the later family's looks); each row that meets fmt, with fmt's text TOLD by the authors' own Lean function (tested against real Go, not proved from fmt's source: count such statements apart). THE CARD IS WHAT COUNTS. Prove the row's statement (the work); the ties are given (YtnbhpmncppohaaaGreatDoorTie.lean); close each card by the builder's one call (the guide's Derived/Test/ToyasCard.lean, 'card_holds'). Laid BY PROGRAM, IN A SANDBOX (cutbox-door.mjs). By AI agents, Wed Nov 11 2026. No macro, syntax, notation, axiom, sorry.
-/
import Derived.Test.YtnbhpmncppohaaaGreatDoorRows
import GoSem.ClaimSeven
namespace Go.Proofs.YtnbhpmncppohaaaGreatDoor
namespace Rows

/-- THE TIED CARD OF 'milllaw.Asms'. -/
def asmsCard : Claim7 := { stood := { row := asmsRow, standIns := [], harness := (true, "a73a2c307feffac26fb49c026e61acef6185fc15df8eadc43ba7f51d93c3abab"), looks := true }, kinds := [], alts := [], laidByText := true, laidKinds := [.data, .data, .data, .data, .sentinel, .sentinel, .pinned], laidTests := true, laidLooks := .later }
def AsmsCardSaid : Prop := Claim7.holds Tryz.pinned (.plain (OpenSpec.ofChange asmsSpec)) asmsCard

/-- THE SECOND FORM's CARD OF 'milllaw.Asms'. -/
def asmsUptoCard : Claim7 := { stood := { row := asmsUptoRow, standIns := [], harness := (true, "a73a2c307feffac26fb49c026e61acef6185fc15df8eadc43ba7f51d93c3abab"), looks := true }, kinds := [], alts := [], laidByText := true, laidKinds := [.data, .data, .data, .data, .sentinel, .sentinel, .pinned], laidTests := true, laidLooks := .later }
def AsmsUptoCardSaid : Prop := Claim7.holds Tryz.pinned (.plain (OpenSpec.upto asmsSpec)) asmsUptoCard
end Rows
end Go.Proofs.YtnbhpmncppohaaaGreatDoor
