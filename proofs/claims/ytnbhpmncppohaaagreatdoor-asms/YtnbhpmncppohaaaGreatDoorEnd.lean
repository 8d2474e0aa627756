import Derived.Test.YtnbhpmncppohaaaGreatDoorCards
import Derived.Test.YtnbhpmncppohaaaGreatDoorTie
import Derived.Test.YtnbhpmncppohaaaGreatDoorRow
import Derived.Test.YtnbhpmncppohaaaGreatDoorStart
import Derived.Test.YtnbhpmncppohaaaGreatDoorAsm
import Derived.Test.YtnbhpmncppohaaaGreatDoorMWord3
import Derived.OpenShut
namespace Go.Proofs.YtnbhpmncppohaaaGreatDoor
open Go.ChangeShapes Go.WideShapes Go.ChangeAt Go.RowKit Mill

/-- the row's statement -/
theorem asms_said : Rows.AsmsSaid :=
  OpenClaim.holds_of_cond 3 Tryz.f3 rfl rfl rfl rfl rfl rfl rfl ⟨rfl, rfl, rfl, rfl, rfl⟩ rfl rfl rfl rfl rfl (by kernel_rfl) Tryz.func3 (by kernel_rfl)
    (of_decide_eq_true (by kernel_rfl)) (by unfold Func.isWrapper; first | (rw [if_pos (by decide +kernel)]; kernel_rfl) | (rw [if_neg (by decide +kernel)]; exact ⟨rfl, rfl⟩))
    (fun os started H enc _ F => by rw [OpenClaim.pre_eq_preRow]; exact lifted_of asmS Base (fun _ _ h hb => h.next hb) asm_program asm_calls base_of os started H enc F)

/-- no parameter wants a stand-in; the program bears the words of the looks -/
theorem asms_plain (f : FuncId) (fn : Func) (hf : Tryz.pinned.checked.prog.funcNamed "mill/milllaw.Asms" = some f) (hfn : Tryz.pinned.checked.prog.funcs[f]? = some fn) :
    true = Tryz.pinned.checked.prog.looks [] ∧ ∀ (j : Nat) t, fn.params[j]? = some t → Tryz.pinned.checked.prog.wantsStandIn t = false := by
  obtain rfl : f = 3 := Option.some.inj ((show Tryz.prog.funcNamed "mill/milllaw.Asms" = some 3 by kernel_rfl).symm.trans hf) |>.symm
  obtain rfl : fn = Tryz.f3 := (Option.some.inj (Tryz.func3.symm.trans hfn)).symm
  refine ⟨by kernel_rfl, fun j t ht => ?_⟩
  rw [Tryz.params3] at ht
  obtain rfl : t = 22 := by simpa using Array.mem_of_getElem? ht
  exact (show Tryz.prog.wantsStandIn 22 = false by kernel_rfl)

/-- THE CARD -/
theorem asms_card : Rows.AsmsCardSaid :=
  Claim7.holds_tied_plain_at .later [] _ _ _ _ asms_said (fun _ h => by cases h) (by kernel_rfl) (fun _ h => by cases h) asms_row_tie rfl ⟨rfl, rfl⟩ (by kernel_rfl) rfl asms_plain (by kernel_rfl)
end Go.Proofs.YtnbhpmncppohaaaGreatDoor
