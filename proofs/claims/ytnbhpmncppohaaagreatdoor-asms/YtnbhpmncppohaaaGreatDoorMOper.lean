import Derived.Test.YtnbhpmncppohaaaGreatDoorMPut
import Derived.Test.YtnbhpmncppohaaaGreatDoorMSpec
namespace Go.Proofs.YtnbhpmncppohaaaGreatDoor.Mill
open Go.RowKit

set_option maxHeartbeats 1000000 in
theorem field_calls (k : Nat) (hk : k ≤ 8) (w : World) :
    Calls Tryz.prog 78 #[.int .i64 k] w fun e w' => e = .returned (fieldOf k).v ∧ w' = w.alloc (.cells #[.int .i64 (fieldOf k).lo, .int .i64 (fieldOf k).wi, .int .i64 (fieldOf k).least, .int .i64 (fieldOf k).most] 70) := by
  obtain rfl | rfl | rfl | rfl | rfl | rfl | rfl | rfl | rfl : k = 0 ∨ k = 1 ∨ k = 2 ∨ k = 3 ∨ k = 4 ∨ k = 5 ∨ k = 6 ∨ k = 7 ∨ k = 8 := by omega
  all_goals
    go_enter Tryz.func78, Tryz.ntmps78
    go_wp2
    refine bodyPost_ret (v := (fieldOf _).v) ?_ rfl ⟨rfl, rfl⟩
    simp [results, Tryz.results78, go_sem, fieldOf]
end Go.Proofs.YtnbhpmncppohaaaGreatDoor.Mill
