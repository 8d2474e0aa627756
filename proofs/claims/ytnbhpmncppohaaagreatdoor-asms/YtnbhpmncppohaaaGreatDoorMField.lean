import Derived.Test.YtnbhpmncppohaaaGreatDoorMNum
import Derived.Test.YtnbhpmncppohaaaGreatDoorEnc
import Derived.Deep.RegionWith
namespace Go.Proofs.YtnbhpmncppohaaaGreatDoor.Mill
open Go.RowKit

/-- the fields that there are: lowest bit, width, all its bits -/
def fieldIs (lo wi bits : Nat) : Prop :=
  (lo = 21 ∧ wi = 5 ∧ bits = 65011712) ∨ (lo = 16 ∧ wi = 5 ∧ bits = 2031616) ∨ (lo = 11 ∧ wi = 5 ∧ bits = 63488) ∨ (lo = 6 ∧ wi = 5 ∧ bits = 1984) ∨ (lo = 0 ∧ wi = 16 ∧ bits = 65535) ∨ (lo = 0 ∧ wi = 32 ∧ bits = 4294967295) ∨ (lo = 0 ∧ wi = 0 ∧ bits = 0)

set_option maxHeartbeats 400000 in
theorem bits_calls (lo wi bits : Nat) (le mo : Int) (hk : fieldIs lo wi bits) (w : World) :
    Calls Tryz.prog 57 #[.agg #[.int .i64 lo, .int .i64 wi, .int .i64 le, .int .i64 mo]] w fun e w' => e = .returned (.int .u32 bits) ∧ ∃ n, w' = (w.alloc (.cells #[.int .i64 lo, .int .i64 wi, .int .i64 le, .int .i64 mo] 70)).drewN n := by
  rcases hk with ⟨rfl, rfl, rfl⟩ | ⟨rfl, rfl, rfl⟩ | ⟨rfl, rfl, rfl⟩ | ⟨rfl, rfl, rfl⟩ | ⟨rfl, rfl, rfl⟩ | ⟨rfl, rfl, rfl⟩ | ⟨rfl, rfl, rfl⟩
  all_goals
    go_enter Tryz.func57, Tryz.ntmps57
    go_wp2
    go_region
    go_wp2
    go_ret
    exact ⟨rfl, 1, rfl⟩

set_option maxHeartbeats 400000 in
theorem takes_calls (lo wi le mo n : Int) (w : World) :
    Calls Tryz.prog 30 #[.agg #[.int .i64 lo, .int .i64 wi, .int .i64 le, .int .i64 mo], .int .i64 n] w fun e w' => e = .returned (.bool (decide (le ≤ n ∧ n ≤ mo))) ∧ w' = w.alloc (.cells #[.int .i64 lo, .int .i64 wi, .int .i64 le, .int .i64 mo] 70) := by
  by_cases h1 : le ≤ n
  all_goals by_cases h2 : n ≤ mo
  all_goals
    go_enter Tryz.func30, Tryz.ntmps30
    go_wp2
    go_ret
    exact ⟨ret_bool (by simp; omega), rfl⟩
end Go.Proofs.YtnbhpmncppohaaaGreatDoor.Mill
