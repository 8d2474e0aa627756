import Derived.Test.YtnbhpmncppohaaaGreatDoorMField
import Derived.WalkSmall
namespace Go.Proofs.YtnbhpmncppohaaaGreatDoor.Mill
open Go.RowKit

set_option maxHeartbeats 400000 in
theorem put21 (le mo n : Int) (w : World) :
    Calls Tryz.prog 45 #[.agg #[.int .i64 21, .int .i64 5, .int .i64 le, .int .i64 mo], .int .i64 n] w fun e w' => e = .returned (.int .u32 (bits .and .u32 (IntKind.u32.wrap (IntKind.u32.wrap n * 2097152)) 65011712)) ∧ Below w.heap.size w w' := by
  have HB := hide (bits_calls 21 5 65011712 le mo (.inl ⟨rfl, rfl, rfl⟩))
  go_enter Tryz.func45, Tryz.ntmps45
  go_wp2_with fail
  go_region_with (go_at_call 57; refine (unhide HB _).mono ?_; rintro e w' ⟨rfl, m, rfl⟩)
  all_goals go_wp2_with fail
  all_goals go_ret
  all_goals exact ⟨rfl, below_drewN (((Below.refl _ _).alloc (Nat.le_refl _) _).alloc (by simp) _) _⟩

set_option maxHeartbeats 400000 in
theorem put16 (le mo n : Int) (w : World) :
    Calls Tryz.prog 45 #[.agg #[.int .i64 16, .int .i64 5, .int .i64 le, .int .i64 mo], .int .i64 n] w fun e w' => e = .returned (.int .u32 (bits .and .u32 (IntKind.u32.wrap (IntKind.u32.wrap n * 65536)) 2031616)) ∧ Below w.heap.size w w' := by
  have HB := hide (bits_calls 16 5 2031616 le mo (.inr (.inl ⟨rfl, rfl, rfl⟩)))
  go_enter Tryz.func45, Tryz.ntmps45
  go_wp2_with fail
  go_region_with (go_at_call 57; refine (unhide HB _).mono ?_; rintro e w' ⟨rfl, m, rfl⟩)
  all_goals go_wp2_with fail
  all_goals go_ret
  all_goals exact ⟨rfl, below_drewN (((Below.refl _ _).alloc (Nat.le_refl _) _).alloc (by simp) _) _⟩

set_option maxHeartbeats 400000 in
theorem put11 (le mo n : Int) (w : World) :
    Calls Tryz.prog 45 #[.agg #[.int .i64 11, .int .i64 5, .int .i64 le, .int .i64 mo], .int .i64 n] w fun e w' => e = .returned (.int .u32 (bits .and .u32 (IntKind.u32.wrap (IntKind.u32.wrap n * 2048)) 63488)) ∧ Below w.heap.size w w' := by
  have HB := hide (bits_calls 11 5 63488 le mo (.inr (.inr (.inl ⟨rfl, rfl, rfl⟩))))
  go_enter Tryz.func45, Tryz.ntmps45
  go_wp2_with fail
  go_region_with (go_at_call 57; refine (unhide HB _).mono ?_; rintro e w' ⟨rfl, m, rfl⟩)
  all_goals go_wp2_with fail
  all_goals go_ret
  all_goals exact ⟨rfl, below_drewN (((Below.refl _ _).alloc (Nat.le_refl _) _).alloc (by simp) _) _⟩

set_option maxHeartbeats 400000 in
theorem put6 (le mo n : Int) (w : World) :
    Calls Tryz.prog 45 #[.agg #[.int .i64 6, .int .i64 5, .int .i64 le, .int .i64 mo], .int .i64 n] w fun e w' => e = .returned (.int .u32 (bits .and .u32 (IntKind.u32.wrap (IntKind.u32.wrap n * 64)) 1984)) ∧ Below w.heap.size w w' := by
  have HB := hide (bits_calls 6 5 1984 le mo (.inr (.inr (.inr (.inl ⟨rfl, rfl, rfl⟩)))))
  go_enter Tryz.func45, Tryz.ntmps45
  go_wp2_with fail
  go_region_with (go_at_call 57; refine (unhide HB _).mono ?_; rintro e w' ⟨rfl, m, rfl⟩)
  all_goals go_wp2_with fail
  all_goals go_ret
  all_goals exact ⟨rfl, below_drewN (((Below.refl _ _).alloc (Nat.le_refl _) _).alloc (by simp) _) _⟩

set_option maxHeartbeats 400000 in
theorem put0 (le mo n : Int) (w : World) :
    Calls Tryz.prog 45 #[.agg #[.int .i64 0, .int .i64 16, .int .i64 le, .int .i64 mo], .int .i64 n] w fun e w' => e = .returned (.int .u32 (bits .and .u32 (IntKind.u32.wrap (IntKind.u32.wrap n)) 65535)) ∧ Below w.heap.size w w' := by
  have HB := hide (bits_calls 0 16 65535 le mo (.inr (.inr (.inr (.inr (.inl ⟨rfl, rfl, rfl⟩))))))
  go_enter Tryz.func45, Tryz.ntmps45
  go_wp2_with fail
  go_region_with (go_at_call 57; refine (unhide HB _).mono ?_; rintro e w' ⟨rfl, m, rfl⟩)
  all_goals go_wp2_with fail
  all_goals go_ret
  all_goals exact ⟨rfl, below_drewN (((Below.refl _ _).alloc (Nat.le_refl _) _).alloc (by simp) _) _⟩

set_option maxHeartbeats 400000 in
theorem put32 (le mo n : Int) (w : World) :
    Calls Tryz.prog 45 #[.agg #[.int .i64 0, .int .i64 32, .int .i64 le, .int .i64 mo], .int .i64 n] w fun e w' => e = .returned (.int .u32 (bits .and .u32 (IntKind.u32.wrap (IntKind.u32.wrap n)) 4294967295)) ∧ Below w.heap.size w w' := by
  have HB := hide (bits_calls 0 32 4294967295 le mo (.inr (.inr (.inr (.inr (.inr (.inl ⟨rfl, rfl, rfl⟩)))))))
  go_enter Tryz.func45, Tryz.ntmps45
  go_wp2_with fail
  go_region_with (go_at_call 57; refine (unhide HB _).mono ?_; rintro e w' ⟨rfl, m, rfl⟩)
  all_goals go_wp2_with fail
  all_goals go_ret
  all_goals exact ⟨rfl, below_drewN (((Below.refl _ _).alloc (Nat.le_refl _) _).alloc (by simp) _) _⟩
end Go.Proofs.YtnbhpmncppohaaaGreatDoor.Mill
