import Derived.Test.YtnbhpmncppohaaaGreatDoorMSet
import Derived.Recover
namespace Go.Proofs.YtnbhpmncppohaaaGreatDoor.Mill
open Go.RowKit

set_option maxHeartbeats 1000000 in
set_option maxRecDepth 100000 in
theorem reasonOf_calls (n : Int) (w : World) :
    Calls Tryz.prog 9 #[.iface 25 (.int .i64 n)] w fun e w' => e = .returned (.int .i64 n) ∧ w' = w := by
  have hta : ∀ w, (Instr.typeAssert (.iface 25 (.int .i64 n)) 20 25 true).run Tryz.prog w = .ok (.tuple #[.int .i64 n, .bool true]) w := fun _ => by kernel_rfl
  go_enter Tryz.func9, Tryz.ntmps9
  go_wp2_with fail
  go_ret
  exact ⟨rfl, rfl⟩

set_option maxHeartbeats 2000000 in
set_option maxRecDepth 100000 in
theorem catch_panicking (ka k0 k1 k2 ga : Nat) (n line : Int) (older : List PanicEntry) (v0 v1 v2 : Value) (w : World) (h01 : k0 ≠ k1) (h02 : k0 ≠ k2) (h12 : k1 ≠ k2) (hka0 : ka ≠ k0) (hka1 : ka ≠ k1) (hka2 : ka ≠ k2) (hga0 : ga ≠ k0) (hga1 : ga ≠ k1) (hga2 : ga ≠ k2)
    (ha : w.cell? ⟨ka, 0, none⟩ = some (.pointer (some ⟨ga, 0, none⟩))) (hl : w.cell? ⟨ga, 4, none⟩ = some (.int .i64 line))
    (h0 : w.cell? ⟨k0, 0, none⟩ = some v0) (h1 : w.cell? ⟨k1, 0, none⟩ = some v1) (h2 : w.cell? ⟨k2, 0, none⟩ = some v2) (f0 : w.frozen? ⟨k0, 0, none⟩ = false) (f1 : w.frozen? ⟨k1, 0, none⟩ = false) (f2 : w.frozen? ⟨k2, 0, none⟩ = false) :
    CallsD Tryz.prog 8 #[.pointer (some ⟨ka, 0, none⟩), .pointer (some ⟨k0, 0, none⟩), .pointer (some ⟨k1, 0, none⟩), .pointer (some ⟨k2, 0, none⟩)] (.panicking ({ v := .iface 25 (.int .i64 n), recovered := false } :: older)) w fun e u' w' =>
      e = .returned (.tuple #[]) ∧ u' = .panicking ({ v := .iface 25 (.int .i64 n), recovered := true } :: older) ∧ w' = ((w.drew.setCell ⟨k0, 0, none⟩ (S [])).setCell ⟨k1, 0, none⟩ (.int .i64 n)).setCell ⟨k2, 0, none⟩ (.int .i64 line) := by
  refine callsD_of_wpS Tryz.func8 rfl fun c₀ cs hu => ?_
  apply wpS_seq
  apply wpS_region
  simp [wpOpsS, go_sem, recoverD, hu, Tryz.ntmps8, Exit.thenS]
  refine wpS_of_wp ?_
  simp only [Array.replicate_succ, Array.replicate_zero, List.push_toArray, List.append_toArray, List.nil_append, List.cons_append, List.setIfInBounds_toArray, List.set_cons_zero, List.set_cons_succ]
  go_wp2_with fail
  go_region_with (go_at_call 9; refine (reasonOf_calls n _).mono ?_; rintro e w1 ⟨rfl, rfl⟩)
  all_goals go_wp2_with fail
  all_goals simp [bodyPostS, results, Tryz.results8]

theorem catch_idle (ka k0 k1 k2 : Nat) (w : World) :
    CallsD Tryz.prog 8 #[.pointer (some ⟨ka, 0, none⟩), .pointer (some ⟨k0, 0, none⟩), .pointer (some ⟨k1, 0, none⟩), .pointer (some ⟨k2, 0, none⟩)] .returning w fun e u' w' => e = .returned (.tuple #[]) ∧ u' = .returning ∧ w' = w := by
  refine callsD_of_wpS Tryz.func8 rfl fun c₀ cs hu => ?_
  apply wpS_seq
  apply wpS_region
  simp [wpOpsS, go_sem, recoverD, hu, Tryz.ntmps8, Exit.thenS]
  refine wpS_of_wp ?_
  simp only [Array.replicate_succ, Array.replicate_zero, List.push_toArray, List.append_toArray, List.nil_append, List.cons_append, List.setIfInBounds_toArray, List.set_cons_zero, List.set_cons_succ]
  go_wp2_with fail
  cases c₀
  simp_all [bodyPostS, results, Tryz.results8]
end Go.Proofs.YtnbhpmncppohaaaGreatDoor.Mill
