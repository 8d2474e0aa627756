import Derived.Test.YtnbhpmncppohaaaGreatDoorLeaf
import Derived.Deep.LoopGhost
import Derived.Below
namespace Go.Proofs.YtnbhpmncppohaaaGreatDoor.Mill
open Go.RowKit

/-- milllaw.num: the number itself -/
theorem num_calls (n : Int) (w : World) : Calls Tryz.prog 6 #[.int .i64 n] w fun e w' => e = .returned (.int .i64 n) ∧ w' = w := by
  go_enter Tryz.func6, Tryz.ntmps6
  go_wp2
  all_goals go_ret
  all_goals exact ⟨rfl, rfl⟩

/-- what the walk is told of a script: it is empty, or it leads to a row of steps, three cells each -/
def IsScript (w : World) (a : Option Addr) (len : Nat) : Prop :=
  len = 0 ∨ ∃ b off, a = some ⟨b, off, none⟩ ∧ b < w.heap.size ∧ len ≤ 9223372036854775807 ∧
    ∀ i, i < len → ∃ (k : Int) (s : List UInt8), w.cell? ⟨b, off + i * 3, none⟩ = some (.int .i64 k) ∧ w.cell? ⟨b, off + i * 3 + 2, none⟩ = some (S s) ∧ s.length ≤ 9223372036854775807

set_option maxHeartbeats 2000000 in
set_option maxRecDepth 100000 in
/-- the law's loop, given what the two calls answer -/
theorem law_calls (V : List UInt8 → List UInt8 × Int × Int) (P : World → Prop) (keep : ∀ w w' : World, P w → Below w.heap.size w w' → P w')
    (AP : ∀ t w, P w → Calls Tryz.prog 4 #[S t] w fun e w' => e = .returned (.tuple #[S (V t).1, .int .i64 (V t).2.1, .int .i64 (V t).2.2]) ∧ Below w.heap.size w w')
    (AR : ∀ t w, t.length ≤ 9223372036854775807 → Calls Tryz.prog 5 #[S t] w fun e w' => e = .returned (.tuple #[S (V t).1, .int .i64 (V t).2.1, .int .i64 (V t).2.2]) ∧ Below w.heap.size w w')
    (b off len cap : Nat) (w : World) (hP : P w) (hb : b < w.heap.size) (hl : len ≤ 9223372036854775807)
    (hc : ∀ i, i < len → ∃ (k : Int) (s : List UInt8), w.cell? ⟨b, off + i * 3, none⟩ = some (.int .i64 k) ∧ w.cell? ⟨b, off + i * 3 + 2, none⟩ = some (S s) ∧ s.length ≤ 9223372036854775807) :
    Calls Tryz.prog 3 #[.slice (some ⟨b, off, none⟩) len cap] w fun e w' => e = .returned (.bool true) ∧ Below w.heap.size w w' := by
  have HP := hide hP
  have HC := hide hc
  clear hP hc
  go_enter Tryz.func3, Tryz.ntmps3
  go_wp2_with fail
  go_loopg [3] len (fun g iv wx => ∃ k : Nat, k ≤ len ∧ g = len - k ∧ iv = .int .i64 k ∧ Below w.heap.size w wx ∧ Hid (P wx))
  case atStart => exact ⟨0, by omega, rfl, rfl, Below.refl _ _, unhide HP⟩
  case round =>
    obtain ⟨W0, rfl⟩ : ∃ W0, W0 = wr := ⟨_, rfl⟩
    obtain ⟨k, hk, rfl, rfl, hbw, hPW⟩ := hrel
    by_cases hlt : k < len
    · obtain ⟨kd, s, c0, c2, hs⟩ := unhide HC k hlt
      have d0 : W0.cell? ⟨b, off + k * 3, none⟩ = some (.int .i64 kd) := (hbw.cell (p := ⟨b, off + k * 3, none⟩) hb).trans c0
      have d2 : W0.cell? ⟨b, off + k * 3 + 2, none⟩ = some (S s) := (hbw.cell (p := ⟨b, off + k * 3 + 2, none⟩) hb).trans c2
      clear c0 c2
      have hbW : b < W0.heap.size := Nat.lt_of_lt_of_le hb hbw.size
      by_cases hm : (k : Int) < 1152921504606846976
      · by_cases h1 : kd = 1
        · subst h1
          go_wp2_with (first | (go_at_call 4; refine (AP s _ (unhide hPW)).mono ?_; rintro e w1 ⟨rfl, hb1⟩; have d2' : w1.cell? ⟨b, off + k * 3 + 2, none⟩ = some (S s) := (hb1.cell (p := ⟨b, off + k * 3 + 2, none⟩) hbW).trans d2) | (go_at_call 5; refine (AR s _ hs).mono ?_; rintro e w2 ⟨rfl, hb2⟩) | (go_at_call 6; refine (num_calls _ _).mono ?_; rintro e w3 ⟨rfl, rfl⟩))
          go_roundg (len - (k + 1))
          case measure => omega
          case rel =>
            have hs1 := hb1.size
            have hs2 := hb2.size
            exact ⟨k + 1, by omega, rfl, by go_num, (hbw.trans (hb1.mono hbw.size)).trans (hb2.mono (Nat.le_trans hbw.size hs1)), keep _ _ (keep _ _ (unhide hPW) hb1) hb2⟩
        · have hne : (kd == (1 : Int)) = false := by rw [beq_eq_false_iff_ne]; exact h1
          clear h1
          go_wp2_with fail
          go_roundg (len - (k + 1))
          case measure => omega
          case rel => exact ⟨k + 1, by omega, rfl, by go_num, hbw, hPW⟩
      · go_wp2_with fail
        go_ret
        exact ⟨rfl, hbw⟩
    · go_wp2_with fail
      go_ret
      exact ⟨rfl, hbw⟩

/-- an empty script -/
theorem law_empty (a : Option Addr) (cap : Nat) (w : World) : Calls Tryz.prog 3 #[.slice a 0 cap] w fun e w' => e = .returned (.bool true) ∧ Below w.heap.size w w' := by
  go_enter Tryz.func3, Tryz.ntmps3
  go_wp2_with fail
  go_loopg [3] 0 (fun g iv wx => g = 0 ∧ iv = .int .i64 0 ∧ wx = w)
  case atStart => exact ⟨rfl, rfl, rfl⟩
  case round =>
    obtain ⟨rfl, rfl, rfl⟩ := hrel
    go_wp2_with fail
    go_ret
    exact ⟨rfl, Below.refl _ _⟩

/-- THE LAW, AT EVERY SCRIPT, given what the two calls answer -/
theorem law_all (V : List UInt8 → List UInt8 × Int × Int) (P : World → Prop) (keep : ∀ w w' : World, P w → Below w.heap.size w w' → P w')
    (AP : ∀ t w, P w → Calls Tryz.prog 4 #[S t] w fun e w' => e = .returned (.tuple #[S (V t).1, .int .i64 (V t).2.1, .int .i64 (V t).2.2]) ∧ Below w.heap.size w w')
    (AR : ∀ t w, t.length ≤ 9223372036854775807 → Calls Tryz.prog 5 #[S t] w fun e w' => e = .returned (.tuple #[S (V t).1, .int .i64 (V t).2.1, .int .i64 (V t).2.2]) ∧ Below w.heap.size w w')
    (a : Option Addr) (len cap : Nat) (w : World) (hP : P w) (h : IsScript w a len) :
    Calls Tryz.prog 3 #[.slice a len cap] w fun e w' => e = .returned (.bool true) ∧ Below w.heap.size w w' := by
  rcases h with rfl | ⟨b, off, rfl, hb, hl, hc⟩
  · exact law_empty a cap w
  · exact law_calls V P keep AP AR b off len cap w hP hb hl hc
end Go.Proofs.YtnbhpmncppohaaaGreatDoor.Mill
