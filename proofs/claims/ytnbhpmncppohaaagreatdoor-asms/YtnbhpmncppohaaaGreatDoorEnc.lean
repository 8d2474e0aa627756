import Derived.Test.YtnbhpmncppohaaaGreatDoorReg
import Derived.Laws.BitsLemmas
namespace Go.Proofs.YtnbhpmncppohaaaGreatDoor.Mill
open Go.RowKit

theorem wraps_i64 (n : Int) (h₀ : 0 ≤ n) (h₁ : n < 2 ^ 62) : IntKind.i64.wrap n = n := by rw [IntKind.wrap_i64]; omega
theorem or26 (x y : Int) (hx₀ : 0 ≤ x) (hx : x % 67108864 = 0) (hx₁ : x < 1099511627776) (h₀ : 0 ≤ y) (h₁ : y < 67108864) : bits .or .i64 x y = x + y :=
  bits_join .i64 62 (by decide) wraps_i64 26 x y hx₀ hx (by omega) h₀ h₁ (by omega)
theorem or21 (x y : Int) (hx₀ : 0 ≤ x) (hx : x % 2097152 = 0) (hx₁ : x < 1099511627776) (h₀ : 0 ≤ y) (h₁ : y < 2097152) : bits .or .i64 x y = x + y :=
  bits_join .i64 62 (by decide) wraps_i64 21 x y hx₀ hx (by omega) h₀ h₁ (by omega)
theorem or16 (x y : Int) (hx₀ : 0 ≤ x) (hx : x % 65536 = 0) (hx₁ : x < 1099511627776) (h₀ : 0 ≤ y) (h₁ : y < 65536) : bits .or .i64 x y = x + y :=
  bits_join .i64 62 (by decide) wraps_i64 16 x y hx₀ hx (by omega) h₀ h₁ (by omega)
theorem or11 (x y : Int) (hx₀ : 0 ≤ x) (hx : x % 2048 = 0) (hx₁ : x < 1099511627776) (h₀ : 0 ≤ y) (h₁ : y < 2048) : bits .or .i64 x y = x + y :=
  bits_join .i64 62 (by decide) wraps_i64 11 x y hx₀ hx (by omega) h₀ h₁ (by omega)
theorem or6 (x y : Int) (hx₀ : 0 ≤ x) (hx : x % 64 = 0) (hx₁ : x < 1099511627776) (h₀ : 0 ≤ y) (h₁ : y < 64) : bits .or .i64 x y = x + y :=
  bits_join .i64 62 (by decide) wraps_i64 6 x y hx₀ hx (by omega) h₀ h₁ (by omega)
theorem and65535 (n : Int) : bits .and .i64 n 65535 = n % 65536 := by
  have h127 : (BitVec.ofInt 64 65535).toNat = 2 ^ 16 - 1 := by decide
  have key : (BitVec.ofInt 64 n &&& BitVec.ofInt 64 65535).toNat = (n % ((2 ^ 64 : Nat) : Int)).toNat % 2 ^ 16 := by
    rw [BitVec.toNat_and, BitVec.toNat_ofInt, h127, Nat.and_two_pow_sub_one_eq_mod]
  show IntKind.i64.wrap ((BitVec.ofInt 64 n &&& BitVec.ofInt 64 65535).toNat : Nat) = n % 65536
  rw [key, IntKind.wrap_i64]
  omega

/-- P4: a word's number, as a sum -/
def encI (sh : UInt8) (num : Nat) (s t d n : Int) : Int :=
  if sh == 114 || sh == 118 then s * 2097152 + t * 65536 + d * 2048 + num
  else if sh == 115 then t * 65536 + d * 2048 + n * 64 + num
  else if sh == 106 || sh == 108 then s * 2097152 + d * 2048 + num
  else if sh == 120 then num
  else if sh == 121 then 67108864 + s * 2097152 + num * 65536 + n % 65536
  else if sh == 116 then (num : Int) * 67108864 + n / 4
  else (num : Int) * 67108864 + s * 2097152 + t * 65536 + n % 65536

/-- what may be encoded -/
def encFit (sh : UInt8) (num : Nat) (s t d n : Int) : Prop :=
  num ≤ 63 ∧ (0 ≤ s ∧ s ≤ 31) ∧ (0 ≤ t ∧ t ≤ 31) ∧ (0 ≤ d ∧ d ≤ 31) ∧ -32768 ≤ n ∧ n ≤ 65535 ∧ (sh = 115 → 0 ≤ n ∧ n ≤ 31) ∧ (sh = 116 → 0 ≤ n) ∧ (sh = 121 → num ≤ 1)

set_option maxHeartbeats 1000000 in
set_option maxRecDepth 100000 in
theorem encode_calls (name : List UInt8) (sh : UInt8) (hs : sh ∈ shapes) (num : Nat) (s t d n : Int) (w : World) (hf : encFit sh num s t d n) :
    Calls Tryz.prog 15 #[.agg #[S name, B sh, .int .i64 num, .int .i64 s, .int .i64 t, .int .i64 d, .int .i64 n]] w fun e w' => e = .returned (.int .i64 (encI sh num s t d n)) ∧ Below w.heap.size w w' := by
  obtain ⟨h1, ⟨h2, h2'⟩, ⟨h3, h3'⟩, ⟨h4, h4'⟩, h5, h6, h7, h8, h9⟩ := hf
  simp only [shapes, List.mem_cons, List.mem_nil_iff, or_false] at hs
  rcases hs with rfl | rfl | rfl | rfl | rfl | rfl | rfl | rfl | rfl | rfl | rfl | rfl | rfl | rfl
  all_goals
    try (have g7 := h7 rfl)
    try (have g8 := h8 rfl)
    try (have g9 := h9 rfl)
    clear h7 h8 h9
    go_enter Tryz.func15, Tryz.ntmps15
    go_wp2
    go_ret
    refine ⟨ret_int ?_, (Below.refl _ _).alloc (Nat.le_refl _) _⟩
    try simp only [and65535]
    try simp (disch := omega) only [or26, or21, or16, or11, or6]
    simp [encI]
    try omega
end Go.Proofs.YtnbhpmncppohaaaGreatDoor.Mill
