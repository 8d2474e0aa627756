import Derived.Test.YtnbhpmncppohaaaGreatDoorEnc
namespace Go.Proofs.YtnbhpmncppohaaaGreatDoor.Mill
open Go.RowKit

/- MBITS: 32 bits: fields that are empty take numbers as sums. -/
theorem wraps_u32 (n : Int) (h₀ : 0 ≤ n) (h₁ : n < 2 ^ 32) : IntKind.u32.wrap n = n := by rw [IntKind.wrap_u32]; omega
theorem nat_or_field (x r k m : Nat) (hx : (x / 2 ^ k) % 2 ^ m = 0) (hr : r < 2 ^ m) : x ||| (2 ^ k * r) = x + 2 ^ k * r := by
  have hlo : x % 2 ^ k < 2 ^ k := Nat.mod_lt _ (Nat.two_pow_pos k)
  have hq : 2 ^ m * (x / 2 ^ k / 2 ^ m) = x / 2 ^ k := by have := Nat.div_add_mod (x / 2 ^ k) (2 ^ m); omega
  have hx1 : 2 ^ k * (x / 2 ^ k) + x % 2 ^ k = x := Nat.div_add_mod x (2 ^ k)
  have h1 : x = 2 ^ k * (x / 2 ^ k) ||| x % 2 ^ k := by rw [← Nat.two_pow_add_eq_or_of_lt hlo, hx1]
  have h2 : x / 2 ^ k ||| r = x / 2 ^ k + r := by
    have := Nat.two_pow_add_eq_or_of_lt hr (x / 2 ^ k / 2 ^ m)
    rw [hq] at this
    exact this.symm
  have h3 : 2 ^ k * (x / 2 ^ k) ||| 2 ^ k * r = 2 ^ k * (x / 2 ^ k + r) := by
    rw [← h2]
    have := @Nat.shiftLeft_or_distrib k (x / 2 ^ k) r
    simp only [Nat.shiftLeft_eq] at this
    rw [Nat.mul_comm (2 ^ k) (x / 2 ^ k), Nat.mul_comm (2 ^ k) r, Nat.mul_comm (2 ^ k) (x / 2 ^ k ||| r)]
    exact this.symm
  have h4 : x ||| 2 ^ k * r = (2 ^ k * (x / 2 ^ k) ||| 2 ^ k * r) ||| x % 2 ^ k := by
    conv => lhs; rw [h1]
    rw [Nat.or_assoc, Nat.or_comm (x % 2 ^ k), ← Nat.or_assoc]
  rw [h4, h3, ← Nat.two_pow_add_eq_or_of_lt hlo, Nat.mul_add]
  omega
/-- a number into a field that is empty -/
theorem or_field (x r : Int) (k m : Nat) (hx0 : 0 ≤ x) (hx1 : x < 4294967296) (hx : (x / 2 ^ k) % 2 ^ m = 0) (hr0 : 0 ≤ r) (hr : r < 2 ^ m) (hs : 2 ^ k * r < 4294967296) : bits .or .u32 x (2 ^ k * r) = x + 2 ^ k * r := by
  obtain ⟨a, rfl⟩ := Int.eq_ofNat_of_zero_le hx0
  obtain ⟨b, rfl⟩ := Int.eq_ofNat_of_zero_le hr0
  have hb : b < 2 ^ m := by exact_mod_cast hr
  have hd : (a / 2 ^ k) % 2 ^ m = 0 := by exact_mod_cast hx
  have hc : ((2 : Int) ^ k * (b : Int)) = ((2 ^ k * b : Nat) : Int) := by rw [Int.natCast_mul, Int.natCast_pow]; rfl
  have hab : 2 ^ k * b < 4294967296 := by rw [hc] at hs; omega
  have ha : a < 2 ^ 32 := by omega
  rw [hc, (bits_nat .u32 32 (by decide) wraps_u32 a _ ha (by omega)).2, nat_or_field a b k m hd hb]
  exact Int.natCast_add _ _
theorem or_21 (x r : Int) (hx0 : 0 ≤ x) (hx1 : x < 4294967296) (hx : (x / 2097152) % 32 = 0) (hr0 : 0 ≤ r) (hr : r ≤ 31) : bits .or .u32 x (r * 2097152) = x + r * 2097152 := by
  have := or_field x r 21 5 hx0 hx1 hx hr0 (by omega) (by omega)
  rw [Int.mul_comm r]; exact this
theorem or_16 (x r : Int) (hx0 : 0 ≤ x) (hx1 : x < 4294967296) (hx : (x / 65536) % 32 = 0) (hr0 : 0 ≤ r) (hr : r ≤ 31) : bits .or .u32 x (r * 65536) = x + r * 65536 := by
  have := or_field x r 16 5 hx0 hx1 hx hr0 (by omega) (by omega)
  rw [Int.mul_comm r]; exact this
theorem or_11 (x r : Int) (hx0 : 0 ≤ x) (hx1 : x < 4294967296) (hx : (x / 2048) % 32 = 0) (hr0 : 0 ≤ r) (hr : r ≤ 31) : bits .or .u32 x (r * 2048) = x + r * 2048 := by
  have := or_field x r 11 5 hx0 hx1 hx hr0 (by omega) (by omega)
  rw [Int.mul_comm r]; exact this
theorem or_6 (x r : Int) (hx0 : 0 ≤ x) (hx1 : x < 4294967296) (hx : (x / 64) % 32 = 0) (hr0 : 0 ≤ r) (hr : r ≤ 31) : bits .or .u32 x (r * 64) = x + r * 64 := by
  have := or_field x r 6 5 hx0 hx1 hx hr0 (by omega) (by omega)
  rw [Int.mul_comm r]; exact this
theorem or_low16 (x r : Int) (hx0 : 0 ≤ x) (hx1 : x < 4294967296) (hx : x % 65536 = 0) (hr0 : 0 ≤ r) (hr : r < 65536) : bits .or .u32 x r = x + r := by
  have := or_field x r 0 16 hx0 hx1 (by rw [Int.pow_zero, Int.ediv_one]; exact hx) hr0 (by omega) (by omega)
  simpa using this
theorem or_low26 (x r : Int) (hx0 : 0 ≤ x) (hx1 : x < 4294967296) (hx : x % 67108864 = 0) (hr0 : 0 ≤ r) (hr : r < 67108864) : bits .or .u32 x r = x + r := by
  have := or_field x r 0 26 hx0 hx1 (by rw [Int.pow_zero, Int.ediv_one]; exact hx) hr0 (by omega) (by omega)
  simpa using this
theorem or_low32 (r : Int) (hr0 : 0 ≤ r) (hr : r < 4294967296) : bits .or .u32 0 r = r := by
  have := or_field 0 r 0 32 (by omega) (by omega) (by simp) hr0 (by omega) (by omega)
  simpa using this
theorem or_zero (x : Int) (hx0 : 0 ≤ x) (hx1 : x < 4294967296) : bits .or .u32 x 0 = x := by
  have := or_field x 0 0 0 hx0 hx1 (by simp [Int.emod_one]) (by omega) (by omega) (by omega)
  simpa using this
theorem and_low (m : Nat) (hm : m ≤ 32) (n : Int) (h0 : 0 ≤ n) (h1 : n < 4294967296) : bits .and .u32 n (2 ^ m - 1) = n % 2 ^ m :=
  bits_mask .u32 32 (by decide) wraps_u32 m hm n h0 (by omega)
theorem and_65535 (n : Int) : bits .and .u32 (IntKind.u32.wrap (IntKind.u32.wrap n)) 65535 = n % 65536 := by
  rw [IntKind.wrap_u32, IntKind.wrap_u32]
  have := and_low 16 (by omega) (n % 4294967296 % 4294967296) (by omega) (by omega)
  have e : ((2 : Int) ^ 16 - 1) = 65535 := by decide
  rw [e] at this
  rw [this]; omega
theorem and_all (n : Int) : bits .and .u32 (IntKind.u32.wrap (IntKind.u32.wrap n)) 4294967295 = n % 4294967296 := by
  rw [IntKind.wrap_u32, IntKind.wrap_u32]
  have := and_low 32 (by omega) (n % 4294967296 % 4294967296) (by omega) (by omega)
  have e : ((2 : Int) ^ 32 - 1) = 4294967295 := by decide
  rw [e] at this
  rw [this]; omega
theorem nat_and_field (r k : Nat) (hr : r < 32) : 2 ^ k * r &&& 2 ^ k * 31 = 2 ^ k * r := by
  have := @Nat.shiftLeft_and_distrib k r 31
  simp only [Nat.shiftLeft_eq] at this
  rw [Nat.mul_comm (2 ^ k) r, Nat.mul_comm (2 ^ k) 31, ← this]
  have e : r &&& 31 = r := by
    have := Nat.and_two_pow_sub_one_eq_mod r 5
    simp at this
    omega
  rw [e]
theorem and_field (k : Nat) (hk : 2 ^ k * 31 < 4294967296) (r : Int) (h0 : 0 ≤ r) (h1 : r ≤ 31) : bits .and .u32 (2 ^ k * r) (2 ^ k * 31) = 2 ^ k * r := by
  obtain ⟨b, rfl⟩ := Int.eq_ofNat_of_zero_le h0
  have hb : b < 32 := by omega
  have hle : 2 ^ k * b ≤ 2 ^ k * 31 := Nat.mul_le_mul_left _ (by omega)
  have hc : ((2 : Int) ^ k * (b : Int)) = ((2 ^ k * b : Nat) : Int) := by simp
  have hc2 : ((2 : Int) ^ k * 31) = ((2 ^ k * 31 : Nat) : Int) := by simp
  rw [hc, hc2, (bits_nat .u32 32 (by decide) wraps_u32 _ _ (by omega) (by omega)).1, nat_and_field b k hb]
theorem and_put (k p m : Nat) (hp : p = 2 ^ k) (hm : m = 2 ^ k * 31) (hk : m < 4294967296) (r : Int) (h0 : 0 ≤ r) (h1 : r ≤ 31) : bits .and .u32 (IntKind.u32.wrap (IntKind.u32.wrap r * p)) m = r * p := by
  have hpos : 0 < 2 ^ k := Nat.two_pow_pos k
  have hrp : r * (p : Int) ≤ 31 * (p : Int) := Int.mul_le_mul_of_nonneg_right h1 (by omega)
  have hr0 : 0 ≤ r * (p : Int) := Int.mul_nonneg h0 (by omega)
  have hm' : (m : Int) = 31 * (p : Int) := by subst hp hm; simp [Int.mul_comm]
  rw [wraps_u32 r h0 (by omega), wraps_u32 (r * p) hr0 (by omega)]
  have := and_field k (by omega) r h0 h1
  have e1 : ((p : Nat) : Int) = 2 ^ k := by subst hp; simp
  have e2 : ((m : Nat) : Int) = 2 ^ k * 31 := by subst hm; simp
  rw [e1, e2, Int.mul_comm r]
  exact this
theorem putR_eq21 (r : Int) (h0 : 0 ≤ r) (h1 : r ≤ 31) : bits .and .u32 (IntKind.u32.wrap (IntKind.u32.wrap r * 2097152)) 65011712 = r * 2097152 := and_put 21 2097152 65011712 (by decide) (by decide) (by decide) r h0 h1
theorem putR_eq16 (r : Int) (h0 : 0 ≤ r) (h1 : r ≤ 31) : bits .and .u32 (IntKind.u32.wrap (IntKind.u32.wrap r * 65536)) 2031616 = r * 65536 := and_put 16 65536 2031616 (by decide) (by decide) (by decide) r h0 h1
theorem putR_eq11 (r : Int) (h0 : 0 ≤ r) (h1 : r ≤ 31) : bits .and .u32 (IntKind.u32.wrap (IntKind.u32.wrap r * 2048)) 63488 = r * 2048 := and_put 11 2048 63488 (by decide) (by decide) (by decide) r h0 h1
theorem putR_eq6 (r : Int) (h0 : 0 ≤ r) (h1 : r ≤ 31) : bits .and .u32 (IntKind.u32.wrap (IntKind.u32.wrap r * 64)) 1984 = r * 64 := and_put 6 64 1984 (by decide) (by decide) (by decide) r h0 h1
end Go.Proofs.YtnbhpmncppohaaaGreatDoor.Mill
