import Derived.Test.YtnbhpmncppohaaaGreatDoorMLeaf
namespace Go.Proofs.YtnbhpmncppohaaaGreatDoor.Mill
open Go.RowKit

theorem digitI_ok (base : Nat) (hb : base = 10 ∨ base = 16) (c : UInt8) (h : digitI c < base) : digVal base c = some (digitI c).toNat ∧ 0 ≤ digitI c := by
  unfold digitI at h ⊢
  cases hd : digitB c
  · rw [hd] at h
    simp only [Bool.false_eq_true, if_false] at h ⊢
    by_cases hx : 97 ≤ c.toNat ∧ c.toNat ≤ 102
    · rw [if_pos hx] at h ⊢
      rcases hb with rfl | rfl
      · omega
      · refine ⟨?_, by omega⟩
        rw [digVal_hex 16 c hd rfl hx.1 hx.2]
        congr 1
        omega
    · rw [if_neg hx] at h
      omega
  · simp only [if_true]
    obtain ⟨h1, h2, h3⟩ := digVal_digit base c hd
    refine ⟨?_, by omega⟩
    rw [h1]
    congr 1
    omega
theorem digitI_bad (base : Nat) (hb : base = 10 ∨ base = 16) (c : UInt8) (h : ¬ digitI c < base) : digVal base c = none := by
  unfold digitI at h
  cases hd : digitB c
  · rw [hd] at h
    simp only [Bool.false_eq_true, if_false] at h
    refine digVal_none base c hd (fun e => ?_)
    by_cases hx : 97 ≤ c.toNat ∧ c.toNat ≤ 102
    · rw [if_pos hx] at h; omega
    · omega
  · rw [hd] at h
    simp only [if_true] at h
    obtain ⟨h1, h2, h3⟩ := digVal_digit base c hd
    omega
theorem digitI_bd (c : UInt8) : 0 ≤ digitI c ∧ digitI c ≤ 16 := by
  unfold digitI
  split
  · rename_i hd
    obtain ⟨_, h2, h3⟩ := digVal_digit 10 c hd
    omega
  · split <;> omega

/-- what readDigits ends in -/
def digEnd : Option Nat → Ending
  | some n => .returned (.int .i64 n)
  | none => gives 3

set_option maxHeartbeats 1000000 in
set_option maxRecDepth 100000 in
theorem readDigits_calls (m : List UInt8) (base : Nat) (hb : base = 10 ∨ base = 16) (w : World) (hl : m.length ≤ 4294967296) :
    Calls Tryz.prog 91 #[S m, .int .i64 base] w fun e w' => e = digEnd (digsL base m) ∧ w' = w := by
  by_cases hm0 : m.length = 0
  · obtain rfl : m = [] := List.eq_nil_of_length_eq_zero hm0
    have HV : Hid (digsL base [] = none) := rfl
    clear hm0
    go_enter Tryz.func91, Tryz.ntmps91
    go_wp2_with fail
    exact ⟨rfl, by rw [unhide HV]; rfl, rfl⟩
  · have h0 : ¬ (m.length : Int) < 1 := by omega
    by_cases hm8 : 8 < m.length
    · have HV : Hid (digsL base m = none) := by show digsL base m = none; unfold digsL; rw [if_pos (.inr hm8)]
      have h8 : decide (8 < (m.length : Int)) = true := by simp; omega
      go_enter Tryz.func91, Tryz.ntmps91
      go_wp2_with fail
      exact ⟨rfl, by rw [unhide HV]; rfl, rfl⟩
    · have h8 : decide (8 < (m.length : Int)) = false := by simp; omega
      have HV : Hid (digsL base m = digs base m 0) := by show digsL base m = _; unfold digsL; rw [if_neg (by omega)]
      obtain ⟨b0, hb0⟩ : ∃ b0, b0 = base := ⟨_, rfl⟩
      have HB0 := hide hb0
      rw [← hb0] at HV
      have HG : Hid (digsL base m = digsL b0 m) := by rw [hb0]; rfl
      have HBB : Hid (b0 = 10 ∨ b0 = 16) := by rw [hb0]; exact hb
      clear hb0
      have HZ : Hid (digs b0 m 0 = digs b0 (m.drop 0) 0) := by show _ = _; rw [List.drop_zero]
      rcases hb with rfl | rfl
      all_goals
        go_enter Tryz.func91, Tryz.ntmps91
        go_wp2_with fail
        go_loopg [5, 19] m.length (fun g n i wx => w = wx ∧ ∃ k v : Nat, k ≤ m.length ∧ g = m.length - k ∧ i = .int .i64 k ∧ n = .int .i64 v ∧ Hid (v < 16 ^ k) ∧ Hid (digs b0 m 0 = digs b0 (m.drop k) v))
        case atStart => exact ⟨rfl, 0, 0, by omega, rfl, rfl, rfl, (by decide : 0 < 16 ^ 0), HZ⟩
        case round =>
          obtain ⟨rfl, k, v, hk, rfl, rfl, rfl, hv, hd⟩ := hrel
          have hv' : v < 4294967296 := pow_le v k (unhide hv) (by omega)
          by_cases hlt : k < m.length
          · have HX : Hid (m[k] = (⟨m.toArray⟩ : ByteArray)[k]'(by simpa [ByteArray.size] using hlt)) := rfl
            generalize hxe : (⟨m.toArray⟩ : ByteArray)[k]'(by simpa [ByteArray.size] using hlt) = x at HX
            have HXE := hide hxe
            clear hxe
            have hbd := digitI_bd x
            by_cases hdx : digitI x < b0
            · obtain ⟨hdv, hd0⟩ := digitI_ok b0 (unhide HBB) x hdx
              have HS2 := hide (digs_step b0 k v (digitI x).toNat m hlt (by rw [unhide HX]; exact hdv) (unhide hd))
              have HP2 := hide (pow_step b0 v k (digitI x).toNat (unhide HBB) (unhide hv) (by have := unhide HBB; omega))
              have hdx' := hdx
              rw [unhide HB0] at hdx'
              clear hdv hdx
              generalize hdd : digitI x = dx at *
              obtain ⟨d, rfl⟩ := Int.eq_ofNat_of_zero_le hd0
              have HDX := hide hdd
              clear hdd
              rw [Int.toNat_natCast] at HS2 HP2
              go_wp2_with (go_at_call 97; rw [unhide HXE]; refine (digitValue_calls x _).mono ?_; rintro e w' ⟨rfl, rfl⟩; rw [unhide HDX])
              go_roundg (m.length - (k + 1))
              case measure => omega
              case rel => exact ⟨rfl, k + 1, b0 * v + d, by omega, rfl, by go_num, by rw [unhide HB0]; go_num, HP2, HS2⟩
            · have HS2 := hide (digs_bad b0 k v m hlt (by rw [unhide HX]; exact digitI_bad b0 (unhide HBB) x hdx) (unhide hd))
              have hdx' := hdx
              rw [unhide HB0] at hdx'
              clear hdx
              generalize hdd : digitI x = dx at *
              have HDX := hide hdd
              clear hdd
              go_wp2_with (go_at_call 97; rw [unhide HXE]; refine (digitValue_calls x _).mono ?_; rintro e w' ⟨rfl, rfl⟩; rw [unhide HDX])
              exact ⟨rfl, by rw [unhide HG, unhide HV, unhide HS2]; rfl, rfl⟩
          · have HE : Hid (digs b0 m 0 = some v) := by
              show _ = _
              rw [unhide hd, List.drop_eq_nil_of_le (by omega)]; rfl
            go_wp2_with fail
            go_ret
            exact ⟨by rw [unhide HG, unhide HV, unhide HE]; rfl, rfl⟩

theorem readDigits10 (m : List UInt8) (w : World) (hl : m.length ≤ 4294967296) :
    Calls Tryz.prog 91 #[S m, .int .i64 10] w fun e w' => e = digEnd (digsL 10 m) ∧ w' = w := readDigits_calls m 10 (.inl rfl) w hl
theorem readDigits16 (m : List UInt8) (w : World) (hl : m.length ≤ 4294967296) :
    Calls Tryz.prog 91 #[S m, .int .i64 16] w fun e w' => e = digEnd (digsL 16 m) ∧ w' = w := readDigits_calls m 16 (.inr rfl) w hl
theorem hasPrefix1 (l : List UInt8) : Lib.hasPrefix l [45] = negB l := by
  cases l with
  | nil => rfl
  | cons c r =>
    rw [Bool.eq_iff_iff]
    simp [Lib.hasPrefix, negB, List.isPrefixOf]
    constructor <;> exact fun h => h.symm
theorem trimPrefix1 (l : List UInt8) : Lib.trimPrefix l [45] = strip l := by
  unfold Lib.trimPrefix strip
  rw [hasPrefix1]; rfl
/-- the digits and the base, as the program parts them -/
def mhex (q : List UInt8) : Bool := Lib.hasPrefix q [48, 120]
def mrest (q : List UInt8) : List UInt8 := if mhex q then q.drop 2 else q
theorem mhex2 (a b : UInt8) (r : List UInt8) : mhex (a :: b :: r) = (a == 48 && b == 120) := by
  rw [Bool.eq_iff_iff]
  simp [mhex, Lib.hasPrefix, List.isPrefixOf]
  constructor <;> exact fun h => ⟨h.1.symm, h.2.symm⟩
theorem mhex_digs (q : List UInt8) : unsigned q = digsL (if mhex q then 16 else 10) (mrest q) := by
  unfold unsigned mrest
  match q with
  | [] => rfl
  | [a] => simp [hexP, mhex, Lib.hasPrefix, List.isPrefixOf]
  | [a, b] =>
    have h1 : hexP [a, b] = false := by simp [hexP]
    rw [h1, mhex2]
    cases hm : (a == 48 && b == 120)
    · rfl
    · have : a = 48 ∧ b = 120 := by simpa using hm
      obtain ⟨rfl, rfl⟩ := this
      decide
  | a :: b :: c :: r =>
    rw [hexP_long a b c r, mhex2]
    split <;> rfl

theorem minus_calls (l : List UInt8) (w : World) :
    Calls Tryz.prog 87 #[S l, .string { data := #[45] }] w fun e w' => e = .returned (.tuple #[S (strip l), .bool (negB l)]) ∧ w' = w := by
  refine (Tryz.strings_CutPrefix ⟨l.toArray⟩ ⟨#[45]⟩ w).mono ?_
  rintro e w' ⟨rfl, rfl⟩
  refine ⟨?_, rfl⟩
  have h1 := hasPrefix1 l
  have h2 := trimPrefix1 l
  simp only [h1, h2]
theorem hex_calls (q : List UInt8) (w : World) :
    Calls Tryz.prog 87 #[S q, .string { data := #[48, 120] }] w fun e w' => e = .returned (.tuple #[S (mrest q), .bool (mhex q)]) ∧ w' = w :=
  Tryz.strings_CutPrefix ⟨q.toArray⟩ ⟨#[48, 120]⟩ w

/-- what readNumber ends in -/
def numEnd (l : List UInt8) : Ending := if numOk l then .returned (.int .i64 (numVal l)) else gives 3

theorem mrest_le (q : List UInt8) : (mrest q).length ≤ q.length := by unfold mrest; split <;> simp

set_option maxHeartbeats 1000000 in
set_option maxRecDepth 100000 in
theorem readNumber_calls (l : List UInt8) (w : World) (hl : l.length ≤ 4294967296) :
    Calls Tryz.prog 81 #[S l] w fun e w' => e = numEnd l ∧ w' = w := by
  have HU := hide (mhex_digs (strip l))
  have hsl := strip_le l
  have hrl := mrest_le (strip l)
  have HE : Hid (numEnd l = match unsigned (strip l) with | some n => .returned (.int .i64 (if negB l then -(n : Int) else n)) | none => gives 3) := by
    show _ = _
    unfold numEnd numOk numVal
    cases unsigned (strip l) <;> simp
  have HB := hide (fun n h => unsigned_lt (strip l) n h)
  have HRQ : Hid (mhex (strip l) = false → mrest (strip l) = strip l) := fun h => by unfold mrest; rw [h]; rfl
  have HM := hide (minus_calls l)
  have HX := hide (hex_calls (strip l))
  generalize strip l = q at *
  generalize hng : negB l = ng at *
  generalize hmh : mhex q = mh at *
  generalize mrest q = r at *
  clear hng hmh
  cases mh
  case false =>
    have HD0 : Hid (digsL 10 q = unsigned q) := by
      have h1 := unhide HU
      rw [unhide HRQ rfl] at h1
      exact h1.symm
    cases hdl : unsigned q with
    | none =>
      rw [hdl] at HE HD0
      have HD := HD0
      clear hdl
      go_enter Tryz.func81, Tryz.ntmps81
      go_wp2_with fail
      refine (unhide HM _).mono ?_
      rintro e w1 ⟨rfl, rfl⟩
      go_wp2_with fail
      refine (unhide HX _).mono ?_
      rintro e w1 ⟨rfl, rfl⟩
      go_wp2_with fail
      refine (readDigits10 q _ (by omega)).mono ?_
      rintro e w1 ⟨rfl, rfl⟩
      rw [unhide HD]
      dsimp only [digEnd]
      exact ⟨rfl, (unhide HE).symm, rfl⟩
    | some n =>
      rw [hdl] at HE HD0
      have HD := HD0
      have hn : n < 4294967296 := unhide HB n hdl
      clear hdl
      cases ng
      · go_enter Tryz.func81, Tryz.ntmps81
        go_wp2_with fail
        refine (unhide HM _).mono ?_
        rintro e w1 ⟨rfl, rfl⟩
        go_wp2_with fail
        refine (unhide HX _).mono ?_
        rintro e w1 ⟨rfl, rfl⟩
        go_wp2_with fail
        refine (readDigits10 q _ (by omega)).mono ?_
        rintro e w1 ⟨rfl, rfl⟩
        rw [unhide HD]
        dsimp only [digEnd]
        go_wp2_with fail
        go_ret
        exact ⟨(unhide HE).symm, rfl⟩
      · go_enter Tryz.func81, Tryz.ntmps81
        go_wp2_with fail
        refine (unhide HM _).mono ?_
        rintro e w1 ⟨rfl, rfl⟩
        go_wp2_with fail
        refine (unhide HX _).mono ?_
        rintro e w1 ⟨rfl, rfl⟩
        go_wp2_with fail
        refine (readDigits10 q _ (by omega)).mono ?_
        rintro e w1 ⟨rfl, rfl⟩
        rw [unhide HD]
        dsimp only [digEnd]
        go_wp2_with fail
        go_ret
        exact ⟨(unhide HE).symm, rfl⟩
  case true =>
    have HD0 : Hid (digsL 16 r = unsigned q) := (unhide HU).symm
    cases hdl : unsigned q with
    | none =>
      rw [hdl] at HE HD0
      have HD := HD0
      clear hdl
      go_enter Tryz.func81, Tryz.ntmps81
      go_wp2_with fail
      refine (unhide HM _).mono ?_
      rintro e w1 ⟨rfl, rfl⟩
      go_wp2_with fail
      refine (unhide HX _).mono ?_
      rintro e w1 ⟨rfl, rfl⟩
      go_wp2_with fail
      refine (readDigits16 r _ (by omega)).mono ?_
      rintro e w1 ⟨rfl, rfl⟩
      rw [unhide HD]
      dsimp only [digEnd]
      exact ⟨rfl, (unhide HE).symm, rfl⟩
    | some n =>
      rw [hdl] at HE HD0
      have HD := HD0
      have hn : n < 4294967296 := unhide HB n hdl
      clear hdl
      cases ng
      · go_enter Tryz.func81, Tryz.ntmps81
        go_wp2_with fail
        refine (unhide HM _).mono ?_
        rintro e w1 ⟨rfl, rfl⟩
        go_wp2_with fail
        refine (unhide HX _).mono ?_
        rintro e w1 ⟨rfl, rfl⟩
        go_wp2_with fail
        refine (readDigits16 r _ (by omega)).mono ?_
        rintro e w1 ⟨rfl, rfl⟩
        rw [unhide HD]
        dsimp only [digEnd]
        go_wp2_with fail
        go_ret
        exact ⟨(unhide HE).symm, rfl⟩
      · go_enter Tryz.func81, Tryz.ntmps81
        go_wp2_with fail
        refine (unhide HM _).mono ?_
        rintro e w1 ⟨rfl, rfl⟩
        go_wp2_with fail
        refine (unhide HX _).mono ?_
        rintro e w1 ⟨rfl, rfl⟩
        go_wp2_with fail
        refine (readDigits16 r _ (by omega)).mono ?_
        rintro e w1 ⟨rfl, rfl⟩
        rw [unhide HD]
        dsimp only [digEnd]
        go_wp2_with fail
        go_ret
        exact ⟨(unhide HE).symm, rfl⟩
end Go.Proofs.YtnbhpmncppohaaaGreatDoor.Mill
