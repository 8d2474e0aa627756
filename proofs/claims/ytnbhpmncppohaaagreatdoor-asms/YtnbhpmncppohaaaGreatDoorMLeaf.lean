import Derived.Test.YtnbhpmncppohaaaGreatDoorNum
import Derived.Test.YtnbhpmncppohaaaGreatDoorShelf
import Derived.Shelf.Strings.SlTrimAscii
namespace Go.Proofs.YtnbhpmncppohaaaGreatDoor.Mill
open Go.RowKit

/-- the program gives a text up with this error -/
abbrev gives (n : Int) : Ending := .panicked [{ v := .iface 25 (.int .i64 n), recovered := false }]

theorem isLetter_calls (c : UInt8) (w : World) :
    Calls Tryz.prog 47 #[B c] w fun e w' => e = .returned (.bool (letterB c)) ∧ w' = w := by
  go_enter Tryz.func47, Tryz.ntmps47
  go_wp2
  all_goals go_ret
  all_goals exact ⟨ret_bool (by rw [Bool.eq_iff_iff]; simp [letterB, UInt8.le_iff_toNat_le]; omega), rfl⟩

theorem isDigit_calls (c : UInt8) (w : World) :
    Calls Tryz.prog 48 #[B c] w fun e w' => e = .returned (.bool (digitB c)) ∧ w' = w := by
  go_enter Tryz.func48, Tryz.ntmps48
  go_wp2
  all_goals go_ret
  all_goals exact ⟨ret_bool (by rw [Bool.eq_iff_iff]; simp [digitB, UInt8.le_iff_toNat_le]; omega), rfl⟩

/-- what a digit counts, or 16 -/
def digitI (c : UInt8) : Int := if digitB c then (c.toNat : Int) - 48 else if 97 ≤ c.toNat ∧ c.toNat ≤ 102 then (c.toNat : Int) - 87 else 16

theorem ret_i64 {a b : Int} (h : a = b) : Ending.returned (.int .i64 a) = .returned (.int .i64 b) := by rw [h]

theorem digitValue_calls (c : UInt8) (w : World) :
    Calls Tryz.prog 97 #[B c] w fun e w' => e = .returned (.int .i64 (digitI c)) ∧ w' = w := by
  cases hd : digitB c
  · by_cases hx : 97 ≤ c.toNat ∧ c.toNat ≤ 102
    · have HV : Hid (digitI c = (c.toNat : Int) - 87) := by show _ = _; unfold digitI; rw [hd, if_neg (by simp), if_pos hx]
      obtain ⟨hx1, hx2⟩ := hx
      go_enter Tryz.func97, Tryz.ntmps97
      go_wp2_with (go_at_call 48; refine (isDigit_calls c _).mono ?_; rintro e w' ⟨rfl, rfl⟩)
      go_ret
      exact ⟨ret_i64 (by rw [unhide HV]; omega), rfl⟩
    · have HV : Hid (digitI c = 16) := by show _ = _; unfold digitI; rw [hd, if_neg (by simp), if_neg hx]
      by_cases hx1 : 97 ≤ c.toNat
      · have hx2 : 102 < c.toNat := by omega
        clear hx
        go_enter Tryz.func97, Tryz.ntmps97
        go_wp2_with (go_at_call 48; refine (isDigit_calls c _).mono ?_; rintro e w' ⟨rfl, rfl⟩)
        go_ret
        exact ⟨ret_i64 (unhide HV).symm, rfl⟩
      · clear hx
        go_enter Tryz.func97, Tryz.ntmps97
        go_wp2_with (go_at_call 48; refine (isDigit_calls c _).mono ?_; rintro e w' ⟨rfl, rfl⟩)
        go_ret
        exact ⟨ret_i64 (unhide HV).symm, rfl⟩
  · have HV : Hid (digitI c = (c.toNat : Int) - 48) := by show _ = _; unfold digitI; rw [hd]; rfl
    have h48 : 48 ≤ c.toNat ∧ c.toNat ≤ 57 := by simpa [digitB, UInt8.le_iff_toNat_le] using hd
    obtain ⟨h1, h2⟩ := h48
    go_enter Tryz.func97, Tryz.ntmps97
    go_wp2_with (go_at_call 48; refine (isDigit_calls c _).mono ?_; rintro e w' ⟨rfl, rfl⟩)
    go_ret
    exact ⟨ret_i64 (unhide HV).symm, rfl⟩

/-- mill's trim: strings.Trim at the two blanks -/
theorem mtrim_calls (l : List UInt8) (w : World) (hl : l.length ≤ 4294967280) :
    Calls Tryz.prog 34 #[S l] w fun e w' => e = .returned (S (trim l)) ∧ Below w.heap.size w w' := by
  go_enter Tryz.func34, Tryz.ntmps34
  go_wp2_with (go_at_call 49; refine (Any.strings_Trim_laid Tryz.lays160 (by kernel_rfl) ⟨l.toArray⟩ ⟨#[32, 9]⟩ _ (by simp [ByteArray.size]; omega) (by decide) (ascii_of_all (by decide))).mono ?_; rintro e w1 ⟨rfl, hb⟩)
  go_ret
  exact ⟨rfl, hb⟩

set_option maxHeartbeats 400000 in
theorem readLabel_yes (l : List UInt8) (w : World) (h : labelB l = true) :
    Calls Tryz.prog 33 #[S l] w fun e w' => e = .returned (S l) ∧ w' = w := by
  cases l with
  | nil => cases h
  | cons c r =>
    have h8 : r.length + 1 ≤ 8 := by
      by_cases h8 : 8 < (c :: r).length
      · rw [labelB_long _ h8] at h; cases h
      · simp at h8; omega
    have hc : letterB c = true := by
      cases hc : letterB c
      · rw [labelB_head c r hc] at h; cases h
      · rfl
    have HA : Hid (∀ j, (hj : j < (c :: r).length) → letterB (c :: r)[j] = false → digitB (c :: r)[j] = true) := by
      intro j hj h1
      cases h2 : digitB (c :: r)[j]
      · rw [labelB_bad (c :: r) j hj h1 h2] at h; cases h
      · rfl
    have h8d : decide (8 < (r.length : Int) + 1) = false := by simp; omega
    clear h
    go_enter Tryz.func33, Tryz.ntmps33
    go_wp2_with (go_at_call 47; refine (isLetter_calls c _).mono ?_; rintro e w' ⟨rfl, rfl⟩)
    go_loopg [20] (r.length + 1) (fun g iv wx => ∃ k : Nat, k ≤ r.length + 1 ∧ g = r.length + 1 - k ∧ iv = .int .i64 k ∧ w' = wx)
    case atStart => exact ⟨0, by omega, rfl, rfl, rfl⟩
    case round =>
      obtain ⟨k, hk, rfl, rfl, rfl⟩ := hrel
      by_cases hlt : k < r.length + 1
      · have HX : Hid ((c :: r)[k]'(by simpa using hlt) = (⟨(c :: r).toArray⟩ : ByteArray)[k]'(by simpa [ByteArray.size] using hlt)) := rfl
        generalize hxe : (⟨(c :: r).toArray⟩ : ByteArray)[k]'(by simpa [ByteArray.size] using hlt) = x at HX
        have HXE := hide hxe
        clear hxe
        have HD : Hid (letterB x = false → digitB x = true) := by
          have := unhide HA k (by simpa using hlt)
          rw [unhide HX] at this
          exact this
        cases h1 : letterB x
        · have h2 := unhide HD h1
          go_wp2_with (first | (go_at_call 47; rw [unhide HXE]; refine (isLetter_calls x _).mono ?_; rintro e w' ⟨rfl, rfl⟩) | (go_at_call 48; rw [unhide HXE]; refine (isDigit_calls x _).mono ?_; rintro e w' ⟨rfl, rfl⟩))
          go_roundg (r.length + 1 - (k + 1))
          case measure => omega
          case rel => exact ⟨k + 1, by omega, rfl, by go_num, rfl⟩
        · go_wp2_with (first | (go_at_call 47; rw [unhide HXE]; refine (isLetter_calls x _).mono ?_; rintro e w' ⟨rfl, rfl⟩) | (go_at_call 48; rw [unhide HXE]; refine (isDigit_calls x _).mono ?_; rintro e w' ⟨rfl, rfl⟩))
          go_roundg (r.length + 1 - (k + 1))
          case measure => omega
          case rel => exact ⟨k + 1, by omega, rfl, by go_num, rfl⟩
      · go_wp2_with fail
        go_ret
        exact ⟨rfl, rfl⟩

set_option maxHeartbeats 400000 in
theorem readLabel_no (l : List UInt8) (w : World) (hl : l.length ≤ 4294967296) (h : labelB l = false) :
    Calls Tryz.prog 33 #[S l] w fun e w' => e = gives 3 ∧ w' = w := by
  cases l with
  | nil =>
    go_enter Tryz.func33, Tryz.ntmps33
    go_wp2_with fail
    exact ⟨rfl, rfl, rfl⟩
  | cons c r =>
    simp only [List.length_cons] at hl
    by_cases h8 : r.length + 1 ≤ 8
    · have h8d : decide (8 < (r.length : Int) + 1) = false := by simp; omega
      cases hc : letterB c
      · clear h
        go_enter Tryz.func33, Tryz.ntmps33
        go_wp2_with (go_at_call 47; refine (isLetter_calls c _).mono ?_; rintro e w' ⟨rfl, rfl⟩)
        exact ⟨rfl, rfl, rfl⟩
      · have HG := hide (labelB_good c r h8 hc)
        have HF := hide h
        clear h
        go_enter Tryz.func33, Tryz.ntmps33
        go_wp2_with (go_at_call 47; refine (isLetter_calls c _).mono ?_; rintro e w' ⟨rfl, rfl⟩)
        go_loopg [20] (r.length + 1) (fun g iv wx => ∃ k : Nat, k ≤ r.length + 1 ∧ g = r.length + 1 - k ∧ iv = .int .i64 k ∧ w' = wx ∧ Hid (∀ j, j < k → (h : j < (c :: r).length) → letterB (c :: r)[j] = true ∨ digitB (c :: r)[j] = true))
        case atStart => exact ⟨0, by omega, rfl, rfl, rfl, fun j hj => absurd hj (by omega)⟩
        case round =>
          obtain ⟨k, hk, rfl, rfl, rfl, hok⟩ := hrel
          by_cases hlt : k < r.length + 1
          · have HX : Hid ((c :: r)[k]'(by simpa using hlt) = (⟨(c :: r).toArray⟩ : ByteArray)[k]'(by simpa [ByteArray.size] using hlt)) := rfl
            have HN : Hid ((letterB ((c :: r)[k]'(by simpa using hlt)) = true ∨ digitB ((c :: r)[k]'(by simpa using hlt)) = true) → ∀ j, j < k + 1 → (h : j < (c :: r).length) → letterB (c :: r)[j] = true ∨ digitB (c :: r)[j] = true) := by
              intro h j hj hjl
              by_cases e : j = k
              · subst e; exact h
              · exact unhide hok j (by omega) hjl
            generalize hxe : (⟨(c :: r).toArray⟩ : ByteArray)[k]'(by simpa [ByteArray.size] using hlt) = x at HX
            have HXE := hide hxe
            clear hxe
            cases h1 : letterB x
            · cases h2 : digitB x
              · go_wp2_with (first | (go_at_call 47; rw [unhide HXE]; refine (isLetter_calls x _).mono ?_; rintro e w' ⟨rfl, rfl⟩) | (go_at_call 48; rw [unhide HXE]; refine (isDigit_calls x _).mono ?_; rintro e w' ⟨rfl, rfl⟩))
                exact ⟨rfl, rfl, rfl⟩
              · have HV := hide (unhide HN (by rw [unhide HX]; exact .inr h2))
                go_wp2_with (first | (go_at_call 47; rw [unhide HXE]; refine (isLetter_calls x _).mono ?_; rintro e w' ⟨rfl, rfl⟩) | (go_at_call 48; rw [unhide HXE]; refine (isDigit_calls x _).mono ?_; rintro e w' ⟨rfl, rfl⟩))
                go_roundg (r.length + 1 - (k + 1))
                case measure => omega
                case rel => exact ⟨k + 1, by omega, rfl, by go_num, rfl, HV⟩
            · have HV := hide (unhide HN (by rw [unhide HX]; exact .inl h1))
              go_wp2_with (first | (go_at_call 47; rw [unhide HXE]; refine (isLetter_calls x _).mono ?_; rintro e w' ⟨rfl, rfl⟩) | (go_at_call 48; rw [unhide HXE]; refine (isDigit_calls x _).mono ?_; rintro e w' ⟨rfl, rfl⟩))
              go_roundg (r.length + 1 - (k + 1))
              case measure => omega
              case rel => exact ⟨k + 1, by omega, rfl, by go_num, rfl, HV⟩
          · exfalso
            have := unhide HG (fun j h => unhide hok j (by simp at h; omega) h)
            rw [unhide HF] at this
            cases this
    · have h8d : decide (8 < (r.length : Int) + 1) = true := by simp; omega
      clear h
      go_enter Tryz.func33, Tryz.ntmps33
      go_wp2_with fail
      exact ⟨rfl, rfl, rfl⟩
end Go.Proofs.YtnbhpmncppohaaaGreatDoor.Mill
