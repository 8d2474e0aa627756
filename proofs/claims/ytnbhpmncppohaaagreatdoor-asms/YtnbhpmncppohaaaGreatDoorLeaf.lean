import Derived.Test.YtnbhpmncppohaaaGreatDoorProg
import Derived.Test.YtnbhpmncppohaaaGreatDoorPlain
import Derived.WalkKit
import Derived.WalkSpells
import Derived.WalkLawsBesides
import Derived.Deep.DeepCutAuto
namespace Go.Proofs.YtnbhpmncppohaaaGreatDoor.Mill
open Go.RowKit

/-- a string of these bytes -/
abbrev S (l : List UInt8) : Value := .string ⟨l.toArray⟩
/-- a byte as the walk has it -/
abbrev B (c : UInt8) : Value := .int .u8 c.toNat

theorem hide {p : Prop} (h : p) : Hid p := h
theorem unhide {p : Prop} (h : Hid p) : p := h.out
def strOf : Value → List UInt8
  | .string s => s.data.toList
  | _ => []
theorem ret_bool {a b : Bool} (h : a = b) : Ending.returned (.bool a) = .returned (.bool b) := by rw [h]
theorem S_eq {a b : List UInt8} (h : a = b) : S a = S b := by rw [h]
theorem str_eq {a : ByteArray} {b : List UInt8} (h : a.data.toList = b) : Value.string a = S b := by
  subst h; rfl
theorem byte_at (l : List UInt8) (k : Nat) (h : k < (⟨l.toArray⟩ : ByteArray).size) : (⟨l.toArray⟩ : ByteArray)[k] = l[k]'(by simpa [ByteArray.size] using h) := rfl
theorem ext_data (l : List UInt8) (a b : Nat) : ((⟨l.toArray⟩ : ByteArray).extract a b).data.toList = (l.drop a).take (b - a) := by
  simp [ByteArray.data_extract]

theorem ext_end (l : List UInt8) (a : Nat) : ((⟨l.toArray⟩ : ByteArray).extract a l.length).data.toList = l.drop a := by
  rw [ext_data, List.take_of_length_le (by simp)]
theorem ext_head (l : List UInt8) (b : Nat) : ((⟨l.toArray⟩ : ByteArray).extract 0 b).data.toList = l.take b := by
  rw [ext_data]; simp

theorem blank_calls (c : UInt8) (w : World) :
    Calls Tryz.prog 24 #[B c] w fun e w' => e = .returned (.bool (blankB c)) ∧ w' = w := by
  go_enter Tryz.func24, Tryz.ntmps24
  go_wp2
  all_goals go_ret
  all_goals exact ⟨ret_bool (by rw [Bool.eq_iff_iff]; simp [blankB, ← UInt8.toNat_inj]; omega), rfl⟩

theorem letter_calls (c : UInt8) (w : World) :
    Calls Tryz.prog 37 #[B c] w fun e w' => e = .returned (.bool (letterB c)) ∧ w' = w := by
  go_enter Tryz.func37, Tryz.ntmps37
  go_wp2
  all_goals go_ret
  all_goals exact ⟨ret_bool (by rw [Bool.eq_iff_iff]; simp [letterB, UInt8.le_iff_toNat_le]; omega), rfl⟩

theorem digit_calls (c : UInt8) (w : World) :
    Calls Tryz.prog 38 #[B c] w fun e w' => e = .returned (.bool (digitB c)) ∧ w' = w := by
  go_enter Tryz.func38, Tryz.ntmps38
  go_wp2
  all_goals go_ret
  all_goals exact ⟨ret_bool (by rw [Bool.eq_iff_iff]; simp [digitB, UInt8.le_iff_toNat_le]; omega), rfl⟩

set_option maxHeartbeats 400000 in
theorem cut_calls (l : List UInt8) (c : UInt8) (w : World) (hl : l.length ≤ 4294967296) :
    Calls Tryz.prog 21 #[S l, B c] w fun e w' => e = .returned (.tuple #[S (cutB l c), S (cutA l c), .bool (cutH l c)]) ∧ ∃ n, w' = w.drewN n := by
  go_enter Tryz.func21, Tryz.ntmps21
  go_wp2
  go_loopw [7] (fun i w' => w' = w ∧ ∃ k : Nat, k ≤ l.length ∧ i = .int .i64 k ∧ ∀ j, j < k → l[j]? ≠ some c) (fun i _ => l.length - (intOf i).toNat)
  case atStart => exact ⟨rfl, 0, Nat.zero_le _, rfl, fun j hj => absurd hj (by omega)⟩
  case round =>
    obtain ⟨rfl, k, hk, rfl, hno⟩ := hrel
    have HN := hide hno
    clear hno
    by_cases hlt : k < l.length
    · by_cases hc : l[k] = c
      · have hb : (((⟨l.toArray⟩ : ByteArray)[k].toNat : Int) == (c.toNat : Int)) = true := by
          rw [byte_at l k (by simpa [ByteArray.size] using hlt), hc]; simp
        have HC := hide (cut_hit l c k hlt (unhide HN) hc)
        clear hc
        go_wp2
        go_region
        go_wp2
        go_ret3
        obtain ⟨h1, h2, h3⟩ := unhide HC
        refine ⟨?_, 1, rfl⟩
        rw [h1, h2, h3, str_eq (ext_head l k), str_eq (ext_end l (k + 1))]
        rfl
      · have hb : (((⟨l.toArray⟩ : ByteArray)[k].toNat : Int) == (c.toNat : Int)) = false := by
          rw [byte_at l k (by simpa [ByteArray.size] using hlt)]
          rw [beq_eq_false_iff_ne]
          intro h
          exact hc (UInt8.toNat_inj.1 (by omega))
        have HC := hide hc
        clear hc
        go_wp2
        refine ⟨⟨by trivial, k + 1, by omega, by go_num, fun j hj => ?_⟩, by simp [intOf]; omega⟩
        by_cases e : j = k
        · subst e
          rw [List.getElem?_eq_getElem hlt]
          intro h
          exact unhide HC (by simpa using h)
        · exact unhide HN j (by omega)
    · have HC := hide (cut_miss l c (fun j hj => unhide HN j (by omega)))
      go_wp2
      go_ret3
      obtain ⟨h1, h2, h3⟩ := unhide HC
      refine ⟨?_, 0, rfl⟩
      rw [h1, h2, h3]
      rfl

theorem at0 (c : UInt8) (r : List UInt8) (h : 0 < (⟨(c :: r).toArray⟩ : ByteArray).size) : (⟨(c :: r).toArray⟩ : ByteArray)[0] = c := rfl

theorem last_at (q : List UInt8) (c : UInt8) (h : q.length < (⟨(q ++ [c]).toArray⟩ : ByteArray).size) : (⟨(q ++ [c]).toArray⟩ : ByteArray)[q.length] = c := by
  rw [byte_at (q ++ [c]) q.length h]; simp

set_option maxHeartbeats 400000 in
theorem trim_calls (l : List UInt8) (w : World) (hl : l.length ≤ 4294967296) :
    Calls Tryz.prog 22 #[S l] w fun e w' => e = .returned (S (trim l)) ∧ w' = w := by
  have HT : Hid (trim l = trimR (trimL l)) := by rw [trim_swap]; exact trim_eq l
  go_enter Tryz.func22, Tryz.ntmps22
  go_wp2
  go_loop [0] (fun v => ∃ m : List UInt8, m.length ≤ l.length ∧ v = S m ∧ Hid (trimL m = trimL l)) (fun v => (strOf v).length)
  case atStart => exact ⟨l, Nat.le_refl _, rfl, rfl⟩
  case round =>
    obtain ⟨m, hm, rfl, hr⟩ := hrel
    have H2 : Hid (∀ c r, m = c :: r → blankB c = true → trimL r = trimL l) := by
      intro c r e hc
      have := unhide hr
      rw [e, trimL_cons, hc, if_pos rfl] at this
      exact this
    by_cases hb : ∃ c r, m = c :: r ∧ blankB c = true
    · obtain ⟨c, r, rfl, hc⟩ := hb
      go_wp2_with (go_at_call 24; refine (blank_calls c _).mono ?_; rintro e w' ⟨rfl, rfl⟩)
      have e1 : ((⟨(c :: r).toArray⟩ : ByteArray).extract 1 (r.length + 1)).data.toList = r := ext_end (c :: r) 1
      refine ⟨⟨r, by simp at hm; omega, str_eq e1, unhide H2 c r rfl hc⟩, ?_⟩
      rw [str_eq e1]; simp [strOf]
    · have H3 : Hid (m = trimL l) := by
        have := unhide hr
        cases m with
        | nil => exact this
        | cons c r =>
          have hc : blankB c ≠ true := fun h => hb ⟨c, r, rfl, h⟩
          rw [trimL_cons, if_neg hc] at this
          exact this
      have HB := hide hb
      clear hb
      cases m
      case' nil => go_wp2_with fail
      case' cons c r =>
        have hc : blankB c = false := by
          cases h : blankB c
          · rfl
          · exact absurd ⟨c, r, rfl, h⟩ (unhide HB)
        go_wp2_with (go_at_call 24; refine (blank_calls c _).mono ?_; rintro e w' ⟨rfl, rfl⟩)
      all_goals
        go_loop [0] (fun v => ∃ m : List UInt8, m.length ≤ l.length ∧ v = S m ∧ Hid (trimR m = trimR (trimL l))) (fun v => (strOf v).length)
        case atStart => exact ⟨_, hm, rfl, congrArg trimR (unhide H3)⟩
        case round =>
          obtain ⟨q, hq, rfl, hqr⟩ := hrel
          rcases List.eq_nil_or_concat q with rfl | ⟨q', d, hqe⟩
          · go_wp2_with fail
            go_ret
            exact ⟨by rw [unhide HT, ← unhide hqr]; rfl, rfl⟩
          · rw [List.concat_eq_append] at hqe
            subst hqe
            have hq' : q'.length + 1 ≤ l.length := by simpa using hq
            cases hd : blankB d
            · have H4 : Hid (trim l = q' ++ [d]) := by
                show trim l = q' ++ [d]
                have := unhide hqr
                rw [trimR_snoc, hd] at this
                rw [unhide HT, ← this]; rfl
              go_wp2_with (go_at_call 24; rw [last_at]; refine (blank_calls d _).mono ?_; rintro e w' ⟨rfl, rfl⟩)
              go_ret
              exact ⟨by rw [unhide H4]; rfl, rfl⟩
            · have H4 : Hid (trimR q' = trimR (trimL l)) := by
                have := unhide hqr
                rw [trimR_snoc, hd] at this
                exact this
              go_wp2_with (go_at_call 24; rw [last_at]; refine (blank_calls d _).mono ?_; rintro e w' ⟨rfl, rfl⟩)
              have e1 : ((⟨(q' ++ [d]).toArray⟩ : ByteArray).extract 0 q'.length).data.toList = q' := by rw [ext_head]; simp
              refine ⟨⟨q', by omega, str_eq e1, unhide H4⟩, ?_⟩
              rw [str_eq e1]; simp [strOf]
end Go.Proofs.YtnbhpmncppohaaaGreatDoor.Mill
namespace Go.Proofs.YtnbhpmncppohaaaGreatDoor.Mill
open Go.RowKit

set_option maxHeartbeats 400000 in
theorem label_calls (l : List UInt8) (w : World) (hl : l.length ≤ 4294967296) :
    Calls Tryz.prog 23 #[S l] w fun e w' => e = .returned (.bool (labelB l)) ∧ w' = w := by
  cases l with
  | nil =>
    go_enter Tryz.func23, Tryz.ntmps23
    go_wp2_with fail
    go_ret
    exact ⟨rfl, rfl⟩
  | cons c r =>
    simp only [List.length_cons] at hl
    have h0 : (((r.length : Int) + 1) == 0) = false := by rw [beq_eq_false_iff_ne]; omega
    by_cases h8 : r.length + 1 ≤ 8
    · have h8d : decide (8 < (r.length : Int) + 1) = false := by simp; omega
      cases hc : letterB c
      · have HF := hide (labelB_head c r hc)
        go_enter Tryz.func23, Tryz.ntmps23
        go_wp2_with (go_at_call 37; refine (letter_calls c _).mono ?_; rintro e w' ⟨rfl, rfl⟩)
        go_ret
        exact ⟨ret_bool (unhide HF).symm, rfl⟩
      · have HF := hide (labelB_good c r h8 hc)
        have HB := hide (labelB_bad (c :: r))
        go_enter Tryz.func23, Tryz.ntmps23
        go_wp2_with (go_at_call 37; refine (letter_calls c _).mono ?_; rintro e w' ⟨rfl, rfl⟩)
        go_loop [3] (fun i => ∃ k : Nat, k ≤ r.length + 1 ∧ i = .int .i64 k ∧ Hid (∀ j, j < k → (h : j < (c :: r).length) → letterB (c :: r)[j] = true ∨ digitB (c :: r)[j] = true)) (fun i => r.length + 1 - (intOf i).toNat)
        case atStart => exact ⟨0, by omega, rfl, fun j hj => absurd hj (by omega)⟩
        case round =>
          obtain ⟨k, hk, rfl, hok⟩ := hrel
          by_cases hlt : k < r.length + 1
          · have hx : (c :: r)[k]'(by simpa using hlt) = (⟨(c :: r).toArray⟩ : ByteArray)[k]'(by simpa [ByteArray.size] using hlt) := rfl
            have HX := hide hx
            clear hx
            have HN : Hid (∀ (x : Bool), (letterB ((c :: r)[k]'(by simpa using hlt)) = true ∨ digitB ((c :: r)[k]'(by simpa using hlt)) = true) → ∀ j, j < k + 1 → (h : j < (c :: r).length) → letterB (c :: r)[j] = true ∨ digitB (c :: r)[j] = true) := by
              intro _ h j hj hjl
              by_cases e : j = k
              · subst e; exact h
              · exact unhide hok j (by omega) hjl
            generalize hxe : (⟨(c :: r).toArray⟩ : ByteArray)[k]'(by simpa [ByteArray.size] using hlt) = x at HX
            have HXE := hide hxe
            clear hxe
            cases h1 : letterB x
            · cases h2 : digitB x
              · have HV : Hid (labelB (c :: r) = false) := unhide HB k (by simpa using hlt) (by rw [unhide HX]; exact h1) (by rw [unhide HX]; exact h2)
                go_wp2_with (first | (go_at_call 37; rw [unhide HXE]; refine (letter_calls x _).mono ?_; rintro e w' ⟨rfl, rfl⟩) | (go_at_call 38; rw [unhide HXE]; refine (digit_calls x _).mono ?_; rintro e w' ⟨rfl, rfl⟩))
                go_ret
                exact ⟨ret_bool (unhide HV).symm, rfl⟩
              · have HV := hide (unhide HN true (by rw [unhide HX]; exact .inr h2))
                go_wp2_with (first | (go_at_call 37; rw [unhide HXE]; refine (letter_calls x _).mono ?_; rintro e w' ⟨rfl, rfl⟩) | (go_at_call 38; rw [unhide HXE]; refine (digit_calls x _).mono ?_; rintro e w' ⟨rfl, rfl⟩))
                exact ⟨⟨k + 1, by omega, by go_num, HV⟩, by simp [intOf]; omega⟩
            · have HV := hide (unhide HN true (by rw [unhide HX]; exact .inl h1))
              go_wp2_with (first | (go_at_call 37; rw [unhide HXE]; refine (letter_calls x _).mono ?_; rintro e w' ⟨rfl, rfl⟩) | (go_at_call 38; rw [unhide HXE]; refine (digit_calls x _).mono ?_; rintro e w' ⟨rfl, rfl⟩))
              exact ⟨⟨k + 1, by omega, by go_num, HV⟩, by simp [intOf]; omega⟩
          · have HV : Hid (labelB (c :: r) = true) := unhide HF (fun j h => unhide hok j (by simp at h; omega) h)
            go_wp2_with fail
            go_ret
            exact ⟨ret_bool (unhide HV).symm, rfl⟩
    · have HF := hide (labelB_long (c :: r) (by simp; omega))
      go_enter Tryz.func23, Tryz.ntmps23
      go_wp2_with fail
      go_ret
      exact ⟨ret_bool (unhide HF).symm, rfl⟩

end Go.Proofs.YtnbhpmncppohaaaGreatDoor.Mill
