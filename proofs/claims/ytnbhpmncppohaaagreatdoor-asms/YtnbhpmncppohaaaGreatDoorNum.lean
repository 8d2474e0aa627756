import Derived.Test.YtnbhpmncppohaaaGreatDoorLeaf
namespace Go.Proofs.YtnbhpmncppohaaaGreatDoor.Mill
open Go.RowKit

theorem ret2_eq {a b : Int} {x y : Bool} (h : a = b) (g : x = y) : Ending.returned (.tuple #[.int .i64 a, .bool x]) = .returned (.tuple #[.int .i64 b, .bool y]) := by rw [h, g]
theorem val_bool {a b : Bool} (h : a = b) : Value.bool a = .bool b := by rw [h]
theorem byte_eq (c d : UInt8) (n : Int) (h : n = (d.toNat : Int)) : ((c.toNat : Int) == n) = (c == d) := by
  subst h
  rw [Bool.eq_iff_iff]
  simp [← UInt8.toNat_inj]
  omega
theorem strip_le (l : List UInt8) : (strip l).length ≤ l.length := by unfold strip; split <;> simp
theorem hexP_short (q : List UInt8) (h : q.length ≤ 2) : hexP q = false := by
  have : decide (2 < q.length) = false := by simp; omega
  simp [hexP, this]
theorem hexP_long (a b c : UInt8) (r : List UInt8) : hexP (a :: b :: c :: r) = (a == 48 && b == 120) := by
  have : decide (2 < (a :: b :: c :: r).length) = true := by simp
  simp only [hexP, this]
  rw [Bool.eq_iff_iff]; simp

/-- which base, and which digits -/
def baseOf (q : List UInt8) : Nat := if hexP q then 16 else 10
def restOf (q : List UInt8) : List UInt8 := if hexP q then q.drop 2 else q
theorem unsigned_eq (q : List UInt8) : unsigned q = digsL (baseOf q) (restOf q) := by
  unfold unsigned baseOf restOf; split <;> rfl
theorem restOf_le (q : List UInt8) : (restOf q).length ≤ q.length := by unfold restOf; split <;> simp
theorem pow_le (v k : Nat) (h : v < 16 ^ k) (hk : k ≤ 8) : v < 4294967296 := by
  have h8 : 16 ^ k ≤ 16 ^ 8 := Nat.pow_le_pow_right (by omega) hk
  have e : (16 : Nat) ^ 8 = 4294967296 := by decide
  omega
theorem digs_step (base k v d : Nat) (m : List UInt8) (hk : k < m.length) (h : digVal base m[k] = some d) (hv : digs base m 0 = digs base (m.drop k) v) :
    digs base m 0 = digs base (m.drop (k + 1)) (base * v + d) := by
  rw [hv, List.drop_eq_getElem_cons hk]
  simp [digs, h]
theorem digs_bad (base k v : Nat) (m : List UInt8) (hk : k < m.length) (h : digVal base m[k] = none) (hv : digs base m 0 = digs base (m.drop k) v) :
    digs base m 0 = none := by
  rw [hv, List.drop_eq_getElem_cons hk]
  simp [digs, h]
theorem digVal_digit (base : Nat) (c : UInt8) (h : digitB c = true) : digVal base c = some (c.toNat - 48) ∧ 48 ≤ c.toNat ∧ c.toNat ≤ 57 := by
  refine ⟨by simp [digVal, h], ?_⟩
  simpa [digitB, UInt8.le_iff_toNat_le] using h
theorem digVal_hex (base : Nat) (c : UInt8) (h : digitB c = false) (hb : base = 16) (h1 : 97 ≤ c.toNat) (h2 : c.toNat ≤ 102) : digVal base c = some (c.toNat - 87) := by
  have : (97 ≤ c && c ≤ 102) = true := by simp [UInt8.le_iff_toNat_le]; omega
  simp only [digVal, h, hb, this]; rfl
theorem digVal_none (base : Nat) (c : UInt8) (h : digitB c = false) (hb : base = 16 → c.toNat < 97 ∨ 102 < c.toNat) : digVal base c = none := by
  have : (base == 16 && (97 ≤ c && c ≤ 102)) = false := by
    rw [Bool.eq_false_iff]; simp [UInt8.le_iff_toNat_le]; omega
  simp [digVal, h, this]

theorem pow_step (b0 v k d : Nat) (hb : b0 = 10 ∨ b0 = 16) (h : v < 16 ^ k) (hd : d ≤ 15) : b0 * v + d < 16 ^ (k + 1) := by
  rw [Nat.pow_succ]
  rcases hb with rfl | rfl <;> omega

set_option maxHeartbeats 1000000 in
set_option maxRecDepth 100000 in
theorem number_calls (l : List UInt8) (w : World) (hl : l.length ≤ 4294967296) :
    Calls Tryz.prog 25 #[S l] w fun e w' => e = .returned (.tuple #[.int .i64 (numVal l), .bool (numOk l)]) ∧ w' = w := by
  have HU := hide (unsigned_eq (strip l))
  have HL := hide (restOf_le (strip l))
  have HS := hide (strip_le l)
  go_enter Tryz.func25, Tryz.ntmps25
  go_upto_region 1 with fail
  go_cut [4] (fun m w' => m = .bool (negB l) ∧ w' = w)
  case first =>
    cases l with
    | nil =>
      go_wp2
      go_meet
      case rel => exact ⟨rfl, rfl⟩
    | cons c r =>
      go_wp2
      all_goals go_meet
      case rel => exact ⟨val_bool (by rw [at0, byte_eq c 45 45 rfl]; simp [negB]), rfl⟩
  case rest =>
    obtain ⟨rfl, rfl⟩ := hcut
    go_upto_if 17 with fail
    go_cut [0, 4] (fun v m w' => v = S (strip l) ∧ m = .bool (negB l) ∧ w' = wc)
    case first =>
      cases hn : negB l
      · have HE : Hid (strip l = l) := by unfold strip; rw [hn]; rfl
        go_wp2
        go_meet
        case rel => exact ⟨by rw [unhide HE], by rw [hn], rfl⟩
      · cases l with
        | nil => cases hn
        | cons c r =>
          have HE : Hid (strip (c :: r) = r) := by unfold strip; rw [hn]; rfl
          go_wp2
          go_meet
          case rel =>
            refine ⟨?_, by rw [hn], rfl⟩
            rw [unhide HE]
            exact str_eq (ext_end (c :: r) 1)
    case rest =>
      obtain ⟨rfl, rfl, rfl⟩ := hcut
      generalize hq : strip l = q at *
      have HQ := hide hq
      clear hq
      have hql : q.length ≤ 4294967296 := by have := unhide HS; omega
      go_upto_region 6 with fail
      go_cut [32] (fun m w' => m = .bool (hexP q) ∧ w' = wc)
      case first =>
        rcases q with _ | ⟨a, _ | ⟨b, _ | ⟨c, r⟩⟩⟩
        · have HX := hide (hexP_short [] (by simp))
          go_wp2
          go_meet
          case rel => exact ⟨by rw [unhide HX], rfl⟩
        · have HX := hide (hexP_short [a] (by simp))
          go_wp2
          go_meet
          case rel => exact ⟨by rw [unhide HX], rfl⟩
        · have HX := hide (hexP_short [a, b] (by simp))
          go_wp2
          go_meet
          case rel => exact ⟨by rw [unhide HX], rfl⟩
        · have HX := hide (hexP_long a b c r)
          have h1 : ((⟨(a :: b :: c :: r).toArray⟩ : ByteArray)[0]'(by simp [ByteArray.size])) = a := rfl
          have h2 : ((⟨(a :: b :: c :: r).toArray⟩ : ByteArray)[1]'(by simp [ByteArray.size])) = b := rfl
          have ha := byte_eq a 48 48 rfl
          have hb := byte_eq b 120 120 rfl
          cases hca : (a == 48)
          · rw [hca] at ha
            have HA := hide hca
            clear hca hb
            go_wp2
            go_meet
            case rel => exact ⟨by rw [unhide HX, unhide HA]; rfl, rfl⟩
          · rw [hca] at ha
            have HA := hide hca
            clear hca
            cases hcb : (b == 120)
            all_goals
              rw [hcb] at hb
              have HC := hide hcb
              clear hcb
              go_wp2
              go_meet
              case rel => exact ⟨by rw [unhide HX, unhide HA, unhide HC]; rfl, rfl⟩
      case rest =>
        obtain ⟨rfl, rfl⟩ := hcut
        go_upto_if 32 with fail
        go_cut [0, 6] (fun v b w' => v = S (restOf q) ∧ b = .int .i64 (baseOf q) ∧ w' = wc)
        case first =>
          cases hx : hexP q
          · have HE : Hid (restOf q = q ∧ baseOf q = 10) := by unfold restOf baseOf; rw [hx]; exact ⟨rfl, rfl⟩
            go_wp2
            go_meet
            case rel => rw [(unhide HE).1, (unhide HE).2]; exact ⟨rfl, rfl, rfl⟩
          · have HE : Hid (restOf q = q.drop 2 ∧ baseOf q = 16) := by unfold restOf baseOf; rw [hx]; exact ⟨rfl, rfl⟩
            have h2 : 2 < q.length := by
              have : decide (2 < q.length) = true := by
                cases h : decide (2 < q.length)
                · simp [hexP, h] at hx
                · rfl
              simpa using this
            go_wp2
            go_meet
            case rel =>
              rw [(unhide HE).1, (unhide HE).2]
              exact ⟨str_eq (ext_end q 2), rfl, rfl⟩
        case rest =>
          obtain ⟨rfl, rfl, rfl⟩ := hcut
          have HBB : Hid (baseOf q = 10 ∨ baseOf q = 16) := by
            show baseOf q = 10 ∨ baseOf q = 16
            unfold baseOf; split <;> simp
          generalize hm : restOf q = m at *
          generalize hb : baseOf q = base at *
          have HM := hide hm
          have HB := hide hb
          clear hm hb
          have hml : m.length ≤ 4294967296 := by have := unhide HL; omega
          have HN : Hid (numVal l = (match digsL base m with | some n => if negB l then -(n : Int) else n | none => 0) ∧ numOk l = (digsL base m).isSome) := by
            show _ ∧ _
            rw [← unhide HU, ← unhide HQ]
            exact ⟨rfl, rfl⟩
          clear HU HS HL HQ HM HB
          by_cases hm0 : m.length = 0
          · have h0 : ((m.length : Int) == 0) = true := by rw [beq_iff_eq]; omega
            have HV : Hid (digsL base m = none) := by show digsL base m = none; unfold digsL; rw [if_pos (.inl hm0)]
            have H0 := hide hm0
            clear hm0
            go_wp2
            go_ret2
            exact ⟨ret2_eq (by rw [(unhide HN).1, unhide HV]) (by rw [(unhide HN).2, unhide HV]; rfl), rfl⟩
          have h0 : ((m.length : Int) == 0) = false := by rw [beq_eq_false_iff_ne]; omega
          by_cases hm8 : 8 < m.length
          · have h8 : decide (8 < (m.length : Int)) = true := by simp; omega
            have HV : Hid (digsL base m = none) := by show digsL base m = none; unfold digsL; rw [if_pos (.inr hm8)]
            go_wp2
            go_ret2
            exact ⟨ret2_eq (by rw [(unhide HN).1, unhide HV]) (by rw [(unhide HN).2, unhide HV]; rfl), rfl⟩
          have h8 : decide (8 < (m.length : Int)) = false := by simp; omega
          have HV : Hid (digsL base m = digs base m 0) := by show digsL base m = _; unfold digsL; rw [if_neg (by omega)]
          obtain ⟨b0, hb0⟩ : ∃ b0, b0 = base := ⟨_, rfl⟩
          have HB0 := hide hb0
          rw [← hb0] at HV HN
          clear hb0
          have HZ : Hid (digs b0 m 0 = digs b0 (m.drop 0) 0) := by show _ = _; rw [List.drop_zero]
          rcases unhide HBB with rfl | rfl
          all_goals
            clear HBB
            go_wp2
            go_loopg [5, 7] m.length (fun g n i wx => wc = wx ∧ ∃ k v : Nat, k ≤ m.length ∧ g = m.length - k ∧ i = .int .i64 k ∧ n = .int .i64 v ∧ Hid (v < 16 ^ k) ∧ Hid (digs b0 m 0 = digs b0 (m.drop k) v))
            case atStart => exact ⟨rfl, 0, 0, by omega, rfl, rfl, rfl, (by decide : 0 < 16 ^ 0), HZ⟩
            case round =>
              obtain ⟨rfl, k, v, hk, rfl, rfl, rfl, hv, hd⟩ := hrel
              have hv' : v < 4294967296 := pow_le v k (unhide hv) (by omega)
              by_cases hlt : k < m.length
              · have HX : Hid (m[k] = (⟨m.toArray⟩ : ByteArray)[k]'(by simpa [ByteArray.size] using hlt)) := rfl
                generalize hxe : (⟨m.toArray⟩ : ByteArray)[k]'(by simpa [ByteArray.size] using hlt) = x at HX
                have HXE := hide hxe
                clear hxe
                cases h1 : digitB x
                · by_cases hx2 : b0 = 16 ∧ 97 ≤ x.toNat ∧ x.toNat ≤ 102
                  · obtain ⟨hb16, hx3, hx4⟩ := hx2
                    have HB0' := unhide HB0
                    first
                      | (exfalso; omega)
                      | (clear HB0'
                         have HS2 := hide (digs_step b0 k v (x.toNat - 87) m hlt (by rw [unhide HX]; exact digVal_hex b0 x h1 hb16 hx3 hx4) (unhide hd))
                         have HP2 := hide (pow_step b0 v k (x.toNat - 87) (.inr hb16) (unhide hv) (by omega))
                         clear hb16
                         go_wp2_with (go_at_call 38; rw [unhide HXE]; refine (digit_calls x _).mono ?_; rintro e w' ⟨rfl, rfl⟩)
                         go_roundg (m.length - (k + 1))
                         case measure => omega
                         case rel => exact ⟨rfl, k + 1, b0 * v + (x.toNat - 87), by omega, rfl, by go_num, by rw [unhide HB0]; go_num, HP2, HS2⟩)
                  · have HS2 := hide (digs_bad b0 k v m hlt (by rw [unhide HX]; exact digVal_none b0 x h1 (fun e => by omega)) (unhide hd))
                    have HX2 := hide hx2
                    clear hx2
                    by_cases h97 : 97 ≤ x.toNat
                    · by_cases h102 : x.toNat ≤ 102
                      · have hne : ¬ b0 = 16 := fun e => unhide HX2 ⟨e, h97, h102⟩
                        have HB0' := unhide HB0
                        first
                          | (exfalso; omega)
                          | (clear HB0' hne
                             go_wp2_with (go_at_call 38; rw [unhide HXE]; refine (digit_calls x _).mono ?_; rintro e w' ⟨rfl, rfl⟩)
                             go_ret2
                             exact ⟨ret2_eq (by rw [(unhide HN).1, unhide HV, unhide HS2]) (by rw [(unhide HN).2, unhide HV, unhide HS2]; rfl), rfl⟩)
                      · go_wp2_with (go_at_call 38; rw [unhide HXE]; refine (digit_calls x _).mono ?_; rintro e w' ⟨rfl, rfl⟩)
                        go_ret2
                        exact ⟨ret2_eq (by rw [(unhide HN).1, unhide HV, unhide HS2]) (by rw [(unhide HN).2, unhide HV, unhide HS2]; rfl), rfl⟩
                    · go_wp2_with (go_at_call 38; rw [unhide HXE]; refine (digit_calls x _).mono ?_; rintro e w' ⟨rfl, rfl⟩)
                      go_ret2
                      exact ⟨ret2_eq (by rw [(unhide HN).1, unhide HV, unhide HS2]) (by rw [(unhide HN).2, unhide HV, unhide HS2]; rfl), rfl⟩
                · obtain ⟨hdv, h48, h57⟩ := digVal_digit b0 x h1
                  have HS2 := hide (digs_step b0 k v (x.toNat - 48) m hlt (by rw [unhide HX]; exact hdv) (unhide hd))
                  have HP2 := hide (pow_step b0 v k (x.toNat - 48) (by have := unhide HB0; omega) (unhide hv) (by omega))
                  clear hdv
                  go_wp2_with (go_at_call 38; rw [unhide HXE]; refine (digit_calls x _).mono ?_; rintro e w' ⟨rfl, rfl⟩)
                  go_roundg (m.length - (k + 1))
                  case measure => omega
                  case rel => exact ⟨rfl, k + 1, b0 * v + (x.toNat - 48), by omega, rfl, by go_num, by rw [unhide HB0]; go_num, HP2, HS2⟩
              · have HE : Hid (digs b0 m 0 = some v) := by
                  show _ = _
                  rw [unhide hd, List.drop_eq_nil_of_le (by omega)]; rfl
                cases hn : negB l
                · go_wp2
                  go_ret2
                  exact ⟨ret2_eq (by rw [(unhide HN).1, unhide HV, unhide HE, hn]; rfl) (by rw [(unhide HN).2, unhide HV, unhide HE]; rfl), rfl⟩
                · go_wp2
                  go_ret2
                  exact ⟨ret2_eq (by rw [(unhide HN).1, unhide HV, unhide HE, hn]; rfl) (by rw [(unhide HN).2, unhide HV, unhide HE]; rfl), rfl⟩
end Go.Proofs.YtnbhpmncppohaaaGreatDoor.Mill
