import Derived.Test.YtnbhpmncppohaaaGreatDoorNum
namespace Go.Proofs.YtnbhpmncppohaaaGreatDoor.Mill
open Go.RowKit

def regShape (l : List UInt8) : Bool := decide (2 ≤ l.length ∧ l.length ≤ 3) && l[0]? == some 36 && !(l.length == 3 && l[1]? == some 48)
/-- a register's number; -1: it is none -/
def regI (l : List UInt8) : Int := if regShape l then (match digs 10 (l.drop 1) 0 with
  | some n => if 31 < n then -1 else n
  | none => -1) else -1

theorem ret_int {a b : Int} (h : a = b) : Ending.returned (.int .i64 a) = .returned (.int .i64 b) := by rw [h]
theorem regShape_len (l : List UInt8) (h : regShape l = true) : 2 ≤ l.length ∧ l.length ≤ 3 := by
  cases hd : decide (2 ≤ l.length ∧ l.length ≤ 3)
  · simp [regShape, hd] at h
  · simpa using hd

theorem regShape2 (a b : UInt8) : regShape [a, b] = (a == 36) := by simp [regShape]
theorem regShape3 (a b c : UInt8) : regShape [a, b, c] = (a == 36 && !(b == 48)) := by
  simp [regShape]
theorem regShape4 (a b c d : UInt8) (r : List UInt8) : regShape (a :: b :: c :: d :: r) = false := by
  simp [regShape]

set_option maxHeartbeats 1000000 in
set_option maxRecDepth 100000 in
theorem register_calls (l : List UInt8) (w : World) (hl : l.length ≤ 4294967296) :
    Calls Tryz.prog 40 #[S l] w fun e w' => e = .returned (.int .i64 (regI l)) ∧ w' = w := by
  go_enter Tryz.func40, Tryz.ntmps40
  go_upto_region 1 with fail
  go_cut [27] (fun m w' => m = .bool (!regShape l) ∧ w' = w)
  case first =>
    rcases l with _ | ⟨a, _ | ⟨b, _ | ⟨c, _ | ⟨d, r⟩⟩⟩⟩
    · go_wp2
      go_meet
      case rel => exact ⟨rfl, rfl⟩
    · go_wp2
      go_meet
      case rel => exact ⟨rfl, rfl⟩
    · have HX := hide (regShape2 a b)
      have h1 : ((⟨[a, b].toArray⟩ : ByteArray)[0]'(by simp [ByteArray.size])) = a := rfl
      have ha := byte_eq a 36 36 rfl
      cases hca : (a == 36)
      all_goals
        rw [hca] at ha
        have ha' : (((a.toNat : Int)) != 36) = _ := congrArg not ha
        have HA := hide hca
        clear hca
        go_wp2
        go_meet
        case rel => exact ⟨by rw [unhide HX, unhide HA]; rfl, rfl⟩
    · have HX := hide (regShape3 a b c)
      have h1 : ((⟨[a, b, c].toArray⟩ : ByteArray)[0]'(by simp [ByteArray.size])) = a := rfl
      have h2 : ((⟨[a, b, c].toArray⟩ : ByteArray)[1]'(by simp [ByteArray.size])) = b := rfl
      have ha := byte_eq a 36 36 rfl
      have hb := byte_eq b 48 48 rfl
      cases hca : (a == 36)
      all_goals cases hcb : (b == 48)
      all_goals
        rw [hca] at ha
        rw [hcb] at hb
        have ha' : (((a.toNat : Int)) != 36) = _ := congrArg not ha
        have HA := hide hca
        have HB := hide hcb
        clear hca hcb
        go_wp2
        go_meet
        case rel => exact ⟨by rw [unhide HX, unhide HA, unhide HB]; rfl, rfl⟩
    · have HX := hide (regShape4 a b c d r)
      go_wp2
      go_meet
      case rel => exact ⟨by rw [unhide HX]; rfl, rfl⟩
  case rest =>
    obtain ⟨rfl, rfl⟩ := hcut
    cases hs : regShape l
    · have HE : Hid (regI l = -1) := by show regI l = -1; unfold regI; rw [hs]; rfl
      go_wp2
      go_ret
      exact ⟨ret_int (unhide HE).symm, rfl⟩
    · have HE : Hid (regI l = match digs 10 (l.drop 1) 0 with | some n => if 31 < n then -1 else (n : Int) | none => -1) := by show regI l = _; unfold regI; rw [hs]; rfl
      obtain ⟨hl2, hl3⟩ := regShape_len l hs
      obtain ⟨b0, hb0⟩ : ∃ b0, b0 = 10 := ⟨_, rfl⟩
      rw [← hb0] at HE
      have HB0 := hide hb0
      clear hb0
      go_wp2
      go_loopg [3, 4] (l.length - 1) (fun g n i wx => wc = wx ∧ ∃ k v : Nat, 1 ≤ k ∧ k ≤ l.length ∧ g = l.length - k ∧ i = .int .i64 k ∧ n = .int .i64 v ∧ Hid (v < 16 ^ k) ∧ Hid (digs b0 (l.drop 1) 0 = digs b0 (l.drop k) v))
      case atStart => exact ⟨rfl, 1, 0, by omega, by omega, rfl, rfl, rfl, (by decide : 0 < 16 ^ 1), rfl⟩
      case round =>
        obtain ⟨rfl, k, v, hk1, hk, rfl, rfl, rfl, hv, hd⟩ := hrel
        have hv' : v < 4294967296 := pow_le v k (unhide hv) (by omega)
        by_cases hlt : k < l.length
        · have HX : Hid (l[k] = (⟨l.toArray⟩ : ByteArray)[k]'(by simpa [ByteArray.size] using hlt)) := rfl
          have HD : Hid ((l.drop k) = l[k] :: l.drop (k + 1)) := List.drop_eq_getElem_cons hlt
          generalize hxe : (⟨l.toArray⟩ : ByteArray)[k]'(by simpa [ByteArray.size] using hlt) = x at HX
          have HD' : Hid ((l.drop k) = x :: l.drop (k + 1)) := by show _ = _; rw [unhide HD, unhide HX]
          cases h1 : digitB x
          · have HE2 : Hid (regI l = -1) := by
              show _ = _
              rw [unhide HE, unhide hd, unhide HD']
              simp [digs, digVal_none b0 x h1 (fun e => by have := unhide HB0; omega)]
            go_wp2_with (go_at_call 38; refine (digit_calls x _).mono ?_; rintro e w' ⟨rfl, rfl⟩)
            go_ret
            exact ⟨ret_int (unhide HE2).symm, rfl⟩
          · obtain ⟨hdv, h48, h57⟩ := digVal_digit b0 x h1
            have HS2 : Hid (digs b0 (l.drop 1) 0 = digs b0 (l.drop (k + 1)) (b0 * v + (x.toNat - 48))) := by
              show _ = _
              rw [unhide hd, unhide HD']
              simp [digs, hdv]
            have HP2 := hide (pow_step b0 v k (x.toNat - 48) (.inl (unhide HB0)) (unhide hv) (by omega))
            clear hdv
            go_wp2_with (go_at_call 38; refine (digit_calls x _).mono ?_; rintro e w' ⟨rfl, rfl⟩)
            go_roundg (l.length - (k + 1))
            case measure => omega
            case rel => exact ⟨rfl, k + 1, b0 * v + (x.toNat - 48), by omega, by omega, rfl, by go_num, by rw [unhide HB0]; go_num, HP2, HS2⟩
        · have HE2 : Hid (regI l = if 31 < v then -1 else (v : Int)) := by
            show _ = _
            rw [unhide HE, unhide hd, List.drop_eq_nil_of_le (by omega)]; rfl
          by_cases hv31 : 31 < v
          · have HE3 : Hid (regI l = -1) := by show _ = _; rw [unhide HE2, if_pos hv31]
            go_wp2
            go_ret
            exact ⟨ret_int (unhide HE3).symm, rfl⟩
          · have HE3 : Hid (regI l = v) := by show _ = _; rw [unhide HE2, if_neg hv31]
            go_wp2
            go_ret
            exact ⟨ret_int (unhide HE3).symm, rfl⟩

/-- the operands' letters -/
def opsOf (shape : UInt8) : List UInt8 :=
  if shape == 114 then [100, 115, 116] else if shape == 115 then [100, 116, 110] else if shape == 118 then [100, 116, 115]
  else if shape == 106 then [115] else if shape == 108 then [100, 115] else if shape == 120 then [] else if shape == 104 then [116, 110]
  else if shape == 109 then [116, 109] else if shape == 98 then [115, 116, 108] else if shape == 122 then [115, 108] else if shape == 121 then [115, 108]
  else if shape == 116 then [108] else [116, 115, 110]

def shapes : List UInt8 := [114, 115, 118, 106, 108, 120, 105, 117, 104, 109, 98, 122, 121, 116]

set_option maxHeartbeats 1000000 in
set_option maxRecDepth 100000 in
theorem operands_calls (s : UInt8) (hs : s ∈ shapes) (w : World) :
    Calls Tryz.prog 39 #[B s] w fun e w' => e = .returned (S (opsOf s)) ∧ w' = w := by
  simp only [shapes, List.mem_cons, List.mem_nil_iff, or_false] at hs
  rcases hs with rfl | rfl | rfl | rfl | rfl | rfl | rfl | rfl | rfl | rfl | rfl | rfl | rfl | rfl
  all_goals
    go_enter Tryz.func39, Tryz.ntmps39
    go_wp2
    go_ret
    exact ⟨rfl, rfl⟩

def withinB (shape : UInt8) (n : Int) : Bool :=
  if shape == 115 then decide (0 ≤ n ∧ n ≤ 31) else if shape == 117 || shape == 104 then decide (0 ≤ n ∧ n ≤ 65535) else decide (-32768 ≤ n ∧ n ≤ 32767)

set_option maxHeartbeats 1000000 in
set_option maxRecDepth 100000 in
theorem within_calls (s : UInt8) (hs : s ∈ shapes) (n : Int) (w : World) :
    Calls Tryz.prog 41 #[B s, .int .i64 n] w fun e w' => e = .returned (.bool (withinB s n)) ∧ w' = w := by
  simp only [shapes, List.mem_cons, List.mem_nil_iff, or_false] at hs
  rcases hs with rfl | rfl | rfl | rfl | rfl | rfl | rfl | rfl | rfl | rfl | rfl | rfl | rfl | rfl
  all_goals
    go_enter Tryz.func41, Tryz.ntmps41
    go_wp2
    all_goals go_ret
    all_goals exact ⟨ret_bool (by simp [withinB]; try omega), rfl⟩
end Go.Proofs.YtnbhpmncppohaaaGreatDoor.Mill
