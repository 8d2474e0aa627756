import Derived.Test.YtnbhpmncppohaaaGreatDoorMOper
import Derived.Lib.AtoiErrMem
namespace Go.Proofs.YtnbhpmncppohaaaGreatDoor.Mill
open Go.RowKit

/-- what the library's functions ask of the world: what three variables hold -/
structure Base (w : World) : Prop where
  len : ∃ m, w.cell? ⟨0, 0, none⟩ = some (.int .i64 m)
  syn : ∃ te pe, w.cell? ⟨3, 0, none⟩ = some (.iface te pe)
  rng : ∃ te pe, w.cell? ⟨4, 0, none⟩ = some (.iface te pe)
  low : 8 ≤ w.heap.size
theorem Base.below {w w' : World} {B : Nat} (h : Base w) (hb : Below B w w') (hB : 8 ≤ B) : Base w' := by
  obtain ⟨⟨m, h1⟩, ⟨t2, p2, h2⟩, ⟨t3, p3, h3⟩, h4⟩ := h
  have hs := hb.size
  exact ⟨⟨m, by rw [hb.cell (Nat.lt_of_lt_of_le (by decide) hB)]; exact h1⟩, ⟨t2, p2, by rw [hb.cell (Nat.lt_of_lt_of_le (by decide) hB)]; exact h2⟩, ⟨t3, p3, by rw [hb.cell (Nat.lt_of_lt_of_le (by decide) hB)]; exact h3⟩, by omega⟩
theorem Base.next {w w' : World} (h : Base w) (hb : Below w.heap.size w w') : Base w' := h.below hb h.low
/-- strconv.Atoi, at every text -/
theorem atoi_calls (d : List UInt8) (w : World) (hB : Base w) (hl : d.length ≤ 4294967296) :
    Calls Tryz.prog 88 #[S d] w fun e w' => ∃ n er, e = .returned (.tuple #[.int .i64 n, er]) ∧ Below w.heap.size w w' ∧ ((er = .nilIface ∧ Lib.atoiAll d = .ok n) ∨ ((∃ t p, er = .iface t p) ∧ ∀ v, Lib.atoiAll d ≠ .ok v)) := by
  obtain ⟨_, ⟨t2, p2, h2⟩, ⟨t3, p3, h3⟩, _⟩ := hB
  have hs : (⟨d.toArray⟩ : ByteArray).size ≤ 4294967296 := by simpa [ByteArray.size] using hl
  cases ha : Lib.atoiAll d with
  | ok v =>
    refine (Tryz.strconv_Atoi_ok ⟨d.toArray⟩ (by omega) v ha w).mono ?_
    rintro e w' ⟨rfl, h⟩
    refine ⟨v, .nilIface, rfl, ?_, .inl ⟨rfl, rfl⟩⟩
    rcases h with rfl | ⟨t, rfl⟩
    · exact Below.refl _ _
    · exact Lib.bytesWorld_below w _ t
  | «syntax» =>
    refine (Tryz.strconv_Atoi_syntax ⟨d.toArray⟩ (by omega) ha _ w h2 (.inr ⟨_, _, rfl⟩)).mono ?_
    rintro e w' ⟨N, rfl, _, _, hb⟩
    exact ⟨_, _, rfl, hb, .inr ⟨⟨_, _, rfl⟩, fun v => by simp⟩⟩
  | range =>
    refine (Tryz.strconv_Atoi_range ⟨d.toArray⟩ (by omega) ha _ w h3 (.inr ⟨_, _, rfl⟩)).mono ?_
    rintro e w' ⟨N, rfl, _, _, hb⟩
    exact ⟨_, _, rfl, hb, .inr ⟨⟨_, _, rfl⟩, fun v => by simp⟩⟩

theorem atoi_ok (d : List UInt8) (v : Int) (hv : Lib.atoiAll d = .ok v) (w : World) (hB : Base w) (hl : d.length ≤ 4294967296) :
    Calls Tryz.prog 88 #[S d] w fun e w' => e = .returned (.tuple #[.int .i64 v, .nilIface]) ∧ Below w.heap.size w w' := by
  refine (atoi_calls d w hB hl).mono ?_
  rintro e w' ⟨n, er, rfl, hb, ⟨rfl, h⟩ | ⟨_, h⟩⟩
  · rw [hv] at h
    obtain rfl : v = n := by simpa using h
    exact ⟨rfl, hb⟩
  · exact absurd hv (h v)
theorem atoi_bad (d : List UInt8) (hv : ∀ v, Lib.atoiAll d ≠ .ok v) (w : World) (hB : Base w) (hl : d.length ≤ 4294967296) :
    Calls Tryz.prog 88 #[S d] w fun e w' => ∃ n t p, e = .returned (.tuple #[.int .i64 n, .iface t p]) ∧ Below w.heap.size w w' := by
  refine (atoi_calls d w hB hl).mono ?_
  rintro e w' ⟨n, er, rfl, hb, ⟨rfl, h⟩ | ⟨⟨t, p, rfl⟩, h⟩⟩
  · exact absurd h (hv n)
  · exact ⟨n, t, p, rfl, hb⟩

abbrev dig (d : Nat) : UInt8 := UInt8.ofNat (48 + d)
theorem dd1 (n : Nat) (h : n < 10) : Lib.decDigits n = [dig n] := by unfold Lib.decDigits; rw [dif_pos h]
theorem dd2 (n : Nat) (h : 10 ≤ n) (h' : n < 100) : Lib.decDigits n = [dig (n / 10), dig (n % 10)] := by
  rw [Lib.decDigits, dif_neg (by omega), dd1 (n / 10) (by omega)]; rfl
theorem reg1 : ∀ n, n < 10 → regI [36, dig n] = n ∧ Lib.atoiAll [dig n] = .ok n := by decide
theorem reg2 : ∀ n, n < 32 → 10 ≤ n → regI [36, dig (n / 10), dig (n % 10)] = n ∧ Lib.atoiAll [dig (n / 10), dig (n % 10)] = .ok n := by decide
theorem reg_dec (n : Nat) (h : n ≤ 31) : regI (36 :: Lib.decDigits n) = n ∧ Lib.atoiAll (Lib.decDigits n) = .ok n := by
  by_cases h1 : n < 10
  · rw [dd1 n h1]; exact reg1 n h1
  · rw [dd2 n (by omega) (by omega)]; exact reg2 n (by omega) (by omega)
theorem dig_of (b : UInt8) (d : Nat) (h : digVal 10 b = some d) : b = dig d ∧ d < 10 := by
  unfold digVal at h
  split at h
  · rename_i hd
    simp [digitB, UInt8.le_iff_toNat_le] at hd
    simp only [Option.some.injEq] at h
    refine ⟨?_, by omega⟩
    rw [← UInt8.toNat_inj]
    simp only [dig, UInt8.toNat_ofNat']
    omega
  · simp at h
theorem digs10_1 (b : UInt8) (n : Nat) (h : digs 10 [b] 0 = some n) : b = dig n ∧ n < 10 := by
  simp only [digs] at h
  split at h
  · rename_i d hd
    simp only [Option.some.injEq] at h
    have := dig_of b d hd
    obtain rfl : d = n := by omega
    exact this
  · cases h
theorem digs10_2 (b c : UInt8) (n : Nat) (h : digs 10 [b, c] 0 = some n) : b = dig (n / 10) ∧ c = dig (n % 10) ∧ n < 100 := by
  simp only [digs] at h
  split at h
  · rename_i d hd
    split at h
    · rename_i e he
      simp only [Option.some.injEq] at h
      obtain ⟨h1, h2⟩ := dig_of b d hd
      obtain ⟨h3, h4⟩ := dig_of c e he
      have e1 : n / 10 = d := by omega
      have e2 : n % 10 = e := by omega
      rw [e1, e2]
      exact ⟨h1, h3, by omega⟩
    · cases h
  · cases h
/-- a register's text -/
theorem reg_text (o : List UInt8) (h : ¬ regI o < 0) : ∃ n : Nat, n ≤ 31 ∧ regI o = n ∧ o = 36 :: Lib.decDigits n := by
  have hs : regShape o = true := by
    cases hs : regShape o
    · exact absurd (by unfold regI; rw [hs]; simp) h
    · rfl
  unfold regI at h ⊢
  rw [hs] at h ⊢
  simp only [if_true] at h ⊢
  split at h
  · rename_i n hn
    split at h
    · omega
    · rename_i h31
      rw [if_neg h31]
      refine ⟨n, by omega, rfl, ?_⟩
      rcases o with _ | ⟨a, _ | ⟨b, _ | ⟨c, _ | ⟨d, r⟩⟩⟩⟩
      · cases hs
      · simp [regShape] at hs
      · rw [regShape2] at hs
        obtain rfl : a = 36 := by simpa using hs
        obtain ⟨h1, h2⟩ := digs10_1 b n hn
        rw [dd1 n h2, h1]
      · rw [regShape3] at hs
        simp only [Bool.and_eq_true, beq_iff_eq, Bool.not_eq_true', beq_eq_false_iff_ne] at hs
        obtain ⟨rfl, hb⟩ := hs
        obtain ⟨h1, h2, h3⟩ := digs10_2 b c n hn
        have h10 : 10 ≤ n := by
          by_cases h0 : n / 10 = 0
          · rw [h0] at h1; exact absurd h1 hb
          · omega
        rw [dd2 n h10 h3, h1, h2]
      · rw [regShape4] at hs; cases hs
  · omega

theorem dollar_has (l : List UInt8) : Lib.hasPrefix l [36] = (l[0]? == some 36) := by
  cases l with
  | nil => rfl
  | cons c r =>
    rw [Bool.eq_iff_iff]
    simp [Lib.hasPrefix, List.isPrefixOf]
    constructor <;> exact fun h => h.symm
theorem dollar_trim (l : List UInt8) : Lib.trimPrefix l [36] = if (l[0]? == some 36) then l.drop 1 else l := by
  unfold Lib.trimPrefix; rw [dollar_has]; rfl
theorem dollar_calls (l : List UInt8) (w : World) :
    Calls Tryz.prog 87 #[S l, .string { data := #[36] }] w fun e w' => e = .returned (.tuple #[S (if (l[0]? == some 36) then l.drop 1 else l), .bool (l[0]? == some 36)]) ∧ w' = w := by
  refine (Tryz.strings_CutPrefix ⟨l.toArray⟩ ⟨#[36]⟩ w).mono ?_
  rintro e w' ⟨rfl, rfl⟩
  refine ⟨?_, rfl⟩
  have h1 := dollar_has l
  have h2 := dollar_trim l
  simp only [h1, h2]

/-- what readRegister ends in -/
def regEnd (o : List UInt8) : Ending := if regI o < 0 then gives 3 else .returned (.int .i64 (regI o))

set_option maxHeartbeats 1000000 in
set_option maxRecDepth 100000 in
theorem readRegister_calls (o : List UInt8) (w : World) (hB : Base w) (hl : o.length ≤ 4294967296) :
    Calls Tryz.prog 79 #[S o] w fun e w' => e = regEnd o ∧ Below w.heap.size w w' := by
  by_cases hr : regI o < 0
  · have HE : Hid (regEnd o = gives 3) := by show _ = _; unfold regEnd; rw [if_pos hr]
    cases hf : (o[0]? == some 36)
    · have HC := hide (dollar_calls o)
      rw [hf] at HC
      simp only [Bool.false_eq_true, if_false] at HC
      have HA := hide (fun w h => atoi_calls o w h hl)
      have HB := hide hB
      clear hB hf hr
      go_enter Tryz.func79, Tryz.ntmps79
      go_wp2_with (first | (go_at_call 87; refine (unhide HC _).mono ?_; rintro e w1 ⟨rfl, rfl⟩) | (go_at_call 88; refine (unhide HA _ (unhide HB)).mono ?_; rintro e w2 ⟨n, er, rfl, hb, her⟩; replace her := hide her))
      exact ⟨rfl, (unhide HE).symm, hb⟩
    · have HC := hide (dollar_calls o)
      rw [hf] at HC
      simp only [if_true] at HC
      have ho : o = 36 :: o.drop 1 := by
        cases o with
        | nil => simp at hf
        | cons c r =>
          have : c = 36 := by simpa using hf
          rw [this]; rfl
      have HO := hide ho
      generalize hd : o.drop 1 = d at *
      have hdl : d.length ≤ 4294967296 := by rw [← hd]; simp; omega
      have HR := hide hr
      have HB := hide hB
      by_cases hv : ∃ v, Lib.atoiAll d = .ok v
      · obtain ⟨n, hv⟩ := hv
        have HA := hide (fun w h => atoi_ok d n hv w h hdl)
        have hb2 := Lib.atoiAll_bounds hv
        clear hB hf hr ho hd hdl hv
        by_cases h0 : n < 0
        · go_enter Tryz.func79, Tryz.ntmps79
          go_wp2_with (first | (go_at_call 87; refine (unhide HC _).mono ?_; rintro e w1 ⟨rfl, rfl⟩) | (go_at_call 88; refine (unhide HA _ (unhide HB)).mono ?_; rintro e w2 ⟨rfl, hb⟩))
          exact ⟨rfl, (unhide HE).symm, hb⟩
        · by_cases h31 : 31 < n
          · go_enter Tryz.func79, Tryz.ntmps79
            go_wp2_with (first | (go_at_call 87; refine (unhide HC _).mono ?_; rintro e w1 ⟨rfl, rfl⟩) | (go_at_call 88; refine (unhide HA _ (unhide HB)).mono ?_; rintro e w2 ⟨rfl, hb⟩))
            exact ⟨rfl, (unhide HE).symm, hb⟩
          · obtain ⟨v, rfl⟩ := Int.eq_ofNat_of_zero_le (Int.not_lt.1 h0)
            have hne : (Lib.decDigits v == d) = false := by
              rw [beq_eq_false_iff_ne]
              intro e
              have h1 := (reg_dec v (by omega)).1
              rw [e, ← unhide HO] at h1
              have := unhide HR
              omega
            generalize hdd : Lib.decDigits v = dd at *
            have HI : Hid (∀ w, Calls Tryz.prog 89 #[.int .i64 v] w fun e w' => e = .returned (S dd) ∧ w' = w) := by rw [← hdd]; exact Tryz.strconv_Itoa_small v (by omega)
            clear hdd
            go_enter Tryz.func79, Tryz.ntmps79
            go_wp2_with (first | (go_at_call 87; refine (unhide HC _).mono ?_; rintro e w1 ⟨rfl, rfl⟩) | (go_at_call 88; refine (unhide HA _ (unhide HB)).mono ?_; rintro e w2 ⟨rfl, hb⟩) | (go_at_call 89; refine (unhide HI _).mono ?_; rintro e w3 ⟨rfl, rfl⟩))
            exact ⟨rfl, (unhide HE).symm, hb⟩
      · have HA := hide (fun w h => atoi_bad d (fun v h => hv ⟨v, h⟩) w h hdl)
        clear hB hf hr ho hd hdl hv
        go_enter Tryz.func79, Tryz.ntmps79
        go_wp2_with (first | (go_at_call 87; refine (unhide HC _).mono ?_; rintro e w1 ⟨rfl, rfl⟩) | (go_at_call 88; refine (unhide HA _ (unhide HB)).mono ?_; rintro e w2 ⟨n, t, p, rfl, hb⟩))
        exact ⟨rfl, (unhide HE).symm, hb⟩
  · obtain ⟨n, hn, hrn, ho⟩ := reg_text o hr
    have HE : Hid (regEnd o = .returned (.int .i64 n)) := by show _ = _; unfold regEnd; rw [if_neg hr, hrn]
    subst ho
    obtain ⟨_, hok⟩ := reg_dec n hn
    have HC : Hid (∀ w, Calls Tryz.prog 87 #[S (36 :: Lib.decDigits n), .string { data := #[36] }] w fun e w' => e = .returned (.tuple #[S (Lib.decDigits n), .bool true]) ∧ w' = w) := dollar_calls (36 :: Lib.decDigits n)
    have hdl : (Lib.decDigits n).length ≤ 4294967296 := by simp at hl; omega
    have HA := hide (fun w h => atoi_ok (Lib.decDigits n) n hok w h hdl)
    have HB := hide hB
    have HI : Hid (∀ w, Calls Tryz.prog 89 #[.int .i64 n] w fun e w' => e = .returned (S (Lib.decDigits n)) ∧ w' = w) := Tryz.strconv_Itoa_small n (by omega)
    clear hB hr hdl hok hrn hl
    generalize Lib.decDigits n = d at *
    have heq : (d == d) = true := by simp
    go_enter Tryz.func79, Tryz.ntmps79
    go_wp2_with (first | (go_at_call 87; refine (unhide HC _).mono ?_; rintro e w1 ⟨rfl, rfl⟩) | (go_at_call 88; refine (unhide HA _ (unhide HB)).mono ?_; rintro e w2 ⟨rfl, hb⟩) | (go_at_call 89; refine (unhide HI _).mono ?_; rintro e w3 ⟨rfl, rfl⟩))
    go_ret
    exact ⟨(unhide HE).symm, hb⟩
end Go.Proofs.YtnbhpmncppohaaaGreatDoor.Mill
