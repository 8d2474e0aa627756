import Derived.Test.YtnbhpmncppohaaaGreatDoorMCut
import Derived.Laws.RangeAny
import Derived.Laws.Runes
import Derived.WalkMore
import Derived.Deep.RegionWith
import Derived.Lib.IndexAny
import Derived.Lib.OthersKept
namespace Go.Proofs.YtnbhpmncppohaaaGreatDoor.Mill
open Go.RowKit

set_option maxHeartbeats 1000000 in
set_option maxRecDepth 100000 in
theorem rune_bad (r : Int) (w : World) (h0 : 128 ≤ r) (h1 : r ≤ 2147483647) (h2 : r ≠ 65533) (hv : Lib.validRune r = false) :
    Calls Tryz.prog 76 #[.string { data := #[32, 9] }, .int .i32 r] w fun e w' => e = .returned (.int .i64 (-1)) ∧ Below w.heap.size w w' := by
  have hne : (r == 65533) = false := by simpa using h2
  clear h2
  go_enter Tryz.func76, Tryz.ntmps76
  go_wp2_with (go_at_call 86; refine (Tryz.utf8_ValidRune r _).mono ?_; rintro e w1 ⟨rfl, rfl⟩; rw [hv])
  go_ret
  exact ⟨rfl, Below.refl _ _⟩

theorem below_iter (w : World) (s : ByteArray) (p : Nat) : Below w.heap.size w (w.iter s p) := (Below.refl _ _).alloc (Nat.le_refl _) _

set_option maxHeartbeats 1000000 in
set_option maxRecDepth 100000 in
theorem rune_err (w : World) :
    Calls Tryz.prog 76 #[.string { data := #[32, 9] }, .int .i32 65533] w fun e w' => e = .returned (.int .i64 (-1)) ∧ Below w.heap.size w w' := by
  obtain ⟨s, hs⟩ : ∃ s : ByteArray, s = { data := #[32, 9] } := ⟨_, rfl⟩
  have n0 := fun ty => run_next_ascii (P := Tryz.prog) w { data := #[32, 9] } 0 ty (by decide) (by decide)
  have n1 := fun ty => run_next_ascii (P := Tryz.prog) w { data := #[32, 9] } 1 ty (by decide) (by decide)
  have n2 := fun ty => run_next_end (P := Tryz.prog) w { data := #[32, 9] } 2 ty (by decide)
  go_enter Tryz.func76, Tryz.ntmps76
  go_wp2_with fail
  go_loopg [5, 6] 2 (fun g _ _ wx => ∃ i : Nat, i + g = 2 ∧ wx = w.iter { data := #[32, 9] } i)
  case atStart => exact ⟨0, by omega, rfl⟩
  case round =>
    obtain ⟨i, hig, rfl⟩ := hrel
    obtain rfl | rfl | rfl : i = 0 ∨ i = 1 ∨ i = 2 := by omega
    · go_wp2_with fail
      go_roundg 1
      case measure => omega
      case rel => exact ⟨1, by omega, rfl⟩
    · go_wp2_with fail
      go_roundg 0
      case measure => omega
      case rel => exact ⟨2, by omega, rfl⟩
    · go_wp2_with fail
      go_ret
      exact ⟨rfl, below_iter w _ _⟩
set_option maxHeartbeats 1000000 in
set_option maxRecDepth 100000 in
theorem rune_good (r : Int) (w : World) (h0 : 128 ≤ r) (h1 : r ≤ 2147483647) (h2 : r ≠ 65533) (hv : Lib.validRune r = true) :
    Calls Tryz.prog 76 #[.string { data := #[32, 9] }, .int .i32 r] w fun e w' => e = .returned (.int .i64 (-1)) ∧ Below w.heap.size w w' := by
  have hne : (r == 65533) = false := by simpa using h2
  have hf := encode_facts r (by rw [validRune_eq]; exact hv) h0
  have hcv : ∀ w, (convert 21 9 (.int .i32 r)).run Tryz.prog w = .ok (.string (Utf8.encode r)) w := fun w => run_convert_int_string w _ _ _ _ (by kernel_rfl) (by kernel_rfl)
  generalize Utf8.encode r = E at *
  obtain ⟨hf1, hf2, hf3⟩ := hf
  have hlast := hf3 (by omega)
  generalize hc : E[E.size - 1]'(by omega) = c at hlast
  have HC := hide hc
  clear h2 hf3 hc
  by_cases h2 : E.size = 2
  · obtain ⟨El, rfl⟩ : ∃ El : List UInt8, E = ⟨El.toArray⟩ := ⟨E.data.toList, rfl⟩
    rcases El with _ | ⟨a, _ | ⟨b, _ | ⟨d, q⟩⟩⟩
    · simp [ByteArray.size] at h2
    · simp [ByteArray.size] at h2
    · have hbc : b = c := unhide HC
      subst hbc
      clear HC h2 hf1 hf2
      have hne2 : ((9 : Int) == (b.toNat : Int)) = false := by rw [beq_eq_false_iff_ne]; omega
      have hne3 : ((((⟨#[32, 9]⟩ : ByteArray)[1]'(by decide)).toNat : Int) != (b.toNat : Int)) = true := by
        have : ((⟨#[32, 9]⟩ : ByteArray)[1]'(by decide)) = 9 := rfl
        rw [this, bne_iff_ne]
        show (9 : Int) ≠ _
        omega
      have hix : Lib.indexByte [] b < 0 := by show (-1 : Int) < 0; decide
      have hE : ((⟨[a, b].toArray⟩ : ByteArray)[1]'(by simp [ByteArray.size])) = b := rfl
      go_enter Tryz.func76, Tryz.ntmps76
      go_wp2_with (go_at_call 86; refine (Tryz.utf8_ValidRune r _).mono ?_; rintro e w1 ⟨rfl, rfl⟩; rw [hv])
      go_step3
      go_wp2_with fail
      go_loopg [9, 10] 0 (fun g i f wx => i = .int .i64 1 ∧ f = .int .i64 0 ∧ w1 = wx)
      case atStart => exact ⟨rfl, rfl, rfl⟩
      case round =>
        obtain ⟨rfl, rfl, rfl⟩ := hrel
        go_wp2_with fail
        go_step3
        go_wp2_with fail
        go_region
        go_wp2_with fail
        go_region_with (go_at_call 85; refine (Tryz.strings_IndexByte _ _ _).mono ?_; rintro e w2 ⟨rfl, rfl⟩)
        all_goals
          go_wp2_with fail
          rw [Exit.noGoto_ret]
          go_wp2_with fail
          rw [Exit.noGoto_ret]
          go_ret
          exact ⟨rfl, ((Below.refl _ _).drew).drew⟩
    · simp [ByteArray.size] at h2
  · have h3 : ¬ ((E.size : Int) - 1 < 2) := by omega
    go_enter Tryz.func76, Tryz.ntmps76
    go_wp2_with (go_at_call 86; refine (Tryz.utf8_ValidRune r _).mono ?_; rintro e w1 ⟨rfl, rfl⟩; rw [hv])
    go_step3
    go_wp2_with fail
    go_loopg [9, 10] 0 (fun g i f wx => i = .int .i64 ((E.size : Int) - 1) ∧ f = .int .i64 0 ∧ w1 = wx)
    case atStart => exact ⟨rfl, rfl, rfl⟩
    case round =>
      obtain ⟨rfl, rfl, rfl⟩ := hrel
      go_wp2_with fail
      rw [Exit.noGoto_ret]
      go_ret
      exact ⟨rfl, Below.refl _ _⟩
end Go.Proofs.YtnbhpmncppohaaaGreatDoor.Mill
namespace Go.Proofs.YtnbhpmncppohaaaGreatDoor.Mill
open Go.RowKit

theorem decode_bytes (s : ByteArray) (pos : Nat) (h : pos < s.size) (ha : 128 ≤ (s[pos]'h).toNat) : ∀ k, k < (Utf8.decode s pos).2 → pos + k < s.size ∧ 128 ≤ (s.get! (pos + k)).toNat := by
  have hn : ¬ (s[pos]'h).toNat < 128 := by omega
  have hg := get_at s pos h
  have h0 : pos + 0 < s.size ∧ 128 ≤ (s.get! (pos + 0)).toNat := ⟨h, by rw [hg]; exact ha⟩
  have one : ∀ k, k < 1 → pos + k < s.size ∧ 128 ≤ (s.get! (pos + k)).toNat := fun k hk => by
    obtain rfl : k = 0 := by omega
    exact h0
  simp only [Utf8.decode, hg, hn, if_false]
  split
  · rename_i hc
    simp only [Bool.and_eq_true, decide_eq_true_eq, beq_iff_eq] at hc
    split
    · intro k hk
      obtain rfl | rfl : k = 0 ∨ k = 1 := by simp at hk; omega
      · exact h0
      · exact ⟨hc.2.1, by omega⟩
    · exact one
  · split
    · rename_i hc
      simp only [Bool.and_eq_true, decide_eq_true_eq, beq_iff_eq] at hc
      split
      · intro k hk
        obtain rfl | rfl | rfl : k = 0 ∨ k = 1 ∨ k = 2 := by simp at hk; omega
        · exact h0
        · exact ⟨hc.1.2.1, by omega⟩
        · exact ⟨hc.2.1, by omega⟩
      · exact one
    · split
      · rename_i hc
        simp only [Bool.and_eq_true, decide_eq_true_eq, beq_iff_eq] at hc
        split
        · intro k hk
          obtain rfl | rfl | rfl | rfl : k = 0 ∨ k = 1 ∨ k = 2 ∨ k = 3 := by simp at hk; omega
          · exact h0
          · exact ⟨hc.1.1.2.1, by omega⟩
          · exact ⟨hc.1.2.1, by omega⟩
          · exact ⟨hc.2.1, by omega⟩
        · exact one
      · exact one

/-- a rune beyond ASCII is no blank -/
theorem rune_high (r : Nat) (w : World) (h0 : 128 ≤ r) (h1 : r ≤ 2147483647) :
    Calls Tryz.prog 76 #[.string { data := #[32, 9] }, .int .i32 r] w fun e w' => e = .returned (.int .i64 (-1)) ∧ Below w.heap.size w w' := by
  by_cases h2 : (r : Int) = 65533
  · rw [h2]; exact rune_err w
  · cases hv : Lib.validRune r
    · exact rune_bad r w (by omega) (by omega) h2 hv
    · exact rune_good r w (by omega) (by omega) h2 hv

theorem noAny_more (l : List UInt8) (s : ByteArray) (hs : s = ⟨l.toArray⟩) (i k : Nat) (hno : Lib.NoAny l [32, 9] i) (hk : ∀ j, j < k → i + j < s.size ∧ 128 ≤ (s.get! (i + j)).toNat) : Lib.NoAny l [32, 9] (i + k) ∧ (1 ≤ k → i + k ≤ s.size) := by
  subst hs
  refine ⟨fun j b hj hb => ?_, fun h1 => ?_⟩
  · by_cases hji : j < i
    · exact hno j b hji hb
    · obtain ⟨h1, h2⟩ := hk (j - i) (by omega)
      have e : i + (j - i) = j := by omega
      rw [e] at h1 h2
      have hbe : (⟨l.toArray⟩ : ByteArray).get! j = b := by
        have hjl : j < l.length := by simpa [ByteArray.size] using h1
        rw [List.getElem?_eq_getElem hjl] at hb
        simp only [Option.some.injEq] at hb
        have := get_at ⟨l.toArray⟩ j h1
        rw [Nat.add_zero] at this
        rw [this]
        exact hb
      rw [hbe] at h2
      rw [contains_blank]
      unfold blankB
      simp only [Bool.or_eq_false_iff, beq_eq_false_iff_ne]
      exact ⟨by rintro rfl; revert h2; decide, by rintro rfl; revert h2; decide⟩
  · have := (hk (k - 1) (by omega)).1
    omega

theorem below_trans_iter {w w' : World} {s : ByteArray} {i : Nat} (h : Below (w.iter s i).heap.size (w.iter s i) w') : Below w.heap.size w w' := (below_iter w s i).trans (h.mono (below_iter w s i).size)

set_option maxHeartbeats 4000000 in
set_option maxRecDepth 100000 in
theorem any_short (l : List UInt8) (w : World) (h8 : l.length ≤ 8) :
    Calls Tryz.prog 65 #[S l, .string { data := #[32, 9] }] w fun e w' => e = .returned (.int .i64 (Lib.indexAny l [32, 9])) ∧ Below w.heap.size w w' := by
  have h8z : decide ((8 : Int) < (l.length : Int)) = false := decide_eq_false (by omega)
  obtain ⟨s, hs⟩ : ∃ s : ByteArray, s = ⟨l.toArray⟩ := ⟨_, rfl⟩
  have hsz : s.size = l.length := by rw [hs]; simp [ByteArray.size]
  have hv : S l = .string s := by rw [hs]
  rw [hv]
  have h8s : decide ((8 : Int) < (s.size : Int)) = false := decide_eq_false (by omega)
  have HS := hide hs
  have HSZ := hide hsz
  clear hs hv hsz h8z
  go_enter Tryz.func65, Tryz.ntmps65
  go_wp2_with (go_at_call 77; refine (Tryz.strings_shouldUseASCIISet _ _).mono ?_; rintro e w' ⟨rfl, hw⟩; rw [hw, h8s])
  go_loopg [9, 10] s.size (fun g _ _ wx => ∃ i : Nat, i + g = s.size ∧ Below w.heap.size w wx ∧ wx.heap[w.heap.size]? = some (.stringIter s i) ∧ Hid (Lib.NoAny l [32, 9] i))
  case atStart => exact ⟨0, by omega, below_iter w s 0, World.iter_heap w s 0, Lib.NoAny.zero _ _⟩
  case round =>
    obtain ⟨i, hig, hbx, hbl, hno⟩ := hrel
    have HBX := hide hbx
    have HBL := hide hbl
    cases gk with
    | zero =>
      obtain rfl : i = s.size := by omega
      have hnx := fun ty => Lib.run_next_end_at (P := Tryz.prog) _ w.heap.size s s.size ty hbl (by omega)
      have HE := hide (Lib.indexAny_none (s := l) (chars := [32, 9]) (by rw [← unhide HSZ]; exact unhide hno))
      clear hbx hbl hno
      go_wp2_with fail
      go_ret
      exact ⟨ret_int (unhide HE).symm, unhide HBX⟩
    | succ g =>
      have hi : i < s.size := by omega
      by_cases hx : (s[i]'hi).toNat < 128
      · obtain ⟨x, hxe⟩ : ∃ x : UInt8, s[i]'hi = x := ⟨_, rfl⟩
        have hnx := fun ty => Lib.run_next_ascii_at (P := Tryz.prog) _ w.heap.size s i ty hbl hi hx
        rw [hxe] at hnx hx
        have hxl : l[i]? = some x := by
          have hil : i < l.length := by rw [← unhide HSZ]; exact hi
          have := unhide HS
          subst this
          rw [List.getElem?_eq_getElem hil]
          exact congrArg some hxe
        have HW := hide (Lib.iterAt_heap _ w.heap.size s i (i + 1) hbl)
        have HW2 := hide (Lib.below_iterAt hbx (Nat.le_refl w.heap.size) s (i + 1))
        generalize World.iterAt _ w.heap.size s (i + 1) = W1 at *
        have hcon := Lib.contains_iff_indexByte [32, 9] x
        have hback : ((x.toNat : Int)).toNat.toUInt8 = x := by simp
        have HXL := hide hxl
        have HIR : Hid (∀ w, Calls Tryz.prog 76 #[.string { data := #[32, 9] }, .int .i32 x.toNat] w fun e w' => e = .returned (.int .i64 (Lib.indexByte [32, 9] x)) ∧ w' = w) := fun w => by
          have := Tryz.strings_IndexRune_ascii ⟨#[32, 9]⟩ x.toNat w (by omega) (by omega)
          rw [hback] at this
          exact this
        clear hback
        clear hxe hbx hbl hxl
        cases hin : ([32, 9] : List UInt8).contains x
        · rw [hin] at hcon
          have hlt : ¬ ((0 : Int) ≤ Lib.indexByte [32, 9] x) := of_decide_eq_false hcon.symm
          have HM := hide (Lib.NoAny.succ (unhide hno) (unhide HXL) hin)
          clear hcon hin hno
          generalize Lib.indexByte [32, 9] x = ix at *
          go_wp2_with (go_at_call 76; refine (unhide HIR _).mono ?_; rintro e w2 ⟨rfl, rfl⟩)
          go_roundg g
          case measure => omega
          case rel => exact ⟨i + 1, by omega, unhide HW2, unhide HW, HM⟩
        · rw [hin] at hcon
          have hge : (0 : Int) ≤ Lib.indexByte [32, 9] x := of_decide_eq_true hcon.symm
          have HE := hide (Lib.indexAny_hit (unhide hno) (unhide HXL) hin)
          clear hcon hin hno
          generalize Lib.indexByte [32, 9] x = ix at *
          go_wp2_with (go_at_call 76; refine (unhide HIR _).mono ?_; rintro e w2 ⟨rfl, rfl⟩)
          go_ret
          exact ⟨ret_int (unhide HE).symm, unhide HW2⟩
      · have hd := hide (decode_bytes s i hi (by omega))
        have hd1 := decode_high s i hi (by omega)
        have hd2 := decode_le s i
        have hnx := fun ty => Lib.run_next_any_at (P := Tryz.prog) _ w.heap.size s i ty hbl hi
        have HW := hide (Lib.iterAt_heap _ w.heap.size s i (i + (Utf8.decode s i).2) hbl)
        have HW2 := hide (Lib.below_iterAt hbx (Nat.le_refl w.heap.size) s (i + (Utf8.decode s i).2))
        generalize Utf8.decode s i = D at *
        obtain ⟨r, k⟩ := D
        dsimp only at *
        obtain ⟨hd1, hk1⟩ := hd1
        have hm := noAny_more l s (unhide HS) i k (unhide hno) (unhide hd)
        have HM := hide hm.1
        have hm2 := hm.2 hk1
        generalize World.iterAt _ w.heap.size s (i + k) = W1 at *
        clear hbx hbl hm hno
        go_wp2_with (go_at_call 76; refine (rune_high r _ hd1 hd2).mono ?_; rintro e w2 ⟨rfl, hb2⟩)
        go_roundg (s.size - (i + k))
        case measure => omega
        case rel =>
          have hlt : w.heap.size < W1.heap.size := (Array.getElem?_eq_some_iff.1 (unhide HW)).1
          exact ⟨i + k, by omega, (unhide HW2).trans (hb2.mono (by omega)), (hb2.block _ hlt).trans (unhide HW), HM⟩

set_option maxRecDepth 100000 in
theorem any_long (l : List UInt8) (w : World) (h8 : 8 < l.length) (hl : l.length ≤ 4294967280) :
    Calls Tryz.prog 65 #[S l, .string { data := #[32, 9] }] w fun e w' => e = .returned (.int .i64 (Lib.indexAny l [32, 9])) ∧ Below w.heap.size w w' := by
  have hz : (Tryz.prog.info? 135).map (fun i => (i.zero, i.size)) = some (some (.agg (Array.replicate 256 (.bool false))), 256) := by kernel_rfl
  refine (Any.strings_IndexAny_long Tryz.lays153 (zero_of_info hz).1 (zero_of_info hz).2 ⟨l.toArray⟩ ⟨#[32, 9]⟩ w (by decide) (by simpa [ByteArray.size] using h8) (by simp [ByteArray.size]; omega) (by decide) (ascii_of_all (by decide))).mono ?_
  rintro e w' ⟨rfl, rfl⟩
  exact ⟨rfl, ((Below.refl _ _).alloc (Nat.le_refl _) _).alloc (by simp) _⟩
theorem any_calls (l : List UInt8) (w : World) (hl : l.length ≤ 4294967280) :
    Calls Tryz.prog 65 #[S l, .string { data := #[32, 9] }] w fun e w' => e = .returned (.int .i64 (Lib.indexAny l [32, 9])) ∧ Below w.heap.size w w' := by
  by_cases h8 : l.length ≤ 8
  · exact any_short l w h8
  · exact any_long l w (by omega) hl

theorem name_any (l : List UInt8) : (Lib.indexAny l [32, 9] = -1 → nameOf l = l ∧ behind l = []) ∧ ∀ k : Nat, Lib.indexAny l [32, 9] = k → k < l.length ∧ nameOf l = l.take k ∧ behind l = trim (l.drop k) := by
  induction l with
  | nil => exact ⟨fun _ => ⟨rfl, rfl⟩, fun k h => by simp [Lib.indexAny] at h⟩
  | cons b l ih =>
    have hc := contains_blank b
    have hge := Lib.indexAny_ge [32, 9] l
    unfold Lib.indexAny
    rw [hc]
    cases hb : blankB b
    · simp only [Bool.false_eq_true, if_false]
      have hn : nameOf (b :: l) = b :: nameOf l := by unfold nameOf; rw [List.takeWhile_cons, hb]; rfl
      have hbe : behind (b :: l) = behind l := by unfold behind; rw [List.dropWhile_cons, hb]; rfl
      by_cases hm : Lib.indexAny l [32, 9] = -1
      · rw [if_pos (by simpa using hm)]
        obtain ⟨i1, i2⟩ := ih.1 hm
        exact ⟨fun _ => ⟨by rw [hn, i1], by rw [hbe, i2]⟩, fun k h => by omega⟩
      · rw [if_neg (by simpa using hm)]
        refine ⟨fun h => by omega, fun k h => ?_⟩
        obtain ⟨k', rfl⟩ : ∃ k', k = k' + 1 := ⟨k - 1, by omega⟩
        obtain ⟨i0, i1, i2⟩ := ih.2 k' (by omega)
        exact ⟨by simp; omega, by rw [hn, i1]; rfl, by rw [hbe, i2]; rfl⟩
    · simp only [if_true]
      refine ⟨fun h => by omega, fun k h => ?_⟩
      obtain rfl : k = 0 := by omega
      refine ⟨by simp, by unfold nameOf; rw [List.takeWhile_cons, hb]; rfl, ?_⟩
      unfold behind; rw [List.dropWhile_cons, hb]; rfl

set_option maxHeartbeats 1000000 in
theorem cutName_calls (l : List UInt8) (w : World) (hl : l.length ≤ 4294967280) :
    Calls Tryz.prog 50 #[S l] w fun e w' => e = .returned (.tuple #[S (nameOf l), S (behind l)]) ∧ Below w.heap.size w w' := by
  have HN := hide (name_any l)
  have HA := hide (fun w => any_calls l w hl)
  have hge := Lib.indexAny_ge [32, 9] l
  generalize Lib.indexAny l [32, 9] = ix at *
  by_cases h0 : 0 ≤ ix
  · obtain ⟨k, rfl⟩ := Int.eq_ofNat_of_zero_le h0
    obtain ⟨hk, e1, e2⟩ := (unhide HN).2 k rfl
    have HE := hide (And.intro e1 e2)
    have HT := hide (fun w => mtrim_calls (l.drop k) w (by simp; omega))
    clear e1 e2 hge
    go_enter Tryz.func50, Tryz.ntmps50
    go_wp2_with (go_at_call 65; refine (unhide HA _).mono ?_; rintro e w1 ⟨rfl, hb1⟩)
    go_region_with (go_at_call 34; rw [str_eq (ext_end l k)]; refine (unhide HT _).mono ?_; rintro e w2 ⟨rfl, hb2⟩)
    all_goals
      go_wp2_with fail
      go_ret2
      obtain ⟨e1, e2⟩ := unhide HE
      refine ⟨?_, hb1.drew.trans (hb2.mono hb1.size)⟩
      rw [e1, e2, str_eq (ext_head l k)]
      try rfl
  · obtain rfl : ix = -1 := by omega
    obtain ⟨e1, e2⟩ := (unhide HN).1 rfl
    rw [e1, e2]
    clear e1 e2 HN
    go_enter Tryz.func50, Tryz.ntmps50
    go_wp2_with (go_at_call 65; refine (unhide HA _).mono ?_; rintro e w1 ⟨rfl, hb1⟩)
    go_ret2
    exact ⟨rfl, hb1⟩
end Go.Proofs.YtnbhpmncppohaaaGreatDoor.Mill
