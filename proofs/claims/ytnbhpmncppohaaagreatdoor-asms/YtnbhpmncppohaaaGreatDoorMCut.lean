import Derived.Test.YtnbhpmncppohaaaGreatDoorMReg
import Derived.Test.YtnbhpmncppohaaaGreatDoorPlain
import Derived.Shelf.Strings.SplitShaped
namespace Go.Proofs.YtnbhpmncppohaaaGreatDoor.Mill
open Go.RowKit

theorem cut_is (l : List UInt8) (c : UInt8) : Lib.cut l [c] = (cutB l c, cutA l c, cutH l c) := by
  unfold Lib.cut
  rw [Lib.index_one]
  have hge := Lib.indexByte_ge l c
  by_cases h : 0 ≤ Lib.indexByte l c
  · obtain ⟨o, ho⟩ : ∃ o : Nat, Lib.indexByte l c = o := ⟨(Lib.indexByte l c).toNat, by omega⟩
    obtain ⟨h1, h2⟩ := Lib.indexByte_some ho
    have hl : o < l.length := by
      rcases Nat.lt_or_ge o l.length with h | h
      · exact h
      · rw [List.getElem?_eq_none h] at h1; cases h1
    obtain ⟨e1, e2, e3⟩ := cut_hit l c o hl h2 (by rw [List.getElem?_eq_getElem hl] at h1; simpa using h1)
    rw [if_pos h, ho, e1, e2, e3]
    simp
  · have hm : Lib.indexByte l c = -1 := by omega
    obtain ⟨e1, e2, e3⟩ := cut_miss l c (fun j _ => Lib.indexByte_none hm j)
    rw [if_neg h, e1, e2, e3]
theorem cut1_calls (l : List UInt8) (c : UInt8) (w : World) (hB : Base w) (hl : l.length ≤ 4294967280) :
    Calls Tryz.prog 32 #[S l, .string { data := #[c] }] w fun e w' => e = .returned (.tuple #[S (cutB l c), S (cutA l c), .bool (cutH l c)]) ∧ ∃ n, w' = w.drewN n := by
  obtain ⟨m, hm⟩ := hB.len
  have := Tryz.strings_Cut ⟨l.toArray⟩ ⟨#[c]⟩ m w (by simp [ByteArray.size]; omega) hm
  have e : Lib.cut ({ data := l.toArray } : ByteArray).data.toList ({ data := #[c] } : ByteArray).data.toList = (cutB l c, cutA l c, cutH l c) := cut_is l c
  simp only [e] at this
  exact this

/-- the pieces between the c's -/
def splitC (c : UInt8) : List UInt8 → List (List UInt8)
  | [] => [[]]
  | x :: r => if x == c then [] :: splitC c r else match splitC c r with
    | [] => [[x]]
    | p :: ps => (x :: p) :: ps
theorem splitC_44 (l : List UInt8) : splitC 44 l = commas l := by
  induction l with
  | nil => rfl
  | cons x r ih => rw [splitC, commas_cons, ih]; rfl
theorem splitC_ne (c : UInt8) (t : List UInt8) : splitC c t ≠ [] := by
  cases t with
  | nil => simp [splitC]
  | cons x r => rw [splitC]; split <;> (try split) <;> simp
theorem splitC_cut (c : UInt8) (t : List UInt8) : splitC c t = if cutH t c then cutB t c :: splitC c (cutA t c) else [t] := by
  induction t with
  | nil => rfl
  | cons x r ih =>
    cases hc : (x == c)
    · rw [cutB_cons_ne x c r hc, cutA_cons_ne x c r hc]
      have hH : cutH (x :: r) c = cutH r c := by simp [cutH, hc]
      rw [hH, splitC, hc, ih]
      cases cutH r c <;> rfl
    · obtain rfl : x = c := by simpa using hc
      rw [cutB_cons_eq, cutA_cons_eq]
      have hH : cutH (x :: r) x = true := by simp [cutH]
      rw [hH, splitC, hc]
      rfl
theorem split_is (c : UInt8) : ∀ (n : Nat) (l : List UInt8), l.length ≤ n → Lib.splitK [c] 0 (Lib.count l [c]) l = splitC c l ∧ Lib.count l [c] + 1 = (splitC c l).length := by
  intro n
  induction n with
  | zero =>
    intro l h
    obtain rfl : l = [] := List.eq_nil_of_length_eq_zero (by omega)
    rw [Lib.count_miss (by simp [Lib.index])]
    exact ⟨rfl, rfl⟩
  | succ n ih =>
    intro l h
    have hge := Lib.indexByte_ge l c
    by_cases hi : 0 ≤ Lib.indexByte l c
    · obtain ⟨o, ho⟩ : ∃ o : Nat, Lib.indexByte l c = o := ⟨(Lib.indexByte l c).toNat, by omega⟩
      obtain ⟨h1, h2⟩ := Lib.indexByte_some ho
      have hl : o < l.length := by
        rcases Nat.lt_or_ge o l.length with h | h
        · exact h
        · rw [List.getElem?_eq_none h] at h1; cases h1
      obtain ⟨e1, e2, e3⟩ := cut_hit l c o hl h2 (by rw [List.getElem?_eq_getElem hl] at h1; simpa using h1)
      have hix : Lib.index l [c] = o := by rw [Lib.index_one, ho]
      have hcount : Lib.count l [c] = 1 + Lib.count (l.drop (o + 1)) [c] := Lib.count_hit (by simp) hix
      obtain ⟨i1, i2⟩ := ih (l.drop (o + 1)) (by simp; omega)
      rw [splitC_cut, e3, if_pos rfl, e1, e2, hcount, Nat.add_comm 1, Lib.splitK, hix]
      have hm : ¬ ((o : Int) == -1) = true := fun e => by have := beq_iff_eq.1 e; omega
      rw [if_neg hm]
      refine ⟨?_, by simp [i2]⟩
      rw [← i1]
      simp
    · have hm : Lib.indexByte l c = -1 := by omega
      obtain ⟨e1, e2, e3⟩ := cut_miss l c (fun j _ => Lib.indexByte_none hm j)
      rw [splitC_cut, e3, Lib.count_miss (by rw [Lib.index_one]; exact hm)]
      exact ⟨rfl, rfl⟩
theorem split1_calls (l : List UInt8) (c : UInt8) (w : World) (hB : Base w) (hl : l.length ≤ 4294967280) :
    Calls Tryz.prog 17 #[S l, .string { data := #[c] }] w fun e w' => e = .returned (.slice (some ⟨w.heap.size, 0, none⟩) (splitC c l).length (splitC c l).length) ∧ w' = w.alloc (.cells ((splitC c l).map S).toArray 9) := by
  obtain ⟨m, hm⟩ := hB.len
  have h := Tryz.strings_Split ⟨l.toArray⟩ ⟨#[c]⟩ m w (by simp [ByteArray.size]; omega) hm (Nat.le_refl 1)
  obtain ⟨e1, e2⟩ := split_is c l.length l (Nat.le_refl _)
  have e3 : Lib.countB ⟨l.toArray⟩ ⟨#[c]⟩ + 1 = (splitC c l).length := e2
  have e4 : (Lib.splitB ⟨#[c]⟩ 0 (Lib.countB ⟨l.toArray⟩ ⟨#[c]⟩) ⟨l.toArray⟩).map Value.string = (splitC c l).map S := by
    have := Lib.splitB_data ⟨#[c]⟩ 0 (Lib.countB ⟨l.toArray⟩ ⟨#[c]⟩) ⟨l.toArray⟩
    have e5 : Lib.splitK ({ data := #[c] } : ByteArray).data.toList 0 (Lib.countB ⟨l.toArray⟩ ⟨#[c]⟩) ({ data := l.toArray } : ByteArray).data.toList = splitC c l := e1
    rw [e5] at this
    rw [← this, List.map_map]
    rfl
  have e3' : (Lib.countB ⟨l.toArray⟩ ⟨#[c]⟩ : Nat) + 1 = (splitC c l).length := e3
  rw [e4, e3'] at h
  exact h

/-- nothing, or the pieces between commas -/
theorem splitOperands_nil (w : World) :
    Calls Tryz.prog 66 #[S []] w fun e w' => e = .returned (.slice none 0 0) ∧ w' = w := by
  go_enter Tryz.func66, Tryz.ntmps66
  go_wp2_with fail
  go_ret
  exact ⟨rfl, rfl⟩
theorem splitOperands_some (l : List UInt8) (hn : l ≠ []) (w : World) (hB : Base w) (hl : l.length ≤ 4294967280) :
    Calls Tryz.prog 66 #[S l] w fun e w' => e = .returned (.slice (some ⟨w.heap.size, 0, none⟩) (commas l).length (commas l).length) ∧ w' = w.alloc (.cells ((commas l).map S).toArray 9) := by
  have HS := hide (split1_calls l 44)
  have hne : l.isEmpty = false := by cases l with
    | nil => exact absurd rfl hn
    | cons c r => rfl
  rw [splitC_44] at HS
  have HB := hide hB
  clear hn hB
  go_enter Tryz.func66, Tryz.ntmps66
  go_wp2_with (go_at_call 17; refine (unhide HS _ (unhide HB) hl).mono ?_; rintro e w1 ⟨rfl, rfl⟩)
  go_ret
  exact ⟨rfl, rfl⟩

theorem closes_has (l : List UInt8) : Lib.hasSuffix l [41] = closes l := by
  rw [Bool.eq_iff_iff]
  unfold Lib.hasSuffix closes
  rw [List.isSuffixOf_iff_suffix]
  constructor
  · rintro ⟨t, rfl⟩
    simp
  · intro h
    have h' : l.getLast? = some 41 := by simpa using h
    rcases List.eq_nil_or_concat l with rfl | ⟨q, x, hq⟩
    · simp at h'
    · subst hq
      simp at h'
      subst h'
      exact ⟨q, by simp⟩
theorem closes_trim (l : List UInt8) : Lib.trimSuffix l [41] = if closes l then l.dropLast else l := by
  unfold Lib.trimSuffix
  rw [closes_has]
  split
  · rw [List.dropLast_eq_take]; rfl
  · rfl
theorem suffix_calls (l : List UInt8) (w : World) (hl : l.length ≤ 4294967280) :
    Calls Tryz.prog 90 #[S l, .string { data := #[41] }] w fun e w' => e = .returned (.tuple #[S (if closes l then l.dropLast else l), .bool (closes l)]) ∧ w' = w := by
  refine (Tryz.strings_CutSuffix ⟨l.toArray⟩ ⟨#[41]⟩ w (by simp [ByteArray.size]; omega)).mono ?_
  rintro e w' ⟨rfl, rfl⟩
  refine ⟨?_, rfl⟩
  have h1 := closes_has l
  have h2 := closes_trim l
  simp only [h1, h2]

/-- what cutBrackets ends in -/
def brEnd (o : List UInt8) : Ending := if cutH o 40 && closes (cutA o 40) then .returned (.tuple #[S (trim (cutB o 40)), S (trim (cutA o 40).dropLast)]) else gives 3

set_option maxHeartbeats 1000000 in
theorem cutBrackets_calls (o : List UInt8) (w : World) (hB : Base w) (hl : o.length ≤ 4294967280) :
    Calls Tryz.prog 80 #[S o] w fun e w' => e = brEnd o ∧ Below w.heap.size w w' := by
  have hB1 := cutB_le o 40
  have hA1 := cutA_le o 40
  have HC := hide (fun w h => cut1_calls o 40 w h hl)
  have HS := hide (fun w => suffix_calls (cutA o 40) w (by omega))
  have HT := hide (fun w => mtrim_calls (cutB o 40) w (by omega))
  have HU := hide (fun w => mtrim_calls (cutA o 40).dropLast w (by simp; omega))
  have HB := hide hB
  have HE : Hid (brEnd o = if cutH o 40 && closes (cutA o 40) then .returned (.tuple #[S (trim (cutB o 40)), S (trim (cutA o 40).dropLast)]) else gives 3) := rfl
  clear hB hB1 hA1
  generalize cutH o 40 = hh at *
  generalize cutB o 40 = b at *
  generalize cutA o 40 = a at *
  cases hh
  · cases hc : closes a
    all_goals
      rw [hc] at HS HE
      simp only [Bool.false_and, Bool.false_eq_true, if_false, if_true] at HS HE
      go_enter Tryz.func80, Tryz.ntmps80
      go_wp2_with (first | (go_at_call 32; refine (unhide HC _ (unhide HB)).mono ?_; rintro e w1 ⟨rfl, n, rfl⟩) | (go_at_call 90; refine (unhide HS _).mono ?_; rintro e w2 ⟨rfl, rfl⟩))
      exact ⟨rfl, (unhide HE).symm, below_drewN (Below.refl _ _) _⟩
  · cases hc : closes a
    · rw [hc] at HS HE
      simp only [Bool.and_false, Bool.false_eq_true, if_false] at HS HE
      go_enter Tryz.func80, Tryz.ntmps80
      go_wp2_with (first | (go_at_call 32; refine (unhide HC _ (unhide HB)).mono ?_; rintro e w1 ⟨rfl, n, rfl⟩) | (go_at_call 90; refine (unhide HS _).mono ?_; rintro e w2 ⟨rfl, rfl⟩))
      exact ⟨rfl, (unhide HE).symm, below_drewN (Below.refl _ _) _⟩
    · rw [hc] at HS HE
      simp only [Bool.and_true, if_true] at HS HE
      go_enter Tryz.func80, Tryz.ntmps80
      go_wp2_with (first | (go_at_call 32; refine (unhide HC _ (unhide HB)).mono ?_; rintro e w1 ⟨rfl, n, rfl⟩) | (go_at_call 90; refine (unhide HS _).mono ?_; rintro e w2 ⟨rfl, rfl⟩) | (go_at_call_of 34 (S b); refine (unhide HT _).mono ?_; rintro e w3 ⟨rfl, hb3⟩) | (go_at_call_of 34 (S a.dropLast); refine (unhide HU _).mono ?_; rintro e w4 ⟨rfl, hb4⟩))
      go_ret2
      exact ⟨(unhide HE).symm, ((below_drewN (Below.refl _ _) n).trans hb3).trans (hb4.mono hb3.size)⟩
end Go.Proofs.YtnbhpmncppohaaaGreatDoor.Mill
