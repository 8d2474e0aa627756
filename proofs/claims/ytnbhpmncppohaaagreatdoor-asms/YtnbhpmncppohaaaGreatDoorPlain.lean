import Derived.Lib.SlTrimSet
namespace Go.Proofs.YtnbhpmncppohaaaGreatDoor.Mill

/- PLAIN: what the texts' words are, over lists of bytes. Nothing of the dump. -/

def blankB (c : UInt8) : Bool := c == 32 || c == 9
def letterB (c : UInt8) : Bool := (97 ≤ c && c ≤ 122) || (65 ≤ c && c ≤ 90)
def digitB (c : UInt8) : Bool := 48 ≤ c && c ≤ 57

/-- ahead of the first c; behind it; is there one -/
def cutB (l : List UInt8) (c : UInt8) : List UInt8 := l.takeWhile (· != c)
def cutA (l : List UInt8) (c : UInt8) : List UInt8 := (l.dropWhile (· != c)).tail
def cutH (l : List UInt8) (c : UInt8) : Bool := l.any (· == c)

theorem cut_hit (l : List UInt8) (c : UInt8) (k : Nat) (hk : k < l.length) (h : ∀ j, j < k → l[j]? ≠ some c) (hc : l[k] = c) :
    cutB l c = l.take k ∧ cutA l c = l.drop (k + 1) ∧ cutH l c = true := by
  induction l generalizing k with
  | nil => simp at hk
  | cons x r ih =>
    cases k with
    | zero =>
      simp at hc
      subst hc
      simp [cutB, cutA, cutH]
    | succ k =>
      have hx : x ≠ c := by have := h 0 (by omega); simpa using this
      have := ih k (by simpa using hk) (fun j hj => by have := h (j + 1) (by omega); simpa using this) (by simpa using hc)
      obtain ⟨h1, h2, h3⟩ := this
      simp only [cutB, cutA, cutH] at h1 h2 h3 ⊢
      have hx' : (x != c) = true := by simpa using hx
      simp only [List.takeWhile_cons, List.dropWhile_cons, hx', if_true, List.any_cons, h1, h2, h3, Bool.or_true]
      simp

theorem cut_miss (l : List UInt8) (c : UInt8) (h : ∀ j, j < l.length → l[j]? ≠ some c) :
    cutB l c = l ∧ cutA l c = [] ∧ cutH l c = false := by
  induction l with
  | nil => simp [cutB, cutA, cutH]
  | cons x r ih =>
    have hx : x ≠ c := by have := h 0 (by simp); simpa using this
    obtain ⟨h1, h2, h3⟩ := ih (fun j hj => by have := h (j + 1) (by simpa using hj); simpa using this)
    simp only [cutB, cutA, cutH] at h1 h2 h3 ⊢
    have hx' : (x != c) = true := by simpa using hx
    have hx'' : (x == c) = false := by simpa using hx
    simp only [List.takeWhile_cons, List.dropWhile_cons, hx', hx'', if_true, List.any_cons, h1, h2, h3, Bool.or_false]
    simp

theorem cutB_le (l : List UInt8) (c : UInt8) : (cutB l c).length ≤ l.length := by
  unfold cutB; exact (List.takeWhile_sublist _).length_le
theorem cutA_le (l : List UInt8) (c : UInt8) : (cutA l c).length ≤ l.length := by
  unfold cutA
  have := (List.dropWhile_sublist (fun x : UInt8 => x != c) (l := l)).length_le
  simp; omega

/-- without blanks at the ends -/
def trim (l : List UInt8) : List UInt8 := Lib.trimS l [32, 9]
def trimL (l : List UInt8) : List UInt8 := l.dropWhile blankB
def trimR (l : List UInt8) : List UInt8 := (l.reverse.dropWhile blankB).reverse

theorem contains_blank (c : UInt8) : [32, 9].contains c = blankB c := by
  rw [Bool.eq_iff_iff]; simp [blankB]
theorem trimL_eq (l : List UInt8) : Lib.trimLeftS l [32, 9] = trimL l := by
  unfold Lib.trimLeftS trimL; congr 1; funext b; exact contains_blank b
theorem trimR_eq (l : List UInt8) : Lib.trimRightS l [32, 9] = trimR l := by
  unfold Lib.trimRightS trimR; congr 2; funext b; exact contains_blank b
theorem trim_eq (l : List UInt8) : trim l = trimL (trimR l) := by
  unfold trim Lib.trimS; rw [trimR_eq, trimL_eq]

theorem dropWhile_nil_iff (p : UInt8 → Bool) (l : List UInt8) : l.dropWhile p = [] ↔ ∀ x ∈ l, p x = true := by
  induction l with
  | nil => simp
  | cons x r ih =>
    rw [List.dropWhile_cons]
    by_cases h : p x = true
    · simp [h, ih]
    · simp [h]
theorem trimR_nil_iff (l : List UInt8) : trimR l = [] ↔ l.all blankB = true := by
  unfold trimR
  rw [List.reverse_eq_nil_iff, dropWhile_nil_iff]
  simp
theorem trimR_snoc (l : List UInt8) (c : UInt8) : trimR (l ++ [c]) = if blankB c then trimR l else l ++ [c] := by
  unfold trimR
  rw [List.reverse_append]
  simp only [List.reverse_cons, List.reverse_nil, List.nil_append, List.singleton_append, List.dropWhile_cons]
  split <;> simp
theorem trimL_cons (c : UInt8) (l : List UInt8) : trimL (c :: l) = if blankB c then trimL l else c :: l := by
  unfold trimL; rw [List.dropWhile_cons]
theorem trimR_cons (c : UInt8) (l : List UInt8) : trimR (c :: l) = if (l.all blankB && blankB c) then [] else c :: trimR l := by
  unfold trimR
  rw [List.reverse_cons, List.dropWhile_append]
  by_cases h : l.all blankB = true
  · have e : (l.reverse.dropWhile blankB) = [] := by rw [dropWhile_nil_iff]; simpa using h
    simp only [e, List.isEmpty_nil, if_true, h, Bool.true_and]
    by_cases hc : blankB c = true
    · simp [hc]
    · simp [hc]
  · have e : ¬ (l.reverse.dropWhile blankB) = [] := by rw [dropWhile_nil_iff]; simpa using h
    have e' : (l.reverse.dropWhile blankB).isEmpty = false := by simpa using e
    simp only [e', if_false, Bool.false_eq_true]
    simp [h]
/-- the two ends may be cut in either order -/
theorem trim_swap (l : List UInt8) : trimR (trimL l) = trimL (trimR l) := by
  induction l with
  | nil => rfl
  | cons c l ih =>
    rw [trimL_cons, trimR_cons]
    by_cases hc : blankB c = true
    · simp only [hc, if_true, Bool.and_true]
      by_cases h : l.all blankB = true
      · simp only [h, if_true]
        have : trimL l = [] := by unfold trimL; rw [dropWhile_nil_iff]; simpa using h
        rw [this]; rfl
      · simp only [h, if_false, Bool.false_eq_true]
        rw [trimL_cons, hc, if_pos rfl, ih]
    · simp only [hc, if_false, Bool.false_eq_true, Bool.and_false]
      rw [trimL_cons]
      simp only [hc, if_false, Bool.false_eq_true]
      rw [trimR_cons]
      simp [hc]

theorem trim_le (l : List UInt8) : (trim l).length ≤ l.length := by
  rw [trim_eq]
  unfold trimL trimR
  have h1 := (List.dropWhile_sublist blankB (l := (l.reverse.dropWhile blankB).reverse)).length_le
  have h2 := (List.dropWhile_sublist blankB (l := l.reverse)).length_le
  simp at h1 h2 ⊢; omega

/-- a label -/
def labelB (l : List UInt8) : Bool := !l.isEmpty && decide (l.length ≤ 8) && letterB (l.headD 0) && l.all (fun c => letterB c || digitB c)

theorem labelB_nil : labelB [] = false := rfl
theorem labelB_long (l : List UInt8) (h : 8 < l.length) : labelB l = false := by
  have : decide (l.length ≤ 8) = false := by simpa using h
  simp [labelB, this]
theorem labelB_head (c : UInt8) (r : List UInt8) (h : letterB c = false) : labelB (c :: r) = false := by simp [labelB, h]
theorem labelB_bad (l : List UInt8) (k : Nat) (h : k < l.length) (h1 : letterB l[k] = false) (h2 : digitB l[k] = false) : labelB l = false := by
  have : l.all (fun c => letterB c || digitB c) = false := by
    rw [List.all_eq_false]
    exact ⟨l[k], List.getElem_mem h, by simp [h1, h2]⟩
  simp [labelB, this]
theorem labelB_good (c : UInt8) (r : List UInt8) (h1 : r.length + 1 ≤ 8) (h2 : letterB c = true) (h3 : ∀ j, (h : j < (c :: r).length) → letterB (c :: r)[j] = true ∨ digitB (c :: r)[j] = true) : labelB (c :: r) = true := by
  have : (c :: r).all (fun c => letterB c || digitB c) = true := by
    rw [List.all_eq_true]
    intro x hx
    obtain ⟨j, hj, rfl⟩ := List.getElem_of_mem hx
    simpa using h3 j hj
  have h4 : decide ((c :: r).length ≤ 8) = true := by simpa using h1
  simp only [labelB, this, h4, List.headD_cons, h2, List.isEmpty_cons]
  rfl

/-- numbers -/
def digVal (base : Nat) (c : UInt8) : Option Nat :=
  if digitB c then some (c.toNat - 48) else if base == 16 && (97 ≤ c && c ≤ 102) then some (c.toNat - 87) else none
def digs (base : Nat) : List UInt8 → Nat → Option Nat
  | [], n => some n
  | c :: r, n => match digVal base c with
    | some d => digs base r (base * n + d)
    | none => none
def digsL (base : Nat) (l : List UInt8) : Option Nat := if l.length = 0 ∨ 8 < l.length then none else digs base l 0
def hexP (l : List UInt8) : Bool := decide (2 < l.length) && l[0]? == some 48 && l[1]? == some 120
def unsigned (l : List UInt8) : Option Nat := if hexP l then digsL 16 (l.drop 2) else digsL 10 l
def negB (l : List UInt8) : Bool := l[0]? == some 45
def strip (l : List UInt8) : List UInt8 := if negB l then l.drop 1 else l
def numVal (l : List UInt8) : Int := match unsigned (strip l) with
  | some n => if negB l then -(n : Int) else n
  | none => 0
def numOk (l : List UInt8) : Bool := (unsigned (strip l)).isSome

theorem digVal_lt (base : Nat) (c : UInt8) (d : Nat) (h : digVal base c = some d) : d ≤ 15 ∧ (base = 10 → d ≤ 9) := by
  unfold digVal at h
  split at h
  · rename_i hd
    simp [digitB, UInt8.le_iff_toNat_le] at hd
    simp at h; omega
  · split at h
    · rename_i hx
      simp [UInt8.le_iff_toNat_le] at hx
      simp at h; omega
    · cases h

theorem digs_lt (base : Nat) (hb : base ≤ 16) : ∀ (l : List UInt8) (n m k : Nat), n < 16 ^ k → digs base l n = some m → m < 16 ^ (k + l.length)
  | [], n, m, k, hn, h => by simp [digs] at h; subst h; simpa using hn
  | c :: r, n, m, k, hn, h => by
    simp only [digs] at h
    split at h
    · rename_i d hd
      have hd' := (digVal_lt base c d hd).1
      have := digs_lt base hb r (base * n + d) m (k + 1) (by
        rw [Nat.pow_succ]
        have : base * n ≤ 16 * n := Nat.mul_le_mul_right n hb
        omega) h
      simpa [Nat.add_assoc, Nat.add_comm 1] using this
    · cases h

theorem unsigned_lt (l : List UInt8) (n : Nat) (h : unsigned l = some n) : n < 4294967296 := by
  have key : ∀ base m, base ≤ 16 → digsL base m = some n → n < 4294967296 := by
    intro base m hb hm
    unfold digsL at hm
    split at hm
    · cases hm
    · rename_i hl
      have := digs_lt base hb m 0 n 0 (by simp) hm
      have h8 : 16 ^ (0 + m.length) ≤ 16 ^ 8 := Nat.pow_le_pow_right (by omega) (by omega)
      have e : (16 : Nat) ^ 8 = 4294967296 := by decide
      omega
  unfold unsigned at h
  split at h
  · exact key 16 _ (by omega) h
  · exact key 10 _ (by omega) h

end Go.Proofs.YtnbhpmncppohaaaGreatDoor.Mill
namespace Go.Proofs.YtnbhpmncppohaaaGreatDoor.Mill

/-- the lines of a text (nothing behind the last newline is no line) -/
def rawLines : List UInt8 → List (List UInt8)
  | [] => []
  | c :: r => if c == 10 then [] :: rawLines r else match rawLines r with
    | [] => [[c]]
    | p :: ps => (c :: p) :: ps

theorem cutB_cons_eq (c : UInt8) (r : List UInt8) : cutB (c :: r) c = [] := by simp [cutB]
theorem cutA_cons_eq (c : UInt8) (r : List UInt8) : cutA (c :: r) c = r := by simp [cutA]
theorem cutB_cons_ne (x c : UInt8) (r : List UInt8) (h : (x == c) = false) : cutB (x :: r) c = x :: cutB r c := by
  have : (x != c) = true := by simp [bne, h]
  simp [cutB, this]
theorem cutA_cons_ne (x c : UInt8) (r : List UInt8) (h : (x == c) = false) : cutA (x :: r) c = cutA r c := by
  have : (x != c) = true := by simp [bne, h]
  simp [cutA, this]

theorem rawLines_cons (c : UInt8) (r : List UInt8) : rawLines (c :: r) = if c == 10 then [] :: rawLines r else match rawLines r with
    | [] => [[c]]
    | p :: ps => (c :: p) :: ps := rfl
theorem cutB_append (l m : List UInt8) (c : UInt8) (h : cutH l c = true) : cutB (l ++ m) c = cutB l c := by
  induction l with
  | nil => simp [cutH] at h
  | cons x r ih =>
    cases hx : (x == c)
    · rw [List.cons_append, cutB_cons_ne x c _ hx, cutB_cons_ne x c _ hx, ih (by simpa [cutH, hx] using h)]
    · obtain rfl : x = c := by simpa using hx
      rw [List.cons_append, cutB_cons_eq, cutB_cons_eq]

theorem rawLines_cut (s : List UInt8) (h : s ≠ []) : rawLines s = cutB s 10 :: rawLines (cutA s 10) := by
  induction s with
  | nil => exact absurd rfl h
  | cons c r ih =>
    cases hc : (c == 10)
    · rw [cutB_cons_ne c 10 r hc, cutA_cons_ne c 10 r hc]
      rw [rawLines_cons, hc]
      by_cases hr : r = []
      · subst hr; rfl
      · rw [ih hr]; rfl
    · obtain rfl : c = 10 := by simpa using hc
      rw [cutB_cons_eq, cutA_cons_eq, rawLines_cons]
      rfl

/-- pieces between commas -/
def commas : List UInt8 → List (List UInt8)
  | [] => [[]]
  | c :: r => if c == 44 then [] :: commas r else match commas r with
    | [] => [[c]]
    | p :: ps => (c :: p) :: ps

theorem commas_cons (c : UInt8) (r : List UInt8) : commas (c :: r) = if c == 44 then [] :: commas r else match commas r with
    | [] => [[c]]
    | p :: ps => (c :: p) :: ps := rfl
theorem commas_ne (t : List UInt8) : commas t ≠ [] := by
  cases t with
  | nil => simp [commas]
  | cons c r => rw [commas_cons]; split <;> (try split) <;> simp
theorem commas_cut (t : List UInt8) : commas t = if cutH t 44 then cutB t 44 :: commas (cutA t 44) else [t] := by
  induction t with
  | nil => rfl
  | cons c r ih =>
    cases hc : (c == 44)
    · rw [cutB_cons_ne c 44 r hc, cutA_cons_ne c 44 r hc]
      have hH : cutH (c :: r) 44 = cutH r 44 := by simp [cutH, hc]
      rw [hH, commas_cons, hc, ih]
      cases cutH r 44 <;> rfl
    · obtain rfl : c = 44 := by simpa using hc
      rw [cutB_cons_eq, cutA_cons_eq]
      have hH : cutH (44 :: r) 44 = true := by simp [cutH]
      rw [hH]
      rfl

/-- a piece's first byte may be cut off if it is a blank; its last one too -/
theorem trim_cons_blank (c : UInt8) (l : List UInt8) (h : blankB c = true) : trim (c :: l) = trim l := by
  rw [trim_eq, trim_eq, ← trim_swap, ← trim_swap, trimL_cons, h]; rfl
theorem trim_snoc_blank (c : UInt8) (l : List UInt8) (h : blankB c = true) : trim (l ++ [c]) = trim l := by
  rw [trim_eq, trim_eq, trimR_snoc, h]; rfl

theorem commas_blank_cons (c : UInt8) (t : List UInt8) (h : blankB c = true) : (commas (c :: t)).map trim = (commas t).map trim := by
  have hc : (c == 44) = false := by
    rw [beq_eq_false_iff_ne]
    rintro rfl
    simp [blankB] at h
  rw [commas_cons, hc]
  cases hp : commas t with
  | nil => exact absurd hp (commas_ne t)
  | cons p ps => simp [trim_cons_blank c p h]
theorem commas_blank_snoc (c : UInt8) (t : List UInt8) (h : blankB c = true) : (commas (t ++ [c])).map trim = (commas t).map trim := by
  have hc : (c == 44) = false := by
    rw [beq_eq_false_iff_ne]
    rintro rfl
    simp [blankB] at h
  induction t with
  | nil =>
    show (commas [c]).map trim = _
    simp only [commas, hc]
    have := trim_cons_blank c [] h
    simp [this]
  | cons x r ih =>
    rw [List.cons_append, commas_cons, commas_cons]
    cases hx : (x == 44)
    · cases hp : commas r with
      | nil => exact absurd hp (commas_ne r)
      | cons p ps =>
        cases hq : commas (r ++ [c]) with
        | nil => exact absurd hq (commas_ne _)
        | cons q qs =>
          rw [hp, hq] at ih
          simp only [List.map_cons, List.cons.injEq] at ih
          simp only [Bool.false_eq_true, if_false, List.map_cons, ih.2, List.cons.injEq, and_true]
          -- x :: q against x :: p, trimmed: q is p, or p and a blank
          have key : ∀ (l m : List UInt8), commas l = p :: ps → commas (l ++ [c]) = q :: qs → trim (x :: q) = trim (x :: p) := by
            intro l m hl hlc
            rw [commas_cut] at hl hlc
            have hB : cutH (l ++ [c]) 44 = cutH l 44 := by
              have : (c == 44) = false := hc
              simp [cutH, this]
            rw [hB] at hlc
            cases hh : cutH l 44
            · rw [hh] at hl hlc
              simp at hl hlc
              rw [← hl.1, ← hlc.1, ← List.cons_append, trim_snoc_blank c _ h]
            · rw [hh] at hl hlc
              simp at hl hlc
              have : cutB (l ++ [c]) 44 = cutB l 44 := cutB_append l [c] 44 hh
              rw [← hl.1, ← hlc.1, this]
          exact key r [] hp hq
    · simp only [if_true, List.map_cons, ih]

theorem commas_trimL (t : List UInt8) : (commas (trimL t)).map trim = (commas t).map trim := by
  induction t with
  | nil => rfl
  | cons c r ih =>
    rw [trimL_cons]
    cases hc : blankB c
    · rfl
    · rw [if_pos rfl, ih, commas_blank_cons c r hc]
theorem commas_trimR (n : Nat) : ∀ t : List UInt8, t.length ≤ n → (commas (trimR t)).map trim = (commas t).map trim := by
  induction n with
  | zero =>
    intro t h
    obtain rfl : t = [] := List.eq_nil_of_length_eq_zero (by omega)
    rfl
  | succ n ih =>
    intro t h
    rcases List.eq_nil_or_concat t with rfl | ⟨q, c, hq⟩
    · rfl
    · rw [List.concat_eq_append] at hq
      subst hq
      rw [trimR_snoc]
      cases hc : blankB c
      · rfl
      · rw [if_pos rfl, ih q (by simpa using h), commas_blank_snoc c q hc]
theorem commas_trim (t : List UInt8) : (commas (trim t)).map trim = (commas t).map trim := by
  rw [trim_eq, commas_trimL, commas_trimR t.length t (Nat.le_refl _)]

/-- the operands, parted at the commas; none may be empty -/
def opsT (t : List UInt8) : Option (List (List UInt8)) :=
  if t = [] then some [] else if ((commas t).map trim).any (·.isEmpty) then none else some ((commas t).map trim)

theorem trim_nil : trim [] = [] := rfl
theorem opsT_nil : opsT [] = some [] := rfl
theorem cutB_none (t : List UInt8) (c : UInt8) (h : cutH t c = false) : cutB t c = t ∧ cutA t c = [] := by
  have := cut_miss t c (fun j hj e => by
    have : cutH t c = true := by
      unfold cutH
      rw [List.any_eq_true]
      rw [List.getElem?_eq_getElem hj] at e
      exact ⟨t[j], List.getElem_mem hj, by simpa using e⟩
    rw [h] at this; cases this)
  exact ⟨this.1, this.2.1⟩
theorem opsT_bad1 (t : List UInt8) (h : t ≠ []) (h1 : trim (cutB t 44) = []) : opsT t = none := by
  have : ((commas t).map trim).any (·.isEmpty) = true := by
    rw [commas_cut]
    cases hh : cutH t 44
    · rw [(cutB_none t 44 hh).1] at h1
      simp [h1]
    · simp [h1]
  rw [opsT, if_neg h, if_pos this]
theorem opsT_bad2 (t : List UInt8) (hh : cutH t 44 = true) (h1 : trim (cutA t 44) = []) : opsT t = none := by
  have h : t ≠ [] := by rintro rfl; simp [cutH] at hh
  have : ((commas t).map trim).any (·.isEmpty) = true := by
    rw [commas_cut, hh, if_pos rfl, List.map_cons, ← commas_trim (cutA t 44), h1]
    simp [commas, trim_nil]
  rw [opsT, if_neg h, if_pos this]
theorem opsT_step (t : List UInt8) (h : t ≠ []) (h1 : trim (cutB t 44) ≠ []) (h2 : cutH t 44 = true → trim (cutA t 44) ≠ []) :
    opsT t = (opsT (trim (cutA t 44))).map (trim (cutB t 44) :: ·) := by
  have hb : (trim (cutB t 44)).isEmpty = false := by simpa using h1
  cases hh : cutH t 44
  · obtain ⟨e1, e2⟩ := cutB_none t 44 hh
    rw [e2, trim_nil, opsT_nil, opsT, if_neg h, commas_cut, hh]
    rw [e1] at hb ⊢
    simp [hb]
  · have h3 := h2 hh
    rw [opsT, if_neg h, commas_cut, hh, if_pos rfl, List.map_cons, ← commas_trim (cutA t 44), opsT, if_neg h3]
    simp only [List.any_cons, hb, Bool.false_or]
    split <;> rfl

/-- a line of a text -/
structure RL where
  label : List UInt8
  name : List UInt8
  ops : List (List UInt8)
  num : Nat

def nameOf (u : List UInt8) : List UInt8 := u.takeWhile (fun c => !blankB c)
def behind (u : List UInt8) : List UInt8 := trim (u.dropWhile (fun c => !blankB c))
def bodyL (lab t : List UInt8) (n : Nat) : Option RL := (opsT (behind (trim t))).map fun ops => { label := lab, name := nameOf (trim t), ops := ops, num := n }
def parseL (p : List UInt8) (n : Nat) : Option RL :=
  if cutH (cutB p 35) 58 then
    if labelB (trim (cutB (cutB p 35) 58)) then bodyL (trim (cutB (cutB p 35) 58)) (cutA (cutB p 35) 58) n else none
  else bodyL [] (cutB p 35) n

/-- the lines up to the first one that is none, and that one's number -/
def linesGo : List (List UInt8) → Nat → List RL × Nat
  | [], _ => ([], 0)
  | p :: ps, n => match parseL p (n + 1) with
    | some x => (x :: (linesGo ps (n + 1)).1, (linesGo ps (n + 1)).2)
    | none => ([], n + 1)

theorem nameOf_take (u : List UInt8) (k : Nat) (hk : k ≤ u.length) (h : ∀ j, j < k → ∀ x, u[j]? = some x → blankB x = false) (he : ∀ x, u[k]? = some x → blankB x = true) :
    nameOf u = u.take k ∧ u.dropWhile (fun c => !blankB c) = u.drop k := by
  induction u generalizing k with
  | nil => simp [nameOf]
  | cons c r ih =>
    cases k with
    | zero =>
      have := he c (by simp)
      simp [nameOf, this]
    | succ k =>
      have hc := h 0 (by omega) c (by simp)
      obtain ⟨i1, i2⟩ := ih k (by simpa using hk) (fun j hj x hx => h (j + 1) (by omega) x (by simpa using hx)) (fun x hx => he x (by simpa using hx))
      unfold nameOf at i1 ⊢
      simp [hc, i1, i2]
end Go.Proofs.YtnbhpmncppohaaaGreatDoor.Mill
