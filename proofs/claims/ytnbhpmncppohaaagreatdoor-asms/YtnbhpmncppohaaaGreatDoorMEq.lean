import Derived.Test.YtnbhpmncppohaaaGreatDoorMSpec
namespace Go.Proofs.YtnbhpmncppohaaaGreatDoor.Mill
open Go.RowKit

/- MEQ: what the program makes of a line's operands, against the reference's. -/
def numKind (sh : UInt8) : Nat := if sh = 115 then 3 else if sh = 117 ∨ sh = 104 then 5 else if sh = 109 then 6 else 4
def kindOf (sh c : UInt8) : Nat := if c = 100 then 0 else if c = 115 then 1 else if c = 116 then 2 else if c = 108 then 7 else numKind sh
theorem kinds_eq : ∀ sh ∈ shapes, kindsOf sh = (opsOf sh).map (kindOf sh) := by decide

def fresh (sh : UInt8) (done : List UInt8) (c : UInt8) : Bool :=
  if c = 100 then !done.contains 100 else if c = 115 then !(done.contains 115 || done.contains 109) else if c = 116 then !done.contains 116 && !(sh == 121) && !(sh == 116)
  else if c = 108 then !done.contains 108 else if c = 110 then !(done.contains 110 || done.contains 109) && !(sh == 109) else c == 109 && sh == 109 && !(done.contains 110 || done.contains 109 || done.contains 115)
def freshL (sh : UInt8) : List UInt8 → List UInt8 → Bool
  | _, [] => true
  | done, c :: r => fresh sh done c && freshL sh (done ++ [c]) r
theorem fresh_all : ∀ sh ∈ shapes, freshL sh [] (opsOf sh) = true := by decide

structure Rel (done : List UInt8) (a : Ak) (e : Int) (s : Stm) : Prop where
  goal : s.goal = a.goal
  word : s.word = bareOf a.sh a.num + a.s * 2097152 + a.t * 65536 + a.d * 2048
  rs : 0 ≤ a.s ∧ a.s ≤ 31
  rt : 0 ≤ a.t ∧ a.t ≤ 31
  rd : 0 ≤ a.d ∧ a.d ≤ 31
  ns : done.contains 115 = false → done.contains 109 = false → a.s = 0
  nt : done.contains 116 = false → a.t = 0
  nd : done.contains 100 = false → a.d = 0
  nn : done.contains 110 = false → done.contains 109 = false → s.f = ⟨0, 0, 0, 0⟩ ∧ s.number = 0 ∧ a.n = 0 ∧ e = 0
  yn : (done.contains 110 || done.contains 109) = true → s.f = fieldOf (numKind a.sh) ∧ s.number = a.n ∧ e = if withinB a.sh a.n then 0 else 4
  ng : done.contains 108 = false → a.goal = []
  yg : done.contains 108 = true → a.goal ≠ []
  ty : a.sh = 121 → a.t = 0

theorem regI_bd (o : List UInt8) (h : ¬ regI o < 0) : 0 ≤ regI o ∧ regI o ≤ 31 := by
  refine ⟨by omega, ?_⟩
  unfold regI
  split
  · split
    · split <;> omega
    · omega
  · omega
theorem bare_bd (sh : UInt8) (num : Nat) (hn : num ≤ 63) (hy : sh = 121 → num ≤ 1) :
    (0 ≤ bareOf sh num ∧ bareOf sh num ≤ 63) ∨ (sh = 121 ∧ (bareOf sh num = 67108864 ∨ bareOf sh num = 67108864 + 65536)) ∨ (sh ≠ 121 ∧ bareOf sh num = num * 67108864) := by
  unfold bareOf
  split
  · left; omega
  · split
    · rename_i h
      have := hy h
      right; left
      exact ⟨h, by omega⟩
    · right; right
      exact ⟨‹_›, rfl⟩
theorem labelB_nn (o : List UInt8) (h : labelB o = true) : o ≠ [] := by rintro rfl; cases h
theorem contains_snoc (l : List UInt8) (c x : UInt8) : (l ++ [c]).contains x = (l.contains x || (x == c)) := by
  rw [Bool.eq_iff_iff]; simp

theorem rel_goal (done : List UInt8) (a : Ak) (e : Int) (s : Stm) (o : List UInt8) (h : Rel done a e s) (ho : labelB o = true) : Rel (done ++ [108]) { a with goal := o } e { s with goal := o } := by
  have c1 : ∀ x : UInt8, (x == 108) = false → (done ++ [108]).contains x = done.contains x := fun x hx => by rw [contains_snoc, hx, Bool.or_false]
  obtain ⟨g, w, rs, rt, rd, ns, nt, nd, nn, yn, ng, yg, ty⟩ := h
  refine ⟨rfl, w, rs, rt, rd, ?_, ?_, ?_, ?_, ?_, ?_, fun _ => labelB_nn o ho, ty⟩
  · rw [c1 115 (by decide), c1 109 (by decide)]; exact ns
  · rw [c1 116 (by decide)]; exact nt
  · rw [c1 100 (by decide)]; exact nd
  · rw [c1 110 (by decide), c1 109 (by decide)]; exact nn
  · rw [c1 110 (by decide), c1 109 (by decide)]; exact yn
  · intro h; rw [contains_snoc] at h; simp at h
theorem rel_s (done : List UInt8) (a : Ak) (e : Int) (s : Stm) (r : Int) (h : Rel done a e s) (hn : a.num ≤ 63) (hy : a.sh = 121 → a.num ≤ 1) (hf : (done.contains 115 || done.contains 109) = false) (h0 : 0 ≤ r) (h1 : r ≤ 31) :
    bits .or .u32 s.word (putR 1 r) = bareOf a.sh a.num + r * 2097152 + a.t * 65536 + a.d * 2048 := by
  obtain ⟨g, w, rs, rt, rd, ns, nt, nd, nn, yn, ng, yg, ty⟩ := h
  rw [Bool.or_eq_false_iff] at hf
  have hs := ns hf.1 hf.2
  have hp : putR 1 r = r * 2097152 := by unfold putR; rw [if_pos rfl, putR_eq21 r h0 h1]
  rw [hp, w, hs]
  rcases bare_bd a.sh a.num hn hy with hb | ⟨h121, hb⟩ | ⟨_, hb⟩
  · rw [or_21 _ _ (by omega) (by omega) (by omega) h0 h1]; omega
  · have := ty h121
    rw [or_21 _ _ (by omega) (by omega) (by omega) h0 h1]; omega
  · have hq : (bareOf a.sh a.num + 0 * 2097152 + a.t * 65536 + a.d * 2048) / 2097152 = a.num * 32 := by omega
    rw [or_21 _ _ (by omega) (by omega) (by omega) h0 h1]; omega
theorem rel_t (done : List UInt8) (a : Ak) (e : Int) (s : Stm) (r : Int) (h : Rel done a e s) (hn : a.num ≤ 63) (hy : a.sh = 121 → a.num ≤ 1) (h121 : a.sh ≠ 121) (hf : done.contains 116 = false) (h0 : 0 ≤ r) (h1 : r ≤ 31) :
    bits .or .u32 s.word (putR 2 r) = bareOf a.sh a.num + a.s * 2097152 + r * 65536 + a.d * 2048 := by
  obtain ⟨g, w, rs, rt, rd, ns, nt, nd, nn, yn, ng, yg, ty⟩ := h
  have hs := nt hf
  have hp : putR 2 r = r * 65536 := by unfold putR; rw [if_neg (by decide), if_pos rfl, putR_eq16 r h0 h1]
  rw [hp, w, hs]
  rcases bare_bd a.sh a.num hn hy with hb | ⟨hb, _⟩ | ⟨_, hb⟩
  · rw [or_16 _ _ (by omega) (by omega) (by omega) h0 h1]; omega
  · exact absurd hb h121
  · rw [or_16 _ _ (by omega) (by omega) (by omega) h0 h1]; omega
theorem rel_d (done : List UInt8) (a : Ak) (e : Int) (s : Stm) (r : Int) (h : Rel done a e s) (hn : a.num ≤ 63) (hy : a.sh = 121 → a.num ≤ 1) (hf : done.contains 100 = false) (h0 : 0 ≤ r) (h1 : r ≤ 31) :
    bits .or .u32 s.word (putR 0 r) = bareOf a.sh a.num + a.s * 2097152 + a.t * 65536 + r * 2048 := by
  obtain ⟨g, w, rs, rt, rd, ns, nt, nd, nn, yn, ng, yg, ty⟩ := h
  have hs := nd hf
  have hp : putR 0 r = r * 2048 := by unfold putR; rw [if_neg (by decide), if_neg (by decide), putR_eq11 r h0 h1]
  rw [hp, w, hs]
  rcases bare_bd a.sh a.num hn hy with hb | ⟨_, hb⟩ | ⟨_, hb⟩
  · rw [or_11 _ _ (by omega) (by omega) (by omega) h0 h1]; omega
  · rw [or_11 _ _ (by omega) (by omega) (by omega) h0 h1]; omega
  · rw [or_11 _ _ (by omega) (by omega) (by omega) h0 h1]; omega

/-- what both make of one operand -/
def Steps (done : List UInt8) (c : UInt8) (o : List UInt8) (a : Ak) (e : Int) (s : Stm) : Prop :=
  ((opStep c o a e).2.2 = true ∧ ∃ s', opP (kindOf a.sh c) o s = some s' ∧ Rel (done ++ [c]) (opStep c o a e).1 (opStep c o a e).2.1 s' ∧ s'.label = s.label ∧ s'.has = s.has ∧ s'.shape = s.shape) ∨
  ((opStep c o a e).2.2 = false ∧ opP (kindOf a.sh c) o s = none)

theorem opStep_num (c : UInt8) (o : List UInt8) (a : Ak) (e : Int) : (opStep c o a e).1.num = a.num := by
  unfold opStep numStep
  repeat' split
  all_goals rfl

theorem step_rel (done : List UInt8) (c : UInt8) (o : List UInt8) (a : Ak) (e : Int) (s : Stm) (h : Rel done a e s) (hn : a.num ≤ 63) (hy : a.sh = 121 → a.num ≤ 1) (hf : fresh a.sh done c = true) : Steps done c o a e s := by
  unfold fresh at hf
  by_cases hc : c = 100
  · subst hc
    rw [if_pos rfl] at hf
    have hf' : done.contains 100 = false := by simpa using hf
    by_cases hr : regI o < 0
    · right; exact ⟨by simp [opStep, hr], by simp [opP, kindOf, hr]⟩
    · left
      obtain ⟨h0, h1⟩ := regI_bd o hr
      have hw := rel_d done a e s (regI o) h hn hy hf' h0 h1
      have e1 : opStep 100 o a e = ({ a with d := regI o }, e, true) := by simp [opStep, hr]
      rw [e1]
      refine ⟨rfl, { s with word := bits .or .u32 s.word (putR 0 (regI o)) }, by simp [opP, kindOf, hr], ?_, rfl, rfl, rfl⟩
      have c1 : ∀ x : UInt8, (x == 100) = false → (done ++ [100]).contains x = done.contains x := fun x hx => by rw [contains_snoc, hx, Bool.or_false]
      obtain ⟨g, w, rs, rt, rd, ns, nt, nd, nn, yn, ng, yg, ty⟩ := h
      refine ⟨g, hw, rs, rt, ⟨h0, h1⟩, ?_, ?_, ?_, ?_, ?_, ?_, ?_, ty⟩
      · rw [c1 115 (by decide), c1 109 (by decide)]; exact ns
      · rw [c1 116 (by decide)]; exact nt
      · intro h; rw [contains_snoc] at h; simp at h
      · rw [c1 110 (by decide), c1 109 (by decide)]; exact nn
      · rw [c1 110 (by decide), c1 109 (by decide)]; exact yn
      · rw [c1 108 (by decide)]; exact ng
      · rw [c1 108 (by decide)]; exact yg
  rw [if_neg hc] at hf
  by_cases hc2 : c = 115
  · subst hc2
    rw [if_pos rfl] at hf
    have hf' : (done.contains 115 || done.contains 109) = false := by simpa using hf
    by_cases hr : regI o < 0
    · right; exact ⟨by simp [opStep, hr], by simp [opP, kindOf, hr]⟩
    · left
      obtain ⟨h0, h1⟩ := regI_bd o hr
      have hw := rel_s done a e s (regI o) h hn hy hf' h0 h1
      have e1 : opStep 115 o a e = ({ a with s := regI o }, e, true) := by simp [opStep, hr]
      rw [e1]
      refine ⟨rfl, { s with word := bits .or .u32 s.word (putR 1 (regI o)) }, by simp [opP, kindOf, hr], ?_, rfl, rfl, rfl⟩
      have c1 : ∀ x : UInt8, (x == 115) = false → (done ++ [115]).contains x = done.contains x := fun x hx => by rw [contains_snoc, hx, Bool.or_false]
      obtain ⟨g, w, rs, rt, rd, ns, nt, nd, nn, yn, ng, yg, ty⟩ := h
      refine ⟨g, hw, ⟨h0, h1⟩, rt, rd, ?_, ?_, ?_, ?_, ?_, ?_, ?_, ty⟩
      · intro h; rw [contains_snoc] at h; simp at h
      · rw [c1 116 (by decide)]; exact nt
      · rw [c1 100 (by decide)]; exact nd
      · rw [c1 110 (by decide), c1 109 (by decide)]; exact nn
      · rw [c1 110 (by decide), c1 109 (by decide)]; exact yn
      · rw [c1 108 (by decide)]; exact ng
      · rw [c1 108 (by decide)]; exact yg
  rw [if_neg hc2] at hf
  by_cases hc3 : c = 116
  · subst hc3
    rw [if_pos rfl] at hf
    simp only [Bool.and_eq_true, Bool.not_eq_true', beq_eq_false_iff_ne] at hf
    obtain ⟨⟨hf', h121⟩, h116⟩ := hf
    by_cases hr : regI o < 0
    · right; exact ⟨by simp [opStep, hr], by simp [opP, kindOf, hr]⟩
    · left
      obtain ⟨h0, h1⟩ := regI_bd o hr
      have hw := rel_t done a e s (regI o) h hn hy h121 hf' h0 h1
      have e1 : opStep 116 o a e = ({ a with t := regI o }, e, true) := by simp [opStep, hr]
      rw [e1]
      refine ⟨rfl, { s with word := bits .or .u32 s.word (putR 2 (regI o)) }, by simp [opP, kindOf, hr], ?_, rfl, rfl, rfl⟩
      have c1 : ∀ x : UInt8, (x == 116) = false → (done ++ [116]).contains x = done.contains x := fun x hx => by rw [contains_snoc, hx, Bool.or_false]
      obtain ⟨g, w, rs, rt, rd, ns, nt, nd, nn, yn, ng, yg, ty⟩ := h
      refine ⟨g, hw, rs, ⟨h0, h1⟩, rd, ?_, ?_, ?_, ?_, ?_, ?_, ?_, fun h => absurd h h121⟩
      · rw [c1 115 (by decide), c1 109 (by decide)]; exact ns
      · intro h; rw [contains_snoc] at h; simp at h
      · rw [c1 100 (by decide)]; exact nd
      · rw [c1 110 (by decide), c1 109 (by decide)]; exact nn
      · rw [c1 110 (by decide), c1 109 (by decide)]; exact yn
      · rw [c1 108 (by decide)]; exact ng
      · rw [c1 108 (by decide)]; exact yg
  rw [if_neg hc3] at hf
  by_cases hc4 : c = 108
  · subst hc4
    cases hl : labelB o
    · right; exact ⟨by simp [opStep, hl], by simp [opP, kindOf, hl]⟩
    · left
      have e1 : opStep 108 o a e = ({ a with goal := o }, e, true) := by simp [opStep, hl]
      rw [e1]
      exact ⟨rfl, { s with goal := o }, by simp [opP, kindOf, hl], rel_goal done a e s o h hl, rfl, rfl, rfl⟩
  rw [if_neg hc4] at hf
  have numK : 3 ≤ numKind a.sh ∧ numKind a.sh ≤ 6 ∧ (numKind a.sh = 6 ↔ a.sh = 109) := by
    unfold numKind
    split
    · rename_i h; exact ⟨by omega, by omega, by rw [h]; decide⟩
    · split
      · rename_i h
        refine ⟨by omega, by omega, ⟨fun h => by omega, fun h' => ?_⟩⟩
        rw [h'] at h; revert h; decide
      · split
        · rename_i h; exact ⟨by omega, by omega, by rw [h]; decide⟩
        · rename_i h; exact ⟨by omega, by omega, ⟨fun h => by omega, fun h' => absurd h' h⟩⟩
  obtain ⟨k1, k2, k3⟩ := numK
  have hk : kindOf a.sh c = numKind a.sh := by unfold kindOf; rw [if_neg hc, if_neg hc2, if_neg hc3, if_neg hc4]
  by_cases hc5 : c = 110
  · subst hc5
    rw [if_pos rfl] at hf
    simp only [Bool.and_eq_true, Bool.not_eq_true', beq_eq_false_iff_ne, Bool.or_eq_false_iff] at hf
    obtain ⟨⟨hf1, hf2⟩, hf3⟩ := hf
    have hk6 : numKind a.sh ≠ 6 := fun h => hf3 (k3.1 h)
    cases hno : numOk o
    · right; exact ⟨by simp [opStep, numStep, hno], by rw [hk, opP, if_neg (by omega), if_neg (by omega), if_neg hk6, hno]; rfl⟩
    · left
      obtain ⟨g, w, rs, rt, rd, ns, nt, nd, nn, yn, ng, yg, ty⟩ := h
      obtain ⟨n1, n2, n3, n4⟩ := nn hf1 hf2
      have e1 : opStep 110 o a e = ({ a with n := numVal o }, (if withinB a.sh (numVal o) then 0 else 4), true) := by simp [opStep, numStep, hno, n4]
      rw [e1]
      refine ⟨rfl, { s with number := numVal o, f := fieldOf (numKind a.sh) }, by rw [hk, opP, if_neg (by omega), if_neg (by omega), if_neg hk6, hno]; rfl, ?_, rfl, rfl, rfl⟩
      have c1 : ∀ x : UInt8, (x == 110) = false → (done ++ [110]).contains x = done.contains x := fun x hx => by rw [contains_snoc, hx, Bool.or_false]
      refine ⟨g, w, rs, rt, rd, ?_, ?_, ?_, ?_, ?_, ?_, ?_, ty⟩
      · rw [c1 115 (by decide), c1 109 (by decide)]; exact ns
      · rw [c1 116 (by decide)]; exact nt
      · rw [c1 100 (by decide)]; exact nd
      · intro h; rw [contains_snoc] at h; simp at h
      · intro _; exact ⟨rfl, rfl, rfl⟩
      · rw [c1 108 (by decide)]; exact ng
      · rw [c1 108 (by decide)]; exact yg
  rw [if_neg hc5] at hf
  simp only [Bool.and_eq_true, Bool.not_eq_true', beq_iff_eq, Bool.or_eq_false_iff] at hf
  obtain ⟨⟨hc6, hsh⟩, ⟨hf1, hf2⟩, hf3⟩ := hf
  subst hc6
  have hk6 : numKind a.sh = 6 := k3.2 hsh
  cases hcl : (cutH o 40 && closes (cutA o 40))
  · right
    exact ⟨by rw [opStep, if_pos (by decide), hcl]; rfl, by rw [hk, hk6, opP, if_neg (by decide), if_neg (by decide), if_pos rfl, hcl]; rfl⟩
  · by_cases hr : regI (trim (cutA o 40).dropLast) < 0
    · right
      exact ⟨by rw [opStep, if_pos (by decide), hcl, if_pos rfl, if_pos hr], by rw [hk, hk6, opP, if_neg (by decide), if_neg (by decide), if_pos rfl, hcl, if_pos rfl, if_pos hr]⟩
    · cases hno : numOk (trim (cutB o 40))
      · right
        exact ⟨by rw [opStep, if_pos (by decide), hcl, if_pos rfl, if_neg hr, numStep, hno]; rfl, by rw [hk, hk6, opP, if_neg (by decide), if_neg (by decide), if_pos rfl, hcl, if_pos rfl, if_neg hr, hno]; rfl⟩
      · left
        obtain ⟨h0, h1⟩ := regI_bd _ hr
        have hw := rel_s done a e s _ h hn hy (by rw [hf3, hf2]; rfl) h0 h1
        obtain ⟨g, w, rs, rt, rd, ns, nt, nd, nn, yn, ng, yg, ty⟩ := h
        obtain ⟨n1, n2, n3, n4⟩ := nn hf1 hf2
        have e1 : opStep 109 o a e = ({ a with s := regI (trim (cutA o 40).dropLast), n := numVal (trim (cutB o 40)) }, (if withinB a.sh (numVal (trim (cutB o 40))) then 0 else 4), true) := by
          rw [opStep, if_pos (by decide), hcl, if_pos rfl, if_neg hr, numStep, hno, if_pos rfl, n4]
        rw [e1]
        refine ⟨rfl, { s with word := bits .or .u32 s.word (putR 1 (regI (trim (cutA o 40).dropLast))), number := numVal (trim (cutB o 40)), f := fieldOf 6 }, by rw [hk, hk6, opP, if_neg (by decide), if_neg (by decide), if_pos rfl, hcl, if_pos rfl, if_neg hr, hno]; rfl, ?_, rfl, rfl, rfl⟩
        have c1 : ∀ x : UInt8, (x == 109) = false → (done ++ [109]).contains x = done.contains x := fun x hx => by rw [contains_snoc, hx, Bool.or_false]
        refine ⟨g, hw, ⟨h0, h1⟩, rt, rd, ?_, ?_, ?_, ?_, ?_, ?_, ?_, ty⟩
        · intro _ h; rw [contains_snoc] at h; simp at h
        · rw [c1 116 (by decide)]; exact nt
        · rw [c1 100 (by decide)]; exact nd
        · intro _ h; rw [contains_snoc] at h; simp at h
        · intro _; exact ⟨by rw [hk6], rfl, rfl⟩
        · rw [c1 108 (by decide)]; exact ng
        · rw [c1 108 (by decide)]; exact yg

/-- all operands; os: as they stand, trimmed for the reference -/
theorem fill_rel (todo : List UInt8) : ∀ (done : List UInt8) (os : List (List UInt8)) (a : Ak) (e : Int) (s : Stm), Rel done a e s → a.num ≤ 63 → (a.sh = 121 → a.num ≤ 1) → freshL a.sh done todo = true → os.length = todo.length →
    ((fillGo todo (os.map trim) a e).2 ≠ 3 ∧ ∃ s', opsP (todo.map (kindOf a.sh)) os s = some s' ∧ Rel (done ++ todo) (fillGo todo (os.map trim) a e).1 (fillGo todo (os.map trim) a e).2 s' ∧ s'.label = s.label ∧ s'.has = s.has ∧ s'.shape = s.shape ∧ (fillGo todo (os.map trim) a e).1.sh = a.sh ∧ (fillGo todo (os.map trim) a e).1.num = a.num ∧ (fillGo todo (os.map trim) a e).1.data = a.data) ∨
    ((fillGo todo (os.map trim) a e).2 = 3 ∧ opsP (todo.map (kindOf a.sh)) os s = none) := by
  induction todo with
  | nil =>
    intro done os a e s h hn hy _ hl
    obtain rfl : os = [] := List.eq_nil_of_length_eq_zero hl
    left
    refine ⟨?_, s, rfl, by simpa [fillGo] using h, rfl, rfl, rfl, rfl, rfl, rfl⟩
    show e ≠ 3
    by_cases h110 : (done.contains 110 || done.contains 109) = true
    · rw [(h.yn h110).2.2]; split <;> omega
    · rw [Bool.not_eq_true, Bool.or_eq_false_iff] at h110
      rw [(h.nn h110.1 h110.2).2.2.2]; omega
  | cons c r ih =>
    intro done os a e s h hn hy hf hl
    cases os with
    | nil => simp at hl
    | cons o os =>
      simp only [freshL, Bool.and_eq_true] at hf
      have hst := step_rel done c (trim o) a e s h hn hy hf.1
      have hsh := opStep_sh c (trim o) a e
      have hnm := opStep_num c (trim o) a e
      have hda : (opStep c (trim o) a e).1.data = a.data := by
        unfold opStep numStep
        repeat' split
        all_goals rfl
      simp only [List.map_cons, fillGo, opsP]
      rcases hst with ⟨h1, s', h2, h3, h4, h5, h6⟩ | ⟨h1, h2⟩
      · rw [h1, h2]
        simp only [if_true]
        have := ih (done ++ [c]) os (opStep c (trim o) a e).1 (opStep c (trim o) a e).2.1 s' h3 (by rw [hnm]; exact hn) (by rw [hsh, hnm]; exact hy) (by rw [hsh]; exact hf.2) (by simpa using hl)
        rw [hsh] at this
        rcases this with ⟨q1, s2, q2, q3, q4, q5, q6, q7, q8, q9⟩ | ⟨q1, q2⟩
        · left
          refine ⟨q1, s2, q2, by simpa using q3, q4.trans h4, q5.trans h5, q6.trans h6, q7, q8.trans hnm, q9.trans hda⟩
        · right; exact ⟨q1, q2⟩
      · right
        rw [h1, h2]
        exact ⟨rfl, rfl⟩
end Go.Proofs.YtnbhpmncppohaaaGreatDoor.Mill
