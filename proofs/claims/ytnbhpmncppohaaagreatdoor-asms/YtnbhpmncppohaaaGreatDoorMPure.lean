import Derived.Test.YtnbhpmncppohaaaGreatDoorMCatch
import Derived.Test.YtnbhpmncppohaaaGreatDoorMInst
namespace Go.Proofs.YtnbhpmncppohaaaGreatDoor.Mill
open Go.RowKit

/- MPURE: a line, as the program reads it, against the reference's. -/
theorem opP_nil (k : Nat) (s : Stm) : opP k [] s = none := by
  have h1 : regI [] < 0 := by decide
  have h2 : numOk [] = false := by decide
  unfold opP
  rw [if_pos h1, labelB_nil, h2]
  simp [cutH]
theorem opsP_empty : ∀ (ks : List Nat) (os : List (List UInt8)) (s : Stm), os.length = ks.length → (os.map trim).any (·.isEmpty) = true → opsP ks os s = none
  | [], [], _, _, h => by simp at h
  | [], _ :: _, _, h, _ => by simp at h
  | _ :: _, [], _, h, _ => by simp at h
  | k :: ks, o :: os, s, hl, h => by
    rw [opsP]
    cases ho : opP k (trim o) s with
    | none => rfl
    | some s' =>
      simp only [List.map_cons, List.any_cons, Bool.or_eq_true] at h
      rcases h with h | h
      · have : trim o = [] := by simpa using h
        rw [this, opP_nil] at ho; cases ho
      · exact opsP_empty ks os s' (by simpa using hl) h
theorem operands_bad (ks : List Nat) (t : List UInt8) (s : Stm) (h : opsT t = none) : operandsP ks t s = none := by
  unfold opsT at h
  split at h
  · cases h
  · rename_i ht
    split at h
    · rename_i ha
      unfold operandsP pieces
      rw [if_neg ht]
      split
      · rename_i hl
        exact opsP_empty ks _ s hl ha
      · rfl
    · cases h
theorem operands_good (t : List UInt8) (os : List (List UInt8)) (h : opsT t = some os) : (pieces t).map trim = os := by
  unfold opsT at h
  unfold pieces
  split at h
  · rename_i ht
    rw [if_pos ht]
    cases h; rfl
  · rename_i ht
    rw [if_neg ht]
    split at h
    · cases h
    · cases h; rfl
theorem nameOf_ne (t : List UInt8) (h : trim t ≠ []) : nameOf (trim t) ≠ [] := by
  rw [trim_eq] at h ⊢
  unfold trimL at h ⊢
  cases hd : (trimR t).dropWhile blankB with
  | nil => exact absurd hd h
  | cons c r =>
    have hc : blankB c = false := by
      have := List.head_dropWhile_not blankB (l := trimR t) (by rw [hd]; simp)
      simpa [hd] using this
    simp [nameOf, hc]

/-- a word's first sum -/
def baseW (a : Ak) : Int := if a.data then a.raw else encI a.sh a.num a.s a.t a.d a.n
/-- what the program has of a word that the reference has so -/
structure WRel (sv : UInt8 → Value) (a : Ak) (e : Int) (s : Stm) : Prop where
  e04 : e = 0 ∨ e = 4
  rng : e = 0 ↔ (s.f.least ≤ s.number ∧ s.number ≤ s.f.most)
  goal : s.goal = a.goal
  gsh : a.goal ≠ [] → s.shape = sv a.sh ∧ (a.sh = 98 ∨ a.sh = 122 ∨ a.sh = 121 ∨ a.sh = 116) ∧ a.data = false ∧ a.n = 0
  word : e = 0 → bits .or .u32 s.word (putF s.f s.number) = baseW a

theorem putF_5 (l m n : Int) (h0 : 0 ≤ n) (h1 : n ≤ 31) : putF ⟨6, 5, l, m⟩ n = n * 64 := by unfold putF; rw [if_pos rfl, putR_eq6 n h0 h1]
theorem putF_16 (l m n : Int) : putF ⟨0, 16, l, m⟩ n = n % 65536 := by unfold putF; rw [if_neg (by simp), if_pos rfl, and_65535]
theorem putF_32 (l m n : Int) : putF ⟨0, 32, l, m⟩ n = n % 4294967296 := by unfold putF; rw [if_neg (by simp), if_neg (by simp), if_pos rfl, and_all]
theorem putF_0 (l m n : Int) : putF ⟨0, 0, l, m⟩ n = 0 := by unfold putF; rw [if_neg (by simp), if_neg (by simp), if_neg (by simp)]

theorem rel_wrel (sv : UInt8 → Value) (a : Ak) (e : Int) (s : Stm) (sh : UInt8) (hsh : a.sh = sh) (h : Rel (opsOf sh) a e s) (hs : sh ∈ shapes) (hn : a.num ≤ 63) (hy : sh = 121 → a.num ≤ 1) (hd : a.data = false) (hsv : s.shape = sv sh) : WRel sv a e s := by
  obtain ⟨g, w, rs, rt, rd, ns, nt, nd, nn, yn, ng, yg, ty⟩ := h
  rw [hsh] at w yn
  have hb : baseW a = encI sh a.num a.s a.t a.d a.n := by rw [baseW, hd, hsh]; rfl
  simp only [shapes, List.mem_cons, List.mem_nil_iff, or_false] at hs
  rcases hs with rfl | rfl | rfl | rfl | rfl | rfl | rfl | rfl | rfl | rfl | rfl | rfl | rfl | rfl
  · -- 114
    rw [show bareOf 114 a.num = (a.num : Int) from rfl] at w
    rw [show encI 114 a.num a.s a.t a.d a.n = a.s * 2097152 + a.t * 65536 + a.d * 2048 + a.num from rfl] at hb
    obtain ⟨f1, f2, f3, f4⟩ := nn (by decide) (by decide)
    refine ⟨.inl f4, by rw [f1, f2, f4]; simp, g, fun h => absurd (ng (by decide)) h, fun he => ?_⟩
    rw [f1, putF_0, or_zero _ (by omega) (by omega), hb, w]; omega
  · -- 115
    rw [show bareOf 115 a.num = (a.num : Int) from rfl] at w
    have zs := ns (by decide) (by decide)
    rw [show encI 115 a.num a.s a.t a.d a.n = a.t * 65536 + a.d * 2048 + a.n * 64 + a.num from rfl] at hb
    obtain ⟨f1, f2, f3⟩ := yn (by decide)
    rw [show fieldOf (numKind 115) = ⟨6, 5, 0, 31⟩ from rfl] at f1
    rw [show withinB 115 a.n = decide (0 ≤ a.n ∧ a.n ≤ 31) from rfl] at f3
    simp only [decide_eq_true_eq] at f3
    have zg := ng (by decide)
    have r : e = 0 ↔ (0 ≤ a.n ∧ a.n ≤ 31) := by
      rw [f3]; split <;> simp_all
    refine ⟨by rw [f3]; split <;> simp, by rw [f1, f2]; exact r, g, fun h => absurd zg h, fun he => ?_⟩
    have rr := r.1 he
    rw [f1, f2, putF_5 _ _ _ rr.1 rr.2, or_6 _ _ (by omega) (by omega) (by omega) rr.1 rr.2, hb, w]; omega
  · -- 118
    rw [show bareOf 118 a.num = (a.num : Int) from rfl] at w
    rw [show encI 118 a.num a.s a.t a.d a.n = a.s * 2097152 + a.t * 65536 + a.d * 2048 + a.num from rfl] at hb
    obtain ⟨f1, f2, f3, f4⟩ := nn (by decide) (by decide)
    refine ⟨.inl f4, by rw [f1, f2, f4]; simp, g, fun h => absurd (ng (by decide)) h, fun he => ?_⟩
    rw [f1, putF_0, or_zero _ (by omega) (by omega), hb, w]; omega
  · -- 106
    rw [show bareOf 106 a.num = (a.num : Int) from rfl] at w
    have zt := nt (by decide)
    have zd := nd (by decide)
    rw [show encI 106 a.num a.s a.t a.d a.n = a.s * 2097152 + a.d * 2048 + a.num from rfl] at hb
    obtain ⟨f1, f2, f3, f4⟩ := nn (by decide) (by decide)
    refine ⟨.inl f4, by rw [f1, f2, f4]; simp, g, fun h => absurd (ng (by decide)) h, fun he => ?_⟩
    rw [f1, putF_0, or_zero _ (by omega) (by omega), hb, w]; omega
  · -- 108
    rw [show bareOf 108 a.num = (a.num : Int) from rfl] at w
    have zt := nt (by decide)
    rw [show encI 108 a.num a.s a.t a.d a.n = a.s * 2097152 + a.d * 2048 + a.num from rfl] at hb
    obtain ⟨f1, f2, f3, f4⟩ := nn (by decide) (by decide)
    refine ⟨.inl f4, by rw [f1, f2, f4]; simp, g, fun h => absurd (ng (by decide)) h, fun he => ?_⟩
    rw [f1, putF_0, or_zero _ (by omega) (by omega), hb, w]; omega
  · -- 120
    rw [show bareOf 120 a.num = (a.num : Int) from rfl] at w
    have zs := ns (by decide) (by decide)
    have zt := nt (by decide)
    have zd := nd (by decide)
    rw [show encI 120 a.num a.s a.t a.d a.n = (a.num : Int) from rfl] at hb
    obtain ⟨f1, f2, f3, f4⟩ := nn (by decide) (by decide)
    refine ⟨.inl f4, by rw [f1, f2, f4]; simp, g, fun h => absurd (ng (by decide)) h, fun he => ?_⟩
    rw [f1, putF_0, or_zero _ (by omega) (by omega), hb, w]; omega
  · -- 105
    rw [show bareOf 105 a.num = (a.num : Int) * 67108864 from rfl] at w
    have zd := nd (by decide)
    rw [show encI 105 a.num a.s a.t a.d a.n = (a.num : Int) * 67108864 + a.s * 2097152 + a.t * 65536 + a.n % 65536 from rfl] at hb
    obtain ⟨f1, f2, f3⟩ := yn (by decide)
    rw [show fieldOf (numKind 105) = ⟨0, 16, -32768, 32767⟩ from rfl] at f1
    rw [show withinB 105 a.n = decide (-32768 ≤ a.n ∧ a.n ≤ 32767) from rfl] at f3
    simp only [decide_eq_true_eq] at f3
    have zg := ng (by decide)
    have r : e = 0 ↔ (-32768 ≤ a.n ∧ a.n ≤ 32767) := by
      rw [f3]; split <;> simp_all
    refine ⟨by rw [f3]; split <;> simp, by rw [f1, f2]; exact r, g, fun h => absurd zg h, fun he => ?_⟩
    have rr := r.1 he
    rw [f1, f2, putF_16, or_low16 _ _ (by omega) (by omega) (by omega) (by omega) (by omega), hb, w]; omega
  · -- 117
    rw [show bareOf 117 a.num = (a.num : Int) * 67108864 from rfl] at w
    have zd := nd (by decide)
    rw [show encI 117 a.num a.s a.t a.d a.n = (a.num : Int) * 67108864 + a.s * 2097152 + a.t * 65536 + a.n % 65536 from rfl] at hb
    obtain ⟨f1, f2, f3⟩ := yn (by decide)
    rw [show fieldOf (numKind 117) = ⟨0, 16, 0, 65535⟩ from rfl] at f1
    rw [show withinB 117 a.n = decide (0 ≤ a.n ∧ a.n ≤ 65535) from rfl] at f3
    simp only [decide_eq_true_eq] at f3
    have zg := ng (by decide)
    have r : e = 0 ↔ (0 ≤ a.n ∧ a.n ≤ 65535) := by
      rw [f3]; split <;> simp_all
    refine ⟨by rw [f3]; split <;> simp, by rw [f1, f2]; exact r, g, fun h => absurd zg h, fun he => ?_⟩
    have rr := r.1 he
    rw [f1, f2, putF_16, or_low16 _ _ (by omega) (by omega) (by omega) (by omega) (by omega), hb, w]; omega
  · -- 104
    rw [show bareOf 104 a.num = (a.num : Int) * 67108864 from rfl] at w
    have zs := ns (by decide) (by decide)
    have zd := nd (by decide)
    rw [show encI 104 a.num a.s a.t a.d a.n = (a.num : Int) * 67108864 + a.s * 2097152 + a.t * 65536 + a.n % 65536 from rfl] at hb
    obtain ⟨f1, f2, f3⟩ := yn (by decide)
    rw [show fieldOf (numKind 104) = ⟨0, 16, 0, 65535⟩ from rfl] at f1
    rw [show withinB 104 a.n = decide (0 ≤ a.n ∧ a.n ≤ 65535) from rfl] at f3
    simp only [decide_eq_true_eq] at f3
    have zg := ng (by decide)
    have r : e = 0 ↔ (0 ≤ a.n ∧ a.n ≤ 65535) := by
      rw [f3]; split <;> simp_all
    refine ⟨by rw [f3]; split <;> simp, by rw [f1, f2]; exact r, g, fun h => absurd zg h, fun he => ?_⟩
    have rr := r.1 he
    rw [f1, f2, putF_16, or_low16 _ _ (by omega) (by omega) (by omega) (by omega) (by omega), hb, w]; omega
  · -- 109
    rw [show bareOf 109 a.num = (a.num : Int) * 67108864 from rfl] at w
    have zd := nd (by decide)
    rw [show encI 109 a.num a.s a.t a.d a.n = (a.num : Int) * 67108864 + a.s * 2097152 + a.t * 65536 + a.n % 65536 from rfl] at hb
    obtain ⟨f1, f2, f3⟩ := yn (by decide)
    rw [show fieldOf (numKind 109) = ⟨0, 16, -32768, 32767⟩ from rfl] at f1
    rw [show withinB 109 a.n = decide (-32768 ≤ a.n ∧ a.n ≤ 32767) from rfl] at f3
    simp only [decide_eq_true_eq] at f3
    have zg := ng (by decide)
    have r : e = 0 ↔ (-32768 ≤ a.n ∧ a.n ≤ 32767) := by
      rw [f3]; split <;> simp_all
    refine ⟨by rw [f3]; split <;> simp, by rw [f1, f2]; exact r, g, fun h => absurd zg h, fun he => ?_⟩
    have rr := r.1 he
    rw [f1, f2, putF_16, or_low16 _ _ (by omega) (by omega) (by omega) (by omega) (by omega), hb, w]; omega
  · -- 98
    rw [show bareOf 98 a.num = (a.num : Int) * 67108864 from rfl] at w
    have zd := nd (by decide)
    rw [show encI 98 a.num a.s a.t a.d a.n = (a.num : Int) * 67108864 + a.s * 2097152 + a.t * 65536 + a.n % 65536 from rfl] at hb
    obtain ⟨f1, f2, f3, f4⟩ := nn (by decide) (by decide)
    refine ⟨.inl f4, by rw [f1, f2, f4]; simp, g, fun _ => ⟨by rw [hsv, hsh], by rw [hsh]; decide, hd, f3⟩, fun he => ?_⟩
    rw [f1, putF_0, or_zero _ (by omega) (by omega), hb, w]; omega
  · -- 122
    rw [show bareOf 122 a.num = (a.num : Int) * 67108864 from rfl] at w
    have zt := nt (by decide)
    have zd := nd (by decide)
    rw [show encI 122 a.num a.s a.t a.d a.n = (a.num : Int) * 67108864 + a.s * 2097152 + a.t * 65536 + a.n % 65536 from rfl] at hb
    obtain ⟨f1, f2, f3, f4⟩ := nn (by decide) (by decide)
    refine ⟨.inl f4, by rw [f1, f2, f4]; simp, g, fun _ => ⟨by rw [hsv, hsh], by rw [hsh]; decide, hd, f3⟩, fun he => ?_⟩
    rw [f1, putF_0, or_zero _ (by omega) (by omega), hb, w]; omega
  · -- 121
    rw [show bareOf 121 a.num = 67108864 + (a.num : Int) * 65536 from rfl] at w
    have zt := nt (by decide)
    have zd := nd (by decide)
    have hy1 := hy rfl
    rw [show encI 121 a.num a.s a.t a.d a.n = 67108864 + a.s * 2097152 + a.num * 65536 + a.n % 65536 from rfl] at hb
    obtain ⟨f1, f2, f3, f4⟩ := nn (by decide) (by decide)
    refine ⟨.inl f4, by rw [f1, f2, f4]; simp, g, fun _ => ⟨by rw [hsv, hsh], by rw [hsh]; decide, hd, f3⟩, fun he => ?_⟩
    rw [f1, putF_0, or_zero _ (by omega) (by omega), hb, w]; omega
  · -- 116
    rw [show bareOf 116 a.num = (a.num : Int) * 67108864 from rfl] at w
    have zs := ns (by decide) (by decide)
    have zt := nt (by decide)
    have zd := nd (by decide)
    rw [show encI 116 a.num a.s a.t a.d a.n = (a.num : Int) * 67108864 + a.n / 4 from rfl] at hb
    obtain ⟨f1, f2, f3, f4⟩ := nn (by decide) (by decide)
    refine ⟨.inl f4, by rw [f1, f2, f4]; simp, g, fun _ => ⟨by rw [hsv, hsh], by rw [hsh]; decide, hd, f3⟩, fun he => ?_⟩
    rw [f1, putF_0, or_zero _ (by omega) (by omega), hb, w]; omega

/-- what both make of a line's word -/
def CodeRel (sv : UInt8 → Value) (x : RL) (o : Option Stm) (lab : List UInt8) : Prop :=
  ((askS x).2 = 3 ∧ o = none) ∨ ∃ s, o = some s ∧ s.label = lab ∧ s.has = true ∧ WRel sv (askS x).1 (askS x).2 s ∧ (askS x).1.line = x.num

theorem fillGo_line (cs : List UInt8) : ∀ (os : List (List UInt8)) (a : Ak) (e : Int), (fillGo cs os a e).1.line = a.line := by
  induction cs with
  | nil => intro os a e; simp [fillGo]
  | cons c cs ih =>
    intro os a e
    have h1 : (opStep c (os.headD []) a e).1.line = a.line := by
      unfold opStep numStep
      repeat' split
      all_goals rfl
    cases os with
    | nil => simp [fillGo]
    | cons o os =>
      simp only [List.headD_cons] at h1
      simp only [fillGo]
      split
      · rw [ih, h1]
      · exact h1
theorem code_rel (sv : UInt8 → Value) (u : List UInt8) (s0 : Stm) (lab : List UInt8) (n : Nat) (os : List (List UInt8)) (h : opsT (behind u) = some os) (hz : s0 = { Stm.zero with label := lab }) : CodeRel sv { label := lab, name := nameOf u, ops := os, num := n } (wordP sv u s0) lab := by
  have hp := operands_good _ _ h
  have hlen : (pieces (behind u)).length = os.length := by rw [← hp]; simp
  unfold wordP CodeRel askS
  dsimp only
  by_cases hw : nameOf u = wordN
  · rw [if_pos hw, if_pos (show nameOf u = wordName from hw)]
    unfold operandsP
    rw [hlen]
    match os, hp, hlen with
    | [], _, _ => left; exact ⟨rfl, rfl⟩
    | _ :: _ :: _, _, _ => left; exact ⟨rfl, by rw [if_neg (by simp)]⟩
    | [o], hp, hlen =>
      rw [if_pos (show [o].length = [8].length from rfl)]
      obtain ⟨q, hq⟩ : ∃ q, pieces (behind u) = [q] := by
        match hc : pieces (behind u), hlen with
        | [q], _ => exact ⟨q, rfl⟩
      rw [hq] at hp ⊢
      have hqo : trim q = o := by simpa using hp
      simp only [opsP, hqo]
      have e8 : opP 8 o { s0 with has := true } = if numOk o then some { s0 with has := true, number := numVal o, f := fieldOf 8 } else none := rfl
      rw [e8]
      cases hno : numOk o
      · left; exact ⟨rfl, rfl⟩
      · right
        simp only [if_true]
        refine ⟨_, rfl, by rw [hz], rfl, ?_, by split <;> rfl⟩
        by_cases hr : numVal o < -2147483648 ∨ 4294967296 ≤ numVal o
        · rw [if_pos hr]
          refine ⟨.inr rfl, ?_, by rw [hz]; rfl, fun h => absurd rfl h, fun he => by cases he⟩
          have : fieldOf 8 = ⟨0, 32, -2147483648, 4294967295⟩ := rfl
          rw [this]
          dsimp only
          omega
        · rw [if_neg hr]
          have hf : fieldOf 8 = ⟨0, 32, -2147483648, 4294967295⟩ := rfl
          refine ⟨.inl rfl, ?_, by rw [hz]; rfl, fun h => absurd rfl h, fun _ => ?_⟩
          · rw [hf]
            dsimp only
            omega
          · rw [hz, hf]
            dsimp only [Stm.zero, baseW]
            rw [putF_32, or_low32 _ (by omega) (by omega)]
            rfl
  · rw [if_neg hw, if_neg (show ¬ nameOf u = wordName from hw)]
    cases hf : tab.find? (fun y => y.1 == nameOf u) with
    | none => left; exact ⟨rfl, rfl⟩
    | some y =>
      dsimp only
      have ht := tab_shapes y (List.mem_of_find?_eq_some hf)
      unfold fillS operandsP
      dsimp only
      rw [kinds_eq _ ht.1, hlen, List.length_map]
      by_cases hl : os.length = (opsOf y.2.1).length
      · rw [if_pos hl, if_pos hl, ← hp]
        have := fill_rel (opsOf y.2.1) [] (pieces (behind u)) { Ak.zero n with name := y.1, sh := y.2.1, num := y.2.2 } 0 { s0 with has := true, word := bareOf y.2.1 y.2.2, shape := sv y.2.1 } (by
          rw [hz]
          refine ⟨rfl, by simp [Ak.zero], ⟨by simp [Ak.zero], by simp [Ak.zero]⟩, ⟨by simp [Ak.zero], by simp [Ak.zero]⟩, ⟨by simp [Ak.zero], by simp [Ak.zero]⟩, fun _ _ => rfl, fun _ => rfl, fun _ => rfl, fun _ _ => ⟨rfl, rfl, rfl, rfl⟩, fun h => by simp at h, fun _ => rfl, fun h => by simp at h, fun _ => rfl⟩) ht.2.1 ht.2.2 (fresh_all _ ht.1) (by rw [hlen, hl])
        rcases this with ⟨q1, s', q2, q3, q4, q5, q6, q7, q8, q9⟩ | ⟨q1, q2⟩
        · right
          refine ⟨s', q2, by rw [q4, hz], q5, ?_, fillGo_line _ _ _ _⟩
          exact rel_wrel sv _ _ s' y.2.1 q7 (by simpa using q3) ht.1 (by rw [q8]; exact ht.2.1) (by rw [q8]; exact ht.2.2) q9 q6
        · left; exact ⟨q1, q2⟩
      · rw [if_neg hl, if_neg hl]
        left; exact ⟨rfl, rfl⟩
end Go.Proofs.YtnbhpmncppohaaaGreatDoor.Mill
namespace Go.Proofs.YtnbhpmncppohaaaGreatDoor.Mill
open Go.RowKit

/- MPURE2: all lines, as the program reads them, against the reference's. -/
def LineRel (sv : UInt8 → Value) (o : Option RL) (r : Option Stm) : Prop :=
  match o with
  | none => r = none
  | some x => ((askOr x).2 = 3 ∧ r = none) ∨ ∃ s, r = some s ∧ s.label = x.label ∧ (askOr x).2 ≠ 3 ∧ ((x.name = [] ∧ s = { Stm.zero with label := x.label }) ∨ (x.name ≠ [] ∧ s.has = true ∧ WRel sv (askS x).1 (askS x).2 s ∧ (askS x).1.line = x.num))

theorem wordP_bad (sv : UInt8 → Value) (u : List UInt8) (s : Stm) (h : opsT (behind u) = none) : wordP sv u s = none := by
  unfold wordP
  split
  · exact operands_bad _ _ _ h
  · split
    · exact operands_bad _ _ _ h
    · rfl
theorem body_rel (sv : UInt8 → Value) (lab t : List UInt8) (n : Nat) : LineRel sv (bodyL lab t n) (codeP sv t { Stm.zero with label := lab }) := by
  unfold bodyL codeP
  by_cases ht : trim t = []
  · rw [ht, if_pos rfl]
    show LineRel sv (some { label := lab, name := [], ops := [], num := n }) _
    exact .inr ⟨_, rfl, rfl, by simp [askOr], .inl ⟨rfl, rfl⟩⟩
  · rw [if_neg ht]
    cases ho : opsT (behind (trim t)) with
    | none => exact wordP_bad sv _ _ ho
    | some os =>
      have hn := nameOf_ne t ht
      have := code_rel sv (trim t) { Stm.zero with label := lab } lab n os ho rfl
      have ea : askOr { label := lab, name := nameOf (trim t), ops := os, num := n } = askS { label := lab, name := nameOf (trim t), ops := os, num := n } := by rw [askOr, if_neg hn]
      show ((askOr { label := lab, name := nameOf (trim t), ops := os, num := n }).2 = 3 ∧ _) ∨ _
      rcases this with ⟨h1, h2⟩ | ⟨s, h1, h2, h3, h4, h5⟩
      · left; exact ⟨by rw [ea]; exact h1, h2⟩
      · right
        refine ⟨s, h1, h2, ?_, .inr ⟨hn, h3, h4, h5⟩⟩
        rw [ea]
        rcases h4.e04 with e | e <;> rw [e] <;> omega
theorem line_rel (sv : UInt8 → Value) (p : List UInt8) (n : Nat) : LineRel sv (parseL p n) (lineP sv p) := by
  unfold parseL lineP
  split
  · split
    · exact body_rel sv _ _ n
    · rfl
  · exact body_rel sv [] _ n
theorem body_num (lab t : List UInt8) (n : Nat) (x : RL) (h : bodyL lab t n = some x) : x.num = n := by
  unfold bodyL at h
  cases ho : opsT (behind (trim t)) with
  | none => rw [ho] at h; cases h
  | some os => rw [ho] at h; cases h; rfl
theorem parse_num (p : List UInt8) (n : Nat) (x : RL) (h : parseL p n = some x) : x.num = n := by
  unfold parseL at h
  split at h
  · split at h
    · exact body_num _ _ _ _ h
    · cases h
  · exact body_num _ _ _ _ h

/-- the words that go to a label -/
def opensOf (sv : UInt8 → Value) : List Ak → Nat → List Op4
  | [], _ => []
  | a :: r, i => if a.goal = [] then opensOf sv r (i + 1) else { idx := i, line := a.line.toNat, shape := sv a.sh, goal := a.goal } :: opensOf sv r (i + 1)
theorem opensOf_snoc (sv : UInt8 → Value) (a : Ak) : ∀ (l : List Ak) (i : Nat), opensOf sv (l ++ [a]) i = opensOf sv l i ++ (if a.goal = [] then [] else [{ idx := i + l.length, line := a.line.toNat, shape := sv a.sh, goal := a.goal }])
  | [], i => by simp [opensOf]
  | b :: r, i => by
    have e : i + 1 + r.length = i + (b :: r).length := by simp; omega
    simp only [List.cons_append, opensOf, opensOf_snoc sv a r (i + 1), e]
    split <;> rfl

def okG (a : Ak) : Prop := okW a ∧ (a.goal ≠ [] → (a.sh = 98 ∨ a.sh = 122 ∨ a.sh = 121 ∨ a.sh = 116) ∧ a.data = false ∧ a.n = 0) ∧ 0 ≤ a.line
structure StRel (sv : UInt8 → Value) (st : PSt) (r : St) : Prop where
  words : st.words = r.words.map baseW
  names : st.labels.map (·.1) = r.names
  places : st.labels.map (·.2) = r.places
  opens : st.opens = opensOf sv r.words 0
  nodup : r.names.Nodup
  ok : ∀ a ∈ r.words, okG a
  len : r.words.length ≤ 64
  pl : ∀ p ∈ r.places, ∃ q, p = 4 * q ∧ q ≤ 64

def StepRel (sv : UInt8 → Value) (num : Nat) (a : Except (Int × Nat) St) (b : Except Int PSt) : Prop :=
  (∃ e, a = .error (e, num) ∧ b = .error e) ∨ ∃ r st, a = .ok r ∧ b = .ok st ∧ StRel sv st r

theorem place_some (ls : List (List UInt8 × Nat)) (l : List UInt8) : (placeOf ls l).isSome = true ↔ l ∈ ls.map (·.1) := by
  unfold placeOf
  rw [Option.isSome_map, List.find?_isSome]
  simp
theorem label_rel (sv : UInt8 → Value) (st : PSt) (r : St) (l : List UInt8) (h : StRel sv st r) (hl : ¬ (l ≠ [] ∧ l ∈ r.names)) : StRel sv (labelP l st) (r.label l) := by
  unfold labelP St.label
  split
  · exact h
  · rename_i hne
    obtain ⟨h1, h2, h3, h4, h5, h6, h7, h8⟩ := h
    have hlen : st.words.length = r.words.length := by rw [h1]; simp
    have hni : l ∉ r.names := fun hm => hl ⟨hne, hm⟩
    refine ⟨h1, by simp [h2], by simp [h3, hlen], h4, ?_, h6, h7, ?_⟩
    · rw [List.nodup_append]
      exact ⟨h5, by simp, fun a ha b hb => by simp at hb; subst hb; rintro rfl; exact hni ha⟩
    · intro p hp
      simp only [List.mem_append, List.mem_singleton] at hp
      rcases hp with hp | hp
      · exact h8 p hp
      · exact ⟨_, hp, h7⟩
theorem label_words (r : St) (l : List UInt8) : (r.label l).words = r.words := by unfold St.label; split <;> rfl
theorem labelP_words (r : PSt) (l : List UInt8) : (labelP l r).words = r.words := by unfold labelP; split <;> rfl
theorem add_rel (sv : UInt8 → Value) (st : PSt) (r : St) (x : RL) (s : Stm) (h : StRel sv st r) (hl : s.label = x.label) (h3 : (askOr x).2 ≠ 3)
    (hc : (x.name = [] ∧ s = { Stm.zero with label := x.label }) ∨ (x.name ≠ [] ∧ s.has = true ∧ WRel sv (askS x).1 (askS x).2 s ∧ (askS x).1.line = x.num)) : StepRel sv x.num (stepL x r) (addP s x.num st) := by
  have hdup : (s.label ≠ [] ∧ (placeOf st.labels s.label).isSome = true) ↔ (x.label ≠ [] ∧ x.label ∈ r.names) := by rw [hl, place_some, h.names]
  unfold stepL addP
  rw [if_neg h3]
  by_cases hd : x.label ≠ [] ∧ x.label ∈ r.names
  · rw [if_pos hd, if_pos (hdup.2 hd)]
    exact .inl ⟨5, rfl, rfl⟩
  rw [if_neg hd, if_neg (fun q => hd (hdup.1 q))]
  have hL := label_rel sv st r x.label h hd
  have hlen : st.words.length = r.words.length := by rw [h.words]; simp
  rcases hc with ⟨hn, hs⟩ | ⟨hn, hh, hw, hln⟩
  · rw [if_pos hn, hs]
    exact .inr ⟨_, _, rfl, rfl, hL⟩
  · rw [if_neg hn]
    have ea : askOr x = askS x := by rw [askOr, if_neg hn]
    rw [ea]
    obtain ⟨e04, rng, goal, gsh, word⟩ := hw
    by_cases he : (askS x).2 = 0
    · rw [if_neg (by rw [he]; simp), if_pos (rng.1 he), if_pos hh, hlen]
      by_cases hf : r.words.length = 64
      · rw [if_pos (by omega), if_pos hf]
        exact .inl ⟨6, rfl, rfl⟩
      · have := h.len
        rw [if_neg (by omega), if_neg hf, hl]
        refine .inr ⟨_, _, rfl, rfl, ?_⟩
        obtain ⟨h1, h2, h3, h4, h5, h6, h7, h8⟩ := hL
        rw [label_words] at h1 h4 h6
        rw [labelP_words] at h1
        refine ⟨?_, h2, h3, ?_, h5, ?_, ?_, h8⟩
        · simp only [wordAdd, labelP_words, List.map_append, List.map_cons, List.map_nil, word he, h1]
        · simp only [wordAdd, labelP_words, opensOf_snoc, goal, hlen]
          split
          · rename_i hg
            rw [h4, List.append_nil]
          · rename_i hg
            rw [h4, (gsh hg).1, hln]
            simp
        · intro a ha
          simp only [List.mem_append, List.mem_singleton] at ha
          rcases ha with ha | rfl
          · exact h6 a ha
          · exact ⟨ask_ok x he, fun hg => (gsh hg).2, by rw [hln]; omega⟩
        · simp only [List.length_append, List.length_singleton]; omega
    · have he4 : (askS x).2 = 4 := by rcases e04 with e | e <;> simp_all
      rw [if_pos he, if_neg (fun q => he (rng.2 q)), he4]
      exact .inl ⟨4, rfl, rfl⟩

/-- the reference's first pass over lines, the first that is none among them -/
def refL (ps : List (List UInt8)) (n : Nat) (r : St) : Except (Int × Nat) St :=
  match pass1 (linesGo ps n).1 r with
  | .error e => .error e
  | .ok r' => if 0 < (linesGo ps n).2 then .error (3, (linesGo ps n).2) else .ok r'
theorem lines_rel (sv : UInt8 → Value) : ∀ (ps : List (List UInt8)) (n : Nat) (st : PSt) (r : St), StRel sv st r → (∃ e, refL ps n r = .error e ∧ linesP sv ps n st = .error e) ∨ ∃ r' st', refL ps n r = .ok r' ∧ linesP sv ps n st = .ok st' ∧ StRel sv st' r'
  | [], _, st, r, h => .inr ⟨r, st, rfl, rfl, h⟩
  | p :: ps, n, st, r, h => by
    have hl := line_rel sv p (n + 1)
    have hnum := parse_num p (n + 1)
    unfold refL
    rw [linesP]
    cases hp : parseL p (n + 1) with
    | none =>
      have hg : linesGo (p :: ps) n = ([], n + 1) := by simp [linesGo, hp]
      rw [hg]
      rw [hp] at hl
      rw [show lineP sv p = none from hl]
      left
      exact ⟨(3, n + 1), by simp [pass1], rfl⟩
    | some x =>
      have hx : x.num = n + 1 := hnum x hp
      have hg : linesGo (p :: ps) n = (x :: (linesGo ps (n + 1)).1, (linesGo ps (n + 1)).2) := by simp [linesGo, hp]
      rw [hg]
      rw [hp] at hl
      rcases hl with ⟨h3, hn⟩ | ⟨s, hs, hlab, h3, hc⟩
      · rw [hn]
        left
        refine ⟨(3, n + 1), ?_, rfl⟩
        simp [pass1, stepL, h3, hx]
      · rw [hs]
        have ha := add_rel sv st r x s h hlab h3 hc
        rw [hx] at ha
        simp only [pass1]
        rcases ha with ⟨e, e1, e2⟩ | ⟨r', st', e1, e2, hr⟩
        · rw [e1, e2]
          left; exact ⟨(e, n + 1), rfl, rfl⟩
        · rw [e1, e2]
          have := lines_rel sv ps (n + 1) st' r' hr
          unfold refL at this
          exact this
theorem split_raw : ∀ t : List UInt8, splitC 10 t = rawLines t ∨ splitC 10 t = rawLines t ++ [[]]
  | [] => .inr rfl
  | x :: r => by
    have ih := split_raw r
    rw [splitC, rawLines]
    cases hx : (x == 10)
    · simp only [Bool.false_eq_true, if_false]
      cases hr : rawLines r with
      | nil =>
        rw [hr] at ih
        rcases ih with ih | ih
        · exact absurd ih (splitC_ne 10 r)
        · rw [ih]; left; rfl
      | cons p ps =>
        rw [hr] at ih
        rcases ih with ih | ih
        · rw [ih]; left; rfl
        · rw [ih]; right; rfl
    · simp only [if_true]
      rcases ih with ih | ih
      · left; rw [ih]
      · right; rw [ih]; rfl
theorem lines_last (sv : UInt8 → Value) : ∀ (ps : List (List UInt8)) (n : Nat) (st : PSt), linesP sv (ps ++ [[]]) n st = linesP sv ps n st
  | [], n, st => by
    have h : lineP sv [] = some Stm.zero := rfl
    have h2 : addP Stm.zero (n + 1) st = .ok st := by simp [addP, Stm.zero, labelP]
    simp only [List.nil_append, linesP, h, h2]
  | p :: ps, n, st => by
    simp only [List.cons_append, linesP]
    split
    · rfl
    · split
      · rfl
      · exact lines_last sv ps (n + 1) _
theorem lines_split (sv : UInt8 → Value) (t : List UInt8) (n : Nat) (st : PSt) : linesP sv (splitC 10 t) n st = linesP sv (rawLines t) n st := by
  rcases split_raw t with h | h
  · rw [h]
  · rw [h, lines_last]
theorem st_nil (sv : UInt8 → Value) : StRel sv { words := [], labels := [], opens := [] } { words := [], names := [], places := [] } :=
  ⟨rfl, rfl, rfl, rfl, by simp, by simp, by simp, by simp⟩
end Go.Proofs.YtnbhpmncppohaaaGreatDoor.Mill
namespace Go.Proofs.YtnbhpmncppohaaaGreatDoor.Mill
open Go.RowKit

/- MPURE3: the labels settled, and the whole: asmP is asmS. -/
theorem look_place : ∀ (ls : List (List UInt8 × Nat)) (g : List UInt8) (acc : Int), (ls.map (·.1)).Nodup → look (ls.map (·.1)) (ls.map (·.2)) g acc = match placeOf ls g with
    | some p => (p : Int)
    | none => acc
  | [], _, _, _ => rfl
  | (n, p) :: ls, g, acc, h => by
    simp only [List.map_cons, List.nodup_cons] at h
    simp only [List.map_cons, look]
    rw [look_place ls g _ h.2]
    by_cases hn : n = g
    · have hnone : placeOf ls g = none := by
        have := place_some ls g
        rw [← hn] at this ⊢
        cases hq : placeOf ls n with
        | none => rfl
        | some q => rw [hq] at this; exact absurd (this.1 rfl) h.1
      have hsome : placeOf ((n, p) :: ls) g = some p := by simp [placeOf, hn]
      rw [hnone, hsome, if_pos hn]
    · have e : placeOf ((n, p) :: ls) g = placeOf ls g := by simp [placeOf, hn]
      rw [e, if_neg hn]

def settled (names : List (List UInt8)) (places : List Nat) : List Ak → Nat → Except (Int × Int) (List Int)
  | [], _ => .ok []
  | a :: r, i => if a.goal ≠ [] ∧ look names places a.goal (-1) < 0 then .error (7, a.line) else match settled names places r (i + 1) with
    | .ok ws => .ok (wordI names places a i :: ws)
    | .error e => .error e
theorem pass2_eq (names : List (List UInt8)) (places : List Nat) : ∀ (l : List Ak) (i : Nat) (out : List UInt8), pass2 names places l i out = match settled names places l i with
    | .ok ws => .ok (out ++ outB ws)
    | .error e => .error e
  | [], _, out => by simp [pass2, settled, outB]
  | a :: r, i, out => by
    rw [pass2, settled]
    split
    · rfl
    · rw [pass2_eq names places r (i + 1)]
      cases settled names places r (i + 1) with
      | error e => rfl
      | ok ws => simp [outB]

theorem and_26 (n : Int) (h0 : 0 ≤ n) (h1 : n < 67108864) : bits .and .u32 (IntKind.u32.wrap n) 67108863 = n := by
  rw [wraps_u32 n h0 (by omega)]
  have := and_low 26 (by omega) n h0 (by omega)
  have e : ((2 : Int) ^ 26 - 1) = 67108863 := by decide
  rw [e] at this
  rw [this]; omega
theorem and_16 (n : Int) : bits .and .u32 (IntKind.u32.wrap n) 65535 = n % 65536 := by
  rw [IntKind.wrap_u32]
  have := and_low 16 (by omega) (n % 4294967296) (by omega) (by omega)
  have e : ((2 : Int) ^ 16 - 1) = 65535 := by decide
  rw [e] at this
  rw [this]; omega
theorem tdiv4 (x : Int) : (4 * x).tdiv 4 = x := Int.mul_tdiv_cancel_left x (by omega)
/-- a word that goes to a label -/
theorem going_word (a : Ak) (h : okG a) (hg : a.goal ≠ []) (i q : Nat) (hq : q ≤ 64) (names : List (List UInt8)) (places : List Nat) (hl : look names places a.goal (-1) = ((4 * q : Nat) : Int)) :
    bits .or .u32 (baseW a) (goingI a.sh (4 * i) ((4 * q : Nat) : Int)) = wordI names places a i := by
  obtain ⟨ho, hgo, _⟩ := h
  obtain ⟨hs, hd, hn⟩ := hgo hg
  rcases ho with ⟨hd', _⟩ | ⟨_, _, hnum, hy, rs, rt, rd, _, _, _, _, _⟩
  · rw [hd] at hd'; cases hd'
  unfold wordI numAt baseW
  rw [hd, if_neg hg, hl, hn]
  simp only [Bool.false_eq_true, if_false]
  have e1 : (((4 * q : Nat) : Int) - 4 * i - 4).tdiv 4 = (q : Int) - i - 1 := by
    rw [show (((4 * q : Nat) : Int) - 4 * i - 4) = 4 * ((q : Int) - i - 1) by omega, tdiv4]
  have e2 : (((4 * q : Nat) : Int) - 4 * i).tdiv 4 - 1 = (q : Int) - i - 1 := by
    rw [show (((4 * q : Nat) : Int) - 4 * i) = 4 * ((q : Int) - i) by omega, tdiv4]
  rw [e1]
  generalize a.sh = sh at *
  rcases hs with rfl | rfl | rfl | rfl
  · rw [show goingI 98 (4 * i) ((4 * q : Nat) : Int) = bits .and .u32 (IntKind.u32.wrap ((((4 * q : Nat) : Int) - 4 * i).tdiv 4 - 1)) 65535 from rfl, e2, and_16]
    show bits .or .u32 ((a.num : Int) * 67108864 + a.s * 2097152 + a.t * 65536 + 0 % 65536) _ = (a.num : Int) * 67108864 + a.s * 2097152 + a.t * 65536 + ((q : Int) - i - 1) % 65536
    rw [or_low16 _ _ (by omega) (by omega) (by omega) (by omega) (by omega)]; omega
  · rw [show goingI 122 (4 * i) ((4 * q : Nat) : Int) = bits .and .u32 (IntKind.u32.wrap ((((4 * q : Nat) : Int) - 4 * i).tdiv 4 - 1)) 65535 from rfl, e2, and_16]
    show bits .or .u32 ((a.num : Int) * 67108864 + a.s * 2097152 + a.t * 65536 + 0 % 65536) _ = (a.num : Int) * 67108864 + a.s * 2097152 + a.t * 65536 + ((q : Int) - i - 1) % 65536
    rw [or_low16 _ _ (by omega) (by omega) (by omega) (by omega) (by omega)]; omega
  · have hy1 := hy rfl
    rw [show goingI 121 (4 * i) ((4 * q : Nat) : Int) = bits .and .u32 (IntKind.u32.wrap ((((4 * q : Nat) : Int) - 4 * i).tdiv 4 - 1)) 65535 from rfl, e2, and_16]
    show bits .or .u32 (67108864 + a.s * 2097152 + (a.num : Int) * 65536 + 0 % 65536) _ = 67108864 + a.s * 2097152 + (a.num : Int) * 65536 + ((q : Int) - i - 1) % 65536
    rw [or_low16 _ _ (by omega) (by omega) (by omega) (by omega) (by omega)]; omega
  · rw [show goingI 116 (4 * i) ((4 * q : Nat) : Int) = bits .and .u32 (IntKind.u32.wrap (((4 * q : Nat) : Int) / 4)) 67108863 from rfl, and_26 _ (by omega) (by omega)]
    show bits .or .u32 ((a.num : Int) * 67108864 + 0 / 4) _ = (a.num : Int) * 67108864 + ((4 * q : Nat) : Int) / 4
    rw [or_low26 _ _ (by omega) (by omega) (by omega) (by omega) (by omega)]; omega
theorem word_plain (a : Ak) (hg : a.goal = []) (i : Nat) (names : List (List UInt8)) (places : List Nat) : wordI names places a i = baseW a := by
  unfold wordI numAt baseW; rw [if_pos hg]
/-- every word is one of 32 bits -/
theorem word_range (a : Ak) (h : okG a) (i : Nat) (names : List (List UInt8)) (places : List Nat) (hl : a.goal ≠ [] → ∃ q : Nat, q ≤ 64 ∧ look names places a.goal (-1) = ((4 * q : Nat) : Int)) : 0 ≤ wordI names places a i ∧ wordI names places a i < 4294967296 := by
  obtain ⟨ho, hgo, _⟩ := h
  unfold wordI
  rcases ho with ⟨hd, _, h0, h1⟩ | ⟨hd, hs, hnum, hy, rs, rt, rd, n0, n1, n115, n116, g115⟩
  · rw [hd]; exact ⟨h0, h1⟩
  · rw [hd]
    simp only [Bool.false_eq_true, if_false]
    have key : ∀ n : Int, (a.sh = 115 → 0 ≤ n ∧ n ≤ 31) → (a.sh = 116 → 0 ≤ n ∧ n ≤ 65535) → 0 ≤ encI a.sh a.num a.s a.t a.d n ∧ encI a.sh a.num a.s a.t a.d n < 4294967296 := by
      intro n k1 k2
      unfold encI
      have hy' := hy
      repeat' split
      all_goals simp_all
      all_goals omega
    apply key
    · intro e
      unfold numAt
      rw [if_pos (g115 e)]; exact n115 e
    · intro e
      unfold numAt
      split
      · exact ⟨n116 e, n1⟩
      · rename_i hg
        obtain ⟨q, hq, hlq⟩ := hl hg
        rw [hlq]
        omega

theorem place_four (ls : List (List UInt8 × Nat)) (hpl : ∀ p ∈ ls.map (·.2), ∃ q, p = 4 * q ∧ q ≤ 64) (g : List UInt8) (p : Nat) (h : placeOf ls g = some p) : ∃ q, p = 4 * q ∧ q ≤ 64 := by
  unfold placeOf at h
  obtain ⟨x, hx, rfl⟩ := Option.map_eq_some_iff.1 h
  exact hpl _ (List.mem_map.2 ⟨x, List.mem_of_find?_eq_some hx, rfl⟩)
theorem branch_shape (sh : UInt8) (h : sh = 98 ∨ sh = 122 ∨ sh = 121 ∨ sh = 116) : sh ∈ shapes := by
  rcases h with rfl | rfl | rfl | rfl <;> decide
/-- what settled leaves -/
def SetOk (l : List Ak) (x : Except (Int × Int) (List Int)) : Prop := match x with
  | .ok ws => ws.length = l.length ∧ ∀ y ∈ ws, 0 ≤ y ∧ y < 4294967296
  | .error e => 0 ≤ e.2
def setP (pre : List Int) (x : Except (Int × Int) (List Int)) : Except (Int × Nat) (List Int) := match x with
  | .ok ws => .ok (pre ++ ws)
  | .error e => .error (e.1, e.2.toNat)
theorem settle_eq (labels : List (List UInt8 × Nat)) (hnd : (labels.map (·.1)).Nodup) (hpl : ∀ p ∈ labels.map (·.2), ∃ q, p = 4 * q ∧ q ≤ 64) : ∀ (l : List Ak) (pre : List Int), (∀ a ∈ l, okG a) →
    settleP labels (opensOf shapeV l pre.length) (pre ++ l.map baseW) = setP pre (settled (labels.map (·.1)) (labels.map (·.2)) l pre.length) ∧ SetOk l (settled (labels.map (·.1)) (labels.map (·.2)) l pre.length)
  | [], pre, _ => ⟨by simp [opensOf, settleP, settled, setP], rfl, by simp⟩
  | a :: r, pre, h => by
    have ha := h a (by simp)
    have hr : ∀ b ∈ r, okG b := fun b hb => h b (by simp [hb])
    have hlk := look_place labels a.goal (-1) hnd
    have ih := fun x => settle_eq labels hnd hpl r (pre ++ [x]) hr
    simp only [List.length_append, List.length_singleton, List.append_assoc, List.singleton_append] at ih
    have fin : ∀ x : Int, x = wordI (labels.map (·.1)) (labels.map (·.2)) a pre.length → (0 ≤ x ∧ x < 4294967296) → ¬ (a.goal ≠ [] ∧ look (labels.map (·.1)) (labels.map (·.2)) a.goal (-1) < 0) →
        settleP labels (opensOf shapeV r (pre.length + 1)) (pre ++ x :: r.map baseW) = setP pre (settled (labels.map (·.1)) (labels.map (·.2)) (a :: r) pre.length) ∧ SetOk (a :: r) (settled (labels.map (·.1)) (labels.map (·.2)) (a :: r) pre.length) := by
      intro x hx hxr hno
      obtain ⟨i1, i2⟩ := ih x
      rw [i1, settled, if_neg hno, ← hx]
      cases hs : settled (labels.map (·.1)) (labels.map (·.2)) r (pre.length + 1) with
      | error e => rw [hs] at i2; exact ⟨rfl, i2⟩
      | ok ws =>
        rw [hs] at i2
        refine ⟨by simp [setP], by simp [i2.1], fun y hy => ?_⟩
        simp only [List.mem_cons] at hy
        rcases hy with rfl | hy
        · exact hxr
        · exact i2.2 y hy
    by_cases hg : a.goal = []
    · rw [opensOf, if_pos hg, List.map_cons]
      have hw := word_plain a hg pre.length (labels.map (·.1)) (labels.map (·.2))
      have hrg := word_range a ha pre.length (labels.map (·.1)) (labels.map (·.2)) (fun q => absurd hg q)
      rw [hw] at hrg
      exact fin (baseW a) hw.symm hrg (fun q => q.1 hg)
    · rw [opensOf, if_neg hg, settleP]
      dsimp only
      cases hp : placeOf labels a.goal with
      | none =>
        rw [hp] at hlk
        dsimp only at hlk ⊢
        rw [settled, if_pos ⟨hg, by rw [hlk]; decide⟩]
        exact ⟨rfl, ha.2.2⟩
      | some p =>
        rw [hp] at hlk
        obtain ⟨q, rfl, hq⟩ := place_four labels hpl a.goal p hp
        dsimp only at hlk ⊢
        rw [shOf_shape _ (branch_shape _ (ha.2.1 hg).1)]
        have hget : (pre ++ (a :: r).map baseW).getD pre.length 0 = baseW a := by simp
        have hset : ∀ x : Int, (pre ++ (a :: r).map baseW).set pre.length x = pre ++ x :: r.map baseW := fun x => by simp
        rw [hget, hset]
        have hw := going_word a ha hg pre.length q hq (labels.map (·.1)) (labels.map (·.2)) hlk
        have hrg := word_range a ha pre.length (labels.map (·.1)) (labels.map (·.2)) (fun _ => ⟨q, hq, hlk⟩)
        rw [← hw] at hrg
        exact fin _ hw hrg (fun k => by have k2 := k.2; rw [hlk] at k2; exact absurd k2 (Int.not_lt.2 (Int.natCast_nonneg _)))
theorem opens_in (sv : UInt8 → Value) : ∀ (l : List Ak) (i : Nat) (o : Op4), o ∈ opensOf sv l i → (i ≤ o.idx ∧ o.idx < i + l.length) ∧ ∃ a ∈ l, a.goal ≠ [] ∧ o.shape = sv a.sh
  | [], _, _, h => by simp [opensOf] at h
  | a :: r, i, o, h => by
    rw [opensOf] at h
    split at h
    · obtain ⟨h1, b, hb, h2⟩ := opens_in sv r (i + 1) o h
      exact ⟨by simp only [List.length_cons]; omega, b, by simp [hb], h2⟩
    · rename_i hg
      rcases List.mem_cons.1 h with rfl | h
      · exact ⟨by simp, a, by simp, hg, rfl⟩
      · obtain ⟨h1, b, hb, h2⟩ := opens_in sv r (i + 1) o h
        exact ⟨by simp only [List.length_cons]; omega, b, by simp [hb], h2⟩
theorem rel_good (st : PSt) (r : St) (h : StRel shapeV st r) : Good st := by
  have hlen : st.words.length = r.words.length := by rw [h.words]; simp
  refine ⟨fun o ho => ?_, fun x hx => ?_⟩
  · rw [h.opens] at ho
    obtain ⟨h1, a, ha, hg, hs⟩ := opens_in shapeV r.words 0 o ho
    exact ⟨by omega, a.sh, branch_shape _ ((h.ok a ha).2.1 hg).1, hs⟩
  · obtain ⟨q, hq, h64⟩ := h.pl x.2 (by rw [← h.places]; exact List.mem_map.2 ⟨x, hx, rfl⟩)
    omega
theorem shape_ifc (sh : UInt8) : Ifc (shapeV sh) := .inr ⟨_, _, rfl⟩

/-- Asm whole: the program answers asmS -/
theorem asmM_calls (es : Array MapEntry) (WO : WordOk es shapeV) (NO : NewOk es) (t : List UInt8) (w : World) (hB : Base w) :
    Calls Tryz.prog 4 #[S t] w fun e w' => e = .returned (.tuple #[S (asmS t).1, .int .i64 (asmS t).2.1, .int .i64 (asmS t).2.2]) ∧ Below w.heap.size w w' := by
  by_cases ht : 2000 < t.length
  · have e : asmS t = ([], 1, 0) := by unfold asmS; rw [if_pos ht]
    rw [e]; exact asmM_long t w ht
  have hr := lines_rel shapeV (rawLines t) 0 _ _ (st_nil shapeV)
  rw [← lines_split] at hr
  unfold refL at hr
  have ea : asmS t = match pass1 (linesGo (rawLines t) 0).1 { words := [], names := [], places := [] } with
    | .error e => ([], e.1, (e.2 : Int))
    | .ok st => if 0 < (linesGo (rawLines t) 0).2 then ([], 3, ((linesGo (rawLines t) 0).2 : Int))
      else fin2 (pass2 st.names st.places st.words 0 []) := by unfold asmS; rw [if_neg ht]; rfl
  rcases hr with ⟨⟨en, ln⟩, h1, h2⟩ | ⟨r, st, h1, h2, hR⟩
  · have e : asmS t = ([], en, (ln : Int)) := by
      rw [ea]
      cases hp : pass1 (linesGo (rawLines t) 0).1 { words := [], names := [], places := [] } with
      | error e => rw [hp] at h1; cases h1; rfl
      | ok r =>
        rw [hp] at h1
        dsimp only at h1 ⊢
        split at h1
        · rename_i h0
          rw [if_pos h0]; cases h1; rfl
        · cases h1
    rw [e]
    exact asmM_lines_err es shapeV shape_ifc WO NO t w hB ht en ln h2
  · have e : asmS t = fin2 (pass2 r.names r.places r.words 0 []) := by
      rw [ea]
      cases hp : pass1 (linesGo (rawLines t) 0).1 { words := [], names := [], places := [] } with
      | error e => rw [hp] at h1; cases h1
      | ok r =>
        rw [hp] at h1
        dsimp only at h1 ⊢
        split at h1
        · cases h1
        · rename_i h0
          rw [if_neg h0]; cases h1; rfl
    have hs := settle_eq st.labels (by rw [hR.names]; exact hR.nodup) (by rw [hR.places]; exact hR.pl) r.words [] hR.ok
    rw [hR.names, hR.places, List.length_nil, List.nil_append, ← hR.opens, ← hR.words] at hs
    obtain ⟨s1, s2⟩ := hs
    rw [pass2_eq] at e
    have hg := rel_good st r hR
    cases hx : settled r.names r.places r.words 0 with
    | error n =>
      rw [hx] at e s1 s2
      have e' : asmS t = ([], n.1, (n.2.toNat : Int)) := by
        rw [e, Int.toNat_of_nonneg s2]; rfl
      rw [e']
      exact asmM_settle_err es shapeV shape_ifc WO NO t w hB ht _ _ st h2 hg s1
    | ok ws =>
      rw [hx] at e s1 s2
      have e' : asmS t = (outB ws, 0, 0) := by rw [e]; simp [fin2]
      rw [e']
      have := hR.len
      exact asmM_ok es shapeV shape_ifc WO NO t w hB ht ws st h2 hg (by simpa [setP] using s1) (by rw [s2.1]; exact this) s2.2
end Go.Proofs.YtnbhpmncppohaaaGreatDoor.Mill
namespace Go.Proofs.YtnbhpmncppohaaaGreatDoor.Mill
open Go.RowKit

set_option maxHeartbeats 4000000 in
set_option maxRecDepth 100000 in
theorem new_calls : NewOk (ents 44) := by
  intro w
  have hI := instructions_calls
  have hmk : ∀ w, (Instr.makeMap 36 none).run Tryz.prog w = .ok (.map (some w.heap.size)) (w.alloc (.map #[] 0)) := fun _ => rfl
  generalize hE : ents 44 = E at *
  go_enter Tryz.func7, Tryz.ntmps7
  go_wp2_with (go_at_call 16; refine (hI _).mono ?_; rintro e w' ⟨rfl, rfl⟩)
  go_ret
  refine ⟨w.heap.size + 1 + 1, w.heap.size, w.heap.size + 1, rfl, (((Below.refl _ _).alloc (Nat.le_refl _) _).alloc (by simp) _).alloc (by simp; omega) _, ?_, ?_, ?_, World.ownsRow_nil _ _ _ _, World.ownsRow_nil _ _ _ _, by omega, by omega, by omega⟩
  · have := heap_alloc_new ((w.alloc (.map E 44)).alloc (.map #[] 0)) (.cells #[.map (some w.heap.size), .map (some (w.heap.size + 1)), .slice none 0 0, .slice none 0 0, .int .i64 0] 40)
    simpa using this
  · rw [Below.heap_alloc _ _ _ (by simp)]; exact (heap_two w _ _).2
  · rw [Below.heap_alloc _ _ _ (by simp; omega)]; exact (heap_two w _ _).1
end Go.Proofs.YtnbhpmncppohaaaGreatDoor.Mill
