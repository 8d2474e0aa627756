import Derived.Test.YtnbhpmncppohaaaGreatDoorAsk
namespace Go.Proofs.YtnbhpmncppohaaaGreatDoor.Mill
open Go.RowKit

/-- what is gathered from the lines -/
structure St where
  words : List Ak
  names : List (List UInt8)
  places : List Nat

def askOr (x : RL) : Ak × Int := if x.name = [] then (Ak.zero 0, 0) else askS x
def St.label (st : St) (l : List UInt8) : St := if l = [] then st else { st with names := st.names ++ [l], places := st.places ++ [4 * st.words.length] }
def stepL (x : RL) (st : St) : Except (Int × Nat) St :=
  if (askOr x).2 = 3 then .error (3, x.num)
  else if x.label ≠ [] ∧ x.label ∈ st.names then .error (5, x.num)
  else if x.name = [] then .ok (st.label x.label)
  else if (askOr x).2 ≠ 0 then .error ((askOr x).2, x.num)
  else if 256 ≤ 4 * st.words.length then .error (6, x.num)
  else .ok { st.label x.label with words := st.words ++ [(askOr x).1] }
def pass1 : List RL → St → Except (Int × Nat) St
  | [], st => .ok st
  | x :: ls, st => match stepL x st with
    | .ok st' => pass1 ls st'
    | .error e => .error e
/-- where a label stands (the last one of that name); acc: none -/
def look : List (List UInt8) → List Nat → List UInt8 → Int → Int
  | n :: ns, p :: ps, g, acc => look ns ps g (if n = g then (p : Int) else acc)
  | _, _, _, acc => acc
def numAt (names : List (List UInt8)) (places : List Nat) (a : Ak) (i : Nat) : Int :=
  if a.goal = [] then a.n else if a.sh = 116 then look names places a.goal (-1) else (look names places a.goal (-1) - 4 * i - 4).tdiv 4
def wordI (names : List (List UInt8)) (places : List Nat) (a : Ak) (i : Nat) : Int :=
  if a.data then a.raw else encI a.sh a.num a.s a.t a.d (numAt names places a i)
def byteI (n : Int) : UInt8 := UInt8.ofNat (n % 256).toNat
def bytes4 (n : Int) : List UInt8 := [byteI (n / 16777216), byteI (n / 65536), byteI (n / 256), byteI n]
def pass2 (names : List (List UInt8)) (places : List Nat) : List Ak → Nat → List UInt8 → Except (Int × Int) (List UInt8)
  | [], _, out => .ok out
  | a :: r, i, out => if a.goal ≠ [] ∧ look names places a.goal (-1) < 0 then .error (7, a.line) else pass2 names places r (i + 1) (out ++ bytes4 (wordI names places a i))
def fin2 : Except (Int × Int) (List UInt8) → List UInt8 × Int × Int
  | .error e => ([], e.1, e.2)
  | .ok out => (out, 0, 0)
/-- P6 -/
def asmS (s : List UInt8) : List UInt8 × Int × Int :=
  if 2000 < s.length then ([], 1, 0)
  else match pass1 (linesGo (rawLines s) 0).1 { words := [], names := [], places := [] } with
    | .error e => ([], e.1, (e.2 : Int))
    | .ok st => if 0 < (linesGo (rawLines s) 0).2 then ([], 3, ((linesGo (rawLines s) 0).2 : Int))
      else fin2 (pass2 st.names st.places st.words 0 [])

/-- a word that can be encoded -/
def okW (a : Ak) : Prop :=
  (a.data = true ∧ a.goal = [] ∧ 0 ≤ a.raw ∧ a.raw < 4294967296) ∨
  (a.data = false ∧ a.sh ∈ shapes ∧ a.num ≤ 63 ∧ (a.sh = 121 → a.num ≤ 1) ∧ (0 ≤ a.s ∧ a.s ≤ 31) ∧ (0 ≤ a.t ∧ a.t ≤ 31) ∧ (0 ≤ a.d ∧ a.d ≤ 31) ∧ -32768 ≤ a.n ∧ a.n ≤ 65535 ∧ (a.sh = 115 → 0 ≤ a.n ∧ a.n ≤ 31) ∧ (a.sh = 116 → 0 ≤ a.n) ∧ (a.sh = 115 → a.goal = []))

theorem regI_le (o : List UInt8) : regI o ≤ 31 := by
  unfold regI
  split
  · split
    · split <;> omega
    · omega
  · omega

/-- of a word while it is filled: e = 0: its number is in its range -/
def midW (a : Ak) (e : Int) : Prop :=
  a.data = false ∧ a.sh ∈ shapes ∧ a.num ≤ 63 ∧ (a.sh = 121 → a.num ≤ 1) ∧ (0 ≤ a.s ∧ a.s ≤ 31) ∧ (0 ≤ a.t ∧ a.t ≤ 31) ∧ (0 ≤ a.d ∧ a.d ≤ 31) ∧ (e = 0 → a.n = 0 ∨ withinB a.sh a.n = true) ∧ (a.sh = 116 → a.n = 0) ∧ (a.sh = 115 → a.goal = [])

theorem mid_num (o : List UInt8) (a : Ak) (e : Int) (h : midW a e) (hc : a.sh ≠ 116) : midW (numStep o a e).1 (numStep o a e).2.1 := by
  obtain ⟨h1, h2, h3, h4, h5, h6, h7, h8, h9, h10⟩ := h
  unfold numStep
  split
  · refine ⟨h1, h2, h3, h4, h5, h6, h7, ?_, fun h => absurd h hc, h10⟩
    intro he
    dsimp only at he
    split at he
    · exact .inr ‹_›
    · omega
  · exact ⟨h1, h2, h3, h4, h5, h6, h7, h8, h9, h10⟩
theorem mid_step (c : UInt8) (o : List UInt8) (a : Ak) (e : Int) (h : midW a e) (hc : a.sh = 116 → c = 108) (hc2 : a.sh = 115 → c ≠ 108) : midW (opStep c o a e).1 (opStep c o a e).2.1 := by
  have hr := regI_le o
  have hr2 := regI_le (trim (cutA o 40).dropLast)
  unfold opStep
  split
  · rename_i hc1
    have hne : a.sh ≠ 116 := fun e => by rw [hc e] at hc1; revert hc1; decide
    split
    · split
      · exact h
      · obtain ⟨h1, h2, h3, h4, h5, h6, h7, h8, h9, h10⟩ := h
        exact mid_num _ _ _ ⟨h1, h2, h3, h4, ⟨by dsimp only; omega, hr2⟩, h6, h7, h8, h9, h10⟩ hne
    · exact h
  · split
    · rename_i hc1
      have hne : a.sh ≠ 116 := fun e => by rw [hc e] at hc1; revert hc1; decide
      exact mid_num _ _ _ h hne
    · obtain ⟨h1, h2, h3, h4, h5, h6, h7, h8, h9, h10⟩ := h
      split
      · rename_i hc3
        split
        · exact ⟨h1, h2, h3, h4, h5, h6, h7, h8, h9, fun e => absurd (by simpa using hc3) (hc2 e)⟩
        · exact ⟨h1, h2, h3, h4, h5, h6, h7, h8, h9, h10⟩
      · split
        · exact ⟨h1, h2, h3, h4, h5, h6, h7, h8, h9, h10⟩
        · split
          · exact ⟨h1, h2, h3, h4, h5, h6, ⟨by dsimp only; omega, hr⟩, h8, h9, h10⟩
          · split
            · exact ⟨h1, h2, h3, h4, ⟨by dsimp only; omega, hr⟩, h6, h7, h8, h9, h10⟩
            · exact ⟨h1, h2, h3, h4, h5, ⟨by dsimp only; omega, hr⟩, h7, h8, h9, h10⟩
theorem mid_fill (cs : List UInt8) : ∀ (os : List (List UInt8)) (a : Ak) (e : Int), midW a e → (∀ c ∈ cs, (a.sh = 116 → c = 108) ∧ (a.sh = 115 → c ≠ 108)) → (fillGo cs os a e).2 = 0 → midW (fillGo cs os a e).1 0 := by
  induction cs with
  | nil =>
    intro os a e h _ h0
    simp [fillGo] at h0 ⊢
    subst h0; exact h
  | cons c cs ih =>
    intro os a e h hc h0
    cases os with
    | nil => simp [fillGo] at h0 ⊢; subst h0; exact h
    | cons o os =>
      simp only [fillGo] at h0 ⊢
      split at h0
      · rename_i hs
        rw [if_pos hs]
        exact ih os _ _ (mid_step c o a e h (hc c (by simp)).1 (hc c (by simp)).2) (fun d hd => by rw [opStep_sh]; exact hc d (by simp [hd])) h0
      · simp at h0
theorem mid_ok (a : Ak) (h : midW a 0) : okW a := by
  obtain ⟨h1, h2, h3, h4, h5, h6, h7, h8, h9, h10⟩ := h
  right
  refine ⟨h1, h2, h3, h4, h5, h6, h7, ?_⟩
  rcases h8 rfl with h | h
  · rw [h]; exact ⟨by omega, by omega, fun _ => ⟨by omega, by omega⟩, fun _ => by omega, h10⟩
  · unfold withinB at h
    refine ⟨?_, ?_, ?_, fun e => by rw [h9 e]; omega, h10⟩
    · split at h
      · simp at h; omega
      · split at h <;> (simp at h; omega)
    · split at h
      · simp at h; omega
      · split at h <;> (simp at h; omega)
    · intro e
      rw [e] at h
      simpa using h
theorem opsOf_116 (sh : UInt8) : ∀ c ∈ opsOf sh, (sh = 116 → c = 108) ∧ (sh = 115 → c ≠ 108) := by
  intro c hc
  constructor
  · rintro rfl
    revert hc
    simp [opsOf]
  · rintro rfl
    revert hc
    simp [opsOf]
    rintro (rfl | rfl | rfl) <;> decide
theorem ask_ok (x : RL) (h : (askS x).2 = 0) : okW (askS x).1 := by
  unfold askS at h ⊢
  split at h
  · rename_i hn
    rw [if_pos hn]
    split at h
    · rename_i o _
      dsimp only at h ⊢
      split at h
      · rename_i hno
        rw [if_pos hno]
        split at h
        · simp at h
        · rename_i hr
          rw [if_neg hr]
          exact .inl ⟨rfl, rfl, Int.emod_nonneg _ (by omega), Int.emod_lt_of_pos _ (by omega)⟩
      · simp at h
    · simp at h
  · rename_i hn
    rw [if_neg hn]
    split at h
    · rename_i y hy
      dsimp only at h ⊢
      have ht := tab_shapes y (List.mem_of_find?_eq_some hy)
      unfold fillS at h ⊢
      split at h
      · rename_i hl
        rw [if_pos hl]
        refine mid_ok _ (mid_fill _ _ _ _ ⟨rfl, ht.1, ht.2.1, ht.2.2, by simp [Ak.zero], by simp [Ak.zero], by simp [Ak.zero], fun _ => .inl rfl, fun _ => rfl, fun _ => rfl⟩ (opsOf_116 _) h)
      · simp at h
    · simp at h
end Go.Proofs.YtnbhpmncppohaaaGreatDoor.Mill
namespace Go.Proofs.YtnbhpmncppohaaaGreatDoor.Mill
open Go.RowKit

/-- a line's parts are short -/
def fitL (x : RL) : Prop := x.label.length ≤ 2000 ∧ x.name.length ≤ 2000 ∧ x.ops.length ≤ 2000 ∧ (∀ o ∈ x.ops, o.length ≤ 2000) ∧ x.num ≤ 2000

theorem commas_sum (t : List UInt8) : ((commas t).map List.length).sum + (commas t).length = t.length + 1 := by
  induction t with
  | nil => rfl
  | cons c r ih =>
    rw [commas_cons]
    split
    · simp; omega
    · cases h : commas r with
      | nil => exact absurd h (commas_ne r)
      | cons p ps => rw [h] at ih; simp at ih ⊢; omega
theorem sum_ge (l : List (List UInt8)) (h : ∀ p ∈ l, p ≠ []) : l.length ≤ (l.map List.length).sum := by
  induction l with
  | nil => simp
  | cons p ps ih =>
    have := ih (fun q hq => h q (by simp [hq]))
    have h1 : 0 < p.length := List.length_pos_iff.2 (h p (by simp))
    simp; omega
theorem sum_mem (l : List (List UInt8)) (p : List UInt8) (h : p ∈ l) : p.length ≤ (l.map List.length).sum := by
  induction l with
  | nil => simp at h
  | cons q ps ih =>
    rcases List.mem_cons.1 h with rfl | h
    · simp
    · have := ih h; simp; omega
theorem opsT_fit (t : List UInt8) (ops : List (List UInt8)) (h : opsT t = some ops) : ops.length ≤ t.length ∧ ∀ o ∈ ops, o.length ≤ t.length := by
  unfold opsT at h
  split at h
  · simp at h; subst h; simp
  · split at h
    · simp at h
    · rename_i ht hany
      simp at h
      subst h
      have hs := commas_sum t
      have hne : ∀ p ∈ commas t, p ≠ [] := by
        rintro p hp rfl
        apply hany
        rw [List.any_eq_true]
        exact ⟨trim [], List.mem_map.2 ⟨[], hp, rfl⟩, rfl⟩
      have hg := sum_ge (commas t) hne
      have h1 : 0 < (commas t).length := List.length_pos_iff.2 (commas_ne t)
      refine ⟨by rw [List.length_map]; omega, fun o ho => ?_⟩
      obtain ⟨p, hp, rfl⟩ := List.mem_map.1 ho
      have := trim_le p
      have := sum_mem (commas t) p hp
      omega
theorem bodyL_fit (lab t : List UInt8) (n : Nat) (x : RL) (h : bodyL lab t n = some x) (h1 : lab.length ≤ 2000) (h2 : t.length ≤ 2000) (h3 : n ≤ 2000) : fitL x := by
  unfold bodyL at h
  have ht := trim_le t
  cases ho : opsT (behind (trim t)) with
  | none => rw [ho] at h; simp at h
  | some ops =>
    rw [ho] at h
    simp at h
    subst h
    obtain ⟨f1, f2⟩ := opsT_fit _ _ ho
    have hb : (behind (trim t)).length ≤ (trim t).length := by
      unfold behind
      have := trim_le ((trim t).dropWhile (fun c => !blankB c))
      have := (List.dropWhile_sublist (fun c : UInt8 => !blankB c) (l := trim t)).length_le
      omega
    have hn : (nameOf (trim t)).length ≤ (trim t).length := by unfold nameOf; exact (List.takeWhile_sublist _).length_le
    exact ⟨h1, by dsimp only; omega, by dsimp only; omega, fun o ho => by have := f2 o ho; omega, h3⟩
theorem parseL_fit (p : List UInt8) (n : Nat) (x : RL) (h : parseL p n = some x) (h2 : p.length ≤ 2000) (h3 : n ≤ 2000) : fitL x := by
  have a1 := cutB_le p 35
  have a2 := cutB_le (cutB p 35) 58
  have a3 := cutA_le (cutB p 35) 58
  have a4 := trim_le (cutB (cutB p 35) 58)
  unfold parseL at h
  split at h
  · split at h
    · exact bodyL_fit _ _ _ _ h (by omega) (by omega) h3
    · cases h
  · exact bodyL_fit _ _ _ _ h (by simp) (by omega) h3
theorem linesGo_fit (ps : List (List UInt8)) : ∀ n, (∀ p ∈ ps, p.length ≤ 2000) → n + ps.length ≤ 2000 → (∀ x ∈ (linesGo ps n).1, fitL x) ∧ (linesGo ps n).1.length ≤ ps.length ∧ (linesGo ps n).2 ≤ 2000 := by
  induction ps with
  | nil => intro n _ _; simp [linesGo]
  | cons p ps ih =>
    intro n hp hn
    simp only [List.length_cons] at hn
    unfold linesGo
    cases hpl : parseL p (n + 1) with
    | none => simp; omega
    | some x =>
      obtain ⟨i1, i2, i3⟩ := ih (n + 1) (fun q hq => hp q (by simp [hq])) (by omega)
      refine ⟨fun y hy => ?_, by simp; omega, i3⟩
      rcases List.mem_cons.1 hy with rfl | hy
      · exact parseL_fit p (n + 1) _ hpl (hp p (by simp)) (by omega)
      · exact i1 y hy
theorem rawLines_fit (s : List UInt8) : (rawLines s).length ≤ s.length ∧ ∀ p ∈ rawLines s, p.length ≤ s.length := by
  induction s with
  | nil => simp [rawLines]
  | cons c r ih =>
    rw [rawLines_cons]
    split
    · refine ⟨by simp; omega, fun p hp => ?_⟩
      rcases List.mem_cons.1 hp with rfl | hp
      · simp
      · have := ih.2 p hp; simp; omega
    · cases h : rawLines r with
      | nil => simp
      | cons q qs =>
        rw [h] at ih
        refine ⟨by simpa using Nat.le_succ_of_le ih.1, fun p hp => ?_⟩
        rcases List.mem_cons.1 hp with rfl | hp
        · have := ih.2 q (by simp); simp; omega
        · have := ih.2 p (by simp [hp]); simp; omega
theorem lines_fit (s : List UInt8) (h : s.length ≤ 2000) : (∀ x ∈ (linesGo (rawLines s) 0).1, fitL x) ∧ (linesGo (rawLines s) 0).1.length ≤ 2000 ∧ (linesGo (rawLines s) 0).2 ≤ 2000 := by
  obtain ⟨r1, r2⟩ := rawLines_fit s
  obtain ⟨a, b, c⟩ := linesGo_fit (rawLines s) 0 (fun p hp => Nat.le_trans (r2 p hp) h) (by omega)
  exact ⟨a, by omega, c⟩

theorem pass1_step (ls : List RL) (k : Nat) (h : k < ls.length) (st : St) : pass1 (ls.drop k) st = match stepL ls[k] st with
    | .ok st' => pass1 (ls.drop (k + 1)) st'
    | .error e => .error e := by
  rw [List.drop_eq_getElem_cons h]; rfl
end Go.Proofs.YtnbhpmncppohaaaGreatDoor.Mill
namespace Go.Proofs.YtnbhpmncppohaaaGreatDoor.Mill
open Go.RowKit

theorem lcells_get (ls : List RL) (vs : List Value) (h : vs.length = ls.length) (k : Nat) (hk : k < ls.length) :
    (lcells ls vs)[k * 4]? = some (S ls[k].label) ∧ (lcells ls vs)[k * 4 + 1]? = some (S ls[k].name) ∧ (lcells ls vs)[k * 4 + 2]? = some (vs[k]'(by omega)) ∧ (lcells ls vs)[k * 4 + 3]? = some (.int .i64 ls[k].num) := by
  induction ls generalizing vs k with
  | nil => simp at hk
  | cons x ls ih =>
    cases vs with
    | nil => simp at h
    | cons v vs =>
      cases k with
      | zero => simp [lcells]
      | succ k =>
        have e : (k + 1) * 4 = k * 4 + 4 := by omega
        rw [e]
        simpa [lcells] using ih vs (by simpa using h) k (by simpa using hk)
theorem add_off (g j : Nat) : (⟨g, 0, none⟩ : Addr).add j = ⟨g, j, none⟩ := by unfold Addr.add; split <;> simp_all
theorem lines_cell {w : World} {B g n cap : Nat} {ls : List RL} (h : LinesAt w B (.slice (some ⟨g, 0, none⟩) n cap) ls) (k : Nat) (hk : k < ls.length) :
    ∃ vo, w.cell? ⟨g, k * 4, none⟩ = some (S ls[k].label) ∧ w.cell? ⟨g, k * 4 + 1, none⟩ = some (S ls[k].name) ∧ w.cell? ⟨g, k * 4 + 2, none⟩ = some vo ∧ w.cell? ⟨g, k * 4 + 3, none⟩ = some (.int .i64 ls[k].num) ∧ w.ownsRow B 9 1 vo ls[k].ops.length (ls[k].ops.map S) := by
  obtain ⟨vs, h1, h2, h3⟩ := h
  obtain ⟨g1, g2, g3, g4⟩ := lcells_get ls vs h1 k hk
  have c := fun j u e => (h2.cells (g := g) rfl j u e)
  simp only [add_off] at c
  exact ⟨_, c _ _ g1, c _ _ g2, c _ _ g3, c _ _ g4, h3 k _ _ (List.getElem?_eq_getElem hk) (List.getElem?_eq_getElem (by omega))⟩
theorem lines_shape {w : World} {B : Nat} {v : Value} {ls : List RL} (h : LinesAt w B v ls) : (v = .slice none 0 0 ∧ ls = []) ∨ ∃ g cap, v = .slice (some ⟨g, 0, none⟩) ls.length cap ∧ g < w.heap.size := by
  obtain ⟨vs, h1, h2, h3⟩ := h
  rcases h2.2 with ⟨rfl, h0⟩ | ⟨g, cap, cur, rfl, _, hg, _⟩
  · exact .inl ⟨rfl, List.eq_nil_of_length_eq_zero h0⟩
  · exact .inr ⟨g, cap, rfl, (Array.getElem?_eq_some_iff.1 hg).1⟩

def Ak.list (a : Ak) : List Value := [S a.name, B a.sh, .int .i64 a.num, .int .i64 a.s, .int .i64 a.t, .int .i64 a.d, .int .i64 a.n, .int .i64 a.raw, .bool a.data, S a.goal, .int .i64 a.line]
/-- the three slices of Asm, from block S on -/
structure Rows3 (w : World) (S1 : Nat) (v7 v8 v9 : Value) (st : St) : Prop where
  words : w.ownsRow S1 56 11 v7 st.words.length (st.words.flatMap Ak.list)
  names : w.ownsRow S1 9 1 v8 st.names.length (st.names.map S)
  places : w.ownsRow S1 3 1 v9 st.places.length (st.places.map fun p : Nat => Value.int .i64 p)
theorem Rows3.same {w w' : World} {S1 : Nat} {v7 v8 v9 : Value} {st : St} (h : Rows3 w S1 v7 v8 v9 st) (hb : ∀ k, k < w.heap.size → w'.heap[k]? = w.heap[k]?) : Rows3 w' S1 v7 v8 v9 st :=
  ⟨owns_same h.words hb, owns_same h.names hb, owns_same h.places hb⟩
theorem Rows3.nil (w : World) (S1 : Nat) : Rows3 w S1 (.slice none 0 0) (.slice none 0 0) (.slice none 0 0) { words := [], names := [], places := [] } :=
  ⟨World.ownsRow_nil _ _ _ _, World.ownsRow_nil _ _ _ _, World.ownsRow_nil _ _ _ _⟩

theorem infoI : (Tryz.prog.info? 3).map (fun i => (i.zero, i.size, i.bytes)) = some (some (.int .i64 0), 1, 8) := by kernel_rfl
theorem infoA : (Tryz.prog.info? 56).map (fun i => (i.zero, i.size, i.bytes)) = some (some (.agg #[.string ⟨#[]⟩, .int .u8 0, .int .i64 0, .int .i64 0, .int .i64 0, .int .i64 0, .int .i64 0, .int .i64 0, .bool false, .string ⟨#[]⟩, .int .i64 0]), 11, 104) := by kernel_rfl

theorem set11c (c : Array Value) (hc : c.size = 11) (x0 x1 x2 x3 x4 x5 x6 x7 x8 x9 x10 : Value) :
    (((((((((((c.setIfInBounds 0 x0).setIfInBounds 1 x1).setIfInBounds 2 x2).setIfInBounds 3 x3).setIfInBounds 4 x4).setIfInBounds 5 x5).setIfInBounds 6 x6).setIfInBounds 7 x7).setIfInBounds 8 x8).setIfInBounds 9 x9).setIfInBounds 10 x10) = #[x0, x1, x2, x3, x4, x5, x6, x7, x8, x9, x10] := by
  apply Array.toList_inj.1
  obtain ⟨l⟩ := c
  match l, hc with
  | [_, _, _, _, _, _, _, _, _, _, _], _ => simp
/-- eleven stores into one block -/
theorem set11 {w : World} {b : Nat} {c : Array Value} {t : TypeId} (h : w.heap[b]? = some (.cells c t (0, 0))) (hc : c.size = 11) (x0 x1 x2 x3 x4 x5 x6 x7 x8 x9 x10 : Value) :
    (((((((((((w.setCell ⟨b, 0, none⟩ x0).setCell ⟨b, 1, none⟩ x1).setCell ⟨b, 2, none⟩ x2).setCell ⟨b, 3, none⟩ x3).setCell ⟨b, 4, none⟩ x4).setCell ⟨b, 5, none⟩ x5).setCell ⟨b, 6, none⟩ x6).setCell ⟨b, 7, none⟩ x7).setCell ⟨b, 8, none⟩ x8).setCell ⟨b, 9, none⟩ x9).setCell ⟨b, 10, none⟩ x10).heap[b]? = some (.cells #[x0, x1, x2, x3, x4, x5, x6, x7, x8, x9, x10] t (0, 0)) := by
  have step : ∀ (w : World) (c : Array Value) (i : Nat) (x : Value), w.heap[b]? = some (.cells c t (0, 0)) → (w.setCell ⟨b, i, none⟩ x).heap[b]? = some (.cells (c.setIfInBounds i x) t (0, 0)) := by
    intro w c i x h
    simp [World.setCell, Array.getElem?_modify, h]
  have s := step _ _ 10 x10 (step _ _ 9 x9 (step _ _ 8 x8 (step _ _ 7 x7 (step _ _ 6 x6 (step _ _ 5 x5 (step _ _ 4 x4 (step _ _ 3 x3 (step _ _ 2 x2 (step _ _ 1 x1 (step _ _ 0 x0 h))))))))))
  rw [s, set11c c hc]
end Go.Proofs.YtnbhpmncppohaaaGreatDoor.Mill
