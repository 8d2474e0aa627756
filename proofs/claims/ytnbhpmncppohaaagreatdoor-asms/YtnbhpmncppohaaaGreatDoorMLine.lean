import Derived.Test.YtnbhpmncppohaaaGreatDoorMOps
import Derived.Test.YtnbhpmncppohaaaGreatDoorAsk
namespace Go.Proofs.YtnbhpmncppohaaaGreatDoor.Mill
open Go.RowKit

/-- what is asked of readWord: at a map of instructions that holds the entries es, in block r -/
def WordOk (es : Array MapEntry) (sv : UInt8 → Value) : Prop :=
  ∀ (code : List UInt8) (st : Stm) (g r : Nat) (w : World), Base w → 8 ≤ g → w.heap[g]? = some (.cells st.cells 72) → w.heap[r]? = some (.map es 44) → code ≠ [] → code.length ≤ 2000 →
    Calls Tryz.prog 35 #[.pointer (some ⟨g, 0, none⟩), S code, .map (some r)] w fun e w' => Makes g (wordP sv code st) w e w'

theorem below_set10 {B : Nat} {a w : World} (h : Below B a w) (b : Nat) (hb : B ≤ b) (x0 x1 x2 x3 x4 x5 x6 x7 x8 x9 : Value) : Below B a ((((((((((w.setCell ⟨b, 0, none⟩ x0).setCell ⟨b, 1, none⟩ x1).setCell ⟨b, 2, none⟩ x2).setCell ⟨b, 3, none⟩ x3).setCell ⟨b, 4, none⟩ x4).setCell ⟨b, 5, none⟩ x5).setCell ⟨b, 6, none⟩ x6).setCell ⟨b, 7, none⟩ x7).setCell ⟨b, 8, none⟩ x8).setCell ⟨b, 9, none⟩ x9) :=
  (Below.setCell (Below.setCell (Below.setCell (Below.setCell (Below.setCell (Below.setCell (Below.setCell (Below.setCell (Below.setCell (Below.setCell h (p := ⟨b, 0, none⟩) hb x0) (p := ⟨b, 1, none⟩) hb x1) (p := ⟨b, 2, none⟩) hb x2) (p := ⟨b, 3, none⟩) hb x3) (p := ⟨b, 4, none⟩) hb x4) (p := ⟨b, 5, none⟩) hb x5) (p := ⟨b, 6, none⟩) hb x6) (p := ⟨b, 7, none⟩) hb x7) (p := ⟨b, 8, none⟩) hb x8) (p := ⟨b, 9, none⟩) hb x9)

theorem set10c (c : Array Value) (hc : c.size = 10) (x0 x1 x2 x3 x4 x5 x6 x7 x8 x9 : Value) :
    ((((((((((c.setIfInBounds 0 x0).setIfInBounds 1 x1).setIfInBounds 2 x2).setIfInBounds 3 x3).setIfInBounds 4 x4).setIfInBounds 5 x5).setIfInBounds 6 x6).setIfInBounds 7 x7).setIfInBounds 8 x8).setIfInBounds 9 x9) = #[x0, x1, x2, x3, x4, x5, x6, x7, x8, x9] := by
  apply Array.toList_inj.1
  obtain ⟨l⟩ := c
  match l, hc with
  | [_, _, _, _, _, _, _, _, _, _], _ => simp
theorem heap_set10 {w : World} {b : Nat} {c : Array Value} {t : TypeId} (h : w.heap[b]? = some (.cells c t (0, 0))) (hc : c.size = 10) (x0 x1 x2 x3 x4 x5 x6 x7 x8 x9 : Value) :
    (((((((((((w.setCell ⟨b, 0, none⟩ x0).setCell ⟨b, 1, none⟩ x1).setCell ⟨b, 2, none⟩ x2).setCell ⟨b, 3, none⟩ x3).setCell ⟨b, 4, none⟩ x4).setCell ⟨b, 5, none⟩ x5).setCell ⟨b, 6, none⟩ x6).setCell ⟨b, 7, none⟩ x7).setCell ⟨b, 8, none⟩ x8).setCell ⟨b, 9, none⟩ x9)).heap[b]? = some (.cells #[x0, x1, x2, x3, x4, x5, x6, x7, x8, x9] t (0, 0)) := by
  have step : ∀ (w : World) (c : Array Value) (i : Nat) (x : Value), w.heap[b]? = some (.cells c t (0, 0)) → (w.setCell ⟨b, i, none⟩ x).heap[b]? = some (.cells (c.setIfInBounds i x) t (0, 0)) := by
    intro w c i x h
    simp [World.setCell, Array.getElem?_modify, h]
  have s := (step _ _ 9 x9 (step _ _ 8 x8 (step _ _ 7 x7 (step _ _ 6 x6 (step _ _ 5 x5 (step _ _ 4 x4 (step _ _ 3 x3 (step _ _ 2 x2 (step _ _ 1 x1 (step _ _ 0 x0 h))))))))))
  rw [s, set10c c hc]
set_option maxHeartbeats 1000000 in
theorem line_ret (WF : World) (b : Nat) (tmps : Array Value) (s : Stm) (hF : WF.heap[b]? = some (.cells s.cells 72)) (h4 : tmps.getD 4 undef = .pointer (some ⟨b, 0, none⟩)) : (results Tryz.f19 tmps).run Tryz.prog WF = .ok (.agg s.cells) WF := by
  have f0 := cell_row hF 0 _ rfl
  have f1 := cell_row hF 1 _ rfl
  have f2 := cell_row hF 2 _ rfl
  have f3 := cell_row hF 3 _ rfl
  have f4 := cell_row hF 4 _ rfl
  have f5 := cell_row hF 5 _ rfl
  have f6 := cell_row hF 6 _ rfl
  have f7 := cell_row hF 7 _ rfl
  have f8 := cell_row hF 8 _ rfl
  have f9 := cell_row hF 9 _ rfl
  have h4' : tmps[4]?.getD undef = .pointer (some ⟨b, 0, none⟩) := by rw [← h4]; simp [Array.getD_eq_getD_getElem?]
  simp [results, Tryz.results19, go_sem, h4', f0, f1, f2, f3, f4, f5, f6, f7, f8, f9]

theorem heap_two (w : World) (o1 o2 : Obj) : ((w.alloc o1).alloc o2).heap[w.heap.size]? = some o1 ∧ ((w.alloc o1).alloc o2).heap[w.heap.size + 1]? = some o2 := by
  constructor
  · rw [Below.heap_alloc _ _ _ (by simp)]; exact heap_alloc_new _ _
  · have := heap_alloc_new (w.alloc o1) o2
    rwa [World.size_alloc] at this

theorem opP_shape (k : Nat) (o : List UInt8) (s s' : Stm) (h : opP k o s = some s') : s'.shape = s.shape := by
  unfold opP at h
  repeat' split at h
  all_goals first | (simp only [Option.some.injEq] at h; subst h; rfl) | (cases h)
theorem opsP_shape (ks : List Nat) : ∀ (os : List (List UInt8)) (s s' : Stm), opsP ks os s = some s' → s'.shape = s.shape := by
  induction ks with
  | nil => intro os s s' h; cases os <;> (simp only [opsP, Option.some.injEq] at h; subst h; rfl)
  | cons k ks ih =>
    intro os s s' h
    cases os with
    | nil => simp only [opsP, Option.some.injEq] at h; subst h; rfl
    | cons o os =>
      simp only [opsP] at h
      split at h
      · rename_i s2 h2
        exact (ih os s2 s' h).trans (opP_shape k _ s s2 h2)
      · cases h
theorem operandsP_shape (ks : List Nat) (t : List UInt8) (s s' : Stm) (h : operandsP ks t s = some s') : s'.shape = s.shape := by
  unfold operandsP at h
  split at h
  · exact opsP_shape ks _ s s' h
  · cases h
/-- an interface's value -/
def Ifc (v : Value) : Prop := v = .nilIface ∨ ∃ t x, v = .iface t x
theorem wordP_shape (sv : UInt8 → Value) (hsv : ∀ sh, Ifc (sv sh)) (code : List UInt8) (s s' : Stm) (h : wordP sv code s = some s') (hs : Ifc s.shape) : Ifc s'.shape := by
  unfold wordP at h
  split at h
  · rw [operandsP_shape _ _ _ s' h]; exact hs
  · split at h
    · rw [operandsP_shape _ _ _ s' h]; exact hsv _
    · cases h

/-- what readLine comes to -/
def lineEnd : Option Stm → Ending
  | none => gives 3
  | some s => .returned (.agg s.cells)

set_option maxHeartbeats 4000000 in
set_option maxRecDepth 100000 in
theorem readLine_calls (es : Array MapEntry) (sv : UInt8 → Value) (H : WordOk es sv) (hsv : ∀ sh, Ifc (sv sh)) (p : List UInt8) (r : Nat) (w : World) (hB : Base w) (hr : w.heap[r]? = some (.map es 44)) (hl : p.length ≤ 2000) :
    Calls Tryz.prog 19 #[S p, .map (some r)] w fun e w' => e = lineEnd (lineP sv p) ∧ Below w.heap.size w w' := by
  have HC := hide (fun (wc : World) (h : Base wc) => cut1_calls p 35 wc h (by omega))
  have hl1 := cutB_le p 35
  have HX : Hid (lineP sv p = if cutH (cutB p 35) 58 then
    if labelB (trim (cutB (cutB p 35) 58)) then codeP sv (cutA (cutB p 35) 58) { Stm.zero with label := trim (cutB (cutB p 35) 58) } else none
    else codeP sv (cutB p 35) Stm.zero) := rfl
  have HB := hide hB
  have HR := hide hr
  have hrl : r < w.heap.size := (Array.getElem?_eq_some_iff.1 hr).1
  clear hB hr
  generalize cutB p 35 = c at *
  have HD := hide (fun (wc : World) (h : Base wc) => cut1_calls c 58 wc h (by omega))
  have hl2 := cutB_le c 58
  have hl3 := cutA_le c 58
  have hB1 : ∀ o1 o2 n, Base (((w.alloc o1).alloc o2).drewN n) := fun o1 o2 n => (unhide HB).next (below_drewN (((Below.refl _ _).alloc (Nat.le_refl _) _).alloc (by simp) _) _)
  have hB0 : ∀ o1 o2, Base ((w.alloc o1).alloc o2) := fun o1 o2 => (unhide HB).next (((Below.refl _ _).alloc (Nat.le_refl _) _).alloc (by simp) _)
  cases hh : cutH c 58
  · rw [hh] at HX HD
    simp only [Bool.false_eq_true, if_false] at HX
    have HT := hide (fun wc => mtrim_calls c wc (by omega))
    have htl := trim_le c
    unfold codeP at HX
    generalize cutB c 58 = b at *
    generalize cutA c 58 = a at *
    generalize trim c = q at *
    by_cases hq : q = []
    · subst hq
      rw [if_pos rfl] at HX
      go_enter Tryz.func19, Tryz.ntmps19
      go_wp2_with (first | (go_at_call_of 32 (S p); refine (unhide HC _ (hB0 _ _)).mono ?_; rintro e w1 ⟨rfl, n1, rfl⟩) | (go_at_call_of 32 (S c); refine (unhide HD _ (hB1 _ _ _)).mono ?_; rintro e w1 ⟨rfl, n2, rfl⟩) | (go_at_call 34; refine (unhide HT _).mono ?_; rintro e w2 ⟨rfl, hb2⟩; obtain ⟨hc, hf⟩ := bcell hb2; simp only [World.heap_drewN, World.cell?_drewN, World.frozen?_drewN, World.size_alloc] at hc hf))
      have hgb : w2.heap[w.heap.size]? = some (.cells Stm.zero.cells 72) := (hb2.block _ (by simp; omega)).trans (heap_two w _ _).1
      have hbb : Below w.heap.size w w2 := (below_drewN (((Below.refl _ _).alloc (Nat.le_refl _) _).alloc (by simp) _) _).trans (hb2.mono (B' := w.heap.size) (by simp; omega))
      exact bodyPost_ret (line_ret _ _ _ Stm.zero (heap_set10 hgb rfl _ _ _ _ _ _ _ _ _ _) rfl) rfl ⟨by rw [unhide HX]; rfl, below_set10 hbb _ (Nat.le_refl _) _ _ _ _ _ _ _ _ _ _⟩
    · rw [if_neg hq] at HX
      have h16 := (unhide HB).low
      cases hw : wordP sv q Stm.zero with
      | none =>
        rw [hw] at HX
        have HW : Hid (∀ wc, Base wc → wc.heap[w.heap.size + 1]? = some (.cells Stm.zero.cells 72) → wc.heap[r]? = some (.map es 44) → Calls Tryz.prog 35 #[.pointer (some ⟨w.heap.size + 1, 0, none⟩), S q, .map (some r)] wc fun e w' => e = gives 3 ∧ Turned (w.heap.size + 1) wc w') := fun wc h1 h2 h3 =>
          (H q Stm.zero (w.heap.size + 1) r wc h1 (by omega) h2 h3 hq (by omega)).mono fun e w' h => by rw [hw] at h; exact ⟨h.2, h.1⟩
        have hqe : q.isEmpty = false := by cases q with
          | nil => exact absurd rfl hq
          | cons x y => rfl
        clear hw hq
        go_enter Tryz.func19, Tryz.ntmps19
        go_wp2_with (first | (go_at_call_of 32 (S p); refine (unhide HC _ (hB0 _ _)).mono ?_; rintro e w1 ⟨rfl, n1, rfl⟩) | (go_at_call_of 32 (S c); refine (unhide HD _ (hB1 _ _ _)).mono ?_; rintro e w1 ⟨rfl, n2, rfl⟩) | (go_at_call 34; refine (unhide HT _).mono ?_; rintro e w2 ⟨rfl, hb2⟩; obtain ⟨hc, hf⟩ := bcell hb2; simp only [World.heap_drewN, World.cell?_drewN, World.frozen?_drewN, World.size_alloc] at hc hf; have hgb : w2.heap[w.heap.size]? = some (.cells Stm.zero.cells 72) := (hb2.block _ (by simp; omega)).trans (heap_two w _ _).1; have hgs : w2.heap[w.heap.size + 1]? = some (.cells Stm.zero.cells 72) := (hb2.block _ (by simp)).trans (heap_two w _ _).2; have hbb : Below w.heap.size w w2 := (below_drewN (((Below.refl _ _).alloc (Nat.le_refl _) _).alloc (by simp) _) _).trans (hb2.mono (B' := w.heap.size) (by simp; omega))) | (go_at_call 35; refine (unhide HW _ ((unhide HB).next hbb) hgs ((hbb.block r hrl).trans (unhide HR))).mono ?_; rintro e w3 ⟨rfl, ht3⟩))
        exact ⟨rfl, by rw [unhide HX]; rfl, hbb.trans (ht3.below (by omega) hbb.size)⟩
      | some s' =>
        rw [hw] at HX
        have hsh := wordP_shape sv hsv q Stm.zero s' hw (.inl rfl)
        have HW : Hid (∀ wc, Base wc → wc.heap[w.heap.size + 1]? = some (.cells Stm.zero.cells 72) → wc.heap[r]? = some (.map es 44) → Calls Tryz.prog 35 #[.pointer (some ⟨w.heap.size + 1, 0, none⟩), S q, .map (some r)] wc fun e w' => e = .returned (.tuple #[]) ∧ Turned (w.heap.size + 1) wc w' ∧ w'.heap[w.heap.size + 1]? = some (.cells s'.cells 72)) := fun wc h1 h2 h3 =>
          (H q Stm.zero (w.heap.size + 1) r wc h1 (by omega) h2 h3 hq (by omega)).mono fun e w' h => by rw [hw] at h; exact ⟨h.2.1, h.1, h.2.2⟩
        have hqe : q.isEmpty = false := by cases q with
          | nil => exact absurd rfl hq
          | cons x y => rfl
        clear hw hq
        rcases hsh with hsh | ⟨ts, xs, hsh⟩
        all_goals
          go_enter Tryz.func19, Tryz.ntmps19
          go_wp2_with (first | (go_at_call_of 32 (S p); refine (unhide HC _ (hB0 _ _)).mono ?_; rintro e w1 ⟨rfl, n1, rfl⟩) | (go_at_call_of 32 (S c); refine (unhide HD _ (hB1 _ _ _)).mono ?_; rintro e w1 ⟨rfl, n2, rfl⟩) | (go_at_call 34; refine (unhide HT _).mono ?_; rintro e w2 ⟨rfl, hb2⟩; obtain ⟨hc, hf⟩ := bcell hb2; simp only [World.heap_drewN, World.cell?_drewN, World.frozen?_drewN, World.size_alloc] at hc hf; have hgb : w2.heap[w.heap.size]? = some (.cells Stm.zero.cells 72) := (hb2.block _ (by simp; omega)).trans (heap_two w _ _).1; have hgs : w2.heap[w.heap.size + 1]? = some (.cells Stm.zero.cells 72) := (hb2.block _ (by simp)).trans (heap_two w _ _).2; have hbb : Below w.heap.size w w2 := (below_drewN (((Below.refl _ _).alloc (Nat.le_refl _) _).alloc (by simp) _) _).trans (hb2.mono (B' := w.heap.size) (by simp; omega))) | (go_at_call 35; refine (unhide HW _ ((unhide HB).next hbb) hgs ((hbb.block r hrl).trans (unhide HR))).mono ?_; rintro e w3 ⟨rfl, ht3, hg3⟩; have hr3 := (ht3.block w.heap.size (Array.getElem?_eq_some_iff.1 hgb).1 (by omega)).trans hgb; have rf := frozen_row hr3; have g0 := cell_row hg3 0 _ rfl; have r0 := cell_row hr3 0 _ rfl; have g1 := cell_row hg3 1 _ rfl; have r1 := cell_row hr3 1 _ rfl; have g2 := cell_row hg3 2 _ rfl; have r2 := cell_row hr3 2 _ rfl; have g3 : w3.cell? ⟨w.heap.size + 1, 3, none⟩ = some s'.shape := cell_row hg3 3 _ rfl; have r3 := cell_row hr3 3 _ rfl; have g4 := cell_row hg3 4 _ rfl; have r4 := cell_row hr3 4 _ rfl; have g5 := cell_row hg3 5 _ rfl; have r5 := cell_row hr3 5 _ rfl; have g6 := cell_row hg3 6 _ rfl; have r6 := cell_row hr3 6 _ rfl; have g7 := cell_row hg3 7 _ rfl; have r7 := cell_row hr3 7 _ rfl; have g8 := cell_row hg3 8 _ rfl; have r8 := cell_row hr3 8 _ rfl; have g9 := cell_row hg3 9 _ rfl; have r9 := cell_row hr3 9 _ rfl; rw [hsh] at g3; clear hc hf))
          have hfin := heap_set10 hr3 rfl (S s'.label) (.bool s'.has) (.int .u32 s'.word) s'.shape (.int .i64 s'.number) (.int .i64 s'.f.lo) (.int .i64 s'.f.wi) (.int .i64 s'.f.least) (.int .i64 s'.f.most) (S s'.goal)
          rw [hsh] at hfin
          exact bodyPost_ret (line_ret _ _ _ s' (by show _ = some (Obj.cells #[S s'.label, .bool s'.has, .int .u32 s'.word, s'.shape, .int .i64 s'.number, .int .i64 s'.f.lo, .int .i64 s'.f.wi, .int .i64 s'.f.least, .int .i64 s'.f.most, S s'.goal] 72 (0, 0)); rw [hsh]; exact hfin) rfl) rfl ⟨by rw [unhide HX]; rfl, below_set10 (hbb.trans (ht3.below (by omega) hbb.size)) _ (Nat.le_refl _) _ _ _ _ _ _ _ _ _ _⟩
  · rw [hh] at HX HD
    simp only [if_true] at HX
    have hbl : (cutB c 58).length ≤ 2000 := by omega
    have hal : (cutA c 58).length ≤ 2000 := by omega
    have htb := trim_le (cutB c 58)
    have hta := trim_le (cutA c 58)
    have HTB := hide (fun wc => mtrim_calls (cutB c 58) wc (by omega))
    have HTA := hide (fun wc => mtrim_calls (cutA c 58) wc (by omega))
    unfold codeP at HX
    generalize cutB c 58 = b at *
    generalize cutA c 58 = a at *
    generalize trim b = L at *
    generalize trim a = q at *
    have h16 := (unhide HB).low
    cases hlab : labelB L
    · rw [hlab] at HX
      simp only [Bool.false_eq_true, if_false] at HX
      have HRL := hide (fun wc => readLabel_no L wc (by omega) hlab)
      clear hlab
      go_enter Tryz.func19, Tryz.ntmps19
      go_wp2_with (first | (go_at_call_of 32 (S p); refine (unhide HC _ (hB0 _ _)).mono ?_; rintro e w1 ⟨rfl, n1, rfl⟩) | (go_at_call_of 32 (S c); refine (unhide HD _ (hB1 _ _ _)).mono ?_; rintro e w1 ⟨rfl, n2, rfl⟩) | (go_at_call_of 34 (S b); refine (unhide HTB _).mono ?_; rintro e w2 ⟨rfl, hb2⟩; obtain ⟨hc, hf⟩ := bcell hb2; simp only [World.heap_drewN, World.cell?_drewN, World.frozen?_drewN, World.size_alloc] at hc hf; have hgb : w2.heap[w.heap.size]? = some (.cells Stm.zero.cells 72) := (hb2.block _ (by simp; omega)).trans (heap_two w _ _).1; have hgs : w2.heap[w.heap.size + 1]? = some (.cells Stm.zero.cells 72) := (hb2.block _ (by simp)).trans (heap_two w _ _).2; have hbb : Below w.heap.size w w2 := (below_drewN (((Below.refl _ _).alloc (Nat.le_refl _) _).alloc (by simp) _) _).trans (hb2.mono (B' := w.heap.size) (by simp; omega))) | (go_at_call 33; refine (unhide HRL _).mono ?_; rintro e w3 ⟨rfl, rfl⟩))
      exact ⟨rfl, by rw [unhide HX]; rfl, hbb⟩
    · rw [hlab] at HX
      simp only [if_true] at HX
      have HRL := hide (fun wc => readLabel_yes L wc hlab)
      clear hlab
      by_cases hq : q = []
      · subst hq
        rw [if_pos rfl] at HX
        go_enter Tryz.func19, Tryz.ntmps19
        go_wp2_with (first | (go_at_call_of 32 (S p); refine (unhide HC _ (hB0 _ _)).mono ?_; rintro e w1 ⟨rfl, n1, rfl⟩) | (go_at_call_of 32 (S c); refine (unhide HD _ (hB1 _ _ _)).mono ?_; rintro e w1 ⟨rfl, n2, rfl⟩) | (go_at_call_of 34 (S b); refine (unhide HTB _).mono ?_; rintro e w2 ⟨rfl, hb2⟩; obtain ⟨hc, hf⟩ := bcell hb2; simp only [World.heap_drewN, World.cell?_drewN, World.frozen?_drewN, World.size_alloc] at hc hf; have hgb : w2.heap[w.heap.size]? = some (.cells Stm.zero.cells 72) := (hb2.block _ (by simp; omega)).trans (heap_two w _ _).1; have hgs : w2.heap[w.heap.size + 1]? = some (.cells Stm.zero.cells 72) := (hb2.block _ (by simp)).trans (heap_two w _ _).2; have hbb : Below w.heap.size w w2 := (below_drewN (((Below.refl _ _).alloc (Nat.le_refl _) _).alloc (by simp) _) _).trans (hb2.mono (B' := w.heap.size) (by simp; omega))) | (go_at_call 33; refine (unhide HRL _).mono ?_; rintro e w3 ⟨rfl, rfl⟩) | (go_at_call_of 34 (S a); refine (unhide HTA _).mono ?_; rintro e w4 ⟨rfl, hb4⟩; have hsz := (Array.getElem?_eq_some_iff.1 hgb).1; have hsz1 := (Array.getElem?_eq_some_iff.1 hgs).1; have hgb4 : w4.heap[w.heap.size]? = some (.cells Stm.zero.cells 72) := (hb4.block _ (by simpa using hsz)).trans ((heap_setCell_other _ _ _ _ (by show w.heap.size ≠ w.heap.size + 1; omega)).trans hgb); have hgs4 : w4.heap[w.heap.size + 1]? = some (.cells { Stm.zero with label := L }.cells 72) := (hb4.block _ (by simpa using hsz1)).trans (heap_setCell_same _ _ 0 _ _ (S L) hgs); have hbb4 : Below w.heap.size w w4 := (hbb.setCell (p := ⟨w.heap.size + 1, 0, none⟩) (by show w.heap.size ≤ w.heap.size + 1; omega) (S L)).trans (hb4.mono (by simp; omega)); have g0 := cell_row hgs4 0 _ rfl; have r0 := cell_row hgb4 0 _ rfl; have g1 := cell_row hgs4 1 _ rfl; have r1 := cell_row hgb4 1 _ rfl; have g2 := cell_row hgs4 2 _ rfl; have r2 := cell_row hgb4 2 _ rfl; have g3 : w4.cell? ⟨w.heap.size + 1, 3, none⟩ = some .nilIface := cell_row hgs4 3 _ rfl; have r3 := cell_row hgb4 3 _ rfl; have g4 := cell_row hgs4 4 _ rfl; have r4 := cell_row hgb4 4 _ rfl; have g5 := cell_row hgs4 5 _ rfl; have r5 := cell_row hgb4 5 _ rfl; have g6 := cell_row hgs4 6 _ rfl; have r6 := cell_row hgb4 6 _ rfl; have g7 := cell_row hgs4 7 _ rfl; have r7 := cell_row hgb4 7 _ rfl; have g8 := cell_row hgs4 8 _ rfl; have r8 := cell_row hgb4 8 _ rfl; have g9 := cell_row hgs4 9 _ rfl; have r9 := cell_row hgb4 9 _ rfl; have rf := frozen_row hgb4; clear hc hf))
        exact bodyPost_ret (line_ret _ _ _ { Stm.zero with label := L } (heap_set10 hgb4 rfl _ _ _ _ _ _ _ _ _ _) rfl) rfl ⟨by rw [unhide HX]; rfl, below_set10 hbb4 _ (Nat.le_refl _) _ _ _ _ _ _ _ _ _ _⟩
      · rw [if_neg hq] at HX
        have hqe : q.isEmpty = false := by cases q with
          | nil => exact absurd rfl hq
          | cons x y => rfl
        cases hw : wordP sv q { Stm.zero with label := L } with
        | none =>
          rw [hw] at HX
          have HW : Hid (∀ wc, Base wc → wc.heap[w.heap.size + 1]? = some (.cells { Stm.zero with label := L }.cells 72) → wc.heap[r]? = some (.map es 44) → Calls Tryz.prog 35 #[.pointer (some ⟨w.heap.size + 1, 0, none⟩), S q, .map (some r)] wc fun e w' => e = gives 3 ∧ Turned (w.heap.size + 1) wc w') := fun wc h1 h2 h3 =>
            (H q { Stm.zero with label := L } (w.heap.size + 1) r wc h1 (by omega) h2 h3 hq (by omega)).mono fun e w' h => by rw [hw] at h; exact ⟨h.2, h.1⟩
          clear hw hq
          go_enter Tryz.func19, Tryz.ntmps19
          go_wp2_with (first | (go_at_call_of 32 (S p); refine (unhide HC _ (hB0 _ _)).mono ?_; rintro e w1 ⟨rfl, n1, rfl⟩) | (go_at_call_of 32 (S c); refine (unhide HD _ (hB1 _ _ _)).mono ?_; rintro e w1 ⟨rfl, n2, rfl⟩) | (go_at_call_of 34 (S b); refine (unhide HTB _).mono ?_; rintro e w2 ⟨rfl, hb2⟩; obtain ⟨hc, hf⟩ := bcell hb2; simp only [World.heap_drewN, World.cell?_drewN, World.frozen?_drewN, World.size_alloc] at hc hf; have hgb : w2.heap[w.heap.size]? = some (.cells Stm.zero.cells 72) := (hb2.block _ (by simp; omega)).trans (heap_two w _ _).1; have hgs : w2.heap[w.heap.size + 1]? = some (.cells Stm.zero.cells 72) := (hb2.block _ (by simp)).trans (heap_two w _ _).2; have hbb : Below w.heap.size w w2 := (below_drewN (((Below.refl _ _).alloc (Nat.le_refl _) _).alloc (by simp) _) _).trans (hb2.mono (B' := w.heap.size) (by simp; omega))) | (go_at_call 33; refine (unhide HRL _).mono ?_; rintro e w3 ⟨rfl, rfl⟩) | (go_at_call_of 34 (S a); refine (unhide HTA _).mono ?_; rintro e w4 ⟨rfl, hb4⟩; have hsz := (Array.getElem?_eq_some_iff.1 hgb).1; have hsz1 := (Array.getElem?_eq_some_iff.1 hgs).1; have hgb4 : w4.heap[w.heap.size]? = some (.cells Stm.zero.cells 72) := (hb4.block _ (by simpa using hsz)).trans ((heap_setCell_other _ _ _ _ (by show w.heap.size ≠ w.heap.size + 1; omega)).trans hgb); have hgs4 : w4.heap[w.heap.size + 1]? = some (.cells { Stm.zero with label := L }.cells 72) := (hb4.block _ (by simpa using hsz1)).trans (heap_setCell_same _ _ 0 _ _ (S L) hgs); have hbb4 : Below w.heap.size w w4 := (hbb.setCell (p := ⟨w.heap.size + 1, 0, none⟩) (by show w.heap.size ≤ w.heap.size + 1; omega) (S L)).trans (hb4.mono (by simp; omega))) | (go_at_call 35; refine (unhide HW _ ((unhide HB).next hbb4) hgs4 ((hbb4.block r hrl).trans (unhide HR))).mono ?_; rintro e w5 ⟨rfl, ht5⟩))
          exact ⟨rfl, by rw [unhide HX]; rfl, hbb4.trans (ht5.below (by omega) hbb4.size)⟩
        | some s' =>
          rw [hw] at HX
          have hsh := wordP_shape sv hsv q { Stm.zero with label := L } s' hw (.inl rfl)
          have HW : Hid (∀ wc, Base wc → wc.heap[w.heap.size + 1]? = some (.cells { Stm.zero with label := L }.cells 72) → wc.heap[r]? = some (.map es 44) → Calls Tryz.prog 35 #[.pointer (some ⟨w.heap.size + 1, 0, none⟩), S q, .map (some r)] wc fun e w' => e = .returned (.tuple #[]) ∧ Turned (w.heap.size + 1) wc w' ∧ w'.heap[w.heap.size + 1]? = some (.cells s'.cells 72)) := fun wc h1 h2 h3 =>
            (H q { Stm.zero with label := L } (w.heap.size + 1) r wc h1 (by omega) h2 h3 hq (by omega)).mono fun e w' h => by rw [hw] at h; exact ⟨h.2.1, h.1, h.2.2⟩
          clear hw hq
          rcases hsh with hsh | ⟨ts, xs, hsh⟩
          all_goals
            go_enter Tryz.func19, Tryz.ntmps19
            go_wp2_with (first | (go_at_call_of 32 (S p); refine (unhide HC _ (hB0 _ _)).mono ?_; rintro e w1 ⟨rfl, n1, rfl⟩) | (go_at_call_of 32 (S c); refine (unhide HD _ (hB1 _ _ _)).mono ?_; rintro e w1 ⟨rfl, n2, rfl⟩) | (go_at_call_of 34 (S b); refine (unhide HTB _).mono ?_; rintro e w2 ⟨rfl, hb2⟩; obtain ⟨hc, hf⟩ := bcell hb2; simp only [World.heap_drewN, World.cell?_drewN, World.frozen?_drewN, World.size_alloc] at hc hf; have hgb : w2.heap[w.heap.size]? = some (.cells Stm.zero.cells 72) := (hb2.block _ (by simp; omega)).trans (heap_two w _ _).1; have hgs : w2.heap[w.heap.size + 1]? = some (.cells Stm.zero.cells 72) := (hb2.block _ (by simp)).trans (heap_two w _ _).2; have hbb : Below w.heap.size w w2 := (below_drewN (((Below.refl _ _).alloc (Nat.le_refl _) _).alloc (by simp) _) _).trans (hb2.mono (B' := w.heap.size) (by simp; omega))) | (go_at_call 33; refine (unhide HRL _).mono ?_; rintro e w3 ⟨rfl, rfl⟩) | (go_at_call_of 34 (S a); refine (unhide HTA _).mono ?_; rintro e w4 ⟨rfl, hb4⟩; have hsz := (Array.getElem?_eq_some_iff.1 hgb).1; have hsz1 := (Array.getElem?_eq_some_iff.1 hgs).1; have hgb4 : w4.heap[w.heap.size]? = some (.cells Stm.zero.cells 72) := (hb4.block _ (by simpa using hsz)).trans ((heap_setCell_other _ _ _ _ (by show w.heap.size ≠ w.heap.size + 1; omega)).trans hgb); have hgs4 : w4.heap[w.heap.size + 1]? = some (.cells { Stm.zero with label := L }.cells 72) := (hb4.block _ (by simpa using hsz1)).trans (heap_setCell_same _ _ 0 _ _ (S L) hgs); have hbb4 : Below w.heap.size w w4 := (hbb.setCell (p := ⟨w.heap.size + 1, 0, none⟩) (by show w.heap.size ≤ w.heap.size + 1; omega) (S L)).trans (hb4.mono (by simp; omega))) | (go_at_call 35; refine (unhide HW _ ((unhide HB).next hbb4) hgs4 ((hbb4.block r hrl).trans (unhide HR))).mono ?_; rintro e w5 ⟨rfl, ht5, hg5⟩; have hr5 := (ht5.block w.heap.size (Array.getElem?_eq_some_iff.1 hgb4).1 (by omega)).trans hgb4; have g0 := cell_row hg5 0 _ rfl; have r0 := cell_row hr5 0 _ rfl; have g1 := cell_row hg5 1 _ rfl; have r1 := cell_row hr5 1 _ rfl; have g2 := cell_row hg5 2 _ rfl; have r2 := cell_row hr5 2 _ rfl; have g3 : w5.cell? ⟨w.heap.size + 1, 3, none⟩ = some s'.shape := cell_row hg5 3 _ rfl; have r3 := cell_row hr5 3 _ rfl; have g4 := cell_row hg5 4 _ rfl; have r4 := cell_row hr5 4 _ rfl; have g5 := cell_row hg5 5 _ rfl; have r5 := cell_row hr5 5 _ rfl; have g6 := cell_row hg5 6 _ rfl; have r6 := cell_row hr5 6 _ rfl; have g7 := cell_row hg5 7 _ rfl; have r7 := cell_row hr5 7 _ rfl; have g8 := cell_row hg5 8 _ rfl; have r8 := cell_row hr5 8 _ rfl; have g9 := cell_row hg5 9 _ rfl; have r9 := cell_row hr5 9 _ rfl; have rf := frozen_row hr5; rw [hsh] at g3; clear hc hf))
            have hfin := heap_set10 hr5 rfl (S s'.label) (.bool s'.has) (.int .u32 s'.word) s'.shape (.int .i64 s'.number) (.int .i64 s'.f.lo) (.int .i64 s'.f.wi) (.int .i64 s'.f.least) (.int .i64 s'.f.most) (S s'.goal)
            rw [hsh] at hfin
            exact bodyPost_ret (line_ret _ _ _ s' (by show _ = some (Obj.cells #[S s'.label, .bool s'.has, .int .u32 s'.word, s'.shape, .int .i64 s'.number, .int .i64 s'.f.lo, .int .i64 s'.f.wi, .int .i64 s'.f.least, .int .i64 s'.f.most, S s'.goal] 72 (0, 0)); rw [hsh]; exact hfin) rfl) rfl ⟨by rw [unhide HX]; rfl, below_set10 (hbb4.trans (ht5.below (by omega) hbb4.size)) _ (Nat.le_refl _) _ _ _ _ _ _ _ _ _ _⟩
end Go.Proofs.YtnbhpmncppohaaaGreatDoor.Mill
