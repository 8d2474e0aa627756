import Derived.Test.YtnbhpmncppohaaaGreatDoorMSet
import Derived.Recover
namespace Go.Proofs.YtnbhpmncppohaaaGreatDoor.Mill
open Go.RowKit

set_option maxHeartbeats 1000000 in
set_option maxRecDepth 100000 in
theorem reasonOf_calls (n : Int) (w : World) :
    Calls Tryz.prog 9 #[.iface 25 (.int .i64 n)] w fun e w' => e = .returned (.int .i64 n) ∧ w' = w := by
  have hta : ∀ w, (Instr.typeAssert (.iface 25 (.int .i64 n)) 20 25 true).run Tryz.prog w = .ok (.tuple #[.int .i64 n, .bool true]) w := fun _ => by kernel_rfl
  go_enter Tryz.func9, Tryz.ntmps9
  go_wp2_with fail
  go_ret
  exact ⟨rfl, rfl⟩

set_option maxHeartbeats 2000000 in
set_option maxRecDepth 100000 in
theorem catch_panicking (ka k0 k1 k2 ga : Nat) (n line : Int) (older : List PanicEntry) (v0 v1 v2 : Value) (w : World) (h01 : k0 ≠ k1) (h02 : k0 ≠ k2) (h12 : k1 ≠ k2) (hka0 : ka ≠ k0) (hka1 : ka ≠ k1) (hka2 : ka ≠ k2) (hga0 : ga ≠ k0) (hga1 : ga ≠ k1) (hga2 : ga ≠ k2)
    (ha : w.cell? ⟨ka, 0, none⟩ = some (.pointer (some ⟨ga, 0, none⟩))) (hl : w.cell? ⟨ga, 4, none⟩ = some (.int .i64 line))
    (h0 : w.cell? ⟨k0, 0, none⟩ = some v0) (h1 : w.cell? ⟨k1, 0, none⟩ = some v1) (h2 : w.cell? ⟨k2, 0, none⟩ = some v2) (f0 : w.frozen? ⟨k0, 0, none⟩ = false) (f1 : w.frozen? ⟨k1, 0, none⟩ = false) (f2 : w.frozen? ⟨k2, 0, none⟩ = false) :
    CallsD Tryz.prog 8 #[.pointer (some ⟨ka, 0, none⟩), .pointer (some ⟨k0, 0, none⟩), .pointer (some ⟨k1, 0, none⟩), .pointer (some ⟨k2, 0, none⟩)] (.panicking ({ v := .iface 25 (.int .i64 n), recovered := false } :: older)) w fun e u' w' =>
      e = .returned (.tuple #[]) ∧ u' = .panicking ({ v := .iface 25 (.int .i64 n), recovered := true } :: older) ∧ w' = ((w.drew.setCell ⟨k0, 0, none⟩ (S [])).setCell ⟨k1, 0, none⟩ (.int .i64 n)).setCell ⟨k2, 0, none⟩ (.int .i64 line) := by
  refine callsD_of_wpS Tryz.func8 rfl fun c₀ cs hu => ?_
  apply wpS_seq
  apply wpS_region
  simp [wpOpsS, go_sem, recoverD, hu, Tryz.ntmps8, Exit.thenS]
  refine wpS_of_wp ?_
  simp only [Array.replicate_succ, Array.replicate_zero, List.push_toArray, List.append_toArray, List.nil_append, List.cons_append, List.setIfInBounds_toArray, List.set_cons_zero, List.set_cons_succ]
  go_wp2_with fail
  go_region_with (go_at_call 9; refine (reasonOf_calls n _).mono ?_; rintro e w1 ⟨rfl, rfl⟩)
  all_goals go_wp2_with fail
  all_goals simp [bodyPostS, results, Tryz.results8]

theorem catch_idle (ka k0 k1 k2 : Nat) (w : World) :
    CallsD Tryz.prog 8 #[.pointer (some ⟨ka, 0, none⟩), .pointer (some ⟨k0, 0, none⟩), .pointer (some ⟨k1, 0, none⟩), .pointer (some ⟨k2, 0, none⟩)] .returning w fun e u' w' => e = .returned (.tuple #[]) ∧ u' = .returning ∧ w' = w := by
  refine callsD_of_wpS Tryz.func8 rfl fun c₀ cs hu => ?_
  apply wpS_seq
  apply wpS_region
  simp [wpOpsS, go_sem, recoverD, hu, Tryz.ntmps8, Exit.thenS]
  refine wpS_of_wp ?_
  simp only [Array.replicate_succ, Array.replicate_zero, List.push_toArray, List.append_toArray, List.nil_append, List.cons_append, List.setIfInBounds_toArray, List.set_cons_zero, List.set_cons_succ]
  go_wp2_with fail
  cases c₀
  simp_all [bodyPostS, results, Tryz.results8]
end Go.Proofs.YtnbhpmncppohaaaGreatDoor.Mill
namespace Go.Proofs.YtnbhpmncppohaaaGreatDoor.Mill
open Go.RowKit

/-- what is asked of newAssembly -/
def NewOk (es : Array MapEntry) : Prop :=
  ∀ w, Calls Tryz.prog 7 #[] w fun e w' => ∃ ga rn rl, e = .returned (.pointer (some ⟨ga, 0, none⟩)) ∧ Below w.heap.size w w' ∧ AsmAt es w' w.heap.size ga rn rl (.slice none 0 0) (.slice none 0 0) { words := [], labels := [], opens := [] } 0

/-- Asm, as the program does it -/
def asmP (sv : UInt8 → Value) (t : List UInt8) : List UInt8 × Int × Int :=
  if 2000 < t.length then ([], 1, 0)
  else match linesP sv (splitC 10 t) 0 { words := [], labels := [], opens := [] } with
    | .error n => ([], n.1, (n.2 : Int))
    | .ok st => match settleP st.labels st.opens st.words with
      | .error n => ([], n.1, (n.2 : Int))
      | .ok ws => (outB ws, 0, 0)
/-- what holds of what the lines leave -/
def Good (st : PSt) : Prop := (∀ o ∈ st.opens, OpOk st.words.length o) ∧ (∀ x ∈ st.labels, x.2 ≤ 256)

set_option maxHeartbeats 4000000 in
set_option maxRecDepth 100000 in
theorem asmM_long (t : List UInt8) (w : World) (ht : 2000 < t.length) :
    Calls Tryz.prog 4 #[S t] w fun e w' => e = .returned (.tuple #[S [], .int .i64 1, .int .i64 0]) ∧ Below w.heap.size w w' := by
  have hl : (2000 : Int) < (t.length : Int) := by omega
  go_enter_defers Tryz.func4, Tryz.ntmps4
  go_wp2_with fail
  refine ⟨.tuple #[S [], .int .i64 1, .int .i64 0], ?_, rfl, (((Below.refl _ _).alloc (Nat.le_refl _) _).alloc (by simp) _).alloc (by simp; omega) _⟩
  simp [results, Tryz.results4, go_sem]
/-- Asm's own variables: the three results and the assembly's pointer -/
def Cells4 (k0 ka ga : Nat) (w : World) : Prop :=
  w.heap[k0]? = some (.cells #[.string { data := #[] }] 9) ∧ w.heap[k0 + 1]? = some (.cells #[.int .i64 0] 25) ∧ w.heap[k0 + 1 + 1]? = some (.cells #[.int .i64 0] 3) ∧ w.heap[ka]? = some (.cells #[.pointer (some ⟨ga, 0, none⟩)] 32)
theorem Cells4.kept {k0 ka ga rl B : Nat} {w w' : World} (h : Cells4 k0 ka ga w) (hk : Kept B ga rl w w') (h1 : k0 + 3 ≤ ga) (h2 : k0 + 3 ≤ rl) (h3 : ka ≠ ga) (h4 : ka ≠ rl) : Cells4 k0 ka ga w' := by
  obtain ⟨e0, e1, e2, ea⟩ := h
  have sp : ∀ k o, k ≠ ga → k ≠ rl → w.heap[k]? = some o → (∀ c fz, o ≠ .cells c 66 fz) → (∀ c fz, o ≠ .cells c 75 fz) → w'.heap[k]? = some o := fun k o q1 q2 ho q3 q4 =>
    (hk.spare k (Array.getElem?_eq_some_iff.1 ho).1 q1 q2 (fun c fz e => q3 c fz (Option.some.inj (ho.symm.trans e))) (fun c fz e => q4 c fz (Option.some.inj (ho.symm.trans e)))).trans ho
  exact ⟨sp _ _ (by omega) (by omega) e0 (fun c fz => by simp) (fun c fz => by simp), sp _ _ (by omega) (by omega) e1 (fun c fz => by simp) (fun c fz => by simp), sp _ _ (by omega) (by omega) e2 (fun c fz => by simp) (fun c fz => by simp), sp _ _ h3 h4 ea (fun c fz => by simp) (fun c fz => by simp)⟩
theorem top3 (w : World) : (((w.alloc (.cells #[.string { data := #[] }] 9)).alloc (.cells #[.int .i64 0] 25)).alloc (.cells #[.int .i64 0] 3)).heap.size = w.heap.size + 3 ∧ (((w.alloc (.cells #[.string { data := #[] }] 9)).alloc (.cells #[.int .i64 0] 25)).alloc (.cells #[.int .i64 0] 3)).heap[w.heap.size]? = some (.cells #[.string { data := #[] }] 9) ∧ (((w.alloc (.cells #[.string { data := #[] }] 9)).alloc (.cells #[.int .i64 0] 25)).alloc (.cells #[.int .i64 0] 3)).heap[w.heap.size + 1]? = some (.cells #[.int .i64 0] 25) ∧ (((w.alloc (.cells #[.string { data := #[] }] 9)).alloc (.cells #[.int .i64 0] 25)).alloc (.cells #[.int .i64 0] 3)).heap[w.heap.size + 1 + 1]? = some (.cells #[.int .i64 0] 3) ∧ Below w.heap.size w (((w.alloc (.cells #[.string { data := #[] }] 9)).alloc (.cells #[.int .i64 0] 25)).alloc (.cells #[.int .i64 0] 3)) := by
  refine ⟨by simp, ?_, ?_, ?_, (((Below.refl _ _).alloc (Nat.le_refl _) _).alloc (by simp) _).alloc (by simp; omega) _⟩
  · rw [Below.heap_alloc _ _ _ (by simp; omega)]; exact (heap_two w _ _).1
  · rw [Below.heap_alloc _ _ _ (by simp)]; exact (heap_two w _ _).2
  · have := heap_alloc_new ((w.alloc (.cells #[.string { data := #[] }] 9)).alloc (.cells #[.int .i64 0] 25)) (.cells #[.int .i64 0] 3)
    simpa using this
theorem top4 {w W3 w1 : World} (ga : Nat) (h3 : W3.heap.size = w.heap.size + 3) (h0 : W3.heap[w.heap.size]? = some (.cells #[.string { data := #[] }] 9)) (h1 : W3.heap[w.heap.size + 1]? = some (.cells #[.int .i64 0] 25)) (h2 : W3.heap[w.heap.size + 1 + 1]? = some (.cells #[.int .i64 0] 3)) (hb1 : Below W3.heap.size W3 w1) : Cells4 w.heap.size w1.heap.size ga (w1.alloc (.cells #[.pointer (some ⟨ga, 0, none⟩)] 32)) := by
  have hs := hb1.size
  exact ⟨(Below.heap_alloc _ _ _ (by omega)).trans ((hb1.block _ (by omega)).trans h0), (Below.heap_alloc _ _ _ (by omega)).trans ((hb1.block _ (by omega)).trans h1), (Below.heap_alloc _ _ _ (by omega)).trans ((hb1.block _ (by omega)).trans h2), heap_alloc_new _ _⟩
set_option maxHeartbeats 4000000 in
set_option maxRecDepth 100000 in
theorem asmM_lines_err (es : Array MapEntry) (sv : UInt8 → Value) (hsv : ∀ sh, Ifc (sv sh)) (WO : WordOk es sv) (NO : NewOk es) (t : List UInt8) (w : World) (hB : Base w) (ht : ¬ 2000 < t.length) (en : Int) (ln : Nat) (hx : linesP sv (splitC 10 t) 0 { words := [], labels := [], opens := [] } = .error (en, ln)) :
    Calls Tryz.prog 4 #[S t] w fun e w' => e = .returned (.tuple #[S [], .int .i64 en, .int .i64 ln]) ∧ Below w.heap.size w w' := by
  have hl : ¬ (2000 : Int) < (t.length : Int) := by omega
  have hmf : ∀ (fn : Fn) (first cap : Array Value) (w : World), (Instr.makeFunc fn first cap).run Tryz.prog w = .ok (.func fn first cap) w := fun _ _ _ _ => rfl
  obtain ⟨W3, hW3⟩ : ∃ W3, W3 = (((w.alloc (.cells #[.string { data := #[] }] 9)).alloc (.cells #[.int .i64 0] 25)).alloc (.cells #[.int .i64 0] 3)) := ⟨_, rfl⟩
  have h3 := top3 w
  rw [← hW3] at h3
  obtain ⟨hs3, h30, h31, h32, hbw3⟩ := h3
  have hB3 := hB.next hbw3
  have hlow := hB.low
  have HL : Hid (∀ ga rn rl wc, AsmAt es wc W3.heap.size ga rn rl (.slice none 0 0) (.slice none 0 0) { words := [], labels := [], opens := [] } 0 → Base wc → Calls Tryz.prog 10 #[.pointer (some ⟨ga, 0, none⟩), S t] wc fun e w' => e = gives en ∧ Kept W3.heap.size ga rl wc w' ∧ w'.cell? ⟨ga, 4, none⟩ = some (.int .i64 ln)) := fun ga rn rl wc h1 h2 => by
    have := addLines_calls es sv hsv WO (addWord_ok es) t W3.heap.size ga rn rl _ _ _ _ wc h1 (by simp) (by simp) h2 (by omega) (by omega)
    rw [hx] at this
    exact this.mono fun e w' h => ⟨h.2.1, h.1, h.2.2⟩
  have HB3 := hide hB3
  have HF := hide (And.intro hs3 (And.intro h30 (And.intro h31 (And.intro h32 hbw3))))
  clear hB hx h30 h31 h32 hbw3 hs3 hB3
  go_enter_defers Tryz.func4, Tryz.ntmps4
  go_wp2_with (first | (go_at_call 7; rw [← hW3]; refine (NO _).mono ?_; rintro e w1 ⟨ga, rn, rl, rfl, hb1, hA1⟩; have hq4 := top4 ga (unhide HF).1 (unhide HF).2.1 (unhide HF).2.2.1 (unhide HF).2.2.2.1 hb1; have hlo := hA1.lo; have hgl := (Array.getElem?_eq_some_iff.1 hA1.blk).1; have hrl := (Array.getElem?_eq_some_iff.1 hA1.lab).1; have hs3 := (unhide HF).1) | (go_at_call 10; refine (unhide HL ga rn rl _ (hA1.keep ((Below.refl _ _).alloc (Nat.le_refl _) _)) (((unhide HB3).next hb1).next ((Below.refl _ _).alloc (Nat.le_refl _) _))).mono ?_; rintro e w2 ⟨rfl, hk2, hl2⟩; have hq2 := hq4.kept hk2 (by omega) (by omega) (by omega) (by omega); have ca2 := cell_row hq2.2.2.2 0 _ rfl))
  have hbw3 := (unhide HF).2.2.2.2
  have hw1 := hb1.size
  refine leaves_cons (f := 8) (args := #[.pointer (some ⟨w1.heap.size, 0, none⟩), .pointer (some ⟨w.heap.size, 0, none⟩), .pointer (some ⟨w.heap.size + 1, 0, none⟩), .pointer (some ⟨w.heap.size + 1 + 1, 0, none⟩)]) (by simp) (by simp [go_sem]) ?_
  have c0 := cell_row hq2.1 0 _ rfl
  have c1 := cell_row hq2.2.1 0 _ rfl
  have c2 := cell_row hq2.2.2.1 0 _ rfl
  refine (catch_panicking w1.heap.size w.heap.size (w.heap.size + 1) (w.heap.size + 1 + 1) ga en ln [] _ _ _ w2 (by omega) (by omega) (by omega) (by omega) (by omega) (by omega) (by omega) (by omega) (by omega) (cell_row hq2.2.2.2 0 _ rfl) hl2 c0 c1 c2 (frozen_row hq2.1 0) (frozen_row hq2.2.1 0) (frozen_row hq2.2.2.1 0)).mono ?_
  rintro e u' w'' ⟨rfl, rfl, rfl⟩
  have hbf : Below w.heap.size w w2 := ((hbw3.trans (hb1.mono (by omega))).trans (((Below.refl _ _).alloc (by omega) _).trans (hk2.below.mono (by omega))))
  have hfin := ((hbf.drew.setCell (p := ⟨w.heap.size, 0, none⟩) (Nat.le_refl _) (S [])).setCell (p := ⟨w.heap.size + 1, 0, none⟩) (by show w.heap.size ≤ w.heap.size + 1; omega) (.int .i64 en)).setCell (p := ⟨w.heap.size + 1 + 1, 0, none⟩) (by show w.heap.size ≤ w.heap.size + 1 + 1; omega) (.int .i64 (ln : Int))
  simp [Leaves, settle, results, Tryz.results4, go_sem, c0, c1, c2]
  exact hfin
set_option maxHeartbeats 4000000 in
set_option maxRecDepth 100000 in
theorem asmM_settle_err (es : Array MapEntry) (sv : UInt8 → Value) (hsv : ∀ sh, Ifc (sv sh)) (WO : WordOk es sv) (NO : NewOk es) (t : List UInt8) (w : World) (hB : Base w) (ht : ¬ 2000 < t.length) (en : Int) (ln : Nat) (st : PSt) (hx : linesP sv (splitC 10 t) 0 { words := [], labels := [], opens := [] } = .ok st) (hg : Good st) (hy : settleP st.labels st.opens st.words = .error (en, ln)) :
    Calls Tryz.prog 4 #[S t] w fun e w' => e = .returned (.tuple #[S [], .int .i64 en, .int .i64 ln]) ∧ Below w.heap.size w w' := by
  have hl : ¬ (2000 : Int) < (t.length : Int) := by omega
  have hmf : ∀ (fn : Fn) (first cap : Array Value) (w : World), (Instr.makeFunc fn first cap).run Tryz.prog w = .ok (.func fn first cap) w := fun _ _ _ _ => rfl
  obtain ⟨W3, hW3⟩ : ∃ W3, W3 = (((w.alloc (.cells #[.string { data := #[] }] 9)).alloc (.cells #[.int .i64 0] 25)).alloc (.cells #[.int .i64 0] 3)) := ⟨_, rfl⟩
  have h3 := top3 w
  rw [← hW3] at h3
  obtain ⟨hs3, h30, h31, h32, hbw3⟩ := h3
  have hB3 := hB.next hbw3
  have hlow := hB.low
  have HL : Hid (∀ ga rn rl wc, AsmAt es wc W3.heap.size ga rn rl (.slice none 0 0) (.slice none 0 0) { words := [], labels := [], opens := [] } 0 → Base wc → Calls Tryz.prog 10 #[.pointer (some ⟨ga, 0, none⟩), S t] wc fun e w' => e = .returned (.tuple #[]) ∧ Kept W3.heap.size ga rl wc w' ∧ st.words.length ≤ 64 ∧ st.opens.length ≤ st.words.length ∧ ∃ vw vo line, AsmAt es w' W3.heap.size ga rn rl vw vo st line) := fun ga rn rl wc h1 h2 => by
    have := addLines_calls es sv hsv WO (addWord_ok es) t W3.heap.size ga rn rl _ _ _ _ wc h1 (by simp) (by simp) h2 (by omega) (by omega)
    rw [hx] at this
    exact this.mono fun e w' h => ⟨h.2.1, h.1, h.2.2⟩
  have HSL : Hid (∀ ga rn rl vw vo line wc, AsmAt es wc W3.heap.size ga rn rl vw vo st line → st.words.length ≤ 64 → st.opens.length ≤ st.words.length → Calls Tryz.prog 11 #[.pointer (some ⟨ga, 0, none⟩)] wc fun e w' => e = gives en ∧ Kept W3.heap.size ga rl wc w' ∧ w'.cell? ⟨ga, 4, none⟩ = some (.int .i64 ln)) := fun ga rn rl vw vo line wc h1 h2 h3 => by
    have := settle_calls es W3.heap.size ga rn rl vw vo st line wc h1 h2 h3 hg.1 hg.2
    rw [hy] at this
    exact this.mono fun e w' h => ⟨h.2.1, h.1, h.2.2⟩
  have HB3 := hide hB3
  have HF := hide (And.intro hs3 (And.intro h30 (And.intro h31 (And.intro h32 hbw3))))
  clear hB hx h30 h31 h32 hbw3 hs3 hB3 hg hy
  go_enter_defers Tryz.func4, Tryz.ntmps4
  go_wp2_with (first | (go_at_call 7; rw [← hW3]; refine (NO _).mono ?_; rintro e w1 ⟨ga, rn, rl, rfl, hb1, hA1⟩; have hq4 := top4 ga (unhide HF).1 (unhide HF).2.1 (unhide HF).2.2.1 (unhide HF).2.2.2.1 hb1; have hlo := hA1.lo; have hgl := (Array.getElem?_eq_some_iff.1 hA1.blk).1; have hrl := (Array.getElem?_eq_some_iff.1 hA1.lab).1; have hs3 := (unhide HF).1) | (go_at_call 10; refine (unhide HL ga rn rl _ (hA1.keep ((Below.refl _ _).alloc (Nat.le_refl _) _)) (((unhide HB3).next hb1).next ((Below.refl _ _).alloc (Nat.le_refl _) _))).mono ?_; rintro e w2 ⟨rfl, hk2, hn2, hf2, vw2, vo2, line2, hA2⟩; have hq2 := hq4.kept hk2 (by omega) (by omega) (by omega) (by omega); have ca2 := cell_row hq2.2.2.2 0 _ rfl) | (go_at_call 11; refine (unhide HSL ga rn rl _ _ _ _ hA2 hn2 hf2).mono ?_; rintro e w3 ⟨rfl, hk3, hl3⟩; have hq3 := hq2.kept hk3 (by omega) (by omega) (by omega) (by omega); have ca3 := cell_row hq3.2.2.2 0 _ rfl))
  have hbw3 := (unhide HF).2.2.2.2
  have hw1 := hb1.size
  refine leaves_cons (f := 8) (args := #[.pointer (some ⟨w1.heap.size, 0, none⟩), .pointer (some ⟨w.heap.size, 0, none⟩), .pointer (some ⟨w.heap.size + 1, 0, none⟩), .pointer (some ⟨w.heap.size + 1 + 1, 0, none⟩)]) (by simp) (by simp [go_sem]) ?_
  have c0 := cell_row hq3.1 0 _ rfl
  have c1 := cell_row hq3.2.1 0 _ rfl
  have c2 := cell_row hq3.2.2.1 0 _ rfl
  refine (catch_panicking w1.heap.size w.heap.size (w.heap.size + 1) (w.heap.size + 1 + 1) ga en ln [] _ _ _ w3 (by omega) (by omega) (by omega) (by omega) (by omega) (by omega) (by omega) (by omega) (by omega) (cell_row hq3.2.2.2 0 _ rfl) hl3 c0 c1 c2 (frozen_row hq3.1 0) (frozen_row hq3.2.1 0) (frozen_row hq3.2.2.1 0)).mono ?_
  rintro e u' w'' ⟨rfl, rfl, rfl⟩
  have hbf : Below w.heap.size w w3 := ((hbw3.trans (hb1.mono (by omega))).trans (((Below.refl _ _).alloc (by omega) _).trans (hk2.below.mono (by omega)))).trans (hk3.below.mono (by omega))
  have hfin := ((hbf.drew.setCell (p := ⟨w.heap.size, 0, none⟩) (Nat.le_refl _) (S [])).setCell (p := ⟨w.heap.size + 1, 0, none⟩) (by show w.heap.size ≤ w.heap.size + 1; omega) (.int .i64 en)).setCell (p := ⟨w.heap.size + 1 + 1, 0, none⟩) (by show w.heap.size ≤ w.heap.size + 1 + 1; omega) (.int .i64 (ln : Int))
  simp [Leaves, settle, results, Tryz.results4, go_sem, c0, c1, c2]
  exact hfin
set_option maxHeartbeats 4000000 in
set_option maxRecDepth 100000 in
theorem asmM_ok (es : Array MapEntry) (sv : UInt8 → Value) (hsv : ∀ sh, Ifc (sv sh)) (WO : WordOk es sv) (NO : NewOk es) (t : List UInt8) (w : World) (hB : Base w) (ht : ¬ 2000 < t.length) (ws : List Int) (st : PSt) (hx : linesP sv (splitC 10 t) 0 { words := [], labels := [], opens := [] } = .ok st) (hg : Good st) (hy : settleP st.labels st.opens st.words = .ok ws) (hws : ws.length ≤ 64) (hwr : ∀ x ∈ ws, 0 ≤ x ∧ x < 4294967296) :
    Calls Tryz.prog 4 #[S t] w fun e w' => e = .returned (.tuple #[S (outB ws), .int .i64 0, .int .i64 0]) ∧ Below w.heap.size w w' := by
  have hl : ¬ (2000 : Int) < (t.length : Int) := by omega
  have hmf : ∀ (fn : Fn) (first cap : Array Value) (w : World), (Instr.makeFunc fn first cap).run Tryz.prog w = .ok (.func fn first cap) w := fun _ _ _ _ => rfl
  obtain ⟨W3, hW3⟩ : ∃ W3, W3 = (((w.alloc (.cells #[.string { data := #[] }] 9)).alloc (.cells #[.int .i64 0] 25)).alloc (.cells #[.int .i64 0] 3)) := ⟨_, rfl⟩
  have h3 := top3 w
  rw [← hW3] at h3
  obtain ⟨hs3, h30, h31, h32, hbw3⟩ := h3
  have hB3 := hB.next hbw3
  have hlow := hB.low
  have HL : Hid (∀ ga rn rl wc, AsmAt es wc W3.heap.size ga rn rl (.slice none 0 0) (.slice none 0 0) { words := [], labels := [], opens := [] } 0 → Base wc → Calls Tryz.prog 10 #[.pointer (some ⟨ga, 0, none⟩), S t] wc fun e w' => e = .returned (.tuple #[]) ∧ Kept W3.heap.size ga rl wc w' ∧ st.words.length ≤ 64 ∧ st.opens.length ≤ st.words.length ∧ ∃ vw vo line, AsmAt es w' W3.heap.size ga rn rl vw vo st line) := fun ga rn rl wc h1 h2 => by
    have := addLines_calls es sv hsv WO (addWord_ok es) t W3.heap.size ga rn rl _ _ _ _ wc h1 (by simp) (by simp) h2 (by omega) (by omega)
    rw [hx] at this
    exact this.mono fun e w' h => ⟨h.2.1, h.1, h.2.2⟩
  have HSL : Hid (∀ ga rn rl vw vo line wc, AsmAt es wc W3.heap.size ga rn rl vw vo st line → st.words.length ≤ 64 → st.opens.length ≤ st.words.length → Calls Tryz.prog 11 #[.pointer (some ⟨ga, 0, none⟩)] wc fun e w' => e = .returned (.tuple #[]) ∧ Kept W3.heap.size ga rl wc w' ∧ ∃ vw' line', AsmAt es w' W3.heap.size ga rn rl vw' vo { st with words := ws } line') := fun ga rn rl vw vo line wc h1 h2 h3 => by
    have := settle_calls es W3.heap.size ga rn rl vw vo st line wc h1 h2 h3 hg.1 hg.2
    rw [hy] at this
    exact this.mono fun e w' h => ⟨h.2.1, h.1, h.2.2⟩
  have HIM : Hid (∀ ga rn rl vw vo line wc, AsmAt es wc W3.heap.size ga rn rl vw vo { st with words := ws } line → Calls Tryz.prog 12 #[.pointer (some ⟨ga, 0, none⟩)] wc fun e w' => e = .returned (S (outB ws)) ∧ Below wc.heap.size wc w') := fun ga rn rl vw vo line wc h1 => image_calls es W3.heap.size ga rn rl vw vo _ line wc h1 hws hwr
  have HB3 := hide hB3
  have HF := hide (And.intro hs3 (And.intro h30 (And.intro h31 (And.intro h32 hbw3))))
  clear hB hx h30 h31 h32 hbw3 hs3 hB3 hg hy hws hwr
  go_enter_defers Tryz.func4, Tryz.ntmps4
  go_wp2_with (first | (go_at_call 7; rw [← hW3]; refine (NO _).mono ?_; rintro e w1 ⟨ga, rn, rl, rfl, hb1, hA1⟩; have hq4 := top4 ga (unhide HF).1 (unhide HF).2.1 (unhide HF).2.2.1 (unhide HF).2.2.2.1 hb1; have hlo := hA1.lo; have hgl := (Array.getElem?_eq_some_iff.1 hA1.blk).1; have hrl := (Array.getElem?_eq_some_iff.1 hA1.lab).1; have hs3 := (unhide HF).1) | (go_at_call 10; refine (unhide HL ga rn rl _ (hA1.keep ((Below.refl _ _).alloc (Nat.le_refl _) _)) (((unhide HB3).next hb1).next ((Below.refl _ _).alloc (Nat.le_refl _) _))).mono ?_; rintro e w2 ⟨rfl, hk2, hn2, hf2, vw2, vo2, line2, hA2⟩; have hq2 := hq4.kept hk2 (by omega) (by omega) (by omega) (by omega); have ca2 := cell_row hq2.2.2.2 0 _ rfl) | (go_at_call 11; refine (unhide HSL ga rn rl _ _ _ _ hA2 hn2 hf2).mono ?_; rintro e w3 ⟨rfl, hk3, vw3, line3, hA3⟩; have hq3 := hq2.kept hk3 (by omega) (by omega) (by omega) (by omega); have ca3 := cell_row hq3.2.2.2 0 _ rfl) | (go_at_call 12; refine (unhide HIM ga rn rl _ _ _ _ hA3).mono ?_; rintro e w4 ⟨rfl, hb4⟩; have c40 := (hb4.cell (p := ⟨w.heap.size, 0, none⟩) (Array.getElem?_eq_some_iff.1 hq3.1).1).trans (cell_row hq3.1 0 _ rfl); have c41 := (hb4.cell (p := ⟨w.heap.size + 1, 0, none⟩) (Array.getElem?_eq_some_iff.1 hq3.2.1).1).trans (cell_row hq3.2.1 0 _ rfl); have c42 := (hb4.cell (p := ⟨w.heap.size + 1 + 1, 0, none⟩) (Array.getElem?_eq_some_iff.1 hq3.2.2.1).1).trans (cell_row hq3.2.2.1 0 _ rfl); have f40 := (hb4.frozen (p := ⟨w.heap.size, 0, none⟩) (Array.getElem?_eq_some_iff.1 hq3.1).1).trans (frozen_row hq3.1 0); have f41 := (hb4.frozen (p := ⟨w.heap.size + 1, 0, none⟩) (Array.getElem?_eq_some_iff.1 hq3.2.1).1).trans (frozen_row hq3.2.1 0); have f42 := (hb4.frozen (p := ⟨w.heap.size + 1 + 1, 0, none⟩) (Array.getElem?_eq_some_iff.1 hq3.2.2.1).1).trans (frozen_row hq3.2.2.1 0)))
  have hbw3 := (unhide HF).2.2.2.2
  have hw1 := hb1.size
  refine leaves_cons (f := 8) (args := #[.pointer (some ⟨w1.heap.size, 0, none⟩), .pointer (some ⟨w.heap.size, 0, none⟩), .pointer (some ⟨w.heap.size + 1, 0, none⟩), .pointer (some ⟨w.heap.size + 1 + 1, 0, none⟩)]) (by simp) (by simp [go_sem]) ?_
  refine (catch_idle w1.heap.size w.heap.size (w.heap.size + 1) (w.heap.size + 1 + 1) _).mono ?_
  rintro e u' w'' ⟨rfl, rfl, rfl⟩
  have hbf : Below w.heap.size w w4 := (((hbw3.trans (hb1.mono (by omega))).trans (((Below.refl _ _).alloc (by omega) _).trans (hk2.below.mono (by omega)))).trans (hk3.below.mono (by omega))).trans (hb4.mono (by have := (Array.getElem?_eq_some_iff.1 hq3.1).1; omega))
  have hfin := ((hbf.setCell (p := ⟨w.heap.size, 0, none⟩) (Nat.le_refl _) (S (outB ws))).setCell (p := ⟨w.heap.size + 1, 0, none⟩) (by show w.heap.size ≤ w.heap.size + 1; omega) (.int .i64 0)).setCell (p := ⟨w.heap.size + 1 + 1, 0, none⟩) (by show w.heap.size ≤ w.heap.size + 1 + 1; omega) (.int .i64 0)
  simp [Leaves, settle, results, Tryz.results4, go_sem, c40, c41, c42]
  exact hfin
end Go.Proofs.YtnbhpmncppohaaaGreatDoor.Mill
