import Derived.Test.YtnbhpmncppohaaaGreatDoorMIdx
import Derived.Test.YtnbhpmncppohaaaGreatDoorMEq
namespace Go.Proofs.YtnbhpmncppohaaaGreatDoor.Mill
open Go.RowKit

theorem cell_row {w : World} {g : Nat} {cs : Array Value} {t : TypeId} (h : w.heap[g]? = some (.cells cs t)) (i : Nat) (v : Value) (hv : cs[i]? = some v) : w.cell? ⟨g, i, none⟩ = some v := by
  rw [cell_of_row _ _ _ cs t (0, 0) h]; exact hv

theorem frozen_row {w : World} {g : Nat} {cs : Array Value} {t : TypeId} (h : w.heap[g]? = some (.cells cs t)) (i : Nat) : w.frozen? ⟨g, i, none⟩ = false := by
  unfold World.frozen?; rw [show (⟨g, i, none⟩ : Addr).block = g from rfl, h]; simp

theorem field_kept (k : Nat) (hk : k ≤ 8) (w : World) :
    Calls Tryz.prog 78 #[.int .i64 k] w fun e w' => e = .returned (fieldOf k).v ∧ Below w.heap.size w w' :=
  (field_calls k hk w).mono fun e w' h => ⟨h.1, by rw [h.2]; exact (Below.refl _ _).alloc (Nat.le_refl _) _⟩

/-- a contract of the form 'nothing old has turned', told from an earlier world on -/
theorem since {f : Nat} {args : Array Value} {E : Ending → Prop} {W0 wc : World} (hW : Below W0.heap.size W0 wc) (h : Calls Tryz.prog f args wc fun e w' => E e ∧ Below wc.heap.size wc w') :
    Calls Tryz.prog f args wc fun e w' => E e ∧ Below W0.heap.size W0 w' :=
  h.mono fun _ _ h => ⟨h.1, hW.trans (h.2.mono hW.size)⟩

theorem fieldv0 : (fieldOf 0).v = .agg #[.int .i64 11, .int .i64 5, .int .i64 0, .int .i64 31] := by simp [fieldOf]
theorem fieldv1 : (fieldOf 1).v = .agg #[.int .i64 21, .int .i64 5, .int .i64 0, .int .i64 31] := by simp [fieldOf]
theorem fieldv2 : (fieldOf 2).v = .agg #[.int .i64 16, .int .i64 5, .int .i64 0, .int .i64 31] := by simp [fieldOf]
theorem putR_calls (k : Nat) (hk : k ≤ 2) (n : Int) (w : World) : Calls Tryz.prog 45 #[(fieldOf k).v, .int .i64 n] w fun e w' => e = .returned (.int .u32 (putR k n)) ∧ Below w.heap.size w w' := by
  obtain rfl | rfl | rfl : k = 0 ∨ k = 1 ∨ k = 2 := by omega
  · rw [fieldv0, putR, if_neg (by decide), if_neg (by decide)]
    exact put11 0 31 n w
  · rw [fieldv1, putR, if_pos rfl]
    exact put21 0 31 n w
  · rw [fieldv2, putR, if_neg (by decide), if_pos rfl]
    exact put16 0 31 n w

/-- of what was there nothing has turned but one block -/
structure Turned (g : Nat) (w w' : World) : Prop where
  os : w'.os = w.os
  tape : w'.tape = w.tape
  output : w'.output = w.output
  size : w.heap.size ≤ w'.heap.size
  block : ∀ k, k < w.heap.size → k ≠ g → w'.heap[k]? = w.heap[k]?
theorem Turned.of {g : Nat} {w w' : World} (h : Below w.heap.size w w') : Turned g w w' := ⟨h.os, h.tape, h.output, h.size, fun k hk _ => h.block k hk⟩
theorem Turned.set {g : Nat} {w w' : World} (h : Turned g w w') (i : Nat) (v : Value) : Turned g w (w'.setCell ⟨g, i, none⟩ v) :=
  ⟨h.os, h.tape, h.output, by simpa using h.size, fun k hk hne => (heap_setCell_other w' ⟨g, i, none⟩ k v hne).trans (h.block k hk hne)⟩
theorem Turned.below {g B : Nat} {w w' : World} (h : Turned g w w') (hg : B ≤ g) (hB : B ≤ w.heap.size) : Below B w w' := ⟨h.os, h.tape, h.output, h.size, fun k hk => h.block k (by omega) (by omega)⟩
theorem Turned.trans {g : Nat} {a b c : World} (h : Turned g a b) (h' : Turned g b c) : Turned g a c :=
  ⟨h'.os.trans h.os, h'.tape.trans h.tape, h'.output.trans h.output, Nat.le_trans h.size h'.size, fun k hk hne => (h'.block k (Nat.lt_of_lt_of_le hk h.size) hne).trans (h.block k hk hne)⟩
theorem Base.turned {w w' : World} {g : Nat} (h : Base w) (ht : Turned g w w') (hg : 8 ≤ g) : Base w' := h.below (ht.below hg h.low) (Nat.le_refl _)

/-- what a call on a statement in block g comes to: it gives the text up, or the statement is another one -/
def Makes (g : Nat) (x : Option Stm) (w : World) (e : Ending) (w' : World) : Prop :=
  Turned g w w' ∧ match x with
  | none => e = gives 3
  | some s' => e = .returned (.tuple #[]) ∧ w'.heap[g]? = some (.cells s'.cells 72)

set_option maxHeartbeats 4000000 in
set_option maxRecDepth 100000 in
theorem readOperand_r (k : Nat) (hk : k ≤ 2) (o : List UInt8) (st : Stm) (g : Nat) (w : World) (hB : Base w) (hg : w.heap[g]? = some (.cells st.cells 72)) (hl : o.length ≤ 4294967280) :
    Calls Tryz.prog 67 #[.pointer (some ⟨g, 0, none⟩), .int .i64 k, S o] w fun e w' => Makes g (opP k o st) w e w' := by
  have hc2 := cell_row hg 2 _ rfl
  have hlt : g < w.heap.size := (Array.getElem?_eq_some_iff.1 hg).1
  have hfz := frozen_row hg 2
  have HG := hide hg
  obtain ⟨fv, hfv⟩ : ∃ fv, (fieldOf k).v = fv := ⟨_, rfl⟩
  have HF : Hid (∀ wc, Below w.heap.size w wc → Calls Tryz.prog 78 #[.int .i64 k] wc fun e w' => e = .returned fv ∧ Below w.heap.size w w') := fun wc h => by rw [← hfv]; exact since h (field_kept k (by omega) wc)
  by_cases hr : regI o < 0
  · have HR : Hid (∀ wc, Below w.heap.size w wc → Calls Tryz.prog 79 #[S o] wc fun e w' => e = gives 3 ∧ Below w.heap.size w w') := fun wc h => by
      have := since h (readRegister_calls o wc (hB.next h) (by omega))
      unfold regEnd at this
      rw [if_pos hr] at this
      exact this
    have HX : Hid (opP k o st = none) := by show _ = _; unfold opP; rw [if_pos hk, if_pos hr]
    clear hB hg hr hfv
    obtain rfl | rfl | rfl : k = 0 ∨ k = 1 ∨ k = 2 := by omega
    all_goals
      simp only [Int.cast_ofNat_Int] at HF
      go_enter Tryz.func67, Tryz.ntmps67
      go_wp2_with fail
      go_region_with (first
        | (go_at_call 78; refine (unhide HF _ (by first | exact Below.refl _ _ | exact (Below.refl _ _).drew | assumption | exact Below.drew (by assumption))).mono ?_; rintro e w1 ⟨rfl, hb1⟩; have hc2' := (hb1.cell (p := ⟨g, 2, none⟩) hlt).trans hc2; have hf2' := (hb1.frozen (p := ⟨g, 2, none⟩) hlt).trans hfz)
        | (go_at_call 79; refine (unhide HR _ (by first | exact Below.refl _ _ | exact (Below.refl _ _).drew | assumption | exact Below.drew (by assumption))).mono ?_; rintro e w1 ⟨rfl, hb1⟩; refine (fun (_ : wpAny Tryz.prog .any #[] (fun _ _ _ => True) 0 #[] { tmps := #[], defers := [] } w1) => ⟨rfl, Turned.of hb1, by rw [unhide HX]⟩) ?_))
      all_goals trivial
  · have HR : Hid (∀ wc, Below w.heap.size w wc → Calls Tryz.prog 79 #[S o] wc fun e w' => e = .returned (.int .i64 (regI o)) ∧ Below w.heap.size w w') := fun wc h => by
      have := since h (readRegister_calls o wc (hB.next h) (by omega))
      unfold regEnd at this
      rw [if_neg hr] at this
      exact this
    have HX : Hid (opP k o st = some { st with word := bits .or .u32 st.word (putR k (regI o)) }) := by show _ = _; unfold opP; rw [if_pos hk, if_neg hr]
    generalize regI o = r at *
    obtain ⟨pr, hpr⟩ : ∃ pr, putR k r = pr := ⟨_, rfl⟩
    rw [hpr] at HX
    have HP : Hid (∀ wc, Below w.heap.size w wc → Calls Tryz.prog 45 #[fv, .int .i64 r] wc fun e w' => e = .returned (.int .u32 pr) ∧ Below w.heap.size w w') := fun wc h => by rw [← hfv, ← hpr]; exact since h (putR_calls k hk r wc)
    clear hB hg hr hfv hpr
    obtain rfl | rfl | rfl : k = 0 ∨ k = 1 ∨ k = 2 := by omega
    all_goals
      simp only [Int.cast_ofNat_Int] at HF
      go_enter Tryz.func67, Tryz.ntmps67
      go_wp2_with fail
      go_region_with (first
        | (go_at_call 78; refine (unhide HF _ (by first | exact Below.refl _ _ | exact (Below.refl _ _).drew | assumption | exact Below.drew (by assumption))).mono ?_; rintro e w1 ⟨rfl, hb1⟩; have hc2' := (hb1.cell (p := ⟨g, 2, none⟩) hlt).trans hc2; have hf2' := (hb1.frozen (p := ⟨g, 2, none⟩) hlt).trans hfz)
        | (go_at_call 79; refine (unhide HR _ (by first | exact Below.refl _ _ | exact (Below.refl _ _).drew | assumption | exact Below.drew (by assumption))).mono ?_; rintro e w1 ⟨rfl, hb1⟩; have hc2' := (hb1.cell (p := ⟨g, 2, none⟩) hlt).trans hc2; have hf2' := (hb1.frozen (p := ⟨g, 2, none⟩) hlt).trans hfz)
        | (go_at_call 45; refine (unhide HP _ (by first | exact Below.refl _ _ | exact (Below.refl _ _).drew | assumption | exact Below.drew (by assumption))).mono ?_; rintro e w1 ⟨rfl, hb1⟩; have hc2' := (hb1.cell (p := ⟨g, 2, none⟩) hlt).trans hc2; have hf2' := (hb1.frozen (p := ⟨g, 2, none⟩) hlt).trans hfz))
      all_goals
        go_wp2_with fail
        go_end0
        refine ⟨(Turned.of hb1).set 2 _, ?_⟩
        rw [unhide HX]
        exact ⟨rfl, heap_setCell_same _ g 2 st.cells 72 _ ((hb1.block g hlt).trans (unhide HG))⟩
end Go.Proofs.YtnbhpmncppohaaaGreatDoor.Mill
