import Derived.Test.YtnbhpmncppohaaaGreatDoorFill
import Derived.Test.YtnbhpmncppohaaaGreatDoorPlain
namespace Go.Proofs.YtnbhpmncppohaaaGreatDoor.Mill
open Go.RowKit

/-- the cells of lines, whose operands' slices are vs -/
def lcells : List RL → List Value → List Value
  | x :: ls, v :: vs => S x.label :: S x.name :: v :: .int .i64 x.num :: lcells ls vs
  | _, _ => []

theorem lcells_snoc (ls : List RL) (vs : List Value) (h : vs.length = ls.length) (x : RL) (v : Value) : lcells (ls ++ [x]) (vs ++ [v]) = lcells ls vs ++ [S x.label, S x.name, v, .int .i64 x.num] := by
  induction ls generalizing vs with
  | nil =>
    obtain rfl : vs = [] := List.eq_nil_of_length_eq_zero (by simpa using h)
    rfl
  | cons y ls ih =>
    cases vs with
    | nil => simp at h
    | cons u vs => simp [lcells, ih vs (by simpa using h)]
theorem lcells_length (ls : List RL) (vs : List Value) (h : vs.length = ls.length) : (lcells ls vs).length = ls.length * 4 := by
  induction ls generalizing vs with
  | nil =>
    obtain rfl : vs = [] := List.eq_nil_of_length_eq_zero (by simpa using h)
    rfl
  | cons y ls ih =>
    cases vs with
    | nil => simp at h
    | cons u vs => simp [lcells, ih vs (by simpa using h)]; omega

/-- a slice of lines in memory of the call's own, from block B on -/
def LinesAt (w : World) (B : Nat) (v : Value) (ls : List RL) : Prop :=
  ∃ vs : List Value, vs.length = ls.length ∧ w.ownsRow B 50 4 v ls.length (lcells ls vs) ∧ ∀ (j : Nat) (x : RL) (u : Value), ls[j]? = some x → vs[j]? = some u → w.ownsRow B 9 1 u x.ops.length (x.ops.map S)

/-- an owned row where all blocks are as they were -/
theorem owns_same {w w' : World} {B : Nat} {e : TypeId} {size : Nat} {v : Value} {n : Nat} {xs : List Value} (h : w.ownsRow B e size v n xs) (hb : ∀ k, k < w.heap.size → w'.heap[k]? = w.heap[k]?) : w'.ownsRow B e size v n xs := by
  refine ⟨h.1, ?_⟩
  rcases h.2 with hn | ⟨g, cap, cur, rfl, hB, hg, rest⟩
  · exact .inl hn
  · exact .inr ⟨g, cap, cur, rfl, hB, (hb g (Array.getElem?_eq_some_iff.1 hg).1).trans hg, rest⟩
theorem owns_base {w : World} {B B' : Nat} {e : TypeId} {size : Nat} {v : Value} {n : Nat} {xs : List Value} (h : w.ownsRow B e size v n xs) (hB' : B' ≤ B) : w.ownsRow B' e size v n xs := by
  refine ⟨h.1, ?_⟩
  rcases h.2 with hn | ⟨g, cap, cur, rfl, hB, hg, rest⟩
  · exact .inl hn
  · exact .inr ⟨g, cap, cur, rfl, by omega, hg, rest⟩
/-- two rows of other element types lie in other blocks -/
theorem owns_other {w w' : World} {B : Nat} {e e' : TypeId} {size size' : Nat} {v v' : Value} {n n' : Nat} {xs xs' : List Value} (h : w.ownsRow B e size v n xs) (h' : w.ownsRow B e' size' v' n' xs') (hne : e ≠ e') (hg : w.grownBy w' v'.ownBlock) : w'.ownsRow B e size v n xs := by
  refine h.kept hg ?_
  rcases h.2 with ⟨rfl, _⟩ | ⟨g, cap, cur, rfl, hB, hgg, _⟩
  · exact .inl rfl
  · rcases h'.2 with ⟨rfl, _⟩ | ⟨g', cap', cur', rfl, hB', hgg', _⟩
    · exact .inr (by simp [Value.ownBlock])
    · refine .inr ?_
      simp only [Value.ownBlock, ne_eq, Option.some.injEq]
      rintro rfl
      rw [hgg] at hgg'
      simp at hgg'
      exact hne hgg'.2
theorem lines_nil (w : World) (B : Nat) : LinesAt w B (.slice none 0 0) [] := ⟨[], rfl, World.ownsRow_nil _ _ _ _, fun j x u h => by simp at h⟩
theorem lines_same {w w' : World} {B : Nat} {v : Value} {ls : List RL} (h : LinesAt w B v ls) (hb : ∀ k, k < w.heap.size → w'.heap[k]? = w.heap[k]?) : LinesAt w' B v ls := by
  obtain ⟨vs, h1, h2, h3⟩ := h
  exact ⟨vs, h1, owns_same h2 hb, fun j x u hx hu => owns_same (h3 j x u hx hu) hb⟩
theorem lines_push {w w' : World} {B : Nat} {v v' u : Value} {ls : List RL} {vs : List Value} (x : RL) (h1 : vs.length = ls.length) (h2 : w.ownsRow B 50 4 v ls.length (lcells ls vs))
    (h3 : ∀ (j : Nat) (x : RL) (u : Value), ls[j]? = some x → vs[j]? = some u → w.ownsRow B 9 1 u x.ops.length (x.ops.map S)) (hu : w.ownsRow B 9 1 u x.ops.length (x.ops.map S))
    (h4 : w'.ownsRow B 50 4 v' (ls.length + 1) (lcells ls vs ++ [S x.label, S x.name, u, .int .i64 x.num])) (hg : w.grownBy w' v.ownBlock) : LinesAt w' B v' (ls ++ [x]) := by
  refine ⟨vs ++ [u], by simp [h1], by rw [lcells_snoc ls vs h1]; simpa using h4, fun j y z hy hz => ?_⟩
  by_cases hj : j < ls.length
  · rw [List.getElem?_append_left hj] at hy
    rw [List.getElem?_append_left (by omega)] at hz
    exact owns_other (h3 j y z hy hz) h2 (by decide) hg
  · rw [List.getElem?_append_right (by omega)] at hy
    rw [List.getElem?_append_right (by omega)] at hz
    have : j = ls.length := by
      have := (List.getElem?_eq_some_iff.1 hy).1
      simp at this; omega
    subst this
    simp at hy
    simp [h1] at hz
    subst hy hz
    exact owns_other hu h2 (by decide) hg
end Go.Proofs.YtnbhpmncppohaaaGreatDoor.Mill
