import Derived.Test.YtnbhpmncppohaaaGreatDoorMKinds
import Derived.Test.YtnbhpmncppohaaaGreatDoorMPure
namespace Go.Proofs.YtnbhpmncppohaaaGreatDoor.Mill
open Go.RowKit

theorem heap_has {w : World} {g : Nat} {st : Stm} (hg : w.heap[g]? = some (.cells st.cells 72)) : (w.setCell ⟨g, 1, none⟩ (.bool true)).heap[g]? = some (.cells ({ st with has := true } : Stm).cells 72) := by
  simp [World.setCell, Array.getElem?_modify, hg]
theorem turned_set {w : World} (g i : Nat) (v : Value) : Turned g w (w.setCell ⟨g, i, none⟩ v) := (Turned.of (Below.refl _ _)).set i v
theorem turned_next {g : Nat} {a b c : World} (h : Turned g a b) (hb : Below b.heap.size b c) : Turned g a c := h.trans (Turned.of hb)

set_option maxHeartbeats 4000000 in
set_option maxRecDepth 100000 in
theorem readWord_word (code : List UInt8) (st : Stm) (g r : Nat) (w : World) (hB : Base w) (hg16 : 8 ≤ g) (hg : w.heap[g]? = some (.cells st.cells 72)) (nam rest : List UInt8) (hn : nam = [46, 119, 111, 114, 100])
    (HC : ∀ w, Calls Tryz.prog 50 #[S code] w fun e w' => e = .returned (.tuple #[S nam, S rest]) ∧ Below w.heap.size w w') (hrl : rest.length ≤ 2000) :
    Calls Tryz.prog 35 #[.pointer (some ⟨g, 0, none⟩), S code, .map (some r)] w fun e w' => Makes g (operandsP [8] rest { st with has := true }) w e w' := by
  have c1 := cell_row hg 1 _ rfl
  have f1 := frozen_row hg 1
  have HO : Hid (∀ w1, Below (w.setCell ⟨g, 1, none⟩ (.bool true)).heap.size (w.setCell ⟨g, 1, none⟩ (.bool true)) w1 → Calls Tryz.prog 51 #[.pointer (some ⟨g, 0, none⟩), .slice (some ⟨w1.heap.size, 0, none⟩) 1 1, S rest] (w1.alloc (.cells #[.int .i64 8] 126)) fun e w' => Makes g (operandsP [8] rest { st with has := true }) w e w') := by
    intro w1 hb1
    have hb2 : Below (w.setCell ⟨g, 1, none⟩ (.bool true)).heap.size (w.setCell ⟨g, 1, none⟩ (.bool true)) (w1.alloc (.cells #[.int .i64 8] 126)) := hb1.alloc hb1.size _
    have hT := turned_next (turned_set g 1 (.bool true)) hb2
    have h0 := heap_has hg
    have hgl := (Array.getElem?_eq_some_iff.1 h0).1
    have hs1 := hb1.size
    refine (readOperands_calls [8] (by simp) (by simp) rest _ { st with has := true } g _ (hB.turned hT hg16) hg16 ((hb2.block g hgl).trans h0) (.inr ⟨w1.heap.size, rfl, by simp, by omega, heap_alloc_new _ _⟩) hrl).mono ?_
    rintro e w' ⟨ht, hx⟩
    exact ⟨hT.trans ht, hx⟩
  clear hB hg
  generalize operandsP [8] rest { st with has := true } = X at *
  subst hn
  cases X with
  | none =>
    go_enter Tryz.func35, Tryz.ntmps35
    go_wp2_with (first | (go_at_call 50; refine (HC _).mono ?_; rintro e w1 ⟨rfl, hb1⟩) | (go_at_call 51; refine (unhide HO _ hb1).mono ?_; rintro e w2 ⟨ht2, rfl⟩))
    exact ⟨rfl, ht2, rfl⟩
  | some s =>
    go_enter Tryz.func35, Tryz.ntmps35
    go_wp2_with (first | (go_at_call 50; refine (HC _).mono ?_; rintro e w1 ⟨rfl, hb1⟩) | (go_at_call 51; refine (unhide HO _ hb1).mono ?_; rintro e w2 ⟨ht2, rfl, h2⟩))
    go_end0
    exact ⟨ht2, rfl, h2⟩

set_option maxHeartbeats 4000000 in
set_option maxRecDepth 100000 in
theorem readWord_none (code : List UInt8) (st : Stm) (g r : Nat) (w : World) (hg : w.heap[g]? = some (.cells st.cells 72)) (nam rest : List UInt8) (hn : (nam == [46, 119, 111, 114, 100]) = false)
    (HC : ∀ w, Calls Tryz.prog 50 #[S code] w fun e w' => e = .returned (.tuple #[S nam, S rest]) ∧ Below w.heap.size w w')
    (HL : ∀ w1, Below (w.setCell ⟨g, 1, none⟩ (.bool true)).heap.size (w.setCell ⟨g, 1, none⟩ (.bool true)) w1 → (Instr.lookup 35 (.map (some r)) (S nam) true).run Tryz.prog w1 = .ok (.tuple #[.agg #[.int .u32 0, .nilIface], .bool false]) w1) :
    Calls Tryz.prog 35 #[.pointer (some ⟨g, 0, none⟩), S code, .map (some r)] w fun e w' => Makes g none w e w' := by
  have c1 := cell_row hg 1 _ rfl
  have f1 := frozen_row hg 1
  have hT : Hid (Turned g w (w.setCell ⟨g, 1, none⟩ (.bool true))) := turned_set g 1 (.bool true)
  have HLk := hide HL
  clear hg HL
  go_enter Tryz.func35, Tryz.ntmps35
  go_wp2_with (go_at_call 50; refine (HC _).mono ?_; rintro e w1 ⟨rfl, hb1⟩; have hlk := unhide HLk _ hb1)
  exact ⟨rfl, turned_next hT (hb1.alloc hb1.size _), rfl⟩
end Go.Proofs.YtnbhpmncppohaaaGreatDoor.Mill
