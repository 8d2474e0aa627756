import Derived.Test.YtnbhpmncppohaaaGreatDoorMWord
import Derived.Test.YtnbhpmncppohaaaGreatDoorMBare
namespace Go.Proofs.YtnbhpmncppohaaaGreatDoor.Mill
open Go.RowKit

theorem some_facts {W w1 w2 : World} {g T : Nat} {num : Int} {c : Array Value} (hg : W.heap[g]? = some (.cells c 72)) (hb1 : Below W.heap.size W w1) (hb2 : Below (w1.alloc (.cells #[.int .u32 num, .iface T (.agg #[])] 92)).heap.size (w1.alloc (.cells #[.int .u32 num, .iface T (.agg #[])] 92)) w2) :
    w2.heap[g]? = some (.cells c 72) ∧ w2.cell? ⟨w1.heap.size, 0, none⟩ = some (.int .u32 num) ∧ w2.cell? ⟨w1.heap.size, 1, none⟩ = some (.iface T (.agg #[])) := by
  have hgl := (Array.getElem?_eq_some_iff.1 hg).1
  have hs := hb1.size
  have h1 : w2.heap[w1.heap.size]? = some (.cells #[.int .u32 num, .iface T (.agg #[])] 92) := (hb2.block _ (by simp)).trans (heap_alloc_new _ _)
  exact ⟨(hb2.block g (by simp; omega)).trans ((Below.heap_alloc _ _ _ (by omega)).trans ((hb1.block g hgl).trans hg)), cell_row h1 0 _ rfl, cell_row h1 1 _ rfl⟩
/-- the statement's block with the word and the shape set -/
theorem heap_ws {w : World} {g : Nat} {st : Stm} (hg : w.heap[g]? = some (.cells st.cells 72)) (bv : Int) (v : Value) : ((w.setCell ⟨g, 2, none⟩ (.int .u32 bv)).setCell ⟨g, 3, none⟩ v).heap[g]? = some (.cells ({ st with word := bv, shape := v } : Stm).cells 72) := by
  simp [World.setCell, Array.getElem?_modify, hg]
/-- the last call, at a slice of kinds that operands() made -/
theorem last_call (ks : List Nat) (hk8 : ∀ k ∈ ks, k ≤ 8) (hkl : ks.length ≤ 3) (rest : List UInt8) (hrl : rest.length ≤ 2000) (st : Stm) (g T : Nat) (hg16 : 8 ≤ g) (num bv : Int) (w w1 w2 w3 : World) (v : Value) (hB : Base w) (hg : w.heap[g]? = some (.cells st.cells 72))
    (hb1 : Below (w.setCell ⟨g, 1, none⟩ (.bool true)).heap.size (w.setCell ⟨g, 1, none⟩ (.bool true)) w1)
    (hb2 : Below (w1.alloc (.cells #[.int .u32 num, .iface T (.agg #[])] 92)).heap.size (w1.alloc (.cells #[.int .u32 num, .iface T (.agg #[])] 92)) w2)
    (hk : KindsMake ks ((w2.setCell ⟨g, 2, none⟩ (.int .u32 bv)).setCell ⟨g, 3, none⟩ (.iface T (.agg #[]))) (.returned v) w3) :
    Calls Tryz.prog 51 #[.pointer (some ⟨g, 0, none⟩), v, S rest] w3 fun e w' => Makes g (operandsP ks rest { st with has := true, word := bv, shape := .iface T (.agg #[]) }) w e w' := by
  obtain ⟨h2g, -, -⟩ := some_facts (heap_has hg) hb1 hb2
  have hw3 := heap_ws h2g bv (.iface T (.agg #[]))
  obtain ⟨hb3, hv⟩ := hk
  have hT1 := turned_next (turned_next (turned_next (turned_set (w := w) g 1 (.bool true)) hb1) ((Below.refl _ _).alloc (Nat.le_refl _) _)) hb2
  have hT := turned_next ((hT1.set 2 (.int .u32 bv)).set 3 (.iface T (.agg #[]))) hb3
  have hgl := (Array.getElem?_eq_some_iff.1 hw3).1
  refine (readOperands_calls ks hk8 hkl rest v { st with has := true, word := bv, shape := .iface T (.agg #[]) } g w3 (hB.turned hT hg16) hg16 ((hb3.block g hgl).trans hw3) ?_ hrl).mono ?_
  · rcases hv with ⟨e, h⟩ | ⟨gk, e, h1, h2, h3⟩
    · cases e; exact .inl ⟨rfl, h⟩
    · cases e; exact .inr ⟨gk, rfl, h1, by omega, h3⟩
  · rintro e w' ⟨ht, hx⟩
    exact ⟨hT.trans ht, hx⟩
theorem kinds_ret {ks : List Nat} {w w' : World} {e : Ending} (h : KindsMake ks w e w') : ∃ v, e = .returned v := by
  rcases h.2 with ⟨e, _⟩ | ⟨_, e, _⟩ <;> exact ⟨_, e⟩
set_option maxHeartbeats 4000000 in
set_option maxRecDepth 100000 in
theorem readWord_114 (code : List UInt8) (st : Stm) (g r : Nat) (w : World) (hB : Base w) (hg16 : 8 ≤ g) (hg : w.heap[g]? = some (.cells st.cells 72)) (nam rest : List UInt8) (hrl : rest.length ≤ 2000) (hn : (nam == [46, 119, 111, 114, 100]) = false) (num bv : Int)
    (HC : ∀ w, Calls Tryz.prog 50 #[S code] w fun e w' => e = .returned (.tuple #[S nam, S rest]) ∧ Below w.heap.size w w')
    (HL : ∀ w1, Below (w.setCell ⟨g, 1, none⟩ (.bool true)).heap.size (w.setCell ⟨g, 1, none⟩ (.bool true)) w1 → (Instr.lookup 35 (.map (some r)) (S nam) true).run Tryz.prog w1 = .ok (.tuple #[.agg #[.int .u32 num, .iface 90 (.agg #[])], .bool true]) w1)
    (HBr : ∀ w, Calls Tryz.prog 52 #[.agg #[.int .u32 num, .iface 90 (.agg #[])]] w fun e w' => e = .returned (.int .u32 bv) ∧ Below w.heap.size w w') :
    Calls Tryz.prog 35 #[.pointer (some ⟨g, 0, none⟩), S code, .map (some r)] w fun e w' => Makes g (operandsP (kindsOf 114) rest { st with has := true, word := bv, shape := .iface 90 (.agg #[]) }) w e w' := by
  have c1 := cell_row hg 1 _ rfl
  have f1 := frozen_row hg 1
  have HG := hide (heap_has hg)
  have HLk := hide HL
  have hm := kindsM_114
  have HX := hide (fun w1 w2 w3 v => last_call (kindsOf 114) (by decide) (by decide) rest hrl st g 90 hg16 num bv w w1 w2 w3 v hB hg)
  clear hg HL hB
  generalize operandsP (kindsOf 114) rest { st with has := true, word := bv, shape := .iface 90 (.agg #[]) } = X at *
  cases X with
  | none =>
    go_enter Tryz.func35, Tryz.ntmps35
    go_wp2_with (first | (go_at_call 50; refine (HC _).mono ?_; rintro e w1 ⟨rfl, hb1⟩; have hlk := unhide HLk _ hb1) | (go_at_call 52; refine (HBr _).mono ?_; rintro e w2 ⟨rfl, hb2⟩; obtain ⟨h2g, cb0, cb1⟩ := some_facts (unhide HG) hb1 hb2; have c2 := cell_row h2g 2 _ rfl; have f2 := frozen_row h2g 2; have c3 := cell_row h2g 3 _ rfl; have f3 := frozen_row h2g 3) | (go_at_call 138; refine (kinds_114 _).mono ?_; intro e w3 hk3; obtain ⟨v3, rfl⟩ := kinds_ret hk3; have HK3 := hide hk3; clear hk3) | (go_at_call 51; refine (unhide HX _ _ _ _ hb1 hb2 (unhide HK3)).mono ?_; rintro e w4 ⟨ht4, rfl⟩))
    exact ⟨rfl, ht4, rfl⟩
  | some s =>
    go_enter Tryz.func35, Tryz.ntmps35
    go_wp2_with (first | (go_at_call 50; refine (HC _).mono ?_; rintro e w1 ⟨rfl, hb1⟩; have hlk := unhide HLk _ hb1) | (go_at_call 52; refine (HBr _).mono ?_; rintro e w2 ⟨rfl, hb2⟩; obtain ⟨h2g, cb0, cb1⟩ := some_facts (unhide HG) hb1 hb2; have c2 := cell_row h2g 2 _ rfl; have f2 := frozen_row h2g 2; have c3 := cell_row h2g 3 _ rfl; have f3 := frozen_row h2g 3) | (go_at_call 138; refine (kinds_114 _).mono ?_; intro e w3 hk3; obtain ⟨v3, rfl⟩ := kinds_ret hk3; have HK3 := hide hk3; clear hk3) | (go_at_call 51; refine (unhide HX _ _ _ _ hb1 hb2 (unhide HK3)).mono ?_; rintro e w4 ⟨ht4, rfl, h4⟩))
    go_end0
    exact ⟨ht4, rfl, h4⟩
set_option maxHeartbeats 4000000 in
set_option maxRecDepth 100000 in
theorem readWord_115 (code : List UInt8) (st : Stm) (g r : Nat) (w : World) (hB : Base w) (hg16 : 8 ≤ g) (hg : w.heap[g]? = some (.cells st.cells 72)) (nam rest : List UInt8) (hrl : rest.length ≤ 2000) (hn : (nam == [46, 119, 111, 114, 100]) = false) (num bv : Int)
    (HC : ∀ w, Calls Tryz.prog 50 #[S code] w fun e w' => e = .returned (.tuple #[S nam, S rest]) ∧ Below w.heap.size w w')
    (HL : ∀ w1, Below (w.setCell ⟨g, 1, none⟩ (.bool true)).heap.size (w.setCell ⟨g, 1, none⟩ (.bool true)) w1 → (Instr.lookup 35 (.map (some r)) (S nam) true).run Tryz.prog w1 = .ok (.tuple #[.agg #[.int .u32 num, .iface 93 (.agg #[])], .bool true]) w1)
    (HBr : ∀ w, Calls Tryz.prog 52 #[.agg #[.int .u32 num, .iface 93 (.agg #[])]] w fun e w' => e = .returned (.int .u32 bv) ∧ Below w.heap.size w w') :
    Calls Tryz.prog 35 #[.pointer (some ⟨g, 0, none⟩), S code, .map (some r)] w fun e w' => Makes g (operandsP (kindsOf 115) rest { st with has := true, word := bv, shape := .iface 93 (.agg #[]) }) w e w' := by
  have c1 := cell_row hg 1 _ rfl
  have f1 := frozen_row hg 1
  have HG := hide (heap_has hg)
  have HLk := hide HL
  have hm := kindsM_115
  have HX := hide (fun w1 w2 w3 v => last_call (kindsOf 115) (by decide) (by decide) rest hrl st g 93 hg16 num bv w w1 w2 w3 v hB hg)
  clear hg HL hB
  generalize operandsP (kindsOf 115) rest { st with has := true, word := bv, shape := .iface 93 (.agg #[]) } = X at *
  cases X with
  | none =>
    go_enter Tryz.func35, Tryz.ntmps35
    go_wp2_with (first | (go_at_call 50; refine (HC _).mono ?_; rintro e w1 ⟨rfl, hb1⟩; have hlk := unhide HLk _ hb1) | (go_at_call 52; refine (HBr _).mono ?_; rintro e w2 ⟨rfl, hb2⟩; obtain ⟨h2g, cb0, cb1⟩ := some_facts (unhide HG) hb1 hb2; have c2 := cell_row h2g 2 _ rfl; have f2 := frozen_row h2g 2; have c3 := cell_row h2g 3 _ rfl; have f3 := frozen_row h2g 3) | (go_at_call 139; refine (kinds_115 _).mono ?_; intro e w3 hk3; obtain ⟨v3, rfl⟩ := kinds_ret hk3; have HK3 := hide hk3; clear hk3) | (go_at_call 51; refine (unhide HX _ _ _ _ hb1 hb2 (unhide HK3)).mono ?_; rintro e w4 ⟨ht4, rfl⟩))
    exact ⟨rfl, ht4, rfl⟩
  | some s =>
    go_enter Tryz.func35, Tryz.ntmps35
    go_wp2_with (first | (go_at_call 50; refine (HC _).mono ?_; rintro e w1 ⟨rfl, hb1⟩; have hlk := unhide HLk _ hb1) | (go_at_call 52; refine (HBr _).mono ?_; rintro e w2 ⟨rfl, hb2⟩; obtain ⟨h2g, cb0, cb1⟩ := some_facts (unhide HG) hb1 hb2; have c2 := cell_row h2g 2 _ rfl; have f2 := frozen_row h2g 2; have c3 := cell_row h2g 3 _ rfl; have f3 := frozen_row h2g 3) | (go_at_call 139; refine (kinds_115 _).mono ?_; intro e w3 hk3; obtain ⟨v3, rfl⟩ := kinds_ret hk3; have HK3 := hide hk3; clear hk3) | (go_at_call 51; refine (unhide HX _ _ _ _ hb1 hb2 (unhide HK3)).mono ?_; rintro e w4 ⟨ht4, rfl, h4⟩))
    go_end0
    exact ⟨ht4, rfl, h4⟩
set_option maxHeartbeats 4000000 in
set_option maxRecDepth 100000 in
theorem readWord_118 (code : List UInt8) (st : Stm) (g r : Nat) (w : World) (hB : Base w) (hg16 : 8 ≤ g) (hg : w.heap[g]? = some (.cells st.cells 72)) (nam rest : List UInt8) (hrl : rest.length ≤ 2000) (hn : (nam == [46, 119, 111, 114, 100]) = false) (num bv : Int)
    (HC : ∀ w, Calls Tryz.prog 50 #[S code] w fun e w' => e = .returned (.tuple #[S nam, S rest]) ∧ Below w.heap.size w w')
    (HL : ∀ w1, Below (w.setCell ⟨g, 1, none⟩ (.bool true)).heap.size (w.setCell ⟨g, 1, none⟩ (.bool true)) w1 → (Instr.lookup 35 (.map (some r)) (S nam) true).run Tryz.prog w1 = .ok (.tuple #[.agg #[.int .u32 num, .iface 94 (.agg #[])], .bool true]) w1)
    (HBr : ∀ w, Calls Tryz.prog 52 #[.agg #[.int .u32 num, .iface 94 (.agg #[])]] w fun e w' => e = .returned (.int .u32 bv) ∧ Below w.heap.size w w') :
    Calls Tryz.prog 35 #[.pointer (some ⟨g, 0, none⟩), S code, .map (some r)] w fun e w' => Makes g (operandsP (kindsOf 118) rest { st with has := true, word := bv, shape := .iface 94 (.agg #[]) }) w e w' := by
  have c1 := cell_row hg 1 _ rfl
  have f1 := frozen_row hg 1
  have HG := hide (heap_has hg)
  have HLk := hide HL
  have hm := kindsM_118
  have HX := hide (fun w1 w2 w3 v => last_call (kindsOf 118) (by decide) (by decide) rest hrl st g 94 hg16 num bv w w1 w2 w3 v hB hg)
  clear hg HL hB
  generalize operandsP (kindsOf 118) rest { st with has := true, word := bv, shape := .iface 94 (.agg #[]) } = X at *
  cases X with
  | none =>
    go_enter Tryz.func35, Tryz.ntmps35
    go_wp2_with (first | (go_at_call 50; refine (HC _).mono ?_; rintro e w1 ⟨rfl, hb1⟩; have hlk := unhide HLk _ hb1) | (go_at_call 52; refine (HBr _).mono ?_; rintro e w2 ⟨rfl, hb2⟩; obtain ⟨h2g, cb0, cb1⟩ := some_facts (unhide HG) hb1 hb2; have c2 := cell_row h2g 2 _ rfl; have f2 := frozen_row h2g 2; have c3 := cell_row h2g 3 _ rfl; have f3 := frozen_row h2g 3) | (go_at_call 140; refine (kinds_118 _).mono ?_; intro e w3 hk3; obtain ⟨v3, rfl⟩ := kinds_ret hk3; have HK3 := hide hk3; clear hk3) | (go_at_call 51; refine (unhide HX _ _ _ _ hb1 hb2 (unhide HK3)).mono ?_; rintro e w4 ⟨ht4, rfl⟩))
    exact ⟨rfl, ht4, rfl⟩
  | some s =>
    go_enter Tryz.func35, Tryz.ntmps35
    go_wp2_with (first | (go_at_call 50; refine (HC _).mono ?_; rintro e w1 ⟨rfl, hb1⟩; have hlk := unhide HLk _ hb1) | (go_at_call 52; refine (HBr _).mono ?_; rintro e w2 ⟨rfl, hb2⟩; obtain ⟨h2g, cb0, cb1⟩ := some_facts (unhide HG) hb1 hb2; have c2 := cell_row h2g 2 _ rfl; have f2 := frozen_row h2g 2; have c3 := cell_row h2g 3 _ rfl; have f3 := frozen_row h2g 3) | (go_at_call 140; refine (kinds_118 _).mono ?_; intro e w3 hk3; obtain ⟨v3, rfl⟩ := kinds_ret hk3; have HK3 := hide hk3; clear hk3) | (go_at_call 51; refine (unhide HX _ _ _ _ hb1 hb2 (unhide HK3)).mono ?_; rintro e w4 ⟨ht4, rfl, h4⟩))
    go_end0
    exact ⟨ht4, rfl, h4⟩
set_option maxHeartbeats 4000000 in
set_option maxRecDepth 100000 in
theorem readWord_106 (code : List UInt8) (st : Stm) (g r : Nat) (w : World) (hB : Base w) (hg16 : 8 ≤ g) (hg : w.heap[g]? = some (.cells st.cells 72)) (nam rest : List UInt8) (hrl : rest.length ≤ 2000) (hn : (nam == [46, 119, 111, 114, 100]) = false) (num bv : Int)
    (HC : ∀ w, Calls Tryz.prog 50 #[S code] w fun e w' => e = .returned (.tuple #[S nam, S rest]) ∧ Below w.heap.size w w')
    (HL : ∀ w1, Below (w.setCell ⟨g, 1, none⟩ (.bool true)).heap.size (w.setCell ⟨g, 1, none⟩ (.bool true)) w1 → (Instr.lookup 35 (.map (some r)) (S nam) true).run Tryz.prog w1 = .ok (.tuple #[.agg #[.int .u32 num, .iface 95 (.agg #[])], .bool true]) w1)
    (HBr : ∀ w, Calls Tryz.prog 52 #[.agg #[.int .u32 num, .iface 95 (.agg #[])]] w fun e w' => e = .returned (.int .u32 bv) ∧ Below w.heap.size w w') :
    Calls Tryz.prog 35 #[.pointer (some ⟨g, 0, none⟩), S code, .map (some r)] w fun e w' => Makes g (operandsP (kindsOf 106) rest { st with has := true, word := bv, shape := .iface 95 (.agg #[]) }) w e w' := by
  have c1 := cell_row hg 1 _ rfl
  have f1 := frozen_row hg 1
  have HG := hide (heap_has hg)
  have HLk := hide HL
  have hm := kindsM_106
  have HX := hide (fun w1 w2 w3 v => last_call (kindsOf 106) (by decide) (by decide) rest hrl st g 95 hg16 num bv w w1 w2 w3 v hB hg)
  clear hg HL hB
  generalize operandsP (kindsOf 106) rest { st with has := true, word := bv, shape := .iface 95 (.agg #[]) } = X at *
  cases X with
  | none =>
    go_enter Tryz.func35, Tryz.ntmps35
    go_wp2_with (first | (go_at_call 50; refine (HC _).mono ?_; rintro e w1 ⟨rfl, hb1⟩; have hlk := unhide HLk _ hb1) | (go_at_call 52; refine (HBr _).mono ?_; rintro e w2 ⟨rfl, hb2⟩; obtain ⟨h2g, cb0, cb1⟩ := some_facts (unhide HG) hb1 hb2; have c2 := cell_row h2g 2 _ rfl; have f2 := frozen_row h2g 2; have c3 := cell_row h2g 3 _ rfl; have f3 := frozen_row h2g 3) | (go_at_call 141; refine (kinds_106 _).mono ?_; intro e w3 hk3; obtain ⟨v3, rfl⟩ := kinds_ret hk3; have HK3 := hide hk3; clear hk3) | (go_at_call 51; refine (unhide HX _ _ _ _ hb1 hb2 (unhide HK3)).mono ?_; rintro e w4 ⟨ht4, rfl⟩))
    exact ⟨rfl, ht4, rfl⟩
  | some s =>
    go_enter Tryz.func35, Tryz.ntmps35
    go_wp2_with (first | (go_at_call 50; refine (HC _).mono ?_; rintro e w1 ⟨rfl, hb1⟩; have hlk := unhide HLk _ hb1) | (go_at_call 52; refine (HBr _).mono ?_; rintro e w2 ⟨rfl, hb2⟩; obtain ⟨h2g, cb0, cb1⟩ := some_facts (unhide HG) hb1 hb2; have c2 := cell_row h2g 2 _ rfl; have f2 := frozen_row h2g 2; have c3 := cell_row h2g 3 _ rfl; have f3 := frozen_row h2g 3) | (go_at_call 141; refine (kinds_106 _).mono ?_; intro e w3 hk3; obtain ⟨v3, rfl⟩ := kinds_ret hk3; have HK3 := hide hk3; clear hk3) | (go_at_call 51; refine (unhide HX _ _ _ _ hb1 hb2 (unhide HK3)).mono ?_; rintro e w4 ⟨ht4, rfl, h4⟩))
    go_end0
    exact ⟨ht4, rfl, h4⟩
set_option maxHeartbeats 4000000 in
set_option maxRecDepth 100000 in
theorem readWord_108 (code : List UInt8) (st : Stm) (g r : Nat) (w : World) (hB : Base w) (hg16 : 8 ≤ g) (hg : w.heap[g]? = some (.cells st.cells 72)) (nam rest : List UInt8) (hrl : rest.length ≤ 2000) (hn : (nam == [46, 119, 111, 114, 100]) = false) (num bv : Int)
    (HC : ∀ w, Calls Tryz.prog 50 #[S code] w fun e w' => e = .returned (.tuple #[S nam, S rest]) ∧ Below w.heap.size w w')
    (HL : ∀ w1, Below (w.setCell ⟨g, 1, none⟩ (.bool true)).heap.size (w.setCell ⟨g, 1, none⟩ (.bool true)) w1 → (Instr.lookup 35 (.map (some r)) (S nam) true).run Tryz.prog w1 = .ok (.tuple #[.agg #[.int .u32 num, .iface 96 (.agg #[])], .bool true]) w1)
    (HBr : ∀ w, Calls Tryz.prog 52 #[.agg #[.int .u32 num, .iface 96 (.agg #[])]] w fun e w' => e = .returned (.int .u32 bv) ∧ Below w.heap.size w w') :
    Calls Tryz.prog 35 #[.pointer (some ⟨g, 0, none⟩), S code, .map (some r)] w fun e w' => Makes g (operandsP (kindsOf 108) rest { st with has := true, word := bv, shape := .iface 96 (.agg #[]) }) w e w' := by
  have c1 := cell_row hg 1 _ rfl
  have f1 := frozen_row hg 1
  have HG := hide (heap_has hg)
  have HLk := hide HL
  have hm := kindsM_108
  have HX := hide (fun w1 w2 w3 v => last_call (kindsOf 108) (by decide) (by decide) rest hrl st g 96 hg16 num bv w w1 w2 w3 v hB hg)
  clear hg HL hB
  generalize operandsP (kindsOf 108) rest { st with has := true, word := bv, shape := .iface 96 (.agg #[]) } = X at *
  cases X with
  | none =>
    go_enter Tryz.func35, Tryz.ntmps35
    go_wp2_with (first | (go_at_call 50; refine (HC _).mono ?_; rintro e w1 ⟨rfl, hb1⟩; have hlk := unhide HLk _ hb1) | (go_at_call 52; refine (HBr _).mono ?_; rintro e w2 ⟨rfl, hb2⟩; obtain ⟨h2g, cb0, cb1⟩ := some_facts (unhide HG) hb1 hb2; have c2 := cell_row h2g 2 _ rfl; have f2 := frozen_row h2g 2; have c3 := cell_row h2g 3 _ rfl; have f3 := frozen_row h2g 3) | (go_at_call 142; refine (kinds_108 _).mono ?_; intro e w3 hk3; obtain ⟨v3, rfl⟩ := kinds_ret hk3; have HK3 := hide hk3; clear hk3) | (go_at_call 51; refine (unhide HX _ _ _ _ hb1 hb2 (unhide HK3)).mono ?_; rintro e w4 ⟨ht4, rfl⟩))
    exact ⟨rfl, ht4, rfl⟩
  | some s =>
    go_enter Tryz.func35, Tryz.ntmps35
    go_wp2_with (first | (go_at_call 50; refine (HC _).mono ?_; rintro e w1 ⟨rfl, hb1⟩; have hlk := unhide HLk _ hb1) | (go_at_call 52; refine (HBr _).mono ?_; rintro e w2 ⟨rfl, hb2⟩; obtain ⟨h2g, cb0, cb1⟩ := some_facts (unhide HG) hb1 hb2; have c2 := cell_row h2g 2 _ rfl; have f2 := frozen_row h2g 2; have c3 := cell_row h2g 3 _ rfl; have f3 := frozen_row h2g 3) | (go_at_call 142; refine (kinds_108 _).mono ?_; intro e w3 hk3; obtain ⟨v3, rfl⟩ := kinds_ret hk3; have HK3 := hide hk3; clear hk3) | (go_at_call 51; refine (unhide HX _ _ _ _ hb1 hb2 (unhide HK3)).mono ?_; rintro e w4 ⟨ht4, rfl, h4⟩))
    go_end0
    exact ⟨ht4, rfl, h4⟩
set_option maxHeartbeats 4000000 in
set_option maxRecDepth 100000 in
theorem readWord_120 (code : List UInt8) (st : Stm) (g r : Nat) (w : World) (hB : Base w) (hg16 : 8 ≤ g) (hg : w.heap[g]? = some (.cells st.cells 72)) (nam rest : List UInt8) (hrl : rest.length ≤ 2000) (hn : (nam == [46, 119, 111, 114, 100]) = false) (num bv : Int)
    (HC : ∀ w, Calls Tryz.prog 50 #[S code] w fun e w' => e = .returned (.tuple #[S nam, S rest]) ∧ Below w.heap.size w w')
    (HL : ∀ w1, Below (w.setCell ⟨g, 1, none⟩ (.bool true)).heap.size (w.setCell ⟨g, 1, none⟩ (.bool true)) w1 → (Instr.lookup 35 (.map (some r)) (S nam) true).run Tryz.prog w1 = .ok (.tuple #[.agg #[.int .u32 num, .iface 97 (.agg #[])], .bool true]) w1)
    (HBr : ∀ w, Calls Tryz.prog 52 #[.agg #[.int .u32 num, .iface 97 (.agg #[])]] w fun e w' => e = .returned (.int .u32 bv) ∧ Below w.heap.size w w') :
    Calls Tryz.prog 35 #[.pointer (some ⟨g, 0, none⟩), S code, .map (some r)] w fun e w' => Makes g (operandsP (kindsOf 120) rest { st with has := true, word := bv, shape := .iface 97 (.agg #[]) }) w e w' := by
  have c1 := cell_row hg 1 _ rfl
  have f1 := frozen_row hg 1
  have HG := hide (heap_has hg)
  have HLk := hide HL
  have hm := kindsM_120
  have HX := hide (fun w1 w2 w3 v => last_call (kindsOf 120) (by decide) (by decide) rest hrl st g 97 hg16 num bv w w1 w2 w3 v hB hg)
  clear hg HL hB
  generalize operandsP (kindsOf 120) rest { st with has := true, word := bv, shape := .iface 97 (.agg #[]) } = X at *
  cases X with
  | none =>
    go_enter Tryz.func35, Tryz.ntmps35
    go_wp2_with (first | (go_at_call 50; refine (HC _).mono ?_; rintro e w1 ⟨rfl, hb1⟩; have hlk := unhide HLk _ hb1) | (go_at_call 52; refine (HBr _).mono ?_; rintro e w2 ⟨rfl, hb2⟩; obtain ⟨h2g, cb0, cb1⟩ := some_facts (unhide HG) hb1 hb2; have c2 := cell_row h2g 2 _ rfl; have f2 := frozen_row h2g 2; have c3 := cell_row h2g 3 _ rfl; have f3 := frozen_row h2g 3) | (go_at_call 143; refine (kinds_120 _).mono ?_; intro e w3 hk3; obtain ⟨v3, rfl⟩ := kinds_ret hk3; have HK3 := hide hk3; clear hk3) | (go_at_call 51; refine (unhide HX _ _ _ _ hb1 hb2 (unhide HK3)).mono ?_; rintro e w4 ⟨ht4, rfl⟩))
    exact ⟨rfl, ht4, rfl⟩
  | some s =>
    go_enter Tryz.func35, Tryz.ntmps35
    go_wp2_with (first | (go_at_call 50; refine (HC _).mono ?_; rintro e w1 ⟨rfl, hb1⟩; have hlk := unhide HLk _ hb1) | (go_at_call 52; refine (HBr _).mono ?_; rintro e w2 ⟨rfl, hb2⟩; obtain ⟨h2g, cb0, cb1⟩ := some_facts (unhide HG) hb1 hb2; have c2 := cell_row h2g 2 _ rfl; have f2 := frozen_row h2g 2; have c3 := cell_row h2g 3 _ rfl; have f3 := frozen_row h2g 3) | (go_at_call 143; refine (kinds_120 _).mono ?_; intro e w3 hk3; obtain ⟨v3, rfl⟩ := kinds_ret hk3; have HK3 := hide hk3; clear hk3) | (go_at_call 51; refine (unhide HX _ _ _ _ hb1 hb2 (unhide HK3)).mono ?_; rintro e w4 ⟨ht4, rfl, h4⟩))
    go_end0
    exact ⟨ht4, rfl, h4⟩
set_option maxHeartbeats 4000000 in
set_option maxRecDepth 100000 in
theorem readWord_105 (code : List UInt8) (st : Stm) (g r : Nat) (w : World) (hB : Base w) (hg16 : 8 ≤ g) (hg : w.heap[g]? = some (.cells st.cells 72)) (nam rest : List UInt8) (hrl : rest.length ≤ 2000) (hn : (nam == [46, 119, 111, 114, 100]) = false) (num bv : Int)
    (HC : ∀ w, Calls Tryz.prog 50 #[S code] w fun e w' => e = .returned (.tuple #[S nam, S rest]) ∧ Below w.heap.size w w')
    (HL : ∀ w1, Below (w.setCell ⟨g, 1, none⟩ (.bool true)).heap.size (w.setCell ⟨g, 1, none⟩ (.bool true)) w1 → (Instr.lookup 35 (.map (some r)) (S nam) true).run Tryz.prog w1 = .ok (.tuple #[.agg #[.int .u32 num, .iface 100 (.agg #[])], .bool true]) w1)
    (HBr : ∀ w, Calls Tryz.prog 52 #[.agg #[.int .u32 num, .iface 100 (.agg #[])]] w fun e w' => e = .returned (.int .u32 bv) ∧ Below w.heap.size w w') :
    Calls Tryz.prog 35 #[.pointer (some ⟨g, 0, none⟩), S code, .map (some r)] w fun e w' => Makes g (operandsP (kindsOf 105) rest { st with has := true, word := bv, shape := .iface 100 (.agg #[]) }) w e w' := by
  have c1 := cell_row hg 1 _ rfl
  have f1 := frozen_row hg 1
  have HG := hide (heap_has hg)
  have HLk := hide HL
  have hm := kindsM_105
  have HX := hide (fun w1 w2 w3 v => last_call (kindsOf 105) (by decide) (by decide) rest hrl st g 100 hg16 num bv w w1 w2 w3 v hB hg)
  clear hg HL hB
  generalize operandsP (kindsOf 105) rest { st with has := true, word := bv, shape := .iface 100 (.agg #[]) } = X at *
  cases X with
  | none =>
    go_enter Tryz.func35, Tryz.ntmps35
    go_wp2_with (first | (go_at_call 50; refine (HC _).mono ?_; rintro e w1 ⟨rfl, hb1⟩; have hlk := unhide HLk _ hb1) | (go_at_call 52; refine (HBr _).mono ?_; rintro e w2 ⟨rfl, hb2⟩; obtain ⟨h2g, cb0, cb1⟩ := some_facts (unhide HG) hb1 hb2; have c2 := cell_row h2g 2 _ rfl; have f2 := frozen_row h2g 2; have c3 := cell_row h2g 3 _ rfl; have f3 := frozen_row h2g 3) | (go_at_call 145; refine (kinds_105 _).mono ?_; intro e w3 hk3; obtain ⟨v3, rfl⟩ := kinds_ret hk3; have HK3 := hide hk3; clear hk3) | (go_at_call 51; refine (unhide HX _ _ _ _ hb1 hb2 (unhide HK3)).mono ?_; rintro e w4 ⟨ht4, rfl⟩))
    exact ⟨rfl, ht4, rfl⟩
  | some s =>
    go_enter Tryz.func35, Tryz.ntmps35
    go_wp2_with (first | (go_at_call 50; refine (HC _).mono ?_; rintro e w1 ⟨rfl, hb1⟩; have hlk := unhide HLk _ hb1) | (go_at_call 52; refine (HBr _).mono ?_; rintro e w2 ⟨rfl, hb2⟩; obtain ⟨h2g, cb0, cb1⟩ := some_facts (unhide HG) hb1 hb2; have c2 := cell_row h2g 2 _ rfl; have f2 := frozen_row h2g 2; have c3 := cell_row h2g 3 _ rfl; have f3 := frozen_row h2g 3) | (go_at_call 145; refine (kinds_105 _).mono ?_; intro e w3 hk3; obtain ⟨v3, rfl⟩ := kinds_ret hk3; have HK3 := hide hk3; clear hk3) | (go_at_call 51; refine (unhide HX _ _ _ _ hb1 hb2 (unhide HK3)).mono ?_; rintro e w4 ⟨ht4, rfl, h4⟩))
    go_end0
    exact ⟨ht4, rfl, h4⟩
set_option maxHeartbeats 4000000 in
set_option maxRecDepth 100000 in
theorem readWord_117 (code : List UInt8) (st : Stm) (g r : Nat) (w : World) (hB : Base w) (hg16 : 8 ≤ g) (hg : w.heap[g]? = some (.cells st.cells 72)) (nam rest : List UInt8) (hrl : rest.length ≤ 2000) (hn : (nam == [46, 119, 111, 114, 100]) = false) (num bv : Int)
    (HC : ∀ w, Calls Tryz.prog 50 #[S code] w fun e w' => e = .returned (.tuple #[S nam, S rest]) ∧ Below w.heap.size w w')
    (HL : ∀ w1, Below (w.setCell ⟨g, 1, none⟩ (.bool true)).heap.size (w.setCell ⟨g, 1, none⟩ (.bool true)) w1 → (Instr.lookup 35 (.map (some r)) (S nam) true).run Tryz.prog w1 = .ok (.tuple #[.agg #[.int .u32 num, .iface 101 (.agg #[])], .bool true]) w1)
    (HBr : ∀ w, Calls Tryz.prog 52 #[.agg #[.int .u32 num, .iface 101 (.agg #[])]] w fun e w' => e = .returned (.int .u32 bv) ∧ Below w.heap.size w w') :
    Calls Tryz.prog 35 #[.pointer (some ⟨g, 0, none⟩), S code, .map (some r)] w fun e w' => Makes g (operandsP (kindsOf 117) rest { st with has := true, word := bv, shape := .iface 101 (.agg #[]) }) w e w' := by
  have c1 := cell_row hg 1 _ rfl
  have f1 := frozen_row hg 1
  have HG := hide (heap_has hg)
  have HLk := hide HL
  have hm := kindsM_117
  have HX := hide (fun w1 w2 w3 v => last_call (kindsOf 117) (by decide) (by decide) rest hrl st g 101 hg16 num bv w w1 w2 w3 v hB hg)
  clear hg HL hB
  generalize operandsP (kindsOf 117) rest { st with has := true, word := bv, shape := .iface 101 (.agg #[]) } = X at *
  cases X with
  | none =>
    go_enter Tryz.func35, Tryz.ntmps35
    go_wp2_with (first | (go_at_call 50; refine (HC _).mono ?_; rintro e w1 ⟨rfl, hb1⟩; have hlk := unhide HLk _ hb1) | (go_at_call 52; refine (HBr _).mono ?_; rintro e w2 ⟨rfl, hb2⟩; obtain ⟨h2g, cb0, cb1⟩ := some_facts (unhide HG) hb1 hb2; have c2 := cell_row h2g 2 _ rfl; have f2 := frozen_row h2g 2; have c3 := cell_row h2g 3 _ rfl; have f3 := frozen_row h2g 3) | (go_at_call 146; refine (kinds_117 _).mono ?_; intro e w3 hk3; obtain ⟨v3, rfl⟩ := kinds_ret hk3; have HK3 := hide hk3; clear hk3) | (go_at_call 51; refine (unhide HX _ _ _ _ hb1 hb2 (unhide HK3)).mono ?_; rintro e w4 ⟨ht4, rfl⟩))
    exact ⟨rfl, ht4, rfl⟩
  | some s =>
    go_enter Tryz.func35, Tryz.ntmps35
    go_wp2_with (first | (go_at_call 50; refine (HC _).mono ?_; rintro e w1 ⟨rfl, hb1⟩; have hlk := unhide HLk _ hb1) | (go_at_call 52; refine (HBr _).mono ?_; rintro e w2 ⟨rfl, hb2⟩; obtain ⟨h2g, cb0, cb1⟩ := some_facts (unhide HG) hb1 hb2; have c2 := cell_row h2g 2 _ rfl; have f2 := frozen_row h2g 2; have c3 := cell_row h2g 3 _ rfl; have f3 := frozen_row h2g 3) | (go_at_call 146; refine (kinds_117 _).mono ?_; intro e w3 hk3; obtain ⟨v3, rfl⟩ := kinds_ret hk3; have HK3 := hide hk3; clear hk3) | (go_at_call 51; refine (unhide HX _ _ _ _ hb1 hb2 (unhide HK3)).mono ?_; rintro e w4 ⟨ht4, rfl, h4⟩))
    go_end0
    exact ⟨ht4, rfl, h4⟩
set_option maxHeartbeats 4000000 in
set_option maxRecDepth 100000 in
theorem readWord_104 (code : List UInt8) (st : Stm) (g r : Nat) (w : World) (hB : Base w) (hg16 : 8 ≤ g) (hg : w.heap[g]? = some (.cells st.cells 72)) (nam rest : List UInt8) (hrl : rest.length ≤ 2000) (hn : (nam == [46, 119, 111, 114, 100]) = false) (num bv : Int)
    (HC : ∀ w, Calls Tryz.prog 50 #[S code] w fun e w' => e = .returned (.tuple #[S nam, S rest]) ∧ Below w.heap.size w w')
    (HL : ∀ w1, Below (w.setCell ⟨g, 1, none⟩ (.bool true)).heap.size (w.setCell ⟨g, 1, none⟩ (.bool true)) w1 → (Instr.lookup 35 (.map (some r)) (S nam) true).run Tryz.prog w1 = .ok (.tuple #[.agg #[.int .u32 num, .iface 102 (.agg #[])], .bool true]) w1)
    (HBr : ∀ w, Calls Tryz.prog 52 #[.agg #[.int .u32 num, .iface 102 (.agg #[])]] w fun e w' => e = .returned (.int .u32 bv) ∧ Below w.heap.size w w') :
    Calls Tryz.prog 35 #[.pointer (some ⟨g, 0, none⟩), S code, .map (some r)] w fun e w' => Makes g (operandsP (kindsOf 104) rest { st with has := true, word := bv, shape := .iface 102 (.agg #[]) }) w e w' := by
  have c1 := cell_row hg 1 _ rfl
  have f1 := frozen_row hg 1
  have HG := hide (heap_has hg)
  have HLk := hide HL
  have hm := kindsM_104
  have HX := hide (fun w1 w2 w3 v => last_call (kindsOf 104) (by decide) (by decide) rest hrl st g 102 hg16 num bv w w1 w2 w3 v hB hg)
  clear hg HL hB
  generalize operandsP (kindsOf 104) rest { st with has := true, word := bv, shape := .iface 102 (.agg #[]) } = X at *
  cases X with
  | none =>
    go_enter Tryz.func35, Tryz.ntmps35
    go_wp2_with (first | (go_at_call 50; refine (HC _).mono ?_; rintro e w1 ⟨rfl, hb1⟩; have hlk := unhide HLk _ hb1) | (go_at_call 52; refine (HBr _).mono ?_; rintro e w2 ⟨rfl, hb2⟩; obtain ⟨h2g, cb0, cb1⟩ := some_facts (unhide HG) hb1 hb2; have c2 := cell_row h2g 2 _ rfl; have f2 := frozen_row h2g 2; have c3 := cell_row h2g 3 _ rfl; have f3 := frozen_row h2g 3) | (go_at_call 147; refine (kinds_104 _).mono ?_; intro e w3 hk3; obtain ⟨v3, rfl⟩ := kinds_ret hk3; have HK3 := hide hk3; clear hk3) | (go_at_call 51; refine (unhide HX _ _ _ _ hb1 hb2 (unhide HK3)).mono ?_; rintro e w4 ⟨ht4, rfl⟩))
    exact ⟨rfl, ht4, rfl⟩
  | some s =>
    go_enter Tryz.func35, Tryz.ntmps35
    go_wp2_with (first | (go_at_call 50; refine (HC _).mono ?_; rintro e w1 ⟨rfl, hb1⟩; have hlk := unhide HLk _ hb1) | (go_at_call 52; refine (HBr _).mono ?_; rintro e w2 ⟨rfl, hb2⟩; obtain ⟨h2g, cb0, cb1⟩ := some_facts (unhide HG) hb1 hb2; have c2 := cell_row h2g 2 _ rfl; have f2 := frozen_row h2g 2; have c3 := cell_row h2g 3 _ rfl; have f3 := frozen_row h2g 3) | (go_at_call 147; refine (kinds_104 _).mono ?_; intro e w3 hk3; obtain ⟨v3, rfl⟩ := kinds_ret hk3; have HK3 := hide hk3; clear hk3) | (go_at_call 51; refine (unhide HX _ _ _ _ hb1 hb2 (unhide HK3)).mono ?_; rintro e w4 ⟨ht4, rfl, h4⟩))
    go_end0
    exact ⟨ht4, rfl, h4⟩
set_option maxHeartbeats 4000000 in
set_option maxRecDepth 100000 in
theorem readWord_109 (code : List UInt8) (st : Stm) (g r : Nat) (w : World) (hB : Base w) (hg16 : 8 ≤ g) (hg : w.heap[g]? = some (.cells st.cells 72)) (nam rest : List UInt8) (hrl : rest.length ≤ 2000) (hn : (nam == [46, 119, 111, 114, 100]) = false) (num bv : Int)
    (HC : ∀ w, Calls Tryz.prog 50 #[S code] w fun e w' => e = .returned (.tuple #[S nam, S rest]) ∧ Below w.heap.size w w')
    (HL : ∀ w1, Below (w.setCell ⟨g, 1, none⟩ (.bool true)).heap.size (w.setCell ⟨g, 1, none⟩ (.bool true)) w1 → (Instr.lookup 35 (.map (some r)) (S nam) true).run Tryz.prog w1 = .ok (.tuple #[.agg #[.int .u32 num, .iface 103 (.agg #[])], .bool true]) w1)
    (HBr : ∀ w, Calls Tryz.prog 52 #[.agg #[.int .u32 num, .iface 103 (.agg #[])]] w fun e w' => e = .returned (.int .u32 bv) ∧ Below w.heap.size w w') :
    Calls Tryz.prog 35 #[.pointer (some ⟨g, 0, none⟩), S code, .map (some r)] w fun e w' => Makes g (operandsP (kindsOf 109) rest { st with has := true, word := bv, shape := .iface 103 (.agg #[]) }) w e w' := by
  have c1 := cell_row hg 1 _ rfl
  have f1 := frozen_row hg 1
  have HG := hide (heap_has hg)
  have HLk := hide HL
  have hm := kindsM_109
  have HX := hide (fun w1 w2 w3 v => last_call (kindsOf 109) (by decide) (by decide) rest hrl st g 103 hg16 num bv w w1 w2 w3 v hB hg)
  clear hg HL hB
  generalize operandsP (kindsOf 109) rest { st with has := true, word := bv, shape := .iface 103 (.agg #[]) } = X at *
  cases X with
  | none =>
    go_enter Tryz.func35, Tryz.ntmps35
    go_wp2_with (first | (go_at_call 50; refine (HC _).mono ?_; rintro e w1 ⟨rfl, hb1⟩; have hlk := unhide HLk _ hb1) | (go_at_call 52; refine (HBr _).mono ?_; rintro e w2 ⟨rfl, hb2⟩; obtain ⟨h2g, cb0, cb1⟩ := some_facts (unhide HG) hb1 hb2; have c2 := cell_row h2g 2 _ rfl; have f2 := frozen_row h2g 2; have c3 := cell_row h2g 3 _ rfl; have f3 := frozen_row h2g 3) | (go_at_call 148; refine (kinds_109 _).mono ?_; intro e w3 hk3; obtain ⟨v3, rfl⟩ := kinds_ret hk3; have HK3 := hide hk3; clear hk3) | (go_at_call 51; refine (unhide HX _ _ _ _ hb1 hb2 (unhide HK3)).mono ?_; rintro e w4 ⟨ht4, rfl⟩))
    exact ⟨rfl, ht4, rfl⟩
  | some s =>
    go_enter Tryz.func35, Tryz.ntmps35
    go_wp2_with (first | (go_at_call 50; refine (HC _).mono ?_; rintro e w1 ⟨rfl, hb1⟩; have hlk := unhide HLk _ hb1) | (go_at_call 52; refine (HBr _).mono ?_; rintro e w2 ⟨rfl, hb2⟩; obtain ⟨h2g, cb0, cb1⟩ := some_facts (unhide HG) hb1 hb2; have c2 := cell_row h2g 2 _ rfl; have f2 := frozen_row h2g 2; have c3 := cell_row h2g 3 _ rfl; have f3 := frozen_row h2g 3) | (go_at_call 148; refine (kinds_109 _).mono ?_; intro e w3 hk3; obtain ⟨v3, rfl⟩ := kinds_ret hk3; have HK3 := hide hk3; clear hk3) | (go_at_call 51; refine (unhide HX _ _ _ _ hb1 hb2 (unhide HK3)).mono ?_; rintro e w4 ⟨ht4, rfl, h4⟩))
    go_end0
    exact ⟨ht4, rfl, h4⟩
set_option maxHeartbeats 4000000 in
set_option maxRecDepth 100000 in
theorem readWord_98 (code : List UInt8) (st : Stm) (g r : Nat) (w : World) (hB : Base w) (hg16 : 8 ≤ g) (hg : w.heap[g]? = some (.cells st.cells 72)) (nam rest : List UInt8) (hrl : rest.length ≤ 2000) (hn : (nam == [46, 119, 111, 114, 100]) = false) (num bv : Int)
    (HC : ∀ w, Calls Tryz.prog 50 #[S code] w fun e w' => e = .returned (.tuple #[S nam, S rest]) ∧ Below w.heap.size w w')
    (HL : ∀ w1, Below (w.setCell ⟨g, 1, none⟩ (.bool true)).heap.size (w.setCell ⟨g, 1, none⟩ (.bool true)) w1 → (Instr.lookup 35 (.map (some r)) (S nam) true).run Tryz.prog w1 = .ok (.tuple #[.agg #[.int .u32 num, .iface 104 (.agg #[])], .bool true]) w1)
    (HBr : ∀ w, Calls Tryz.prog 52 #[.agg #[.int .u32 num, .iface 104 (.agg #[])]] w fun e w' => e = .returned (.int .u32 bv) ∧ Below w.heap.size w w') :
    Calls Tryz.prog 35 #[.pointer (some ⟨g, 0, none⟩), S code, .map (some r)] w fun e w' => Makes g (operandsP (kindsOf 98) rest { st with has := true, word := bv, shape := .iface 104 (.agg #[]) }) w e w' := by
  have c1 := cell_row hg 1 _ rfl
  have f1 := frozen_row hg 1
  have HG := hide (heap_has hg)
  have HLk := hide HL
  have hm := kindsM_98
  have HX := hide (fun w1 w2 w3 v => last_call (kindsOf 98) (by decide) (by decide) rest hrl st g 104 hg16 num bv w w1 w2 w3 v hB hg)
  clear hg HL hB
  generalize operandsP (kindsOf 98) rest { st with has := true, word := bv, shape := .iface 104 (.agg #[]) } = X at *
  cases X with
  | none =>
    go_enter Tryz.func35, Tryz.ntmps35
    go_wp2_with (first | (go_at_call 50; refine (HC _).mono ?_; rintro e w1 ⟨rfl, hb1⟩; have hlk := unhide HLk _ hb1) | (go_at_call 52; refine (HBr _).mono ?_; rintro e w2 ⟨rfl, hb2⟩; obtain ⟨h2g, cb0, cb1⟩ := some_facts (unhide HG) hb1 hb2; have c2 := cell_row h2g 2 _ rfl; have f2 := frozen_row h2g 2; have c3 := cell_row h2g 3 _ rfl; have f3 := frozen_row h2g 3) | (go_at_call 149; refine (kinds_98 _).mono ?_; intro e w3 hk3; obtain ⟨v3, rfl⟩ := kinds_ret hk3; have HK3 := hide hk3; clear hk3) | (go_at_call 51; refine (unhide HX _ _ _ _ hb1 hb2 (unhide HK3)).mono ?_; rintro e w4 ⟨ht4, rfl⟩))
    exact ⟨rfl, ht4, rfl⟩
  | some s =>
    go_enter Tryz.func35, Tryz.ntmps35
    go_wp2_with (first | (go_at_call 50; refine (HC _).mono ?_; rintro e w1 ⟨rfl, hb1⟩; have hlk := unhide HLk _ hb1) | (go_at_call 52; refine (HBr _).mono ?_; rintro e w2 ⟨rfl, hb2⟩; obtain ⟨h2g, cb0, cb1⟩ := some_facts (unhide HG) hb1 hb2; have c2 := cell_row h2g 2 _ rfl; have f2 := frozen_row h2g 2; have c3 := cell_row h2g 3 _ rfl; have f3 := frozen_row h2g 3) | (go_at_call 149; refine (kinds_98 _).mono ?_; intro e w3 hk3; obtain ⟨v3, rfl⟩ := kinds_ret hk3; have HK3 := hide hk3; clear hk3) | (go_at_call 51; refine (unhide HX _ _ _ _ hb1 hb2 (unhide HK3)).mono ?_; rintro e w4 ⟨ht4, rfl, h4⟩))
    go_end0
    exact ⟨ht4, rfl, h4⟩
set_option maxHeartbeats 4000000 in
set_option maxRecDepth 100000 in
theorem readWord_122 (code : List UInt8) (st : Stm) (g r : Nat) (w : World) (hB : Base w) (hg16 : 8 ≤ g) (hg : w.heap[g]? = some (.cells st.cells 72)) (nam rest : List UInt8) (hrl : rest.length ≤ 2000) (hn : (nam == [46, 119, 111, 114, 100]) = false) (num bv : Int)
    (HC : ∀ w, Calls Tryz.prog 50 #[S code] w fun e w' => e = .returned (.tuple #[S nam, S rest]) ∧ Below w.heap.size w w')
    (HL : ∀ w1, Below (w.setCell ⟨g, 1, none⟩ (.bool true)).heap.size (w.setCell ⟨g, 1, none⟩ (.bool true)) w1 → (Instr.lookup 35 (.map (some r)) (S nam) true).run Tryz.prog w1 = .ok (.tuple #[.agg #[.int .u32 num, .iface 105 (.agg #[])], .bool true]) w1)
    (HBr : ∀ w, Calls Tryz.prog 52 #[.agg #[.int .u32 num, .iface 105 (.agg #[])]] w fun e w' => e = .returned (.int .u32 bv) ∧ Below w.heap.size w w') :
    Calls Tryz.prog 35 #[.pointer (some ⟨g, 0, none⟩), S code, .map (some r)] w fun e w' => Makes g (operandsP (kindsOf 122) rest { st with has := true, word := bv, shape := .iface 105 (.agg #[]) }) w e w' := by
  have c1 := cell_row hg 1 _ rfl
  have f1 := frozen_row hg 1
  have HG := hide (heap_has hg)
  have HLk := hide HL
  have hm := kindsM_122
  have HX := hide (fun w1 w2 w3 v => last_call (kindsOf 122) (by decide) (by decide) rest hrl st g 105 hg16 num bv w w1 w2 w3 v hB hg)
  clear hg HL hB
  generalize operandsP (kindsOf 122) rest { st with has := true, word := bv, shape := .iface 105 (.agg #[]) } = X at *
  cases X with
  | none =>
    go_enter Tryz.func35, Tryz.ntmps35
    go_wp2_with (first | (go_at_call 50; refine (HC _).mono ?_; rintro e w1 ⟨rfl, hb1⟩; have hlk := unhide HLk _ hb1) | (go_at_call 52; refine (HBr _).mono ?_; rintro e w2 ⟨rfl, hb2⟩; obtain ⟨h2g, cb0, cb1⟩ := some_facts (unhide HG) hb1 hb2; have c2 := cell_row h2g 2 _ rfl; have f2 := frozen_row h2g 2; have c3 := cell_row h2g 3 _ rfl; have f3 := frozen_row h2g 3) | (go_at_call 150; refine (kinds_122 _).mono ?_; intro e w3 hk3; obtain ⟨v3, rfl⟩ := kinds_ret hk3; have HK3 := hide hk3; clear hk3) | (go_at_call 51; refine (unhide HX _ _ _ _ hb1 hb2 (unhide HK3)).mono ?_; rintro e w4 ⟨ht4, rfl⟩))
    exact ⟨rfl, ht4, rfl⟩
  | some s =>
    go_enter Tryz.func35, Tryz.ntmps35
    go_wp2_with (first | (go_at_call 50; refine (HC _).mono ?_; rintro e w1 ⟨rfl, hb1⟩; have hlk := unhide HLk _ hb1) | (go_at_call 52; refine (HBr _).mono ?_; rintro e w2 ⟨rfl, hb2⟩; obtain ⟨h2g, cb0, cb1⟩ := some_facts (unhide HG) hb1 hb2; have c2 := cell_row h2g 2 _ rfl; have f2 := frozen_row h2g 2; have c3 := cell_row h2g 3 _ rfl; have f3 := frozen_row h2g 3) | (go_at_call 150; refine (kinds_122 _).mono ?_; intro e w3 hk3; obtain ⟨v3, rfl⟩ := kinds_ret hk3; have HK3 := hide hk3; clear hk3) | (go_at_call 51; refine (unhide HX _ _ _ _ hb1 hb2 (unhide HK3)).mono ?_; rintro e w4 ⟨ht4, rfl, h4⟩))
    go_end0
    exact ⟨ht4, rfl, h4⟩
set_option maxHeartbeats 4000000 in
set_option maxRecDepth 100000 in
theorem readWord_121 (code : List UInt8) (st : Stm) (g r : Nat) (w : World) (hB : Base w) (hg16 : 8 ≤ g) (hg : w.heap[g]? = some (.cells st.cells 72)) (nam rest : List UInt8) (hrl : rest.length ≤ 2000) (hn : (nam == [46, 119, 111, 114, 100]) = false) (num bv : Int)
    (HC : ∀ w, Calls Tryz.prog 50 #[S code] w fun e w' => e = .returned (.tuple #[S nam, S rest]) ∧ Below w.heap.size w w')
    (HL : ∀ w1, Below (w.setCell ⟨g, 1, none⟩ (.bool true)).heap.size (w.setCell ⟨g, 1, none⟩ (.bool true)) w1 → (Instr.lookup 35 (.map (some r)) (S nam) true).run Tryz.prog w1 = .ok (.tuple #[.agg #[.int .u32 num, .iface 108 (.agg #[])], .bool true]) w1)
    (HBr : ∀ w, Calls Tryz.prog 52 #[.agg #[.int .u32 num, .iface 108 (.agg #[])]] w fun e w' => e = .returned (.int .u32 bv) ∧ Below w.heap.size w w') :
    Calls Tryz.prog 35 #[.pointer (some ⟨g, 0, none⟩), S code, .map (some r)] w fun e w' => Makes g (operandsP (kindsOf 121) rest { st with has := true, word := bv, shape := .iface 108 (.agg #[]) }) w e w' := by
  have c1 := cell_row hg 1 _ rfl
  have f1 := frozen_row hg 1
  have HG := hide (heap_has hg)
  have HLk := hide HL
  have hm := kindsM_121
  have HX := hide (fun w1 w2 w3 v => last_call (kindsOf 121) (by decide) (by decide) rest hrl st g 108 hg16 num bv w w1 w2 w3 v hB hg)
  clear hg HL hB
  generalize operandsP (kindsOf 121) rest { st with has := true, word := bv, shape := .iface 108 (.agg #[]) } = X at *
  cases X with
  | none =>
    go_enter Tryz.func35, Tryz.ntmps35
    go_wp2_with (first | (go_at_call 50; refine (HC _).mono ?_; rintro e w1 ⟨rfl, hb1⟩; have hlk := unhide HLk _ hb1) | (go_at_call 52; refine (HBr _).mono ?_; rintro e w2 ⟨rfl, hb2⟩; obtain ⟨h2g, cb0, cb1⟩ := some_facts (unhide HG) hb1 hb2; have c2 := cell_row h2g 2 _ rfl; have f2 := frozen_row h2g 2; have c3 := cell_row h2g 3 _ rfl; have f3 := frozen_row h2g 3) | (go_at_call 152; refine (kinds_121 _).mono ?_; intro e w3 hk3; obtain ⟨v3, rfl⟩ := kinds_ret hk3; have HK3 := hide hk3; clear hk3) | (go_at_call 51; refine (unhide HX _ _ _ _ hb1 hb2 (unhide HK3)).mono ?_; rintro e w4 ⟨ht4, rfl⟩))
    exact ⟨rfl, ht4, rfl⟩
  | some s =>
    go_enter Tryz.func35, Tryz.ntmps35
    go_wp2_with (first | (go_at_call 50; refine (HC _).mono ?_; rintro e w1 ⟨rfl, hb1⟩; have hlk := unhide HLk _ hb1) | (go_at_call 52; refine (HBr _).mono ?_; rintro e w2 ⟨rfl, hb2⟩; obtain ⟨h2g, cb0, cb1⟩ := some_facts (unhide HG) hb1 hb2; have c2 := cell_row h2g 2 _ rfl; have f2 := frozen_row h2g 2; have c3 := cell_row h2g 3 _ rfl; have f3 := frozen_row h2g 3) | (go_at_call 152; refine (kinds_121 _).mono ?_; intro e w3 hk3; obtain ⟨v3, rfl⟩ := kinds_ret hk3; have HK3 := hide hk3; clear hk3) | (go_at_call 51; refine (unhide HX _ _ _ _ hb1 hb2 (unhide HK3)).mono ?_; rintro e w4 ⟨ht4, rfl, h4⟩))
    go_end0
    exact ⟨ht4, rfl, h4⟩
set_option maxHeartbeats 4000000 in
set_option maxRecDepth 100000 in
theorem readWord_116 (code : List UInt8) (st : Stm) (g r : Nat) (w : World) (hB : Base w) (hg16 : 8 ≤ g) (hg : w.heap[g]? = some (.cells st.cells 72)) (nam rest : List UInt8) (hrl : rest.length ≤ 2000) (hn : (nam == [46, 119, 111, 114, 100]) = false) (num bv : Int)
    (HC : ∀ w, Calls Tryz.prog 50 #[S code] w fun e w' => e = .returned (.tuple #[S nam, S rest]) ∧ Below w.heap.size w w')
    (HL : ∀ w1, Below (w.setCell ⟨g, 1, none⟩ (.bool true)).heap.size (w.setCell ⟨g, 1, none⟩ (.bool true)) w1 → (Instr.lookup 35 (.map (some r)) (S nam) true).run Tryz.prog w1 = .ok (.tuple #[.agg #[.int .u32 num, .iface 109 (.agg #[])], .bool true]) w1)
    (HBr : ∀ w, Calls Tryz.prog 52 #[.agg #[.int .u32 num, .iface 109 (.agg #[])]] w fun e w' => e = .returned (.int .u32 bv) ∧ Below w.heap.size w w') :
    Calls Tryz.prog 35 #[.pointer (some ⟨g, 0, none⟩), S code, .map (some r)] w fun e w' => Makes g (operandsP (kindsOf 116) rest { st with has := true, word := bv, shape := .iface 109 (.agg #[]) }) w e w' := by
  have c1 := cell_row hg 1 _ rfl
  have f1 := frozen_row hg 1
  have HG := hide (heap_has hg)
  have HLk := hide HL
  have hm := kindsM_116
  have HX := hide (fun w1 w2 w3 v => last_call (kindsOf 116) (by decide) (by decide) rest hrl st g 109 hg16 num bv w w1 w2 w3 v hB hg)
  clear hg HL hB
  generalize operandsP (kindsOf 116) rest { st with has := true, word := bv, shape := .iface 109 (.agg #[]) } = X at *
  cases X with
  | none =>
    go_enter Tryz.func35, Tryz.ntmps35
    go_wp2_with (first | (go_at_call 50; refine (HC _).mono ?_; rintro e w1 ⟨rfl, hb1⟩; have hlk := unhide HLk _ hb1) | (go_at_call 52; refine (HBr _).mono ?_; rintro e w2 ⟨rfl, hb2⟩; obtain ⟨h2g, cb0, cb1⟩ := some_facts (unhide HG) hb1 hb2; have c2 := cell_row h2g 2 _ rfl; have f2 := frozen_row h2g 2; have c3 := cell_row h2g 3 _ rfl; have f3 := frozen_row h2g 3) | (go_at_call 153; refine (kinds_116 _).mono ?_; intro e w3 hk3; obtain ⟨v3, rfl⟩ := kinds_ret hk3; have HK3 := hide hk3; clear hk3) | (go_at_call 51; refine (unhide HX _ _ _ _ hb1 hb2 (unhide HK3)).mono ?_; rintro e w4 ⟨ht4, rfl⟩))
    exact ⟨rfl, ht4, rfl⟩
  | some s =>
    go_enter Tryz.func35, Tryz.ntmps35
    go_wp2_with (first | (go_at_call 50; refine (HC _).mono ?_; rintro e w1 ⟨rfl, hb1⟩; have hlk := unhide HLk _ hb1) | (go_at_call 52; refine (HBr _).mono ?_; rintro e w2 ⟨rfl, hb2⟩; obtain ⟨h2g, cb0, cb1⟩ := some_facts (unhide HG) hb1 hb2; have c2 := cell_row h2g 2 _ rfl; have f2 := frozen_row h2g 2; have c3 := cell_row h2g 3 _ rfl; have f3 := frozen_row h2g 3) | (go_at_call 153; refine (kinds_116 _).mono ?_; intro e w3 hk3; obtain ⟨v3, rfl⟩ := kinds_ret hk3; have HK3 := hide hk3; clear hk3) | (go_at_call 51; refine (unhide HX _ _ _ _ hb1 hb2 (unhide HK3)).mono ?_; rintro e w4 ⟨ht4, rfl, h4⟩))
    go_end0
    exact ⟨ht4, rfl, h4⟩
end Go.Proofs.YtnbhpmncppohaaaGreatDoor.Mill
