import Derived.Test.YtnbhpmncppohaaaGreatDoorFillAny
namespace Go.Proofs.YtnbhpmncppohaaaGreatDoor.Mill
open Go.RowKit
attribute [local go_sem] setCell_drewN alloc_drewN

def wordName : List UInt8 := [46, 119, 111, 114, 100]
def askS (x : RL) : Ak × Int :=
  if x.name = wordName then
    (match x.ops with
     | [o] => if numOk o then (if numVal o < -2147483648 ∨ 4294967296 ≤ numVal o then (Ak.zero x.num, 4) else ({ Ak.zero x.num with data := true, raw := numVal o % 4294967296 }, 0)) else (Ak.zero x.num, 3)
     | _ => (Ak.zero x.num, 3))
  else match tab.find? (fun y => y.1 == x.name) with
    | some y => fillS { Ak.zero x.num with name := y.1, sh := y.2.1, num := y.2.2 } x.ops
    | none => (Ak.zero x.num, 3)

theorem and32 (n : Int) : bits .and .i64 n 4294967295 = n % 4294967296 := by
  have h127 : (BitVec.ofInt 64 4294967295).toNat = 2 ^ 32 - 1 := by decide
  have key : (BitVec.ofInt 64 n &&& BitVec.ofInt 64 4294967295).toNat = (n % ((2 ^ 64 : Nat) : Int)).toNat % 2 ^ 32 := by
    rw [BitVec.toNat_and, BitVec.toNat_ofInt, h127, Nat.and_two_pow_sub_one_eq_mod]
  show IntKind.i64.wrap ((BitVec.ofInt 64 n &&& BitVec.ofInt 64 4294967295).toNat : Nat) = n % 4294967296
  rw [key, IntKind.wrap_i64]
  omega

theorem flat3 (l : List (List UInt8 × UInt8 × Nat)) (k : Nat) (h : k < l.length) :
    (l.flatMap fun x => [S x.1, B x.2.1, Value.int .i64 x.2.2])[k * 3]? = some (S l[k].1) ∧ (l.flatMap fun x => [S x.1, B x.2.1, Value.int .i64 x.2.2])[k * 3 + 1]? = some (B l[k].2.1) ∧ (l.flatMap fun x => [S x.1, B x.2.1, Value.int .i64 x.2.2])[k * 3 + 2]? = some (.int .i64 l[k].2.2) := by
  induction l generalizing k with
  | nil => simp at h
  | cons x r ih =>
    cases k with
    | zero => simp
    | succ k =>
      have := ih k (by simpa using h)
      have e : (k + 1) * 3 = k * 3 + 3 := by omega
      rw [e]
      simpa using this
theorem tab_shapes : ∀ y ∈ tab, y.2.1 ∈ shapes ∧ y.2.2 ≤ 63 ∧ (y.2.1 = 121 → y.2.2 ≤ 1) := by decide

theorem bcell {W w1 : World} (hb : Below W.heap.size W w1) : (∀ b o, b < W.heap.size → w1.cell? ⟨b, o, none⟩ = W.cell? ⟨b, o, none⟩) ∧ (∀ b o, b < W.heap.size → w1.frozen? ⟨b, o, none⟩ = W.frozen? ⟨b, o, none⟩) :=
  ⟨fun b o h => hb.cell (p := ⟨b, o, none⟩) h, fun b o h => hb.frozen (p := ⟨b, o, none⟩) h⟩

theorem filled_tab (y : List UInt8 × UInt8 × Nat) (hy : y ∈ tab) (lab nam : List UInt8) (os : List (List UInt8)) (num : Nat) (vo : Value) (Bs : Nat) (w : World)
    (hos : os.length ≤ 2000) (hol : ∀ o ∈ os, o.length ≤ 2000) (ho : w.ownsRow Bs 9 1 vo os.length (os.map S)) :
    Calls Tryz.prog 27 #[.agg #[S y.1, B y.2.1, .int .i64 y.2.2, .int .i64 0, .int .i64 0, .int .i64 0, .int .i64 0, .int .i64 0, .bool false, .string { data := #[] }, .int .i64 num], .agg #[S lab, S nam, vo, .int .i64 num]] w fun e w' =>
      ∃ a' : Ak, ∃ x' : Int, fillS { Ak.zero num with name := y.1, sh := y.2.1, num := y.2.2 } os = (a', x') ∧ e = .returned (.tuple #[.agg #[S a'.name, B a'.sh, .int .i64 a'.num, .int .i64 a'.s, .int .i64 a'.t, .int .i64 a'.d, .int .i64 a'.n, .int .i64 a'.raw, .bool a'.data, S a'.goal, .int .i64 a'.line], .int .i64 x']) ∧ Below w.heap.size w w' := by
  refine (filled_any { Ak.zero num with name := y.1, sh := y.2.1, num := y.2.2 } (tab_shapes y hy).1 lab nam os num vo Bs w hos hol ho).mono ?_
  rintro e w' ⟨rfl, hb⟩
  exact ⟨_, _, rfl, rfl, hb⟩
theorem fw_below4 (w : World) (o1 o2 o3 o4 : Obj) (n : Nat) : Below w.heap.size w (((((w.alloc o1).alloc o2).alloc o3).alloc o4).drewN n) :=
  below_drewN (((((Below.refl _ _).alloc (Nat.le_refl _) _).alloc (by simp) _).alloc (by simp; omega) _).alloc (by simp; omega) _) _
theorem find_hit (k : Nat) (nam : List UInt8) (h : k < tab.length) (hn : ∀ j, j < k → ∀ y, tab[j]? = some y → (y.1 == nam) = false) (he : (tab[k].1 == nam) = true) : tab.find? (fun y => y.1 == nam) = some tab[k] := by
  rw [List.find?_eq_some_iff_getElem]
  refine ⟨he, k, h, rfl, fun j hj => ?_⟩
  have := hn j hj tab[j] (List.getElem?_eq_getElem (by omega))
  simpa using this
theorem find_miss (nam : List UInt8) (hn : ∀ j, j < 44 → ∀ y, tab[j]? = some y → (y.1 == nam) = false) : tab.find? (fun y => y.1 == nam) = none := by
  rw [List.find?_eq_none]
  intro y hy
  obtain ⟨j, hj, rfl⟩ := List.getElem_of_mem hy
  have := hn j hj _ (List.getElem?_eq_getElem hj)
  simpa using this
theorem tab_cell (w : World) (o1 o2 o3 : Obj) (k : Nat) (h : k < tab.length) :
    ((((w.alloc o1).alloc o2).alloc o3).alloc (.cells tabCells 52)).cell? ⟨w.heap.size + 1 + 1 + 1, k * 3, none⟩ = some (S tab[k].1) ∧ ((((w.alloc o1).alloc o2).alloc o3).alloc (.cells tabCells 52)).cell? ⟨w.heap.size + 1 + 1 + 1, k * 3 + 1, none⟩ = some (B tab[k].2.1) ∧ ((((w.alloc o1).alloc o2).alloc o3).alloc (.cells tabCells 52)).cell? ⟨w.heap.size + 1 + 1 + 1, k * 3 + 2, none⟩ = some (.int .i64 tab[k].2.2) := by
  have hs : (((w.alloc o1).alloc o2).alloc o3).heap.size = w.heap.size + 1 + 1 + 1 := by simp
  have hb : ((((w.alloc o1).alloc o2).alloc o3).alloc (.cells tabCells 52)).heap[w.heap.size + 1 + 1 + 1]? = some (.cells tabCells 52) := by rw [← hs]; exact heap_alloc_new _ _
  obtain ⟨h1, h2, h3⟩ := flat3 tab k h
  refine ⟨?_, ?_, ?_⟩
  all_goals
    rw [cell_of_row _ _ _ tabCells 52 (0, 0) hb]
    unfold tabCells
    simpa using ‹_›

set_option maxHeartbeats 1000000 in
set_option maxRecDepth 100000 in
theorem ask_calls (lab nam : List UInt8) (os : List (List UInt8)) (num : Nat) (vo : Value) (Bs : Nat) (w : World)
    (hos : os.length ≤ 2000) (hol : ∀ o ∈ os, o.length ≤ 2000) (hnm : nam.length ≤ 2000) (ho : w.ownsRow Bs 9 1 vo os.length (os.map S)) :
    Calls Tryz.prog 14 #[.agg #[S lab, S nam, vo, .int .i64 num]] w fun e w' => e = .returned (.tuple #[.agg (askS { label := lab, name := nam, ops := os, num := num }).1.cells, .int .i64 (askS { label := lab, name := nam, ops := os, num := num }).2]) ∧ Below w.heap.size w w' := by
  obtain ⟨cap, ad, hvo⟩ : ∃ cap ad, vo = .slice ad os.length cap := by
    rcases ho.2 with ⟨rfl, h0⟩ | ⟨g, cap, cur, rfl, _⟩
    · exact ⟨0, none, by rw [h0]⟩
    · exact ⟨cap, _, rfl⟩
  have HOL := hide hol
  have HO := hide ho
  clear hol ho
  by_cases hw : nam = wordName
  · subst hw hvo
    have hwb : (wordName == [46, 119, 111, 114, 100]) = true := rfl
    generalize hwn : wordName = wn at *
    by_cases hl1 : os.length = 1
    · obtain ⟨o, rfl⟩ : ∃ o, os = [o] := List.length_eq_one_iff.1 hl1
      obtain ⟨g, rfl, hg, hgc⟩ : ∃ g, ad = some ⟨g, 0, none⟩ ∧ g < w.heap.size ∧ w.cell? ⟨g, 0, none⟩ = some (S o) := by
        have h := unhide HO
        rcases h.2 with ⟨_, h0⟩ | ⟨g, cap, cur, e, _, hgg, _⟩
        · simp at h0
        · simp only [Value.slice.injEq] at e
          refine ⟨g, e.1, (Array.getElem?_eq_some_iff.1 hgg).1, ?_⟩
          have := h.cells (g := g) (by rw [e.1]; rfl) 0 (S o) (by simp)
          have hadd : (⟨g, 0, none⟩ : Addr).add 0 = ⟨g, 0, none⟩ := by unfold Addr.add; split <;> simp_all
          rwa [hadd] at this
      have hcell : ∀ o1 o2 o3, (((w.alloc o1).alloc o2).alloc o3).cell? ⟨g, 0, none⟩ = some (S o) := by
        intro o1 o2 o3
        rw [World.cell?_alloc_past _ _ _ (by simp; omega), World.cell?_alloc_past _ _ _ (by simp; omega), World.cell?_alloc_past _ _ _ hg]
        exact hgc
      have hol : o.length ≤ 2000 := unhide HOL o (by simp)
      have HE : Hid (askS { label := lab, name := wn, ops := [o], num := num } = if numOk o then (if numVal o < -2147483648 ∨ 4294967296 ≤ numVal o then (Ak.zero num, 4) else ({ Ak.zero num with data := true, raw := numVal o % 4294967296 }, 0)) else (Ak.zero num, 3)) := by
        show _ = _
        rw [askS, if_pos hwn.symm]
      clear hgc HO HOL hwn
      cases hn : numOk o
      · have HV : Hid (askS { label := lab, name := wn, ops := [o], num := num } = (Ak.zero num, 3)) := by show _ = _; rw [unhide HE, hn]; rfl
        go_enter Tryz.func14, Tryz.ntmps14
        go_wp2_with (go_at_call 25; refine (number_calls o _ (by omega)).mono ?_; rintro e w' ⟨rfl, rfl⟩)
        exact bodyPost_ret (v := .tuple #[.agg #[.string { data := #[] }, .int .u8 0, .int .i64 0, .int .i64 0, .int .i64 0, .int .i64 0, .int .i64 0, .int .i64 0, .bool false, .string { data := #[] }, .int .i64 num], .int .i64 3]) (by simp [results, Tryz.results14, go_sem]) rfl ⟨ret_ask (x := (Ak.zero num, 3)) (unhide HV), fw_below w _ _ _ 0⟩
      · by_cases hr : numVal o < -2147483648 ∨ 4294967296 ≤ numVal o
        · have HV : Hid (askS { label := lab, name := wn, ops := [o], num := num } = (Ak.zero num, 4)) := by show _ = _; rw [unhide HE, hn, if_pos rfl, if_pos hr]
          rcases hr with hr | hr
          · go_enter Tryz.func14, Tryz.ntmps14
            go_wp2_with (go_at_call 25; refine (number_calls o _ (by omega)).mono ?_; rintro e w' ⟨rfl, rfl⟩)
            exact bodyPost_ret (v := .tuple #[.agg #[.string { data := #[] }, .int .u8 0, .int .i64 0, .int .i64 0, .int .i64 0, .int .i64 0, .int .i64 0, .int .i64 0, .bool false, .string { data := #[] }, .int .i64 num], .int .i64 4]) (by simp [results, Tryz.results14, go_sem]) rfl ⟨ret_ask (x := (Ak.zero num, 4)) (unhide HV), fw_below w _ _ _ 0⟩
          · have hr2 : ¬ numVal o < -2147483648 := by omega
            go_enter Tryz.func14, Tryz.ntmps14
            go_wp2_with (go_at_call 25; refine (number_calls o _ (by omega)).mono ?_; rintro e w' ⟨rfl, rfl⟩)
            exact bodyPost_ret (v := .tuple #[.agg #[.string { data := #[] }, .int .u8 0, .int .i64 0, .int .i64 0, .int .i64 0, .int .i64 0, .int .i64 0, .int .i64 0, .bool false, .string { data := #[] }, .int .i64 num], .int .i64 4]) (by simp [results, Tryz.results14, go_sem]) rfl ⟨ret_ask (x := (Ak.zero num, 4)) (unhide HV), fw_below w _ _ _ 0⟩
        · have HV : Hid (askS { label := lab, name := wn, ops := [o], num := num } = ({ Ak.zero num with data := true, raw := bits .and .i64 (numVal o) 4294967295 }, 0)) := by show _ = _; rw [unhide HE, hn, if_pos rfl, if_neg hr, and32]
          have hr1 : ¬ numVal o < -2147483648 := fun h => hr (.inl h)
          have hr2 : ¬ 4294967296 ≤ numVal o := fun h => hr (.inr h)
          clear hr
          go_enter Tryz.func14, Tryz.ntmps14
          go_wp2_with (go_at_call 25; refine (number_calls o _ (by omega)).mono ?_; rintro e w' ⟨rfl, rfl⟩)
          exact bodyPost_ret (v := .tuple #[.agg #[.string { data := #[] }, .int .u8 0, .int .i64 0, .int .i64 0, .int .i64 0, .int .i64 0, .int .i64 0, .int .i64 (bits .and .i64 (numVal o) 4294967295), .bool true, .string { data := #[] }, .int .i64 num], .int .i64 0]) (by simp [results, Tryz.results14, go_sem]) rfl ⟨ret_ask (x := ({ Ak.zero num with data := true, raw := bits .and .i64 (numVal o) 4294967295 }, 0)) (unhide HV), fw_below w _ _ _ 0⟩
    · have hne : ((os.length : Int) != 1) = true := by rw [bne_iff_ne]; omega
      have HV : Hid (askS { label := lab, name := wn, ops := os, num := num } = (Ak.zero num, 3)) := by
        show _ = _
        rw [askS, if_pos hwn.symm]
        rcases os with _ | ⟨a, _ | ⟨b, r⟩⟩
        · rfl
        · simp at hl1
        · rfl
      clear hl1 HO HOL hwn
      go_enter Tryz.func14, Tryz.ntmps14
      go_wp2_with fail
      exact bodyPost_ret (v := .tuple #[.agg #[.string { data := #[] }, .int .u8 0, .int .i64 0, .int .i64 0, .int .i64 0, .int .i64 0, .int .i64 0, .int .i64 0, .bool false, .string { data := #[] }, .int .i64 num], .int .i64 3]) (by simp [results, Tryz.results14, go_sem]) rfl ⟨ret_ask (x := (Ak.zero num, 3)) (unhide HV), fw_below w _ _ _ 0⟩
  · have HE : Hid (askS { label := lab, name := nam, ops := os, num := num } = (match tab.find? (fun y => y.1 == nam) with | some y => fillS { Ak.zero num with name := y.1, sh := y.2.1, num := y.2.2 } os | none => (Ak.zero num, 3))) := by
      show _ = _
      rw [askS, if_neg hw]
    have hwb : (nam == [46, 119, 111, 114, 100]) = false := by rw [beq_eq_false_iff_ne]; exact hw
    have HVO := hide hvo
    clear hw hvo
    go_enter Tryz.func14, Tryz.ntmps14
    go_wp2_with (go_at_call 26; refine (table_calls _).mono ?_; rintro e w' ⟨rfl, rfl⟩)
    go_loopg [8] 44 (fun g iv wx => ∃ k m : Nat, k ≤ 44 ∧ g = 44 - k ∧ iv = .int .i64 k ∧ wx = ((((w.alloc (.cells #[S lab, S nam, vo, .int .i64 num] 50)).alloc (.cells #[.string { data := #[] }, .int .u8 0, .int .i64 0, .int .i64 0, .int .i64 0, .int .i64 0, .int .i64 0, .int .i64 0, .bool false, .string { data := #[] }, .int .i64 0] 56)).alloc (.cells #[.string { data := #[] }, .int .u8 0, .int .i64 0, .int .i64 0, .int .i64 0, .int .i64 0, .int .i64 0, .int .i64 0, .bool false, .string { data := #[] }, .int .i64 num] 56)).alloc (.cells tabCells 52)).drewN m ∧ Hid (∀ j, j < k → ∀ y, tab[j]? = some y → (y.1 == nam) = false))
    case atStart => exact ⟨0, 0, by omega, rfl, rfl, rfl, fun j hj => absurd hj (by omega)⟩
    case round =>
      obtain ⟨k, m, hk, rfl, rfl, rfl, hno⟩ := hrel
      by_cases hlt : k < 44
      · have hlt' : k < tab.length := hlt
        obtain ⟨hT0, hT1, hT2⟩ : (∀ o1 o2 o3, ((((w.alloc o1).alloc o2).alloc o3).alloc (.cells tabCells 52)).cell? ⟨w.heap.size + 1 + 1 + 1, k * 3, none⟩ = some (S tab[k].1)) ∧ (∀ o1 o2 o3, ((((w.alloc o1).alloc o2).alloc o3).alloc (.cells tabCells 52)).cell? ⟨w.heap.size + 1 + 1 + 1, k * 3 + 1, none⟩ = some (B tab[k].2.1)) ∧ (∀ o1 o2 o3, ((((w.alloc o1).alloc o2).alloc o3).alloc (.cells tabCells 52)).cell? ⟨w.heap.size + 1 + 1 + 1, k * 3 + 2, none⟩ = some (.int .i64 tab[k].2.2)) :=
          ⟨fun o1 o2 o3 => (tab_cell w o1 o2 o3 k hlt').1, fun o1 o2 o3 => (tab_cell w o1 o2 o3 k hlt').2.1, fun o1 o2 o3 => (tab_cell w o1 o2 o3 k hlt').2.2⟩
        have HM := hide (List.getElem_mem hlt')
        have HH := hide (find_hit k nam hlt' (unhide hno))
        have HG : Hid (tab[k]? = some tab[k]) := List.getElem?_eq_getElem hlt'
        generalize hy : tab[k] = y at *
        clear hy hlt'
        cases he : (y.1 == nam)
        · go_wp2_with fail
          go_region
          go_wp2_with fail
          go_roundg (44 - (k + 1))
          case measure => omega
          case rel =>
            refine ⟨k + 1, _, by omega, rfl, by go_num, rfl, fun j hj z hz => ?_⟩
            by_cases e : j = k
            · subst e
              rw [unhide HG] at hz
              cases hz
              exact he
            · exact unhide hno j (by omega) z hz
        · have HF := hide (unhide HH he)
          go_wp2_with fail
          go_region
          go_wp2_with fail
          have HOW := hide (((((unhide HO).alloc (.cells #[S lab, S nam, vo, .int .i64 num] 50)).alloc (.cells #[.string { data := #[] }, .int .u8 0, .int .i64 0, .int .i64 0, .int .i64 0, .int .i64 0, .int .i64 0, .int .i64 0, .bool false, .string { data := #[] }, .int .i64 0] 56)).alloc (.cells #[.string { data := y.fst.toArray }, .int .u8 y.snd.fst.toNat, .int .i64 y.snd.snd, .int .i64 0, .int .i64 0, .int .i64 0, .int .i64 0, .int .i64 0, .bool false, .string { data := #[] }, .int .i64 num] 56)).alloc (.cells tabCells 52))
          refine (filled_tab y (unhide HM) lab nam os num vo Bs _ hos (unhide HOL) (by exact unhide HOW)).mono ?_
          rintro e w1 ⟨a', x', hfe, rfl, hb1⟩
          have HV : Hid (askS { label := lab, name := nam, ops := os, num := num } = (a', x')) := by show _ = _; rw [unhide HE, unhide HF]; exact hfe
          obtain ⟨hc, hf⟩ := bcell hb1
          have HB1 := hide (Below.trans (fw_below4 w _ _ _ _ _) (hb1.mono (by simp; omega)))
          clear hfe hb1 HOW hT0 hT1 hT2
          simp only [World.heap_drewN, World.cell?_drewN, World.frozen?_drewN, World.size_alloc] at hc hf
          go_wp2_with fail
          exact bodyPost_ret (v := .tuple #[.agg #[S a'.name, B a'.sh, .int .i64 a'.num, .int .i64 a'.s, .int .i64 a'.t, .int .i64 a'.d, .int .i64 a'.n, .int .i64 a'.raw, .bool a'.data, S a'.goal, .int .i64 a'.line], .int .i64 x']) (by simp [results, Tryz.results14, go_sem, hc]) rfl ⟨ret_ask (x := (a', x')) (unhide HV), Below.setCell (Below.setCell (Below.setCell (Below.setCell (Below.setCell (Below.setCell (Below.setCell (Below.setCell (Below.setCell (Below.setCell (Below.setCell (unhide HB1) (p := ⟨w.heap.size + 1, 0, none⟩) (by show _ ≤ w.heap.size + 1; omega) _) (p := ⟨w.heap.size + 1, 1, none⟩) (by show _ ≤ w.heap.size + 1; omega) _) (p := ⟨w.heap.size + 1, 2, none⟩) (by show _ ≤ w.heap.size + 1; omega) _) (p := ⟨w.heap.size + 1, 3, none⟩) (by show _ ≤ w.heap.size + 1; omega) _) (p := ⟨w.heap.size + 1, 4, none⟩) (by show _ ≤ w.heap.size + 1; omega) _) (p := ⟨w.heap.size + 1, 5, none⟩) (by show _ ≤ w.heap.size + 1; omega) _) (p := ⟨w.heap.size + 1, 6, none⟩) (by show _ ≤ w.heap.size + 1; omega) _) (p := ⟨w.heap.size + 1, 7, none⟩) (by show _ ≤ w.heap.size + 1; omega) _) (p := ⟨w.heap.size + 1, 8, none⟩) (by show _ ≤ w.heap.size + 1; omega) _) (p := ⟨w.heap.size + 1, 9, none⟩) (by show _ ≤ w.heap.size + 1; omega) _) (p := ⟨w.heap.size + 1, 10, none⟩) (by show _ ≤ w.heap.size + 1; omega) _⟩
      · have HF := hide (find_miss nam (fun j hj => unhide hno j (by omega)))
        have HV : Hid (askS { label := lab, name := nam, ops := os, num := num } = (Ak.zero num, 3)) := by show _ = _; rw [unhide HE, unhide HF]
        go_wp2_with fail
        exact bodyPost_ret (v := .tuple #[.agg #[.string { data := #[] }, .int .u8 0, .int .i64 0, .int .i64 0, .int .i64 0, .int .i64 0, .int .i64 0, .int .i64 0, .bool false, .string { data := #[] }, .int .i64 num], .int .i64 3]) (by simp [results, Tryz.results14, go_sem]) rfl ⟨ret_ask (x := (Ak.zero num, 3)) (unhide HV), fw_below4 w _ _ _ _ _⟩
end Go.Proofs.YtnbhpmncppohaaaGreatDoor.Mill
