import Derived.Test.YtnbhpmncppohaaaGreatDoorMRead
namespace Go.Proofs.YtnbhpmncppohaaaGreatDoor.Mill
open Go.RowKit

set_option maxHeartbeats 4000000 in
set_option maxRecDepth 100000 in
theorem readOperand_l (o : List UInt8) (st : Stm) (g : Nat) (w : World) (hg : w.heap[g]? = some (.cells st.cells 72)) (hl : o.length ≤ 4294967280) :
    Calls Tryz.prog 67 #[.pointer (some ⟨g, 0, none⟩), .int .i64 7, S o] w fun e w' => Makes g (opP 7 o st) w e w' := by
  have hc9 := cell_row hg 9 _ rfl
  have hfz := frozen_row hg 9
  have HG := hide hg
  cases hb : labelB o
  · have HR := hide (fun w => readLabel_no o w (by omega) hb)
    have HX : Hid (opP 7 o st = none) := by show _ = _; unfold opP; rw [if_neg (by decide), if_pos rfl, hb]; rfl
    clear hg hb
    go_enter Tryz.func67, Tryz.ntmps67
    go_wp2_with (go_at_call 33; refine (unhide HR _).mono ?_; rintro e w1 ⟨rfl, rfl⟩)
    exact ⟨rfl, Turned.of (Below.refl _ _), by rw [unhide HX]⟩
  · have HR := hide (fun w => readLabel_yes o w hb)
    have HX : Hid (opP 7 o st = some { st with goal := o }) := by show _ = _; unfold opP; rw [if_neg (by decide), if_pos rfl, hb]; rfl
    clear hg hb
    go_enter Tryz.func67, Tryz.ntmps67
    go_wp2_with (go_at_call 33; refine (unhide HR _).mono ?_; rintro e w1 ⟨rfl, rfl⟩)
    go_end0
    refine ⟨(Turned.of (Below.refl _ _)).set 9 _, ?_⟩
    rw [unhide HX]
    exact ⟨rfl, heap_setCell_same _ g 9 st.cells 72 _ (unhide HG)⟩

theorem set5 {w : World} {g : Nat} {t : TypeId} (st : Stm) (n : Int) (f : Fd) (h : w.heap[g]? = some (.cells st.cells t)) :
    (((((w.setCell ⟨g, 4, none⟩ (.int .i64 n)).setCell ⟨g, 5, none⟩ (.int .i64 f.lo)).setCell ⟨g, 6, none⟩ (.int .i64 f.wi)).setCell ⟨g, 7, none⟩ (.int .i64 f.least)).setCell ⟨g, 8, none⟩ (.int .i64 f.most)).heap[g]? = some (.cells { st with number := n, f := f }.cells t) :=
  heap_setCell_same _ g 8 _ t _ (heap_setCell_same _ g 7 _ t _ (heap_setCell_same _ g 6 _ t _ (heap_setCell_same _ g 5 _ t _ (heap_setCell_same _ g 4 _ t _ h))))

set_option maxHeartbeats 4000000 in
set_option maxRecDepth 100000 in
theorem readOperand_n (k : Nat) (hk : k = 3 ∨ k = 4 ∨ k = 5 ∨ k = 8) (o : List UInt8) (st : Stm) (g : Nat) (w : World) (hg : w.heap[g]? = some (.cells st.cells 72)) (hl : o.length ≤ 4294967280) :
    Calls Tryz.prog 67 #[.pointer (some ⟨g, 0, none⟩), .int .i64 k, S o] w fun e w' => Makes g (opP k o st) w e w' := by
  have hc4 := cell_row hg 4 _ rfl
  have hc5 := cell_row hg 5 _ rfl
  have hc6 := cell_row hg 6 _ rfl
  have hc7 := cell_row hg 7 _ rfl
  have hc8 := cell_row hg 8 _ rfl
  have hfz := frozen_row hg
  have hlt : g < w.heap.size := (Array.getElem?_eq_some_iff.1 hg).1
  have HG := hide hg
  obtain ⟨f, hf⟩ : ∃ f, fieldOf k = f := ⟨_, rfl⟩
  have HF : Hid (∀ wc, Below w.heap.size w wc → Calls Tryz.prog 78 #[.int .i64 k] wc fun e w' => e = .returned (.agg #[.int .i64 f.lo, .int .i64 f.wi, .int .i64 f.least, .int .i64 f.most]) ∧ Below w.heap.size w w') := fun wc h => by rw [← hf]; exact since h (field_kept k (by omega) wc)
  have hX0 : opP k o st = if numOk o then some { st with number := numVal o, f := fieldOf k } else none := by
    unfold opP; rw [if_neg (by omega), if_neg (by omega), if_neg (by omega)]
  rw [hf] at hX0
  cases hn : numOk o
  · have HR : Hid (∀ wc, Calls Tryz.prog 81 #[S o] wc fun e w' => e = gives 3 ∧ w' = wc) := fun wc => by
      have := readNumber_calls o wc (by omega)
      unfold numEnd at this
      rw [hn] at this
      exact this
    have HX : Hid (opP k o st = none) := by show _ = _; rw [hX0, hn]; rfl
    clear hg hn hX0 hf
    obtain rfl | rfl | rfl | rfl := hk
    all_goals
      go_enter Tryz.func67, Tryz.ntmps67
      go_wp2_with (go_at_call 81; refine (unhide HR _).mono ?_; rintro e w1 ⟨rfl, rfl⟩)
      exact ⟨rfl, Turned.of (Below.refl _ _), by rw [unhide HX]⟩
  · have HR : Hid (∀ wc, Calls Tryz.prog 81 #[S o] wc fun e w' => e = .returned (.int .i64 (numVal o)) ∧ w' = wc) := fun wc => by
      have := readNumber_calls o wc (by omega)
      unfold numEnd at this
      rw [hn] at this
      exact this
    have HX : Hid (opP k o st = some { st with number := numVal o, f := f }) := by show _ = _; rw [hX0, hn]; rfl
    clear hg hn hX0 hf
    generalize numVal o = n at *
    obtain rfl | rfl | rfl | rfl := hk
    all_goals
      go_enter Tryz.func67, Tryz.ntmps67
      go_wp2_with (first | (go_at_call 81; refine (unhide HR _).mono ?_; rintro e w1 ⟨rfl, rfl⟩) | (go_at_call 78; refine (unhide HF _ (by first | exact Below.refl _ _ | exact (Below.refl _ _).drew | assumption | exact Below.drew (by assumption))).mono ?_; rintro e w1 ⟨rfl, hb1⟩; have hk4 := (hb1.cell (p := ⟨g, 4, none⟩) hlt).trans hc4; have hz4 := (hb1.frozen (p := ⟨g, 4, none⟩) hlt).trans (hfz 4); have hk5 := (hb1.cell (p := ⟨g, 5, none⟩) hlt).trans hc5; have hz5 := (hb1.frozen (p := ⟨g, 5, none⟩) hlt).trans (hfz 5); have hk6 := (hb1.cell (p := ⟨g, 6, none⟩) hlt).trans hc6; have hz6 := (hb1.frozen (p := ⟨g, 6, none⟩) hlt).trans (hfz 6); have hk7 := (hb1.cell (p := ⟨g, 7, none⟩) hlt).trans hc7; have hz7 := (hb1.frozen (p := ⟨g, 7, none⟩) hlt).trans (hfz 7); have hk8 := (hb1.cell (p := ⟨g, 8, none⟩) hlt).trans hc8; have hz8 := (hb1.frozen (p := ⟨g, 8, none⟩) hlt).trans (hfz 8)))
      go_end0
      refine ⟨(((((Turned.of hb1).set 4 _).set 5 _).set 6 _).set 7 _).set 8 _, ?_⟩
      rw [unhide HX]
      exact ⟨rfl, set5 st n f ((hb1.block g hlt).trans (unhide HG))⟩

set_option maxHeartbeats 4000000 in
set_option maxRecDepth 100000 in
theorem readOperand_m (o : List UInt8) (st : Stm) (g : Nat) (w : World) (hB : Base w) (hg : w.heap[g]? = some (.cells st.cells 72)) (hl : o.length ≤ 4294967280) :
    Calls Tryz.prog 67 #[.pointer (some ⟨g, 0, none⟩), .int .i64 6, S o] w fun e w' => Makes g (opP 6 o st) w e w' := by
  have hc2 := cell_row hg 2 _ rfl
  have hc4 := cell_row hg 4 _ rfl
  have hc5 := cell_row hg 5 _ rfl
  have hc6 := cell_row hg 6 _ rfl
  have hc7 := cell_row hg 7 _ rfl
  have hc8 := cell_row hg 8 _ rfl
  have hfz := frozen_row hg
  have hlt : g < w.heap.size := (Array.getElem?_eq_some_iff.1 hg).1
  have HG := hide hg
  have hcb := cutB_le o 40
  have hca := cutA_le o 40
  have htb := trim_le (cutB o 40)
  have hta := trim_le (cutA o 40).dropLast
  have hX0 : opP 6 o st = if cutH o 40 && closes (cutA o 40) then
      if regI (trim (cutA o 40).dropLast) < 0 then none
      else if numOk (trim (cutB o 40)) then some { st with word := bits .or .u32 st.word (putR 1 (regI (trim (cutA o 40).dropLast))), number := numVal (trim (cutB o 40)), f := fieldOf 6 }
      else none
    else none := by
    unfold opP; rw [if_neg (by decide), if_neg (by decide), if_pos rfl]
  cases hcl : (cutH o 40 && closes (cutA o 40))
  · have HR : Hid (∀ wc, Below w.heap.size w wc → Calls Tryz.prog 80 #[S o] wc fun e w' => e = gives 3 ∧ Below w.heap.size w w') := fun wc h => by
      have := since h (cutBrackets_calls o wc (hB.next h) hl)
      unfold brEnd at this
      rw [hcl] at this
      exact this
    have HX : Hid (opP 6 o st = none) := by show _ = _; rw [hX0, hcl]; rfl
    clear hg hX0 hcl hB
    go_enter Tryz.func67, Tryz.ntmps67
    go_wp2_with (go_at_call 80; refine (unhide HR _ (by first | exact Below.refl _ _ | exact (Below.refl _ _).drew | assumption | exact Below.drew (by assumption))).mono ?_; rintro e w1 ⟨rfl, hb1⟩)
    exact ⟨rfl, Turned.of hb1, by rw [unhide HX]⟩
  · have HC : Hid (∀ wc, Below w.heap.size w wc → Calls Tryz.prog 80 #[S o] wc fun e w' => e = .returned (.tuple #[S (trim (cutB o 40)), S (trim (cutA o 40).dropLast)]) ∧ Below w.heap.size w w') := fun wc h => by
      have := since h (cutBrackets_calls o wc (hB.next h) hl)
      unfold brEnd at this
      rw [hcl] at this
      exact this
    rw [hcl, if_pos rfl] at hX0
    simp only [List.length_dropLast] at hta
    have hqb : (trim (cutB o 40)).length ≤ 4294967280 := by omega
    have hqa : (trim (cutA o 40).dropLast).length ≤ 4294967280 := by omega
    generalize trim (cutB o 40) = b at *
    generalize trim (cutA o 40).dropLast = a at *
    obtain ⟨fv, hfv⟩ : ∃ fv, (fieldOf 1).v = fv := ⟨_, rfl⟩
    have HF1 : Hid (∀ wc, Below w.heap.size w wc → Calls Tryz.prog 78 #[.int .i64 1] wc fun e w' => e = .returned fv ∧ Below w.heap.size w w') := fun wc h => by rw [← hfv]; exact since h (field_kept 1 (by omega) wc)
    by_cases hr : regI a < 0
    · have HR : Hid (∀ wc, Below w.heap.size w wc → Calls Tryz.prog 79 #[S a] wc fun e w' => e = gives 3 ∧ Below w.heap.size w w') := fun wc h => by
        have := since h (readRegister_calls a wc (hB.next h) (by omega))
        unfold regEnd at this
        rw [if_pos hr] at this
        exact this
      have HX : Hid (opP 6 o st = none) := by show _ = _; rw [hX0, if_pos hr]
      clear hg hX0 hcl hB hr hfv
      go_enter Tryz.func67, Tryz.ntmps67
      go_wp2_with (go_at_call 80; refine (unhide HC _ (by first | exact Below.refl _ _ | exact (Below.refl _ _).drew | assumption | exact Below.drew (by assumption))).mono ?_; rintro e w1 ⟨rfl, hb1⟩; have hk2 := (hb1.cell (p := ⟨g, 2, none⟩) hlt).trans hc2; have hz2 := (hb1.frozen (p := ⟨g, 2, none⟩) hlt).trans (hfz 2))
      go_region_with (first
        | (go_at_call 78; refine (unhide HF1 _ (by first | exact Below.refl _ _ | exact (Below.refl _ _).drew | assumption | exact Below.drew (by assumption))).mono ?_; rintro e w1 ⟨rfl, hb1⟩; have hk2 := (hb1.cell (p := ⟨g, 2, none⟩) hlt).trans hc2; have hz2 := (hb1.frozen (p := ⟨g, 2, none⟩) hlt).trans (hfz 2))
        | (go_at_call 79; refine (unhide HR _ (by first | exact Below.refl _ _ | exact (Below.refl _ _).drew | assumption | exact Below.drew (by assumption))).mono ?_; rintro e w1 ⟨rfl, hb1⟩; refine (fun (_ : wpAny Tryz.prog .any #[] (fun _ _ _ => True) 0 #[] { tmps := #[], defers := [] } w1) => ⟨rfl, Turned.of hb1, by rw [unhide HX]⟩) ?_))
      all_goals trivial
    · have HR : Hid (∀ wc, Below w.heap.size w wc → Calls Tryz.prog 79 #[S a] wc fun e w' => e = .returned (.int .i64 (regI a)) ∧ Below w.heap.size w w') := fun wc h => by
        have := since h (readRegister_calls a wc (hB.next h) (by omega))
        unfold regEnd at this
        rw [if_neg hr] at this
        exact this
      rw [if_neg hr] at hX0
      generalize regI a = r at *
      obtain ⟨pr, hpr⟩ : ∃ pr, putR 1 r = pr := ⟨_, rfl⟩
      rw [hpr] at hX0
      have HP : Hid (∀ wc, Below w.heap.size w wc → Calls Tryz.prog 45 #[fv, .int .i64 r] wc fun e w' => e = .returned (.int .u32 pr) ∧ Below w.heap.size w w') := fun wc h => by rw [← hfv, ← hpr]; exact since h (putR_calls 1 (by omega) r wc)
      clear hg hcl hB hr hfv hpr
      cases hn : numOk b
      · have HN : Hid (∀ wc, Calls Tryz.prog 81 #[S b] wc fun e w' => e = gives 3 ∧ w' = wc) := fun wc => by
          have := readNumber_calls b wc (by omega)
          unfold numEnd at this
          rw [hn] at this
          exact this
        have HX : Hid (opP 6 o st = none) := by show _ = _; rw [hX0, hn]; rfl
        clear hX0 hn
        go_enter Tryz.func67, Tryz.ntmps67
        go_wp2_with (go_at_call 80; refine (unhide HC _ (by first | exact Below.refl _ _ | exact (Below.refl _ _).drew | assumption | exact Below.drew (by assumption))).mono ?_; rintro e w1 ⟨rfl, hb1⟩; have hk2 := (hb1.cell (p := ⟨g, 2, none⟩) hlt).trans hc2; have hz2 := (hb1.frozen (p := ⟨g, 2, none⟩) hlt).trans (hfz 2))
        go_region_with (first
          | (go_at_call 78; refine (unhide HF1 _ (by first | exact Below.refl _ _ | exact (Below.refl _ _).drew | assumption | exact Below.drew (by assumption))).mono ?_; rintro e w1 ⟨rfl, hb1⟩; have hk2 := (hb1.cell (p := ⟨g, 2, none⟩) hlt).trans hc2; have hz2 := (hb1.frozen (p := ⟨g, 2, none⟩) hlt).trans (hfz 2))
          | (go_at_call 79; refine (unhide HR _ (by first | exact Below.refl _ _ | exact (Below.refl _ _).drew | assumption | exact Below.drew (by assumption))).mono ?_; rintro e w1 ⟨rfl, hb1⟩; have hk2 := (hb1.cell (p := ⟨g, 2, none⟩) hlt).trans hc2; have hz2 := (hb1.frozen (p := ⟨g, 2, none⟩) hlt).trans (hfz 2))
          | (go_at_call 45; refine (unhide HP _ (by first | exact Below.refl _ _ | exact (Below.refl _ _).drew | assumption | exact Below.drew (by assumption))).mono ?_; rintro e w1 ⟨rfl, hb1⟩; have hk2 := (hb1.cell (p := ⟨g, 2, none⟩) hlt).trans hc2; have hz2 := (hb1.frozen (p := ⟨g, 2, none⟩) hlt).trans (hfz 2)))
        all_goals
          have HG2 := hide (heap_setCell_same _ g 2 st.cells 72 (.int .u32 (bits .or .u32 st.word pr)) ((hb1.block g hlt).trans (unhide HG)))
          have HT2 := hide ((Turned.of (g := g) hb1).set 2 (.int .u32 (bits .or .u32 st.word pr)))
          generalize World.setCell _ ⟨g, 2, none⟩ (.int .u32 (bits .or .u32 st.word pr)) = W2 at *
          go_wp2_with (go_at_call 81; refine (unhide HN _).mono ?_; rintro e w1 ⟨rfl, rfl⟩)
          exact ⟨rfl, unhide HT2, by rw [unhide HX]⟩
      · have HN : Hid (∀ wc, Calls Tryz.prog 81 #[S b] wc fun e w' => e = .returned (.int .i64 (numVal b)) ∧ w' = wc) := fun wc => by
          have := readNumber_calls b wc (by omega)
          unfold numEnd at this
          rw [hn] at this
          exact this
        have HX : Hid (opP 6 o st = some { st with word := bits .or .u32 st.word pr, number := numVal b, f := fieldOf 6 }) := by show _ = _; rw [hX0, hn]; rfl
        generalize numVal b = n at *
        obtain ⟨f, hf⟩ : ∃ f, fieldOf 6 = f := ⟨_, rfl⟩
        rw [hf] at HX
        have HF6 : Hid (∀ wc, Calls Tryz.prog 78 #[.int .i64 6] wc fun e w' => e = .returned (.agg #[.int .i64 f.lo, .int .i64 f.wi, .int .i64 f.least, .int .i64 f.most]) ∧ Below wc.heap.size wc w') := fun wc => by rw [← hf]; exact field_kept 6 (by omega) wc
        clear hX0 hn hf
        go_enter Tryz.func67, Tryz.ntmps67
        go_wp2_with (go_at_call 80; refine (unhide HC _ (by first | exact Below.refl _ _ | exact (Below.refl _ _).drew | assumption | exact Below.drew (by assumption))).mono ?_; rintro e w1 ⟨rfl, hb1⟩; have hk2 := (hb1.cell (p := ⟨g, 2, none⟩) hlt).trans hc2; have hz2 := (hb1.frozen (p := ⟨g, 2, none⟩) hlt).trans (hfz 2))
        go_region_with (first
          | (go_at_call 78; refine (unhide HF1 _ (by first | exact Below.refl _ _ | exact (Below.refl _ _).drew | assumption | exact Below.drew (by assumption))).mono ?_; rintro e w1 ⟨rfl, hb1⟩; have hk2 := (hb1.cell (p := ⟨g, 2, none⟩) hlt).trans hc2; have hz2 := (hb1.frozen (p := ⟨g, 2, none⟩) hlt).trans (hfz 2))
          | (go_at_call 79; refine (unhide HR _ (by first | exact Below.refl _ _ | exact (Below.refl _ _).drew | assumption | exact Below.drew (by assumption))).mono ?_; rintro e w1 ⟨rfl, hb1⟩; have hk2 := (hb1.cell (p := ⟨g, 2, none⟩) hlt).trans hc2; have hz2 := (hb1.frozen (p := ⟨g, 2, none⟩) hlt).trans (hfz 2))
          | (go_at_call 45; refine (unhide HP _ (by first | exact Below.refl _ _ | exact (Below.refl _ _).drew | assumption | exact Below.drew (by assumption))).mono ?_; rintro e w1 ⟨rfl, hb1⟩; have hk2 := (hb1.cell (p := ⟨g, 2, none⟩) hlt).trans hc2; have hz2 := (hb1.frozen (p := ⟨g, 2, none⟩) hlt).trans (hfz 2)))
        all_goals
          have HG2 := hide (heap_setCell_same _ g 2 st.cells 72 (.int .u32 (bits .or .u32 st.word pr)) ((hb1.block g hlt).trans (unhide HG)))
          have HT2 := hide ((Turned.of (g := g) hb1).set 2 (.int .u32 (bits .or .u32 st.word pr)))
          generalize World.setCell _ ⟨g, 2, none⟩ (.int .u32 (bits .or .u32 st.word pr)) = W2 at *
          have hd4 := cell_row (unhide HG2) 4 _ rfl
          have hd5 := cell_row (unhide HG2) 5 _ rfl
          have hd6 := cell_row (unhide HG2) 6 _ rfl
          have hd7 := cell_row (unhide HG2) 7 _ rfl
          have hd8 := cell_row (unhide HG2) 8 _ rfl
          have hy := frozen_row (unhide HG2)
          have hl2 : g < W2.heap.size := Nat.lt_of_lt_of_le hlt (unhide HT2).size
          go_wp2_with (first | (go_at_call 81; refine (unhide HN _).mono ?_; rintro e w1 ⟨rfl, rfl⟩) | (go_at_call 78; refine (unhide HF6 _).mono ?_; rintro e w2 ⟨rfl, hb2⟩; have hk4 := (hb2.cell (p := ⟨g, 4, none⟩) hl2).trans hd4; have hz4 := (hb2.frozen (p := ⟨g, 4, none⟩) hl2).trans (hy 4); have hk5 := (hb2.cell (p := ⟨g, 5, none⟩) hl2).trans hd5; have hz5 := (hb2.frozen (p := ⟨g, 5, none⟩) hl2).trans (hy 5); have hk6 := (hb2.cell (p := ⟨g, 6, none⟩) hl2).trans hd6; have hz6 := (hb2.frozen (p := ⟨g, 6, none⟩) hl2).trans (hy 6); have hk7 := (hb2.cell (p := ⟨g, 7, none⟩) hl2).trans hd7; have hz7 := (hb2.frozen (p := ⟨g, 7, none⟩) hl2).trans (hy 7); have hk8 := (hb2.cell (p := ⟨g, 8, none⟩) hl2).trans hd8; have hz8 := (hb2.frozen (p := ⟨g, 8, none⟩) hl2).trans (hy 8)))
          go_end0
          refine ⟨((((((unhide HT2).trans (Turned.of hb2)).set 4 _).set 5 _).set 6 _).set 7 _).set 8 _, ?_⟩
          rw [unhide HX]
          exact ⟨rfl, set5 { st with word := bits .or .u32 st.word pr } n f ((hb2.block g hl2).trans (unhide HG2))⟩
end Go.Proofs.YtnbhpmncppohaaaGreatDoor.Mill
