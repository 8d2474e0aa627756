import Derived.Test.YtnbhpmncppohaaaGreatDoorAsmS
namespace Go.Proofs.YtnbhpmncppohaaaGreatDoor.Mill
open Go.RowKit
attribute [local go_sem] setCell_drewN alloc_drewN

theorem ret3_eq {a : List UInt8} {b c : Int} {x : List UInt8 × Int × Int} (h : x = (a, b, c)) : Ending.returned (.tuple #[S a, .int .i64 b, .int .i64 c]) = .returned (.tuple #[S x.1, .int .i64 x.2.1, .int .i64 x.2.2]) := by rw [h]
theorem asmS_err (s : List UInt8) (e : Int) (n : Nat) (hs : ¬ 2000 < s.length) (h : pass1 (linesGo (rawLines s) 0).1 { words := [], names := [], places := [] } = .error (e, n)) : asmS s = ([], e, (n : Int)) := by
  unfold asmS; rw [if_neg hs, h]
theorem asmS_bad (s : List UInt8) (st : St) (hs : ¬ 2000 < s.length) (h : pass1 (linesGo (rawLines s) 0).1 { words := [], names := [], places := [] } = .ok st) (hb : 0 < (linesGo (rawLines s) 0).2) : asmS s = ([], 3, ((linesGo (rawLines s) 0).2 : Int)) := by
  unfold asmS; rw [if_neg hs, h]; dsimp only; rw [if_pos hb]

theorem slice_shape {w : World} {B : Nat} {e : TypeId} {size : Nat} {v : Value} {n : Nat} {xs : List Value} (h : w.ownsRow B e size v n xs) :
    ∃ ad cap, v = .slice ad n cap ∧ ((ad = none ∧ n = 0) ∨ ∃ g, ad = some ⟨g, 0, none⟩ ∧ g < w.heap.size ∧ ∀ j u, xs[j]? = some u → w.cell? ⟨g, j, none⟩ = some u) := by
  have h' := h
  rcases h.2 with ⟨rfl, h0⟩ | ⟨g, cap, cur, rfl, _, hg, _⟩
  · exact ⟨none, 0, by rw [h0], .inl ⟨rfl, h0⟩⟩
  · refine ⟨_, cap, rfl, .inr ⟨g, rfl, (Array.getElem?_eq_some_iff.1 hg).1, fun j u hu => ?_⟩⟩
    have := h'.cells (g := g) rfl j u hu
    rwa [add_off] at this
theorem stepL_form {x : RL} {st : St} {a0 : Ak} (h : askOr x = (a0, 3)) : stepL x st = .error (3, x.num) := by unfold stepL; rw [h, if_pos rfl]
theorem stepL_twice {x : RL} {st : St} {a0 : Ak} {e0 : Int} (h : askOr x = (a0, e0)) (h3 : ¬ e0 = 3) (hl : x.label ≠ []) (hm : x.label ∈ st.names) : stepL x st = .error (5, x.num) := by
  unfold stepL; rw [h, if_neg h3, if_pos ⟨hl, hm⟩]
theorem stepL_none {x : RL} {st : St} {a0 : Ak} {e0 : Int} (h : askOr x = (a0, e0)) (h3 : ¬ e0 = 3) (hl : x.label ≠ [] → x.label ∉ st.names) (hn : x.name = []) : stepL x st = .ok (st.label x.label) := by
  unfold stepL; rw [h, if_neg h3, if_neg (fun c => hl c.1 c.2), if_pos hn]
theorem stepL_range {x : RL} {st : St} {a0 : Ak} {e0 : Int} (h : askOr x = (a0, e0)) (h3 : ¬ e0 = 3) (hl : x.label ≠ [] → x.label ∉ st.names) (hn : ¬ x.name = []) (h0 : ¬ e0 = 0) : stepL x st = .error (e0, x.num) := by
  unfold stepL; rw [h, if_neg h3, if_neg (fun c => hl c.1 c.2), if_neg hn, if_pos h0]
theorem stepL_many {x : RL} {st : St} {a0 : Ak} (h : askOr x = (a0, 0)) (hl : x.label ≠ [] → x.label ∉ st.names) (hn : ¬ x.name = []) (hm : 256 ≤ 4 * st.words.length) : stepL x st = .error (6, x.num) := by
  unfold stepL; rw [h, if_neg (by simp), if_neg (fun c => hl c.1 c.2), if_neg hn, if_neg (by simp), if_pos hm]
theorem stepL_ok {x : RL} {st : St} {a0 : Ak} (h : askOr x = (a0, 0)) (hl : x.label ≠ [] → x.label ∉ st.names) (hn : ¬ x.name = []) (hm : ¬ 256 ≤ 4 * st.words.length) : stepL x st = .ok { st.label x.label with words := st.words ++ [a0] } := by
  unfold stepL; rw [h, if_neg (by simp), if_neg (fun c => hl c.1 c.2), if_neg hn, if_neg (by simp), if_neg hm]
/-- a row of the call's own lies below W0's end: what lies behind it stays -/
theorem grown_keeps {w w' : World} {v : Value} {B : Nat} {e : TypeId} {size n : Nat} {xs : List Value} {W0 : World} (hr : W0.ownsRow B e size v n xs) (hg : w.grownBy w' v.ownBlock) (k : Nat) (hk : W0.heap.size ≤ k) (hkw : k < w.heap.size) : w'.heap[k]? = w.heap[k]? :=
  hg.block k hkw (fun e => by have := (hr.lt k e.symm).2; omega)
theorem label_ne {st : St} {l : List UInt8} (h : ¬ l = []) : st.label l = { st with names := st.names ++ [l], places := st.places ++ [4 * st.words.length] } := by unfold St.label; rw [if_neg h]
theorem rows_label {W0 wc wc' wA wA' wB : World} {S1 : Nat} {v7 v8 v9 v8' v9' : Value} {st : St} {l : List UInt8} {bx ba : Obj} (hl : ¬ l = []) (hr : Rows3 W0 S1 v7 v8 v9 st) (hS : S1 ≤ W0.heap.size) (hbX : Below W0.heap.size W0 wc)
    (hX : wc.heap[W0.heap.size]? = some bx) (hA : wc.heap[W0.heap.size + 1]? = some ba) (hwc : W0.heap.size + 1 < wc.heap.size) (hc' : Below wc.heap.size wc wc') (g1 : wc'.grownBy wA v8.ownBlock) (n1 : wA.ownsRow S1 9 1 v8' (st.names.length + 1) (st.names.map S ++ [S l]))
    (hA' : Below wA.heap.size wA wA') (g2 : wA'.grownBy wB v9.ownBlock) (n2 : wB.ownsRow S1 3 1 v9' (st.places.length + 1) ((st.places.map fun p : Nat => Value.int .i64 p) ++ [.int .i64 (4 * (st.words.length : Int))])) :
    Rows3 wB S1 v7 v8' v9' (st.label l) ∧ wB.heap[W0.heap.size]? = some bx ∧ wB.heap[W0.heap.size + 1]? = some ba ∧ Below S1 W0 wB := by
  have hcs := hc'.size
  have hgs := g1.size
  have has := hA'.size
  have hs : ∀ k, k < W0.heap.size → wc'.heap[k]? = W0.heap[k]? := fun k hk => (hc'.block k (by omega)).trans (hbX.block k hk)
  have r7 : wc'.ownsRow S1 56 11 v7 st.words.length (st.words.flatMap Ak.list) := owns_same hr.words hs
  have r8 : wc'.ownsRow S1 9 1 v8 st.names.length (st.names.map S) := owns_same hr.names hs
  have r9 : wc'.ownsRow S1 3 1 v9 st.places.length (st.places.map fun p : Nat => Value.int .i64 p) := owns_same hr.places hs
  have q7 := owns_same (owns_other r7 r8 (by decide) g1) hA'.block
  have q9 := owns_same (owns_other r9 r8 (by decide) g1) hA'.block
  have q8 := owns_same n1 hA'.block
  have bl : ∀ k, W0.heap.size ≤ k → k < wc.heap.size → wB.heap[k]? = wc.heap[k]? := by
    intro k h1 h2
    have a1 := grown_keeps hr.names g1 k h1 (by omega)
    have a2 := grown_keeps hr.places g2 k h1 (by omega)
    rw [a2, hA'.block k (by omega), a1, hc'.block k h2]
  refine ⟨?_, (bl _ (Nat.le_refl _) (by omega)).trans hX, (bl _ (by omega) (by omega)).trans hA, ?_⟩
  · rw [label_ne hl]
    refine ⟨owns_other q7 q9 (by decide) g2, ?_, ?_⟩
    · simpa using owns_other q8 q9 (by decide) g2
    · have e : ((4 * st.words.length : Nat) : Int) = 4 * (st.words.length : Int) := by omega
      simpa [e] using n2
  · have b1 : Below S1 W0 wc' := (hbX.mono hS).trans (hc'.mono (by omega))
    have b2 : Below S1 W0 wA := b1.grown g1 (by omega) (fun k hk => (hr.names.lt k hk).1)
    exact (b2.trans (hA'.mono (by omega))).grown g2 (by omega) (fun k hk => (hr.places.lt k hk).1)
theorem rows_word {w2 w2' wC : World} {S1 : Nat} {v7 v8 v9 v7' : Value} {st st1 : St} {a0 : Ak} (hr : Rows3 w2 S1 v7 v8 v9 st1) (_hw : st1.words = st.words) (hb : Below w2.heap.size w2 w2') (hg : w2'.grownBy wC v7.ownBlock) (hn : wC.ownsRow S1 56 11 v7' (st.words.length + 1) (st.words.flatMap Ak.list ++ a0.list)) :
    Rows3 wC S1 v7' v8 v9 { st1 with words := st.words ++ [a0] } := by
  have q7 := owns_same hr.words hb.block
  have q8 := owns_same hr.names hb.block
  have q9 := owns_same hr.places hb.block
  refine ⟨by simpa using hn, owns_other q8 q7 (by decide) hg, owns_other q9 q7 (by decide) hg⟩
theorem flat11 (l : List Ak) (k : Nat) (h : k < l.length) :
    (l.flatMap Ak.list)[k * 11 + 0]? = some (S l[k].name) ∧ (l.flatMap Ak.list)[k * 11 + 1]? = some (B l[k].sh) ∧ (l.flatMap Ak.list)[k * 11 + 2]? = some (.int .i64 l[k].num) ∧ (l.flatMap Ak.list)[k * 11 + 3]? = some (.int .i64 l[k].s) ∧ (l.flatMap Ak.list)[k * 11 + 4]? = some (.int .i64 l[k].t) ∧ (l.flatMap Ak.list)[k * 11 + 5]? = some (.int .i64 l[k].d) ∧ (l.flatMap Ak.list)[k * 11 + 6]? = some (.int .i64 l[k].n) ∧ (l.flatMap Ak.list)[k * 11 + 7]? = some (.int .i64 l[k].raw) ∧ (l.flatMap Ak.list)[k * 11 + 8]? = some (.bool l[k].data) ∧ (l.flatMap Ak.list)[k * 11 + 9]? = some (S l[k].goal) ∧ (l.flatMap Ak.list)[k * 11 + 10]? = some (.int .i64 l[k].line) := by
  induction l generalizing k with
  | nil => simp at h
  | cons x r ih =>
    cases k with
    | zero => simp [Ak.list]
    | succ k =>
      have := ih k (by simpa using h)
      have e : (k + 1) * 11 = k * 11 + 11 := by omega
      rw [e]
      simpa [Ak.list] using this
theorem pass2_step (names : List (List UInt8)) (places : List Nat) (ws : List Ak) (k : Nat) (h : k < ws.length) (out : List UInt8) :
    pass2 names places (ws.drop k) k out = if ws[k].goal ≠ [] ∧ look names places ws[k].goal (-1) < 0 then .error (7, ws[k].line) else pass2 names places (ws.drop (k + 1)) (k + 1) (out ++ bytes4 (wordI names places ws[k] k)) := by
  rw [List.drop_eq_getElem_cons h]; rfl
theorem look_le (names : List (List UInt8)) : ∀ (places : List Nat), (∀ p ∈ places, p ≤ 256) → ∀ (g : List UInt8) (acc : Int), -1 ≤ acc → acc ≤ 256 → -1 ≤ look names places g acc ∧ look names places g acc ≤ 256 := by
  induction names with
  | nil => intro places hp g acc h1 h2; cases places <;> exact ⟨h1, h2⟩
  | cons n ns ih =>
    intro places hp g acc h1 h2
    cases places with
    | nil => exact ⟨h1, h2⟩
    | cons p ps =>
      have hp0 := hp p (by simp)
      unfold look
      split
      · exact ih ps (fun q hq => hp q (by simp [hq])) g p (by omega) (by omega)
      · exact ih ps (fun q hq => hp q (by simp [hq])) g acc h1 h2
theorem tdiv4_bd (x : Int) (h1 : -1000 ≤ x) (h2 : x ≤ 1000) : -1000 ≤ x.tdiv 4 ∧ x.tdiv 4 ≤ 1000 := by
  rcases Int.le_total 0 x with h | h
  · rw [Int.tdiv_eq_ediv_of_nonneg h]; omega
  · obtain ⟨y, rfl⟩ : ∃ y, x = -y := ⟨-x, by omega⟩
    rw [Int.neg_tdiv, Int.tdiv_eq_ediv_of_nonneg (by omega)]; omega
theorem at_bd {names : List (List UInt8)} {places : List Nat} {a : Ak} {k : Nat} (hp : ∀ p ∈ places, p ≤ 256) (hk : k < 64) (hg : ¬ a.goal = []) (h : ¬ (a.goal ≠ [] ∧ look names places a.goal (-1) < 0)) :
    (a.sh = 116 → 0 ≤ numAt names places a k) ∧ -32768 ≤ numAt names places a k ∧ numAt names places a k ≤ 65535 := by
  have hl := look_le names places hp a.goal (-1) (by omega) (by omega)
  have h0 : ¬ look names places a.goal (-1) < 0 := fun c => h ⟨hg, c⟩
  unfold numAt
  rw [if_neg hg]
  split
  · exact ⟨fun _ => by omega, by omega, by omega⟩
  · rename_i hs
    have := tdiv4_bd (look names places a.goal (-1) - 4 * k - 4) (by omega) (by omega)
    exact ⟨fun e => absurd e hs, by omega, by omega⟩
theorem fit_at {names : List (List UInt8)} {places : List Nat} {a : Ak} {k : Nat} (ho : okW a) (hd : a.data = false) (hp : ∀ p ∈ places, p ≤ 256) (hk : k < 64) (h : ¬ (a.goal ≠ [] ∧ look names places a.goal (-1) < 0)) :
    a.sh ∈ shapes ∧ encFit a.sh a.num a.s a.t a.d (numAt names places a k) := by
  rcases ho with ⟨h1, _⟩ | ⟨_, h2, h3, h4, h5, h6, h7, h8, h9, h10, h11, h12⟩
  · rw [hd] at h1; cases h1
  · refine ⟨h2, h3, h5, h6, h7, ?_⟩
    by_cases hg : a.goal = []
    · have e : numAt names places a k = a.n := by unfold numAt; rw [if_pos hg]
      rw [e]
      exact ⟨h8, h9, h10, h11, h4⟩
    · obtain ⟨b1, b2, b3⟩ := at_bd hp hk hg h
      exact ⟨b2, b3, fun e => absurd (h12 e) hg, b1, h4⟩
theorem enc_bd {sh : UInt8} {num : Nat} {s t d n : Int} (hs : sh ∈ shapes) (hf : encFit sh num s t d n) : 0 ≤ encI sh num s t d n ∧ encI sh num s t d n < 4294967296 := by
  obtain ⟨h1, ⟨h2, h2'⟩, ⟨h3, h3'⟩, ⟨h4, h4'⟩, h5, h6, h7, h8, h9⟩ := hf
  simp only [shapes, List.mem_cons, List.mem_nil_iff, or_false] at hs
  rcases hs with rfl | rfl | rfl | rfl | rfl | rfl | rfl | rfl | rfl | rfl | rfl | rfl | rfl | rfl
  all_goals
    try (have g7 := h7 rfl)
    try (have g8 := h8 rfl)
    try (have g9 := h9 rfl)
    clear h7 h8 h9
    simp [encI]
    omega
theorem wordI_bd {names : List (List UInt8)} {places : List Nat} {a : Ak} {k : Nat} (ho : okW a) (hp : ∀ p ∈ places, p ≤ 256) (hk : k < 64) (h : ¬ (a.goal ≠ [] ∧ look names places a.goal (-1) < 0)) :
    0 ≤ wordI names places a k ∧ wordI names places a k < 4294967296 := by
  unfold wordI
  cases hd : a.data
  · obtain ⟨f1, f2⟩ := fit_at ho hd hp hk h
    exact enc_bd f1 f2
  · rcases ho with ⟨_, _, h2, h3⟩ | ⟨h1, _⟩
    · exact ⟨h2, h3⟩
    · rw [hd] at h1; cases h1
theorem and255 (n : Int) : bits .and .i64 n 255 % 256 = n % 256 := by
  have h127 : (BitVec.ofInt 64 255).toNat = 2 ^ 8 - 1 := by decide
  have key : (BitVec.ofInt 64 n &&& BitVec.ofInt 64 255).toNat = (n % ((2 ^ 64 : Nat) : Int)).toNat % 2 ^ 8 := by
    rw [BitVec.toNat_and, BitVec.toNat_ofInt, h127, Nat.and_two_pow_sub_one_eq_mod]
  show IntKind.i64.wrap ((BitVec.ofInt 64 n &&& BitVec.ofInt 64 255).toNat : Nat) % 256 = n % 256
  rw [key, IntKind.wrap_i64]
  omega
theorem byteI_val (n : Int) : ((byteI n).toNat : Int) = n % 256 := by
  unfold byteI
  have h1 : 0 ≤ n % 256 := Int.emod_nonneg _ (by omega)
  have h2 : n % 256 < 256 := Int.emod_lt_of_pos _ (by omega)
  have h3 : (n % 256).toNat < 256 := by omega
  simp [UInt8.toNat_ofNat', Nat.mod_eq_of_lt h3]
  omega
/-- four bytes made a string -/
theorem conv4 (w : World) (wn : Int) :
    (convert 61 9 (.slice (some ⟨w.heap.size, 0, none⟩) 4 4)).run Tryz.prog (w.alloc (.cells #[.int .u8 (bits .and .i64 (wn / 16777216) 255 % 256), .int .u8 (bits .and .i64 (wn / 65536) 255 % 256), .int .u8 (bits .and .i64 (wn / 256) 255 % 256), .int .u8 (bits .and .i64 wn 255 % 256)] 5)) =
      .ok (S (bytes4 wn)) (w.alloc (.cells #[.int .u8 (bits .and .i64 (wn / 16777216) 255 % 256), .int .u8 (bits .and .i64 (wn / 65536) 255 % 256), .int .u8 (bits .and .i64 (wn / 256) 255 % 256), .int .u8 (bits .and .i64 wn 255 % 256)] 5)) := by
  simp only [and255]
  simp only [← byteI_val]
  exact run_convert_bytes_back _ 61 9 5 ⟨w.heap.size, 0, none⟩ 4 (bytes4 wn) Tryz.underlying61 Tryz.underlying5 Tryz.underlying9 (fun j hj => new_cells w ((bytes4 wn).map fun c : UInt8 => Value.int .u8 c.toNat) 5 j _ (by simp [hj]))
theorem two_new (w : World) (a b : Obj) : ((w.alloc a).alloc b).heap[w.heap.size]? = some a ∧ ((w.alloc a).alloc b).heap[w.heap.size + 1]? = some b := by
  have hs : (w.alloc a).heap.size = w.heap.size + 1 := by simp
  refine ⟨?_, by rw [← hs]; exact heap_alloc_new _ _⟩
  rw [Below.heap_alloc _ _ _ (by omega)]
  exact heap_alloc_new _ _
theorem two_below (w : World) (a b : Obj) : Below w.heap.size w ((w.alloc a).alloc b) := ((Below.refl _ _).alloc (Nat.le_refl _) _).alloc (by simp) _
theorem ask_any (x : RL) (hf : fitL x) (vo : Value) (Bs : Nat) (w : World) (ho : w.ownsRow Bs 9 1 vo x.ops.length (x.ops.map S)) :
    Calls Tryz.prog 14 #[.agg #[S x.label, S x.name, vo, .int .i64 x.num]] w fun e w' => ∃ a' e', askS x = (a', e') ∧ e = .returned (.tuple #[.agg #[S a'.name, B a'.sh, .int .i64 a'.num, .int .i64 a'.s, .int .i64 a'.t, .int .i64 a'.d, .int .i64 a'.n, .int .i64 a'.raw, .bool a'.data, S a'.goal, .int .i64 a'.line], .int .i64 e']) ∧ ∀ n, n ≤ w.heap.size → Below n w w' := by
  obtain ⟨f1, f2, f3, f4, f5⟩ := hf
  refine (ask_calls x.label x.name x.ops x.num vo Bs w f3 f4 f2 ho).mono ?_
  rintro e w' ⟨rfl, hb⟩
  exact ⟨_, _, rfl, rfl, fun n hn => hb.mono hn⟩
theorem bcelln {W w1 : World} {n : Nat} (hb : Below n W w1) : (∀ b o, b < n → w1.cell? ⟨b, o, none⟩ = W.cell? ⟨b, o, none⟩) ∧ (∀ b o, b < n → w1.frozen? ⟨b, o, none⟩ = W.frozen? ⟨b, o, none⟩) :=
  ⟨fun b o h => hb.cell (p := ⟨b, o, none⟩) h, fun b o h => hb.frozen (p := ⟨b, o, none⟩) h⟩
set_option maxHeartbeats 8000000 in
set_option maxRecDepth 100000 in
theorem asm_calls (s : List UInt8) (w : World) (hl : s.length ≤ 9223372036854775807) :
    Calls Tryz.prog 5 #[S s] w fun e w' => e = .returned (.tuple #[S (asmS s).1, .int .i64 (asmS s).2.1, .int .i64 (asmS s).2.2]) ∧ Below w.heap.size w w' := by
  by_cases hlong : 2000 < s.length
  · have HV : Hid (asmS s = ([], 1, 0)) := by show _ = _; unfold asmS; rw [if_pos hlong]
    go_enter Tryz.func5, Tryz.ntmps5
    go_wp2_with fail
    go_ret3
    exact ⟨ret3_eq (unhide HV), Below.refl _ _⟩
  · have hs2 : s.length ≤ 2000 := by omega
    have HLF := hide (lines_fit s hs2)
    have HER := hide (asmS_err s)
    have HBD := hide (asmS_bad s)
    have HAS : Hid (∀ st, pass1 (linesGo (rawLines s) 0).1 { words := [], names := [], places := [] } = .ok st → (linesGo (rawLines s) 0).2 = 0 → asmS s = fin2 (pass2 st.names st.places st.words 0 [])) := by
      intro st h hb
      unfold asmS; rw [if_neg hlong, h]; dsimp only; rw [if_neg (by omega)]
    go_enter Tryz.func5, Tryz.ntmps5
    go_wp2_with (go_at_call 13; refine (lines_calls s _ hs2).mono ?_; rintro e w1 ⟨v, rfl, hL, hb1⟩; (generalize hls : linesGo (rawLines s) 0 = lb at *; obtain ⟨ls, bad⟩ := lb; have HLS := hide hls; clear hls))
    rcases lines_shape hL with ⟨rfl, rfl⟩ | ⟨gl, capl, rfl, hgl⟩
    · by_cases hbad : 0 < bad
      · have HV : Hid (asmS s = ([], 3, (bad : Int))) := unhide HBD _ hlong rfl hbad
        go_loopg [7, 8, 9, 10] 1 (fun g v7 v8 v9 iv wx => g = 1 ∧ v7 = .slice none 0 0 ∧ v8 = .slice none 0 0 ∧ v9 = .slice none 0 0 ∧ iv = .int .i64 0 ∧ wx = w1)
        case atStart => exact ⟨rfl, rfl, rfl, rfl, rfl, rfl⟩
        case round =>
          obtain ⟨rfl, rfl, rfl, rfl, rfl, rfl⟩ := hrel
          go_wp2_with fail
          go_ret3
          exact ⟨ret3_eq (unhide HV), hb1⟩
      · have HV : Hid (asmS s = ([], 0, 0)) := unhide HAS { words := [], names := [], places := [] } rfl (by omega)
        go_loopg [7, 8, 9, 10] 1 (fun g v7 v8 v9 iv wx => g = 1 ∧ v7 = .slice none 0 0 ∧ v8 = .slice none 0 0 ∧ v9 = .slice none 0 0 ∧ iv = .int .i64 0 ∧ wx = w1)
        case atStart => exact ⟨rfl, rfl, rfl, rfl, rfl, rfl⟩
        case round =>
          obtain ⟨rfl, rfl, rfl, rfl, rfl, rfl⟩ := hrel
          go_wp2_with fail
          go_loopg [15, 16] 0 (fun g ov iv wx => g = 0 ∧ ov = S [] ∧ iv = .int .i64 0 ∧ wx = wr)
          case atStart => exact ⟨rfl, rfl, rfl, rfl⟩
          case round =>
            obtain ⟨rfl, rfl, rfl, rfl⟩ := hrel
            go_wp2_with fail
            go_ret3
            exact ⟨ret3_eq (unhide HV), hb1⟩
    · have hlsn : ls.length ≤ 2000 := (unhide HLF).2.1
      have hbn : bad ≤ 2000 := (unhide HLF).2.2
      have HL := hide hL
      clear hL
      go_loopg [7, 8, 9, 10] (ls.length + 1) (fun g v7 v8 v9 iv wx => ∃ (k : Nat) (st : St), k ≤ ls.length ∧ g = ls.length + 1 - k ∧ iv = .int .i64 k ∧ st.words.length ≤ 64 ∧ st.names.length ≤ k ∧ st.places.length = st.names.length ∧ Rows3 wx w1.heap.size v7 v8 v9 st ∧ Below w1.heap.size w1 wx ∧ Hid (pass1 ls { words := [], names := [], places := [] } = pass1 (ls.drop k) st) ∧ Hid ((∀ a ∈ st.words, okW a) ∧ (∀ p ∈ st.places, p ≤ 256)))
      case atStart => exact ⟨0, _, by omega, rfl, rfl, by simp, by simp, rfl, Rows3.nil _ _, Below.refl _ _, rfl, by simp, by simp⟩
      case round =>
        obtain ⟨W0, rfl⟩ : ∃ W0, W0 = wr := ⟨_, rfl⟩
        obtain ⟨k, st, hk, rfl, rfl, hwn, hnn, hpn, hrows, hbw, hp1, hoks⟩ := hrel
        by_cases hlt : k < ls.length
        · have HXF := hide ((unhide HLF).1 ls[k] (List.getElem_mem hlt))
          have HST : Hid (pass1 ls { words := [], names := [], places := [] } = match stepL ls[k] st with | .ok st' => pass1 (ls.drop (k + 1)) st' | .error e => .error e) := by show _ = _; rw [unhide hp1, pass1_step ls k hlt st]; rfl
          obtain ⟨vo, c0, c1, c2, c3, hops⟩ := lines_cell (unhide HL) k hlt
          have hx0 : W0.cell? ⟨gl, k * 4, none⟩ = some (S ls[k].label) := (hbw.cell (p := ⟨gl, k * 4, none⟩) hgl).trans c0
          have hx1 : W0.cell? ⟨gl, k * 4 + 1, none⟩ = some (S ls[k].name) := (hbw.cell (p := ⟨gl, k * 4 + 1, none⟩) hgl).trans c1
          have hx2 : W0.cell? ⟨gl, k * 4 + 2, none⟩ = some vo := (hbw.cell (p := ⟨gl, k * 4 + 2, none⟩) hgl).trans c2
          have hx3 : W0.cell? ⟨gl, k * 4 + 3, none⟩ = some (.int .i64 ls[k].num) := (hbw.cell (p := ⟨gl, k * 4 + 3, none⟩) hgl).trans c3
          have HOPS : Hid (W0.ownsRow w.heap.size 9 1 vo ls[k].ops.length (ls[k].ops.map S)) := owns_same hops hbw.block
          obtain ⟨ado, capo, rfl⟩ : ∃ ado capo, vo = .slice ado ls[k].ops.length capo := by
            rcases hops.2 with ⟨e, h0⟩ | ⟨g, cap, cur, e, _⟩
            · exact ⟨none, 0, by rw [e, h0]⟩
            · exact ⟨_, _, e⟩
          generalize hx : ls[k] = x at *
          clear hx c0 c1 c2 c3 hops hp1
          have hW0 : w1.heap.size ≤ W0.heap.size := hbw.size
          obtain ⟨ad7, cap7, rfl, _⟩ := slice_shape hrows.words
          obtain ⟨ad8, cap8, rfl, hsh8⟩ := slice_shape hrows.names
          have HSH8 := hide hsh8
          have HROWS := hide hrows
          clear hsh8
          have hkl : ((k : Int) == (ls.length : Int)) = false := by rw [beq_eq_false_iff_ne]; omega
          clear hrows
          obtain ⟨bn, hbn2⟩ : ∃ bn, x.name.isEmpty = bn := ⟨_, rfl⟩
          obtain ⟨bl, hbl2⟩ : ∃ bl, x.label.isEmpty = bl := ⟨_, rfl⟩
          have HBN : Hid (x.name = [] ↔ bn = true) := by show _ ↔ _; rw [← hbn2]; simp
          have HBL : Hid (x.label = [] ↔ bl = true) := by show _ ↔ _; rw [← hbl2]; simp
          go_upto_if 57 with fail
          go_cut [13] (fun ev w' => ev = .int .i64 (askOr x).2 ∧ w'.heap[W0.heap.size]? = some (.cells #[S x.label, S x.name, .slice ado x.ops.length capo, .int .i64 x.num] 50 (0, 0)) ∧ w'.heap[W0.heap.size + 1]? = some (.cells #[S (askOr x).1.name, B (askOr x).1.sh, .int .i64 (askOr x).1.num, .int .i64 (askOr x).1.s, .int .i64 (askOr x).1.t, .int .i64 (askOr x).1.d, .int .i64 (askOr x).1.n, .int .i64 (askOr x).1.raw, .bool (askOr x).1.data, S (askOr x).1.goal, .int .i64 (askOr x).1.line] 56 (0, 0)) ∧ Below W0.heap.size W0 w')
          case first =>
            cases bn
            case true =>
              have hnm := (unhide HBN).2 rfl
              have HAO : Hid (askOr x = (Ak.zero 0, 0)) := by show _ = _; unfold askOr; rw [if_pos hnm]
              clear hnm
              go_wp2_with fail
              go_meet
              case rel => rw [unhide HAO]; exact ⟨rfl, (two_new _ _ _).1, (two_new _ _ _).2, two_below _ _ _⟩
            case false =>
              have hnm : ¬ x.name = [] := fun h => absurd ((unhide HBN).1 h) (by simp)
              have HAO : Hid (askOr x = askS x) := by show _ = _; unfold askOr; rw [if_neg hnm]
              have HOW := hide (((unhide HOPS).alloc (.cells #[S x.label, S x.name, .slice ado x.ops.length capo, .int .i64 x.num] 50)).alloc (.cells #[.string { data := #[] }, .int .u8 0, .int .i64 0, .int .i64 0, .int .i64 0, .int .i64 0, .int .i64 0, .int .i64 0, .bool false, .string { data := #[] }, .int .i64 0] 56))
              clear hnm
              go_upto_region 16 with fail
              go_wp2_with (go_at_call 14; refine (ask_any x (unhide HXF) _ _ _ (by exact unhide HOW)).mono ?_; rintro e w2 ⟨a', e', hae, rfl, hb2⟩; (have hb3 : Below (W0.heap.size + 1 + 1) ((W0.alloc (.cells #[S x.label, S x.name, .slice ado x.ops.length capo, .int .i64 x.num] 50)).alloc (.cells #[.string { data := #[] }, .int .u8 0, .int .i64 0, .int .i64 0, .int .i64 0, .int .i64 0, .int .i64 0, .int .i64 0, .bool false, .string { data := #[] }, .int .i64 0] 56)) w2 := hb2 _ (by simp); obtain ⟨hc, hf⟩ := bcelln hb3; have HAE := hide hae; have HB2 := hide hb3; clear hae hb2 hb3))
              go_meet
              case rel =>
                rw [unhide HAO, unhide HAE]
                have hb2 := unhide HB2
                have tn := two_new W0 (.cells #[S x.label, S x.name, .slice ado x.ops.length capo, .int .i64 x.num] 50) (.cells #[.string { data := #[] }, .int .u8 0, .int .i64 0, .int .i64 0, .int .i64 0, .int .i64 0, .int .i64 0, .int .i64 0, .bool false, .string { data := #[] }, .int .i64 0] 56)
                have HB : Below W0.heap.size W0 w2 := (two_below _ _ _).trans (hb2.mono (by omega))
                refine ⟨rfl, ?_, set11 (c := #[.string { data := #[] }, .int .u8 0, .int .i64 0, .int .i64 0, .int .i64 0, .int .i64 0, .int .i64 0, .int .i64 0, .bool false, .string { data := #[] }, .int .i64 0]) ((hb2.block _ (by omega)).trans tn.2) rfl _ _ _ _ _ _ _ _ _ _ _, Below.setCell (Below.setCell (Below.setCell (Below.setCell (Below.setCell (Below.setCell (Below.setCell (Below.setCell (Below.setCell (Below.setCell (Below.setCell (HB) (p := ⟨W0.heap.size + 1, 0, none⟩) (by show _ ≤ W0.heap.size + 1; omega) _) (p := ⟨W0.heap.size + 1, 1, none⟩) (by show _ ≤ W0.heap.size + 1; omega) _) (p := ⟨W0.heap.size + 1, 2, none⟩) (by show _ ≤ W0.heap.size + 1; omega) _) (p := ⟨W0.heap.size + 1, 3, none⟩) (by show _ ≤ W0.heap.size + 1; omega) _) (p := ⟨W0.heap.size + 1, 4, none⟩) (by show _ ≤ W0.heap.size + 1; omega) _) (p := ⟨W0.heap.size + 1, 5, none⟩) (by show _ ≤ W0.heap.size + 1; omega) _) (p := ⟨W0.heap.size + 1, 6, none⟩) (by show _ ≤ W0.heap.size + 1; omega) _) (p := ⟨W0.heap.size + 1, 7, none⟩) (by show _ ≤ W0.heap.size + 1; omega) _) (p := ⟨W0.heap.size + 1, 8, none⟩) (by show _ ≤ W0.heap.size + 1; omega) _) (p := ⟨W0.heap.size + 1, 9, none⟩) (by show _ ≤ W0.heap.size + 1; omega) _) (p := ⟨W0.heap.size + 1, 10, none⟩) (by show _ ≤ W0.heap.size + 1; omega) _⟩
                rw [← tn.1, ← hb2.block W0.heap.size (by omega)]
                repeat rw [Below.heap_setCell _ _ _ _ (by simp)]
          case rest =>
            obtain ⟨rfl, hX, hA, hbX⟩ := hcut
            generalize hao : askOr x = ao at *
            obtain ⟨a0, e0⟩ := ao
            dsimp only at hA
            have hxl : wc.cell? ⟨W0.heap.size, 0, none⟩ = some (S x.label) := by simp [World.cell?, hX]
            have hxn : wc.cell? ⟨W0.heap.size, 1, none⟩ = some (S x.name) := by simp [World.cell?, hX]
            have hxN : wc.cell? ⟨W0.heap.size, 3, none⟩ = some (.int .i64 x.num) := by simp [World.cell?, hX]
            have HAO := hide hao
            have HX := hide hX
            have HA := hide hA
            have HBX := hide hbX
            have hwc : W0.heap.size + 1 < wc.heap.size := (Array.getElem?_eq_some_iff.1 hA).1
            clear hao hX hA hbX hx0 hx1 hx2 hx3
            by_cases he3 : e0 = 3
            · subst he3
              have HV : Hid (asmS s = ([], 3, (x.num : Int))) := unhide HER 3 x.num hlong (by rw [unhide HST, stepL_form (unhide HAO)])
              go_wp2_with fail
              go_region
              go_wp2_with fail
              go_ret3
              exact ⟨ret3_eq (unhide HV), (hb1.trans ((hbw.trans ((unhide HBX).mono hW0)).mono hb1.size)).drew⟩
            · have he3b : (e0 == 3) = false := by rw [beq_eq_false_iff_ne]; exact he3
              have HE3 := hide he3
              clear he3
              go_upto_if 70 with fail
              go_cut [8, 9] (fun v8' v9' w' => Rows3 w' w1.heap.size (.slice ad7 st.words.length cap7) v8' v9' (st.label x.label) ∧ w'.heap[W0.heap.size]? = some (.cells #[S x.label, S x.name, .slice ado x.ops.length capo, .int .i64 x.num] 50 (0, 0)) ∧ w'.heap[W0.heap.size + 1]? = some (.cells #[S a0.name, B a0.sh, .int .i64 a0.num, .int .i64 a0.s, .int .i64 a0.t, .int .i64 a0.d, .int .i64 a0.n, .int .i64 a0.raw, .bool a0.data, S a0.goal, .int .i64 a0.line] 56 (0, 0)) ∧ Below w1.heap.size w1 w' ∧ Hid (x.label ≠ [] → x.label ∉ st.names))
              case first =>
                cases bl
                case true =>
                  have HLE := hide ((unhide HBL).2 rfl)
                  go_wp2_with fail
                  go_meet
                  case rel =>
                    refine ⟨?_, unhide HX, unhide HA, hbw.trans ((unhide HBX).mono hW0), fun h => absurd (unhide HLE) h⟩
                    have : st.label x.label = st := by unfold St.label; rw [if_pos (unhide HLE)]
                    rw [this]
                    exact (unhide HROWS).same (unhide HBX).block
                case false =>
                  have HLE : Hid (¬ x.label = []) := fun h => absurd ((unhide HBL).1 h) (by simp)
                  go_upto_block 2 with fail
                  go_cut [14] (fun _ w' => (∃ m, w' = wc.drewN m) ∧ Hid (x.label ∉ st.names))
                  case first =>
                    rcases unhide HSH8 with ⟨rfl, h0⟩ | ⟨g8, rfl, hg8, hcs8⟩
                    · have H0 : Hid (x.label ∉ st.names) := by
                        have : st.names = [] := List.eq_nil_of_length_eq_zero h0
                        show x.label ∉ st.names
                        rw [this]; simp
                      have hz : (st.names.length : Int) < 1 := by omega
                      clear h0
                      go_wp2_with fail
                      go_loopg [14] 0 (fun g iv wx => g = 0 ∧ iv = .int .i64 0 ∧ wx = wc)
                      case atStart => exact ⟨rfl, rfl, rfl⟩
                      case round =>
                        obtain ⟨rfl, rfl, rfl⟩ := hrel
                        go_wp2_with fail
                        go_meet
                        case rel => exact ⟨⟨0, rfl⟩, H0⟩
                    · have HCS := hide hcs8
                      clear hcs8
                      go_wp2_with fail
                      go_loopg [14] st.names.length (fun g iv wx => ∃ j m : Nat, j ≤ st.names.length ∧ g = st.names.length - j ∧ iv = .int .i64 j ∧ wx = wc.drewN m ∧ Hid (∀ i, i < j → ∀ y, st.names[i]? = some y → y ≠ x.label))
                      case atStart => exact ⟨0, 0, by omega, rfl, rfl, rfl, fun i hi => absurd hi (by omega)⟩
                      case round =>
                        obtain ⟨j, m, hj, rfl, rfl, rfl, hno⟩ := hrel
                        by_cases hjl : j < st.names.length
                        · have hcj : wc.cell? ⟨g8, j, none⟩ = some (S st.names[j]) := ((unhide HBX).cell (p := ⟨g8, j, none⟩) hg8).trans (unhide HCS j _ (by simp [hjl]))
                          have HM := hide (List.getElem_mem hjl)
                          have HG : Hid (st.names[j]? = some st.names[j]) := List.getElem?_eq_getElem hjl
                          generalize hy : st.names[j] = y at *
                          clear hy
                          cases hyx : (y == x.label)
                          · go_wp2_with fail
                            go_region
                            go_wp2_with fail
                            go_roundg (st.names.length - (j + 1))
                            case measure => omega
                            case rel =>
                              refine ⟨j + 1, _, by omega, rfl, by go_num, rfl, fun i hi z hz => ?_⟩
                              by_cases e : i = j
                              · subst e
                                rw [unhide HG] at hz
                                cases hz
                                simpa using hyx
                              · exact unhide hno i (by omega) z hz
                          · have HYX : Hid (y = x.label) := by simpa [Hid] using hyx
                            have HV : Hid (asmS s = ([], 5, (x.num : Int))) := unhide HER 5 x.num hlong (by rw [unhide HST, stepL_twice (unhide HAO) (unhide HE3) (unhide HLE) (by rw [← unhide HYX]; exact unhide HM)])
                            go_wp2_with fail
                            go_region
                            go_wp2_with fail
                            go_region
                            go_wp2_with fail
                            go_ret3
                            exact ⟨ret3_eq (unhide HV), (below_drewN (hb1.trans ((hbw.trans ((unhide HBX).mono hW0)).mono hb1.size)) _)⟩
                        · have HNO : Hid (x.label ∉ st.names) := by
                            intro hm
                            obtain ⟨i, hi, e⟩ := List.getElem_of_mem hm
                            exact unhide hno i (by omega) st.names[i] (List.getElem?_eq_getElem hi) e
                          go_wp2_with fail
                          go_meet
                          case rel => exact ⟨⟨m, rfl⟩, HNO⟩
                  case rest =>
                    obtain ⟨⟨m, rfl⟩, hnot⟩ := hcut
                    obtain ⟨iS, hiS, hzS0, hzS1, hzS2⟩ := info_parts infoS
                    obtain ⟨iI, hiI, hzI0, hzI1, hzI2⟩ := info_parts infoI
                    have HI := hide (And.intro hiS (And.intro hzS0 (And.intro hzS1 hzS2)))
                    have HII := hide (And.intro hiI (And.intro hzI0 (And.intro hzI1 hzI2)))
                    clear hiS hzS0 hzS1 hzS2 hiI hzI0 hzI1 hzI2
                    have HSM : Hid (∀ o j, j < W0.heap.size → (wc.alloc o).heap[j]? = W0.heap[j]?) := fun o j hj => (Below.heap_alloc _ _ _ (by omega)).trans ((unhide HBX).block j hj)
                    go_upto_region 25 with fail
                    go_wp2_with (at_builtin; refine wpList_append_own _ rfl (.tmp 86) (.tmp 89) 47 rfl w1.heap.size 9 iS (.string ⟨#[]⟩) 1 16 Tryz.underlying47 (unhide HI).1 (unhide HI).2.1 (unhide HI).2.2.1 (unhide HI).2.2.2 rfl (by decide) _ st.names.length (st.names.map S) rfl (owns_same (unhide HROWS).names (unhide HSM _)) ⟨wc.heap.size, 0, none⟩ 1 1 [S x.label] rfl rfl (new_cells wc [S x.label] 9) ?c2n ?c3n ?c4n ?c5n ?_)
                    case c2n => intro z hz; simp at hz; subst hz; rfl
                    case c3n => unfold maxLen; omega
                    case c4n => omega
                    case c5n => simp; omega
                    intro v8' wA n1 g1 _
                    have HN1 := hide n1
                    have HG1 := hide g1
                    clear n1 g1
                    have hgA : wc.heap.size + 1 ≤ wA.heap.size := by have := (unhide HG1).size; simpa using this
                    have r9 : ((wc.alloc (.cells #[S x.label] 9)).drewN m).ownsRow w1.heap.size 3 1 u9 st.places.length (st.places.map fun p : Nat => Value.int .i64 p) := owns_same (unhide HROWS).places (unhide HSM _)
                    have r8 : ((wc.alloc (.cells #[S x.label] 9)).drewN m).ownsRow w1.heap.size 9 1 (.slice ad8 st.names.length cap8) st.names.length (st.names.map S) := owns_same (unhide HROWS).names (unhide HSM _)
                    have HP9 := hide (owns_other r9 r8 (by decide) (unhide HG1))
                    clear r9 r8
                    go_wp2_with (at_builtin; refine wpList_append_own _ rfl (.tmp 91) (.tmp 95) 48 rfl w1.heap.size 3 iI (.int .i64 0) 1 8 Tryz.underlying48 (unhide HII).1 (unhide HII).2.1 (unhide HII).2.2.1 (unhide HII).2.2.2 rfl (by decide) u9 st.places.length (st.places.map fun p : Nat => Value.int .i64 p) rfl (owns_same (unhide HP9) (fun j hj => Below.heap_alloc _ _ _ hj)) ⟨wA.heap.size, 0, none⟩ 1 1 [.int .i64 (4 * (st.words.length : Int))] rfl rfl (new_cells wA [.int .i64 (4 * (st.words.length : Int))] 3) ?c2p ?c3p ?c4p ?c5p ?_)
                    case c2p => intro z hz; simp at hz; subst hz; rfl
                    case c3p => unfold maxLen; omega
                    case c4p => omega
                    case c5p => simp; omega
                    intro v9' wB n2 g2 _
                    have HF := hide (rows_label (unhide HLE) (unhide HROWS) hW0 (unhide HBX) (unhide HX) (unhide HA) hwc (below_drewN ((Below.refl _ _).alloc (Nat.le_refl _) _) m) (unhide HG1) (unhide HN1) ((Below.refl _ _).alloc (Nat.le_refl _) _) g2 (by rw [hpn]; exact n2))
                    clear n2 g2
                    go_wp2_with fail
                    go_meet
                    case rel => exact ⟨(unhide HF).1, (unhide HF).2.1, (unhide HF).2.2.1, hbw.trans (unhide HF).2.2.2, fun _ => unhide hnot⟩
              case rest =>
                obtain ⟨hrows2, hX2, hA2, hb2, hnot⟩ := hcut
                obtain ⟨w2, rfl⟩ : ∃ w2, w2 = wc := ⟨_, rfl⟩
                clear hxl hxn hxN
                have hxn : w2.cell? ⟨W0.heap.size, 1, none⟩ = some (S x.name) := by simp [World.cell?, hX2]
                have hxN : w2.cell? ⟨W0.heap.size, 3, none⟩ = some (.int .i64 x.num) := by simp [World.cell?, hX2]
                have ha0 : w2.cell? ⟨W0.heap.size + 1, 0, none⟩ = some (S a0.name) := by simp [World.cell?, hA2]
                have ha1 : w2.cell? ⟨W0.heap.size + 1, 1, none⟩ = some (B a0.sh) := by simp [World.cell?, hA2]
                have ha2 : w2.cell? ⟨W0.heap.size + 1, 2, none⟩ = some (.int .i64 a0.num) := by simp [World.cell?, hA2]
                have ha3 : w2.cell? ⟨W0.heap.size + 1, 3, none⟩ = some (.int .i64 a0.s) := by simp [World.cell?, hA2]
                have ha4 : w2.cell? ⟨W0.heap.size + 1, 4, none⟩ = some (.int .i64 a0.t) := by simp [World.cell?, hA2]
                have ha5 : w2.cell? ⟨W0.heap.size + 1, 5, none⟩ = some (.int .i64 a0.d) := by simp [World.cell?, hA2]
                have ha6 : w2.cell? ⟨W0.heap.size + 1, 6, none⟩ = some (.int .i64 a0.n) := by simp [World.cell?, hA2]
                have ha7 : w2.cell? ⟨W0.heap.size + 1, 7, none⟩ = some (.int .i64 a0.raw) := by simp [World.cell?, hA2]
                have ha8 : w2.cell? ⟨W0.heap.size + 1, 8, none⟩ = some (.bool a0.data) := by simp [World.cell?, hA2]
                have ha9 : w2.cell? ⟨W0.heap.size + 1, 9, none⟩ = some (S a0.goal) := by simp [World.cell?, hA2]
                have ha10 : w2.cell? ⟨W0.heap.size + 1, 10, none⟩ = some (.int .i64 a0.line) := by simp [World.cell?, hA2]
                have HR2 := hide hrows2
                have HB2 := hide hb2
                have hw2 : W0.heap.size + 1 < w2.heap.size := (Array.getElem?_eq_some_iff.1 hA2).1
                have HSTL : Hid (st.names.length ≤ (st.label x.label).names.length ∧ (st.label x.label).names.length ≤ st.names.length + 1 ∧ (st.label x.label).places.length = (st.label x.label).names.length ∧ (st.label x.label).words = st.words ∧ (∀ p ∈ (st.label x.label).places, p ≤ 256)) := by
                  show _ ∧ _
                  unfold St.label
                  split
                  · exact ⟨Nat.le_refl _, by omega, hpn, rfl, (unhide hoks).2⟩
                  · refine ⟨by simp, by simp, by simp [hpn], rfl, fun p hp => ?_⟩
                    simp at hp
                    rcases hp with hp | rfl
                    · exact (unhide hoks).2 p hp
                    · omega
                clear hrows2 hX2 hA2 hb2
                generalize hst1 : st.label x.label = st1 at *
                have HS1 := hide hst1
                clear hst1
                cases bn
                case true =>
                  have HV : Hid (pass1 ls { words := [], names := [], places := [] } = pass1 (ls.drop (k + 1)) st1) := by show _ = _; rw [unhide HST, stepL_none (unhide HAO) (unhide HE3) (unhide hnot) ((unhide HBN).2 rfl), unhide HS1]
                  go_wp2_with fail
                  go_roundg (ls.length + 1 - (k + 1))
                  case measure => omega
                  case rel =>
                    obtain ⟨s1, s2, s3, s4, s5⟩ := unhide HSTL
                    exact ⟨k + 1, st1, by omega, rfl, by go_num, by rw [s4]; exact hwn, by omega, s3, unhide HR2, unhide HB2, HV, by rw [s4]; exact (unhide hoks).1, s5⟩
                case false =>
                  have HNM : Hid (¬ x.name = []) := fun h => absurd ((unhide HBN).1 h) (by simp)
                  by_cases he0 : e0 = 0
                  · subst he0
                    by_cases hm : 256 ≤ 4 * st.words.length
                    · have HV : Hid (asmS s = ([], 6, (x.num : Int))) := unhide HER 6 x.num hlong (by rw [unhide HST, stepL_many (unhide HAO) (unhide hnot) (unhide HNM) hm])
                      go_wp2_with fail
                      go_region
                      go_wp2_with fail
                      go_ret3
                      exact ⟨ret3_eq (unhide HV), (hb1.trans ((unhide HB2).mono hb1.size)).drew⟩
                    · have HV : Hid (pass1 ls { words := [], names := [], places := [] } = pass1 (ls.drop (k + 1)) { st1 with words := st.words ++ [a0] }) := by show _ = _; rw [unhide HST, stepL_ok (unhide HAO) (unhide hnot) (unhide HNM) hm, unhide HS1]
                      have HOK : Hid (okW a0) := by
                        have h1 := unhide HAO
                        unfold askOr at h1
                        rw [if_neg (unhide HNM)] at h1
                        have h2 := ask_ok x (by rw [h1])
                        rw [h1] at h2
                        exact h2
                      obtain ⟨iA, hiA, hzA0, hzA1, hzA2⟩ := info_parts infoA
                      have HIA := hide (And.intro hiA (And.intro hzA0 (And.intro hzA1 hzA2)))
                      clear hiA hzA0 hzA1 hzA2
                      have HW7 : Hid (w2.ownsRow w1.heap.size 56 11 (.slice ad7 st.words.length cap7) st.words.length (st.words.flatMap Ak.list)) := by
                        have := (unhide HR2).words
                        rw [(unhide HSTL).2.2.2.1] at this
                        exact this
                      go_wp2_with (at_builtin; refine wpList_append_own _ rfl (.tmp 111) (.tmp 113) 46 rfl w1.heap.size 56 iA (.agg #[.string { data := #[] }, .int .u8 0, .int .i64 0, .int .i64 0, .int .i64 0, .int .i64 0, .int .i64 0, .int .i64 0, .bool false, .string { data := #[] }, .int .i64 0]) 11 104 Tryz.underlying46 (unhide HIA).1 (unhide HIA).2.1 (unhide HIA).2.2.1 (unhide HIA).2.2.2 rfl (by decide) _ st.words.length (st.words.flatMap Ak.list) rfl (owns_same (unhide HW7) (fun j hj => Below.heap_alloc _ _ _ hj)) ⟨w2.heap.size, 0, none⟩ 1 1 a0.list rfl rfl (new_cells w2 a0.list 56) ?c2w ?c3w ?c4w ?c5w ?_)
                      case c2w => intro z hz; simp [Ak.list] at hz; rcases hz with rfl | rfl | rfl | rfl | rfl | rfl | rfl | rfl | rfl | rfl | rfl <;> rfl
                      case c3w => unfold maxLen; omega
                      case c4w => omega
                      case c5w => simp; omega
                      intro v7' wC n7 g7 _
                      have HF := hide (rows_word (unhide HR2) (unhide HSTL).2.2.2.1 ((Below.refl _ _).alloc (Nat.le_refl _) _) g7 n7)
                      have HB3 := hide ((unhide HB2).trans ((Below.alloc (Below.refl _ _) (by omega) _).grown g7 (by simp; omega) (fun j hj => ((unhide HW7).lt j hj).1)))
                      clear n7 g7
                      go_wp2_with fail
                      go_roundg (ls.length + 1 - (k + 1))
                      case measure => omega
                      case rel =>
                        obtain ⟨s1, s2, s3, s4, s5⟩ := unhide HSTL
                        refine ⟨k + 1, { st1 with words := st.words ++ [a0] }, by omega, rfl, by go_num, ?_, ?_, s3, unhide HF, unhide HB3, HV, ?_, s5⟩
                        · simp; omega
                        · dsimp only; omega
                        · intro a ha
                          simp at ha
                          rcases ha with ha | rfl
                          · exact (unhide hoks).1 a ha
                          · exact unhide HOK
                  · have HV : Hid (asmS s = ([], e0, (x.num : Int))) := unhide HER e0 x.num hlong (by rw [unhide HST, stepL_range (unhide HAO) (unhide HE3) (unhide hnot) (unhide HNM) he0])
                    have he0b : (e0 != 0) = true := by rw [bne_iff_ne]; exact he0
                    clear he0
                    go_wp2_with fail
                    go_region
                    go_wp2_with fail
                    go_ret3
                    exact ⟨ret3_eq (unhide HV), (hb1.trans ((unhide HB2).mono hb1.size)).drew⟩
        · obtain rfl : k = ls.length := by omega
          have HP : Hid (pass1 ls { words := [], names := [], places := [] } = .ok st) := by show _ = _; rw [unhide hp1, List.drop_length]; rfl
          have heq : ((ls.length : Int) == (ls.length : Int)) = true := by simp
          by_cases hbad : 0 < bad
          · have HV : Hid (asmS s = ([], 3, (bad : Int))) := unhide HBD _ hlong (unhide HP) hbad
            go_wp2_with fail
            go_ret3
            exact ⟨ret3_eq (unhide HV), hb1.trans (hbw.mono hb1.size)⟩
          · have HV : Hid (asmS s = fin2 (pass2 st.names st.places st.words 0 [])) := unhide HAS st (unhide HP) (by omega)
            clear HER HBD HAS HLF hp1 HP
            have HPN := hide hpn
            have hpl : st.places.length ≤ 2000 := by omega
            clear hpn
            have hW0 : w1.heap.size ≤ W0.heap.size := hbw.size
            obtain ⟨ad7, cap7, rfl, hsh7⟩ := slice_shape hrows.words
            obtain ⟨ad8, cap8, rfl, hsh8⟩ := slice_shape hrows.names
            obtain ⟨ad9, cap9, rfl, hsh9⟩ := slice_shape hrows.places
            have HSH8 := hide hsh8
            have HSH9 := hide hsh9
            clear hsh8 hsh9 hrows
            rcases hsh7 with ⟨rfl, h0⟩ | ⟨g7, rfl, hg7, hcs7⟩
            · have HV2 : Hid (asmS s = ([], 0, 0)) := by
                show _ = _
                have : st.words = [] := List.eq_nil_of_length_eq_zero h0
                rw [unhide HV, this]; rfl
              have hz : (st.words.length : Int) < 1 := by omega
              clear h0
              go_wp2_with fail
              go_loopg [15, 16] 0 (fun g ov iv wx => g = 0 ∧ ov = S [] ∧ iv = .int .i64 0 ∧ wx = W0)
              case atStart => exact ⟨rfl, rfl, rfl, rfl⟩
              case round =>
                obtain ⟨rfl, rfl, rfl, rfl⟩ := hrel
                go_wp2_with fail
                go_ret3
                exact ⟨ret3_eq (unhide HV2), hb1.trans (hbw.mono hb1.size)⟩
            · have HCS7 := hide hcs7
              clear hcs7
              go_wp2_with fail
              go_loopg [15, 16] st.words.length (fun g ov iv wx => ∃ (k : Nat) (out : List UInt8), k ≤ st.words.length ∧ g = st.words.length - k ∧ iv = .int .i64 k ∧ ov = S out ∧ out.length ≤ 4 * k ∧ Below W0.heap.size W0 wx ∧ Hid (pass2 st.names st.places st.words 0 [] = pass2 st.names st.places (st.words.drop k) k out))
              case atStart => exact ⟨0, [], by omega, rfl, rfl, rfl, by simp, Below.refl _ _, rfl⟩
              case round =>
                obtain ⟨k, out, hk2, rfl, rfl, rfl, hol, hbx, hp2⟩ := hrel
                by_cases hkw : k < st.words.length
                · have HAK : Hid (okW st.words[k]) := (unhide hoks).1 _ (List.getElem_mem hkw)
                  have HSP := hide (pass2_step st.names st.places st.words k hkw out)
                  have hcc := fun j u e => (hbx.cell (p := ⟨g7, k * 11 + j, none⟩) hg7).trans (unhide HCS7 (k * 11 + j) u e)
                  obtain ⟨c0, c1, c2, c3, c4, c5, c6, c7, c8, c9, c10⟩ := flat11 st.words k hkw
                  have h0 : wr.cell? ⟨g7, k * 11, none⟩ = _ := hcc 0 _ c0
                  have h1 := hcc 1 _ c1
                  have h2 := hcc 2 _ c2
                  have h3 := hcc 3 _ c3
                  have h4 := hcc 4 _ c4
                  have h5 := hcc 5 _ c5
                  have h6 := hcc 6 _ c6
                  have h7 := hcc 7 _ c7
                  have h8 := hcc 8 _ c8
                  have h9 := hcc 9 _ c9
                  have h10 := hcc 10 _ c10
                  clear c0 c1 c2 c3 c4 c5 c6 c7 c8 c9 c10 hcc
                  generalize ha : st.words[k] = a at *
                  clear ha
                  obtain ⟨bg, hbg⟩ : ∃ bg, a.goal.isEmpty = bg := ⟨_, rfl⟩
                  have HBG : Hid (a.goal = [] ↔ bg = true) := by show _ ↔ _; rw [← hbg]; simp
                  have HBX := hide hbx
                  clear hbx
                  go_upto_if 129 with fail
                  go_cut [19, 20] (fun _ _ w' => (∃ m, w' = (wr.alloc (.cells #[S a.name, B a.sh, .int .i64 a.num, .int .i64 a.s, .int .i64 a.t, .int .i64 a.d, .int .i64 (numAt st.names st.places a k), .int .i64 a.raw, .bool a.data, S a.goal, .int .i64 a.line] 56)).drewN m) ∧ Hid (¬ (a.goal ≠ [] ∧ look st.names st.places a.goal (-1) < 0)))
                  case first =>
                    cases bg
                    case true =>
                      have HGE := hide ((unhide HBG).2 rfl)
                      have HNA : Hid (numAt st.names st.places a k = a.n) := by show _ = _; unfold numAt; rw [if_pos (unhide HGE)]
                      go_wp2_with fail
                      go_meet
                      case rel => exact ⟨⟨0, by rw [unhide HNA]; rfl⟩, fun h => h.1 (unhide HGE)⟩
                    case false =>
                      have HGE : Hid (¬ a.goal = []) := fun h => absurd ((unhide HBG).1 h) (by simp)
                      go_upto_block 6 with fail
                      go_cut [19, 20] (fun av _ w' => av = .int .i64 (look st.names st.places a.goal (-1)) ∧ ∃ m, w' = (wr.alloc (.cells #[S a.name, B a.sh, .int .i64 a.num, .int .i64 a.s, .int .i64 a.t, .int .i64 a.d, .int .i64 a.n, .int .i64 a.raw, .bool a.data, S a.goal, .int .i64 a.line] 56)).drewN m)
                      case first =>
                        rcases unhide HSH8 with ⟨rfl, h8n⟩ | ⟨g8, rfl, hg8, hcs8⟩
                        · have HLK : Hid (look st.names st.places a.goal (-1) = -1) := by
                            have : st.names = [] := List.eq_nil_of_length_eq_zero h8n
                            show _ = _
                            rw [this]; rfl
                          have hz : (st.names.length : Int) < 1 := by omega
                          clear h8n
                          go_wp2_with fail
                          go_loopg [19, 20] 0 (fun g av iv wx => g = 0 ∧ av = .int .i64 (-1) ∧ iv = .int .i64 0 ∧ wx = wr.alloc (.cells #[S a.name, B a.sh, .int .i64 a.num, .int .i64 a.s, .int .i64 a.t, .int .i64 a.d, .int .i64 a.n, .int .i64 a.raw, .bool a.data, S a.goal, .int .i64 a.line] 56))
                          case atStart => exact ⟨rfl, rfl, rfl, rfl⟩
                          case round =>
                            obtain ⟨rfl, rfl, rfl, rfl⟩ := hrel
                            go_wp2_with fail
                            go_meet
                            case rel => exact ⟨by rw [unhide HLK], 0, rfl⟩
                        · rcases unhide HSH9 with ⟨rfl, h9n⟩ | ⟨g9, rfl, hg9, hcs9⟩
                          · have HLK : Hid (look st.names st.places a.goal (-1) = -1) := by
                              have h1 : st.places = [] := List.eq_nil_of_length_eq_zero h9n
                              have h2 : st.names = [] := List.eq_nil_of_length_eq_zero (by have := unhide HPN; omega)
                              show _ = _
                              rw [h1, h2]; rfl
                            have hz : (st.names.length : Int) < 1 := by have := unhide HPN; omega
                            clear h9n
                            go_wp2_with fail
                            go_loopg [19, 20] 0 (fun g av iv wx => g = 0 ∧ av = .int .i64 (-1) ∧ iv = .int .i64 0 ∧ wx = wr.alloc (.cells #[S a.name, B a.sh, .int .i64 a.num, .int .i64 a.s, .int .i64 a.t, .int .i64 a.d, .int .i64 a.n, .int .i64 a.raw, .bool a.data, S a.goal, .int .i64 a.line] 56))
                            case atStart => exact ⟨rfl, rfl, rfl, rfl⟩
                            case round =>
                              obtain ⟨rfl, rfl, rfl, rfl⟩ := hrel
                              go_wp2_with fail
                              go_meet
                              case rel => exact ⟨by rw [unhide HLK], 0, rfl⟩
                          · have HC8 := hide hcs8
                            have HC9 := hide hcs9
                            have hws : W0.heap.size ≤ wr.heap.size := (unhide HBX).size
                            clear hcs8 hcs9
                            go_wp2_with fail
                            go_loopg [19, 20] st.names.length (fun g av iv wx => ∃ (j m : Nat) (acc : Int), j ≤ st.names.length ∧ g = st.names.length - j ∧ iv = .int .i64 j ∧ av = .int .i64 acc ∧ wx = (wr.alloc (.cells #[S a.name, B a.sh, .int .i64 a.num, .int .i64 a.s, .int .i64 a.t, .int .i64 a.d, .int .i64 a.n, .int .i64 a.raw, .bool a.data, S a.goal, .int .i64 a.line] 56)).drewN m ∧ Hid (look st.names st.places a.goal (-1) = look (st.names.drop j) (st.places.drop j) a.goal acc))
                            case atStart => exact ⟨0, 0, -1, by omega, rfl, rfl, rfl, rfl, rfl⟩
                            case round =>
                              obtain ⟨j, m, acc, hj, rfl, rfl, rfl, rfl, hlk⟩ := hrel
                              by_cases hjl : j < st.names.length
                              · have hjp : j < st.places.length := by have := unhide HPN; omega
                                have hc8 : ∀ o, (wr.alloc o).cell? ⟨g8, j, none⟩ = some (S st.names[j]) := fun o => (World.cell?_alloc_past _ _ _ (by omega)).trans (((unhide HBX).cell (p := ⟨g8, j, none⟩) hg8).trans (unhide HC8 j _ (by simp [hjl])))
                                have hc9 : ∀ o, (wr.alloc o).cell? ⟨g9, j, none⟩ = some (.int .i64 (st.places[j] : Nat)) := fun o => (World.cell?_alloc_past _ _ _ (by omega)).trans (((unhide HBX).cell (p := ⟨g9, j, none⟩) hg9).trans (unhide HC9 j _ (by simp [hjp])))
                                have HLS2 : Hid (look (st.names.drop j) (st.places.drop j) a.goal acc = look (st.names.drop (j + 1)) (st.places.drop (j + 1)) a.goal (if st.names[j] = a.goal then (st.places[j] : Int) else acc)) := by
                                  show _ = _
                                  rw [List.drop_eq_getElem_cons hjl, List.drop_eq_getElem_cons hjp]; rfl
                                generalize hy : st.names[j] = y at *
                                generalize hpj : st.places[j] = pj at *
                                clear hy hpj
                                cases hyx : (y == a.goal)
                                · have HL3 : Hid (look st.names st.places a.goal (-1) = look (st.names.drop (j + 1)) (st.places.drop (j + 1)) a.goal acc) := by show _ = _; rw [unhide hlk, unhide HLS2, if_neg (by simpa using hyx)]
                                  go_wp2_with fail
                                  go_region
                                  go_wp2_with fail
                                  go_roundg (st.names.length - (j + 1))
                                  case measure => omega
                                  case rel => exact ⟨j + 1, _, acc, by omega, rfl, by go_num, rfl, rfl, HL3⟩
                                · have HL3 : Hid (look st.names st.places a.goal (-1) = look (st.names.drop (j + 1)) (st.places.drop (j + 1)) a.goal (pj : Int)) := by show _ = _; rw [unhide hlk, unhide HLS2, if_pos (by simpa using hyx)]
                                  go_wp2_with fail
                                  go_region
                                  go_wp2_with fail
                                  go_roundg (st.names.length - (j + 1))
                                  case measure => omega
                                  case rel => exact ⟨j + 1, _, pj, by omega, rfl, by go_num, rfl, rfl, HL3⟩
                              · have HL3 : Hid (look st.names st.places a.goal (-1) = acc) := by show _ = _; rw [unhide hlk, List.drop_eq_nil_of_le (by omega)]; rfl
                                go_wp2_with fail
                                go_meet
                                case rel => exact ⟨by rw [unhide HL3], m, rfl⟩
                      case rest =>
                        obtain ⟨rfl, m, rfl⟩ := hcut
                        have HLB := hide (look_le st.names st.places (unhide hoks).2 a.goal (-1) (by omega) (by omega))
                        generalize hlk : look st.names st.places a.goal (-1) = lk at *
                        have HLK := hide hlk
                        clear hlk
                        have hlk1 : -1 ≤ lk := (unhide HLB).1
                        have hlk2 : lk ≤ 256 := (unhide HLB).2
                        by_cases hneg : lk < 0
                        · have HV2 : Hid (asmS s = ([], 7, a.line)) := by
                            show _ = _
                            rw [unhide HV, unhide hp2, unhide HSP, if_pos ⟨unhide HGE, hneg⟩]; rfl
                          go_wp2_with fail
                          go_region
                          go_wp2_with fail
                          go_ret3
                          exact ⟨ret3_eq (unhide HV2), below_drewN ((hb1.trans ((hbw.trans ((unhide HBX).mono hW0)).mono hb1.size)).alloc (by have := (unhide HBX).size; have := hb1.size; omega) _) _⟩
                        · have hsb := byte_eq a.sh 116 116 rfl
                          cases hst : (a.sh == 116)
                          all_goals
                            rw [hst] at hsb
                            have hsb' : (((a.sh.toNat : Int)) != 116) = _ := congrArg not hsb
                            have HST2 := hide hst
                            clear hst
                          · have HNA : Hid (numAt st.names st.places a k = (lk - 4 * k - 4).tdiv 4) := by
                              show _ = _
                              unfold numAt
                              rw [if_neg (unhide HGE), if_neg (by simpa using unhide HST2), unhide HLK]
                            go_wp2_with fail
                            go_meet
                            case rel => exact ⟨⟨_, by rw [unhide HNA]⟩, fun h => absurd h.2 (by omega)⟩
                          · have HNA : Hid (numAt st.names st.places a k = lk) := by
                              show _ = _
                              unfold numAt
                              rw [if_neg (unhide HGE), if_pos (by simpa using unhide HST2), unhide HLK]
                            go_wp2_with fail
                            go_meet
                            case rel => exact ⟨⟨_, by rw [unhide HNA]⟩, fun h => absurd h.2 (by omega)⟩
                  case rest =>
                    obtain ⟨⟨m, rfl⟩, hnerr⟩ := hcut
                    have HWB := hide (wordI_bd (unhide HAK) (unhide hoks).2 (by omega) (unhide hnerr) : 0 ≤ wordI st.names st.places a k ∧ wordI st.names st.places a k < 4294967296)
                    go_upto_if 169 with fail
                    go_cut [18] (fun nv w' => nv = .int .i64 (wordI st.names st.places a k) ∧ Below wr.heap.size wr w')
                    case first =>
                      cases hd : a.data
                      · have HFT := hide (fit_at (names := st.names) (k := k) (unhide HAK) hd (unhide hoks).2 (by omega) (unhide hnerr))
                        have HWI : Hid (wordI st.names st.places a k = encI a.sh a.num a.s a.t a.d (numAt st.names st.places a k)) := by show _ = _; unfold wordI; rw [hd]; rfl
                        have hm : m = m := rfl
                        go_wp2_with (go_at_call 15; refine (encode_calls a.name a.sh (unhide HFT).1 a.num a.s a.t a.d (numAt st.names st.places a k) _ (unhide HFT).2).mono ?_; rintro e w2 ⟨rfl, hb2⟩; have HB2 := hide hb2; clear hb2)
                        go_meet
                        case rel => exact ⟨by rw [unhide HWI], (below_drewN ((Below.refl _ _).alloc (Nat.le_refl _) _) _).trans ((unhide HB2).mono (by simp))⟩
                      · have HWI : Hid (wordI st.names st.places a k = a.raw) := by show _ = _; unfold wordI; rw [hd]; rfl
                        go_wp2_with fail
                        go_meet
                        case rel => exact ⟨by rw [unhide HWI], below_drewN ((Below.refl _ _).alloc (Nat.le_refl _) _) _⟩
                    case rest =>
                      obtain ⟨rfl, hbw2⟩ := hcut
                      have HP3 : Hid (pass2 st.names st.places st.words 0 [] = pass2 st.names st.places (st.words.drop (k + 1)) (k + 1) (out ++ bytes4 (wordI st.names st.places a k))) := by show _ = _; rw [unhide hp2, unhide HSP, if_neg (unhide hnerr)]
                      generalize hwn : wordI st.names st.places a k = wn at *
                      clear hwn h0 h1 h2 h3 h4 h5 h6 h7 h8 h9 h10
                      have hwn0 : 0 ≤ wn := (unhide HWB).1
                      have hwn1 : wn < 4294967296 := (unhide HWB).2
                      have hcv := conv4 wc wn
                      have hsz : (⟨out.toArray⟩ : ByteArray).size + (⟨(bytes4 wn).toArray⟩ : ByteArray).size ≤ 9223372036854775807 := by simp [ByteArray.size, bytes4]; omega
                      go_wp2_with fail
                      go_roundg (st.words.length - (k + 1))
                      case measure => omega
                      case rel =>
                        refine ⟨k + 1, out ++ bytes4 wn, by omega, rfl, by go_num, ?_, by simp [bytes4]; omega, ?_, HP3⟩
                        · exact str_eq (by simp)
                        · exact ((unhide HBX).trans (hbw2.mono (unhide HBX).size)).alloc (by have := (unhide HBX).size; have := hbw2.size; omega) _
                · have HV2 : Hid (asmS s = (out, 0, 0)) := by
                    show _ = _
                    rw [unhide HV, unhide hp2, List.drop_eq_nil_of_le (by omega)]; rfl
                  go_wp2_with fail
                  go_ret3
                  exact ⟨ret3_eq (unhide HV2), hb1.trans ((hbw.trans (hbx.mono hW0)).mono hb1.size)⟩
end Go.Proofs.YtnbhpmncppohaaaGreatDoor.Mill
