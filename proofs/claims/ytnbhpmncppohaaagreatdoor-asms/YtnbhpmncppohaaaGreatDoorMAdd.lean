import Derived.Test.YtnbhpmncppohaaaGreatDoorMImg
import Derived.Test.YtnbhpmncppohaaaGreatDoorMLate
namespace Go.Proofs.YtnbhpmncppohaaaGreatDoor.Mill
open Go.RowKit

/-- append to a row of the call's own, as one step of a region that draws -/
theorem step_append_own {P : Program} {ops : Array Oper} {o : Oper} {a : Act} {w : World} {K : Act → World → Prop} {Q : Exit → Act → World → Prop} {E : Prop}
    (hg : o.guard = none) (s x : Operand) (t : TypeId) (hop : o.op = Op.call { callee := Callee.builtin Builtin.append, args := #[s, x], argTypes := #[t, t] })
    (B : Nat) (e : TypeId) (i : TypeInfo) (z : Value) (size bytes : Nat) (h1 : P.underlying t = some (.slice e)) (h2 : P.info? e = some i) (h3 : i.zero = some z) (h4 : i.size = size) (h5 : i.bytes = bytes) (h6 : z.cells.size = size) (h7 : 0 < size)
    (v : Value) (n : Nat) (xs : List Value) (hs : a.eval s = v) (hown : w.ownsRow B e size v n xs)
    (ad : Addr) (m c : Nat) (news : List Value) (hx : a.eval x = .slice (some ad) m c) (hn : news.length = m * size) (hc : ∀ j u, news[j]? = some u → w.cell? (ad.add j) = some u) (h1c : ∀ u ∈ news, u.oneCell' = true)
    (b1 : n + m ≤ maxLen) (b2 : (n + m) * bytes ≤ 140737488355328) (hB : B ≤ w.heap.size)
    (hK : ∀ v' w', w'.ownsRow B e size v' (n + m) (xs ++ news) → w.grownBy w' v.ownBlock → K (a.put o.dst v') w') :
    if Region.wanted o (yielded ops a.tmps) = true then Oper.wp P o a w K Q else E := by
  have hw : Region.wanted o (yielded ops a.tmps) = true := by simp [Region.wanted, hg]
  rw [if_pos hw]
  obtain ⟨v', w', hrun, r1, r2, _⟩ := run_append_own (P := P) w B t o.type e i z size bytes h1 h2 h3 h4 h5 h6 h7 v n xs hown ad m c news hn hc h1c b1 b2 hB
  have := hK v' w' r1 r2
  unfold Oper.wp
  simp [execOp, hop, resolve, invoke, builtin, hs, hx, hrun, Result.andThen]
  exact this

theorem infoU : (Tryz.prog.info? 66).map (fun i => (i.zero, i.size, i.bytes)) = some (some (.int .u32 0), 1, 4) := by kernel_rfl
theorem own_ne {w : World} {B : Nat} {e t : TypeId} {size : Nat} {v : Value} {n : Nat} {xs : List Value} {g : Nat} {cs : Array Value} (h : w.ownsRow B e size v n xs) (hg : w.heap[g]? = some (.cells cs t)) (hne : e ≠ t) : some g ≠ v.ownBlock := by
  rcases h.2 with ⟨rfl, _⟩ | ⟨g', cap, cur, rfl, _, hgg, _⟩
  · simp [Value.ownBlock]
  · simp only [Value.ownBlock, ne_eq, Option.some.injEq]
    rintro rfl
    rw [hg] at hgg
    simp at hgg
    exact hne hgg.2.symm
theorem own_ne_map {w : World} {B : Nat} {e : TypeId} {size : Nat} {v : Value} {n : Nat} {xs : List Value} {g c : Nat} {es : Array MapEntry} (h : w.ownsRow B e size v n xs) (hg : w.heap[g]? = some (.map es c)) : some g ≠ v.ownBlock := by
  rcases h.2 with ⟨rfl, _⟩ | ⟨g', cap, cur, rfl, _, hgg, _⟩
  · simp [Value.ownBlock]
  · simp only [Value.ownBlock, ne_eq, Option.some.injEq]
    rintro rfl
    rw [hg] at hgg
    cases hgg
/-- the row of words has grown, and is stored -/
theorem asm_words {es : Array MapEntry} {w w' : World} {B ga rn rl : Nat} {vw vo v' : Value} {st : PSt} {line : Int} {x : Int} (h : AsmAt es w B ga rn rl vw vo st line) (hg : w.grownBy w' vw.ownBlock)
    (hn : w'.ownsRow B 66 1 v' (st.words.length + 1) ((st.words.map fun x => Value.int .u32 x) ++ [.int .u32 x])) :
    AsmAt es (w'.setCell ⟨ga, 2, none⟩ v') B ga rn rl v' vo { st with words := st.words ++ [x] } line ∧ Kept B ga rl w (w'.setCell ⟨ga, 2, none⟩ v') := by
  have l1 := (Array.getElem?_eq_some_iff.1 h.blk).1
  have l2 := (Array.getElem?_eq_some_iff.1 h.lab).1
  have l3 := (Array.getElem?_eq_some_iff.1 h.nam).1
  have k1 := (hg.block ga l1 (own_ne h.words h.blk (by decide))).trans h.blk
  have k2 := (hg.block rl l2 (own_ne_map h.words h.lab)).trans h.lab
  have k3 := (hg.block rn l3 (own_ne_map h.words h.nam)).trans h.nam
  have n1 : rl ≠ ga := fun e => by have := h.lab; rw [e, h.blk] at this; cases this
  have n2 : rn ≠ ga := fun e => by have := h.nam; rw [e, h.blk] at this; cases this
  refine ⟨⟨heap_setCell_same _ ga 2 _ _ _ k1, (heap_setCell_other _ ⟨ga, 2, none⟩ rl _ n1).trans k2, (heap_setCell_other _ ⟨ga, 2, none⟩ rn _ n2).trans k3, ?_, owns_set (owns_other h.opens h.words (by decide) hg) k1 (by decide) 2 _, h.ne, h.lo⟩, ?_, ?_⟩
  · have := owns_set hn k1 (by decide) 2 v'
    simpa using this
  · have hb : Below B w w' := (Below.refl _ _).grown hg h.base (fun k hk => (h.words.lt k hk).1)
    exact hb.setCell (p := ⟨ga, 2, none⟩) h.lo.1 v'
  · intro k hk q1 q2 q3 q4
    have hne : some k ≠ vw.ownBlock := by
      rcases h.words.2 with ⟨e, _⟩ | ⟨g', cap, cur, e, _, hgg, _⟩
      · rw [e]; simp [Value.ownBlock]
      · rw [e]
        simp only [Value.ownBlock, ne_eq, Option.some.injEq]
        rintro rfl
        exact q3 _ _ hgg
    exact (heap_setCell_other _ ⟨ga, 2, none⟩ k _ q1).trans (hg.block k hk hne)

theorem infoO : (Tryz.prog.info? 75).map (fun i => (i.zero, i.size, i.bytes)) = some (some (.agg #[.int .i64 0, .int .i64 0, .nilIface, .string ⟨#[]⟩]), 4, 48) := by kernel_rfl
/-- the row of open words has grown, and is stored -/
theorem asm_opens {es : Array MapEntry} {w w' : World} {B ga rn rl : Nat} {vw vo v' : Value} {st : PSt} {line : Int} {o : Op4} (h : AsmAt es w B ga rn rl vw vo st line) (hg : w.grownBy w' vo.ownBlock)
    (hn : w'.ownsRow B 75 4 v' (st.opens.length + 1) (st.opens.flatMap Op4.list ++ o.list)) :
    AsmAt es (w'.setCell ⟨ga, 3, none⟩ v') B ga rn rl vw v' { st with opens := st.opens ++ [o] } line ∧ Kept B ga rl w (w'.setCell ⟨ga, 3, none⟩ v') := by
  have l1 := (Array.getElem?_eq_some_iff.1 h.blk).1
  have l2 := (Array.getElem?_eq_some_iff.1 h.lab).1
  have l3 := (Array.getElem?_eq_some_iff.1 h.nam).1
  have k1 := (hg.block ga l1 (own_ne h.opens h.blk (by decide))).trans h.blk
  have k2 := (hg.block rl l2 (own_ne_map h.opens h.lab)).trans h.lab
  have k3 := (hg.block rn l3 (own_ne_map h.opens h.nam)).trans h.nam
  have n1 : rl ≠ ga := fun e => by have := h.lab; rw [e, h.blk] at this; cases this
  have n2 : rn ≠ ga := fun e => by have := h.nam; rw [e, h.blk] at this; cases this
  refine ⟨⟨heap_setCell_same _ ga 3 _ _ _ k1, (heap_setCell_other _ ⟨ga, 3, none⟩ rl _ n1).trans k2, (heap_setCell_other _ ⟨ga, 3, none⟩ rn _ n2).trans k3, owns_set (owns_other h.words h.opens (by decide) hg) k1 (by decide) 3 _, ?_, h.ne, h.lo⟩, ?_, ?_⟩
  · have := owns_set hn k1 (by decide) 3 v'
    simpa using this
  · have hb : Below B w w' := (Below.refl _ _).grown hg h.base (fun k hk => (h.opens.lt k hk).1)
    exact hb.setCell (p := ⟨ga, 3, none⟩) h.lo.1 v'
  · intro k hk q1 q2 q3 q4
    have hne : some k ≠ vo.ownBlock := by
      rcases h.opens.2 with ⟨e, _⟩ | ⟨g', cap, cur, e, _, hgg, _⟩
      · rw [e]; simp [Value.ownBlock]
      · rw [e]
        simp only [Value.ownBlock, ne_eq, Option.some.injEq]
        rintro rfl
        exact q4 _ _ hgg
    exact (heap_setCell_other _ ⟨ga, 3, none⟩ k _ q1).trans (hg.block k hk hne)

/-- what the statement on open words reads -/
def OpenS (ga b : Nat) (vo vw : Value) (line : Nat) (sh : Value) (gl : List UInt8) (w' : World) : Prop :=
  w'.cell? ⟨ga, 3, none⟩ = some vo ∧ w'.cell? ⟨ga, 2, none⟩ = some vw ∧ w'.cell? ⟨ga, 4, none⟩ = some (.int .i64 line) ∧ w'.cell? ⟨b, 3, none⟩ = some sh ∧ w'.cell? ⟨b, 9, none⟩ = some (S gl)
/-- what addWord's last statement reads: the row of words, and the statement's parts in its box -/
def AddS (ga b : Nat) (vw : Value) (wd n : Int) (f : Fd) (w' : World) : Prop :=
  w'.cell? ⟨ga, 2, none⟩ = some vw ∧ w'.cell? ⟨b, 2, none⟩ = some (.int .u32 wd) ∧ w'.cell? ⟨b, 4, none⟩ = some (.int .i64 n) ∧ w'.cell? ⟨b, 5, none⟩ = some (.int .i64 f.lo) ∧ w'.cell? ⟨b, 6, none⟩ = some (.int .i64 f.wi) ∧ w'.cell? ⟨b, 7, none⟩ = some (.int .i64 f.least) ∧ w'.cell? ⟨b, 8, none⟩ = some (.int .i64 f.most)

set_option maxHeartbeats 1000000 in
theorem put00 (le mo n : Int) (w : World) :
    Calls Tryz.prog 45 #[.agg #[.int .i64 0, .int .i64 0, .int .i64 le, .int .i64 mo], .int .i64 n] w fun e w' => e = .returned (.int .u32 0) ∧ Below w.heap.size w w' := by
  have HB := hide (bits_calls 0 0 0 le mo (.inr (.inr (.inr (.inr (.inr (.inr ⟨rfl, rfl, rfl⟩)))))))
  have hz : ∀ x, bits .and .u32 x 0 = 0 := fun x => by simp [bits]; decide
  go_enter Tryz.func45, Tryz.ntmps45
  go_wp2_with fail
  go_region_with (go_at_call 57; refine (unhide HB _).mono ?_; rintro e w' ⟨rfl, m, rfl⟩)
  all_goals go_wp2_with fail
  all_goals go_ret
  all_goals exact ⟨rfl, below_drewN (((Below.refl _ _).alloc (Nat.le_refl _) _).alloc (by simp) _) _⟩
theorem putF_calls (f : Fd) (hf : FdOk f) (n : Int) (w : World) :
    Calls Tryz.prog 45 #[.agg #[.int .i64 f.lo, .int .i64 f.wi, .int .i64 f.least, .int .i64 f.most], .int .i64 n] w fun e w' => e = .returned (.int .u32 (putF f n)) ∧ Below w.heap.size w w' := by
  unfold putF
  rcases hf with ⟨h1, h2⟩ | ⟨h1, h2⟩ | ⟨h1, h2⟩ | ⟨h1, h2⟩
  · rw [h1, h2, if_pos rfl]; exact put6 _ _ _ _
  · rw [h1, h2, if_neg (by decide), if_pos rfl]; exact put0 _ _ _ _
  · rw [h1, h2, if_neg (by decide), if_neg (by decide), if_pos rfl]; exact put32 _ _ _ _
  · rw [h1, h2, if_neg (by decide), if_neg (by decide), if_neg (by decide)]; exact put00 _ _ _ _

-- WALKS
set_option maxHeartbeats 4000000 in
set_option maxRecDepth 100000 in
theorem addWord_pn (es : Array MapEntry) (lb : List UInt8) (has : Bool) (wd n : Int) (f : Fd) (B ga rn rl : Nat) (vw vo : Value) (st : PSt) (line : Nat) (w : World) (h : AsmAt es w B ga rn rl vw vo st line) (hw : st.words.length < 64) (hf : FdOk f) :
    Calls Tryz.prog 31 #[.pointer (some ⟨ga, 0, none⟩), .agg #[S lb, .bool has, .int .u32 wd, .nilIface, .int .i64 n, .int .i64 f.lo, .int .i64 f.wi, .int .i64 f.least, .int .i64 f.most, S []]] w fun e w' => AsmMakes es B ga rn rl line (.ok { st with words := st.words ++ [bits .or .u32 wd (putF f n)] }) w e w' := by
  have hcw0 := cell_row h.blk 2 _ rfl
  obtain ⟨ad, cap, rfl, _⟩ := slice_shape h.words
  obtain ⟨ado, capo, rfl, _⟩ := slice_shape h.opens
  have h64 : ((st.words.length : Int) == 64) = false := by rw [beq_eq_false_iff_ne]; omega
  obtain ⟨iU, hi0, hi1, hi2, hi3⟩ := info_parts infoU
  have HI := hide (And.intro hi0 (And.intro hi1 (And.intro hi2 hi3)))
  clear hi0 hi1 hi2 hi3
  have hA0 : AsmAt es (w.alloc (.cells #[S lb, .bool has, .int .u32 wd, .nilIface, .int .i64 n, .int .i64 f.lo, .int .i64 f.wi, .int .i64 f.least, .int .i64 f.most, S []] 72)) B ga rn rl (.slice ad st.words.length cap) (.slice ado st.opens.length capo) st line := h.keep ((Below.refl _ _).alloc (Nat.le_refl _) _)
  have hbox0 := heap_alloc_new w (.cells #[S lb, .bool has, .int .u32 wd, .nilIface, .int .i64 n, .int .i64 f.lo, .int .i64 f.wi, .int .i64 f.least, .int .i64 f.most, S []] 72)
  have HK0 : Hid (Kept B ga rl w (w.alloc (.cells #[S lb, .bool has, .int .u32 wd, .nilIface, .int .i64 n, .int .i64 f.lo, .int .i64 f.wi, .int .i64 f.least, .int .i64 f.most, S []] 72))) := Kept.of h.base ((Below.refl _ _).alloc (Nat.le_refl _) _)
  have hlt : ga < w.heap.size := (Array.getElem?_eq_some_iff.1 h.blk).1
  obtain ⟨b, hb⟩ : ∃ b, b = w.heap.size := ⟨_, rfl⟩
  have HA0 := hide hA0
  have HBOX := hide hbox0
  clear h hA0 hbox0
  go_enter Tryz.func31, Tryz.ntmps31
  go_wp2_with fail
  have hA0 := unhide HA0
  have hbox0 := unhide HBOX
  rw [← hb] at hbox0 ⊢
  clear HA0 HBOX
  generalize w.alloc (.cells #[S lb, .bool has, .int .u32 wd, .nilIface, .int .i64 n, .int .i64 f.lo, .int .i64 f.wi, .int .i64 f.least, .int .i64 f.most, S []] 72) = W0 at *
  clear hb
  have hb0 : b < W0.heap.size := (Array.getElem?_eq_some_iff.1 hbox0).1
  have hg0 : ga < W0.heap.size := (Array.getElem?_eq_some_iff.1 hA0.blk).1
  have HS : AddS ga b (.slice ad st.words.length cap) wd n f W0.drew := ⟨cell_row hA0.blk 2 _ rfl, cell_row hbox0 2 _ rfl, cell_row hbox0 4 _ rfl, cell_row hbox0 5 _ rfl, cell_row hbox0 6 _ rfl, cell_row hbox0 7 _ rfl, cell_row hbox0 8 _ rfl⟩
  refine till_begin 15 (AddS ga b (.slice ad st.words.length cap) wd n f) (by kernel_rfl) ?_
  refine till_take (i := 0) (v := ?_) rfl (by kernel_rfl) (by kernel_rfl) (by kernel_rfl) (by kernel_rfl) (fun _ _ _ h => h) (Or.inl ⟨by rfl, ?_⟩) HS ?_
  rotate_left
  · intro w' hSw
    obtain ⟨s1, s2, s3, s4, s5, s6, s7⟩ := hSw
    go_simp
    try rfl
  simp only [Act.put, List.setIfInBounds_toArray, List.set_cons_zero, List.set_cons_succ, List.getElem_toArray, List.getElem_cons_zero]
  refine till_take (i := 1) (v := ?_) rfl (by kernel_rfl) (by kernel_rfl) (by kernel_rfl) (by kernel_rfl) (fun _ _ _ h => h) (Or.inl ⟨by rfl, ?_⟩) HS ?_
  rotate_left
  · intro w' hSw
    obtain ⟨s1, s2, s3, s4, s5, s6, s7⟩ := hSw
    go_simp
    try rfl
  simp only [Act.put, List.setIfInBounds_toArray, List.set_cons_zero, List.set_cons_succ, List.getElem_toArray, List.getElem_cons_zero, List.getElem_cons_succ]
  refine till_take (i := 2) (v := ?_) rfl (by kernel_rfl) (by kernel_rfl) (by kernel_rfl) (by kernel_rfl) (fun _ _ _ h => h) (Or.inl ⟨by rfl, ?_⟩) HS ?_
  rotate_left
  · intro w' hSw
    obtain ⟨s1, s2, s3, s4, s5, s6, s7⟩ := hSw
    go_simp
    try rfl
  simp only [Act.put, List.setIfInBounds_toArray, List.set_cons_zero, List.set_cons_succ, List.getElem_toArray, List.getElem_cons_zero, List.getElem_cons_succ]
  refine till_take (i := 3) (v := ?_) rfl (by kernel_rfl) (by kernel_rfl) (by kernel_rfl) (by kernel_rfl) (fun _ _ _ h => h) (Or.inl ⟨by rfl, ?_⟩) HS ?_
  rotate_left
  · intro w' hSw
    obtain ⟨s1, s2, s3, s4, s5, s6, s7⟩ := hSw
    go_simp
    try rfl
  simp only [Act.put, List.setIfInBounds_toArray, List.set_cons_zero, List.set_cons_succ, List.getElem_toArray, List.getElem_cons_zero, List.getElem_cons_succ]
  refine till_take (i := 4) (v := ?_) rfl (by kernel_rfl) (by kernel_rfl) (by kernel_rfl) (by kernel_rfl) (fun _ _ _ h => h) (Or.inl ⟨by rfl, ?_⟩) HS ?_
  rotate_left
  · intro w' hSw
    obtain ⟨s1, s2, s3, s4, s5, s6, s7⟩ := hSw
    go_simp
    try rfl
  simp only [Act.put, List.setIfInBounds_toArray, List.set_cons_zero, List.set_cons_succ, List.getElem_toArray, List.getElem_cons_zero, List.getElem_cons_succ]
  refine till_take (i := 5) (v := ?_) rfl (by kernel_rfl) (by kernel_rfl) (by kernel_rfl) (by kernel_rfl) (fun _ _ _ h => h) (Or.inl ⟨by rfl, ?_⟩) HS ?_
  rotate_left
  · intro w' hSw
    obtain ⟨s1, s2, s3, s4, s5, s6, s7⟩ := hSw
    go_simp
    try rfl
  simp only [Act.put, List.setIfInBounds_toArray, List.set_cons_zero, List.set_cons_succ, List.getElem_toArray, List.getElem_cons_zero, List.getElem_cons_succ]
  refine till_take (i := 6) (v := ?_) rfl (by kernel_rfl) (by kernel_rfl) (by kernel_rfl) (by kernel_rfl) (fun _ _ _ h => h) (Or.inl ⟨by rfl, ?_⟩) HS ?_
  rotate_left
  · intro w' hSw
    obtain ⟨s1, s2, s3, s4, s5, s6, s7⟩ := hSw
    go_simp
    try rfl
  simp only [Act.put, List.setIfInBounds_toArray, List.set_cons_zero, List.set_cons_succ, List.getElem_toArray, List.getElem_cons_zero, List.getElem_cons_succ]
  refine till_take (i := 7) (v := ?_) rfl (by kernel_rfl) (by kernel_rfl) (by kernel_rfl) (by kernel_rfl) (fun _ _ _ h => h) (Or.inl ⟨by rfl, ?_⟩) HS ?_
  rotate_left
  · intro w' hSw
    obtain ⟨s1, s2, s3, s4, s5, s6, s7⟩ := hSw
    go_simp
    try rfl
  simp only [Act.put, List.setIfInBounds_toArray, List.set_cons_zero, List.set_cons_succ, List.getElem_toArray, List.getElem_cons_zero, List.getElem_cons_succ]
  refine till_take (i := 8) (v := ?_) rfl (by kernel_rfl) (by kernel_rfl) (by kernel_rfl) (by kernel_rfl) (fun _ _ _ h => h) (Or.inl ⟨by rfl, ?_⟩) HS ?_
  rotate_left
  · intro w' hSw
    obtain ⟨s1, s2, s3, s4, s5, s6, s7⟩ := hSw
    go_simp
    try rfl
  simp only [Act.put, List.setIfInBounds_toArray, List.set_cons_zero, List.set_cons_succ, List.getElem_toArray, List.getElem_cons_zero, List.getElem_cons_succ]
  refine till_take (i := 9) (v := ?_) rfl (by kernel_rfl) (by kernel_rfl) (by kernel_rfl) (by kernel_rfl) (fun _ _ _ h => h) (Or.inl ⟨by rfl, ?_⟩) HS ?_
  rotate_left
  · intro w' hSw
    obtain ⟨s1, s2, s3, s4, s5, s6, s7⟩ := hSw
    go_simp
    try rfl
  simp only [Act.put, List.setIfInBounds_toArray, List.set_cons_zero, List.set_cons_succ, List.getElem_toArray, List.getElem_cons_zero, List.getElem_cons_succ]
  refine till_take (i := 10) (v := ?_) rfl (by kernel_rfl) (by kernel_rfl) (by kernel_rfl) (by kernel_rfl) (fun _ _ _ h => h) (Or.inl ⟨by rfl, ?_⟩) HS ?_
  rotate_left
  · intro w' hSw
    obtain ⟨s1, s2, s3, s4, s5, s6, s7⟩ := hSw
    go_simp
    try rfl
  simp only [Act.put, List.setIfInBounds_toArray, List.set_cons_zero, List.set_cons_succ, List.getElem_toArray, List.getElem_cons_zero, List.getElem_cons_succ]
  refine till_one (i := 11) (by kernel_rfl) rfl ?_
  intro K hK
  go_simp
  refine (putF_calls f hf n _).mono ?_
  rintro e w1 ⟨rfl, hb1⟩
  show K _ _
  have hb1' : Below W0.heap.size W0 w1 := ⟨hb1.os, hb1.tape, hb1.output, hb1.size, hb1.block⟩
  have hS1 : AddS ga b (.slice ad st.words.length cap) wd n f w1 := by
    obtain ⟨s1, s2, s3, s4, s5, s6, s7⟩ := HS
    exact ⟨(hb1.cell (p := ⟨ga, 2, none⟩) hg0).trans s1, (hb1.cell (p := ⟨b, 2, none⟩) hb0).trans s2, (hb1.cell (p := ⟨b, 4, none⟩) hb0).trans s3, (hb1.cell (p := ⟨b, 5, none⟩) hb0).trans s4, (hb1.cell (p := ⟨b, 6, none⟩) hb0).trans s5, (hb1.cell (p := ⟨b, 7, none⟩) hb0).trans s6, (hb1.cell (p := ⟨b, 8, none⟩) hb0).trans s7⟩
  refine hK _ _ (fun _ => hS1) ?_
  clear hK K
  refine till_take (i := 12) (v := ?_) rfl (by kernel_rfl) (by kernel_rfl) (by kernel_rfl) (by kernel_rfl) (fun _ _ _ h => h) (Or.inl ⟨by rfl, ?_⟩) hS1 ?_
  rotate_left
  · intro w' hSw
    obtain ⟨s1, s2, s3, s4, s5, s6, s7⟩ := hSw
    go_simp
    try rfl
  simp only [Act.put, List.setIfInBounds_toArray, List.set_cons_zero, List.set_cons_succ, List.getElem_toArray, List.getElem_cons_zero, List.getElem_cons_succ]
  refine till_one (i := 13) (by kernel_rfl) rfl ?_
  intro K hK
  go_simp
  have hA1 := hA0.keep hb1'
  have hbs : b < w1.heap.size := Nat.lt_of_lt_of_le hb0 hb1.size
  have hgs : ga < w1.heap.size := (Array.getElem?_eq_some_iff.1 hA1.blk).1
  generalize hx : bits .or .u32 wd (putF f n) = x at *
  have hS2 : AddS ga b (.slice ad st.words.length cap) wd n f (w1.alloc (.cells #[.int .u32 x] 66)) := by
    obtain ⟨s1, s2, s3, s4, s5, s6, s7⟩ := hS1
    exact ⟨(World.cell?_alloc_past _ _ _ hgs).trans s1, (World.cell?_alloc_past _ _ _ hbs).trans s2, (World.cell?_alloc_past _ _ _ hbs).trans s3, (World.cell?_alloc_past _ _ _ hbs).trans s4, (World.cell?_alloc_past _ _ _ hbs).trans s5, (World.cell?_alloc_past _ _ _ hbs).trans s6, (World.cell?_alloc_past _ _ _ hbs).trans s7⟩
  refine hK _ _ (fun _ => hS2) ?_
  clear hK K
  have hA2 := hA1.keep (w' := w1.alloc (.cells #[.int .u32 x] 66)) ((Below.refl _ _).alloc (Nat.le_refl _) _)
  refine till_one (i := 14) (by kernel_rfl) rfl ?_
  intro K hK
  refine step_append_own rfl (.tmp 41) (.tmp 50) 37 rfl B 66 iU (.int .u32 0) 1 4 Tryz.underlying37 (unhide HI).1 (unhide HI).2.1 (unhide HI).2.2.1 (unhide HI).2.2.2 rfl (by decide) _ st.words.length (st.words.map fun x => Value.int .u32 x) rfl hA2.words ⟨w1.heap.size, 0, none⟩ 1 1 [.int .u32 x] rfl rfl (new_cells w1 [.int .u32 x] 66) ?_ ?_ ?_ hA2.base ?_
  · intro u hu; simp at hu; subst hu; rfl
  · unfold maxLen; omega
  · omega
  intro v' w' hn hgr
  have hbox1 := (Below.heap_alloc w1 (.cells #[.int .u32 x] 66) b hbs).trans ((hb1.block b hb0).trans hbox0)
  have hgs2 : ga < (w1.alloc (.cells #[.int .u32 x] 66)).heap.size := by simp; omega
  have hbs2 : b < (w1.alloc (.cells #[.int .u32 x] 66)).heap.size := by simp; omega
  have e1 := hgr.block ga hgs2 (own_ne hA2.words hA2.blk (by decide))
  have e2 := hgr.block b hbs2 (own_ne hA2.words hbox1 (by decide))
  have hS3 : AddS ga b (.slice ad st.words.length cap) wd n f w' := by
    obtain ⟨s1, s2, s3, s4, s5, s6, s7⟩ := hS2
    exact ⟨(World.cell?_of_block e1).trans s1, (World.cell?_of_block e2).trans s2, (World.cell?_of_block e2).trans s3, (World.cell?_of_block e2).trans s4, (World.cell?_of_block e2).trans s5, (World.cell?_of_block e2).trans s6, (World.cell?_of_block e2).trans s7⟩
  refine hK _ _ (fun _ => hS3) ?_
  clear hK K
  have hcw : w'.cell? ⟨ga, 2, none⟩ = some (.slice ad st.words.length cap) := hS3.1
  have hfw := frozen_row (e1.trans hA2.blk) 2
  obtain ⟨adv, capv, hv', _⟩ := slice_shape hn
  have HFIN := hide (asm_words hA2 hgr (by exact hn))
  have HKP := hide ((HK0.out.trans (Kept.of hA0.base hb1')).trans (Kept.of (w' := w1.alloc (.cells #[.int .u32 x] 66)) hA1.base ((Below.refl _ _).alloc (Nat.le_refl _) _)))
  subst hv'
  simp only [Act.put, List.setIfInBounds_toArray, List.set_cons_zero, List.set_cons_succ, List.getElem_toArray, List.getElem_cons_zero, List.getElem_cons_succ]
  refine till_one (i := 15) (by kernel_rfl) rfl ?_
  intro K hK
  go_simp
  refine hK _ _ (fun hh => absurd hh (by decide)) ?_
  clear hK K
  refine till_one (i := 16) (by kernel_rfl) rfl ?_
  intro K hK
  go_simp
  refine hK _ _ (fun hh => absurd hh (by decide)) ?_
  clear hK K
  refine till_one (i := 17) (by kernel_rfl) rfl ?_
  intro K hK
  go_simp
  refine hK _ _ (fun hh => absurd hh (by decide)) ?_
  clear hK K
  refine till_done (by kernel_rfl) ?_ _
  go_wp2_with fail
  go_end0
  subst hx
  exact ⟨(unhide HKP).trans (unhide HFIN).2, rfl, _, _, (unhide HFIN).1⟩
set_option maxHeartbeats 4000000 in
set_option maxRecDepth 100000 in
theorem addWord_pi (es : Array MapEntry) (lb : List UInt8) (t : TypeId) (x0 : Value) (has : Bool) (wd n : Int) (f : Fd) (B ga rn rl : Nat) (vw vo : Value) (st : PSt) (line : Nat) (w : World) (h : AsmAt es w B ga rn rl vw vo st line) (hw : st.words.length < 64) (hf : FdOk f) :
    Calls Tryz.prog 31 #[.pointer (some ⟨ga, 0, none⟩), .agg #[S lb, .bool has, .int .u32 wd, .iface t x0, .int .i64 n, .int .i64 f.lo, .int .i64 f.wi, .int .i64 f.least, .int .i64 f.most, S []]] w fun e w' => AsmMakes es B ga rn rl line (.ok { st with words := st.words ++ [bits .or .u32 wd (putF f n)] }) w e w' := by
  have hcw0 := cell_row h.blk 2 _ rfl
  obtain ⟨ad, cap, rfl, _⟩ := slice_shape h.words
  obtain ⟨ado, capo, rfl, _⟩ := slice_shape h.opens
  have h64 : ((st.words.length : Int) == 64) = false := by rw [beq_eq_false_iff_ne]; omega
  obtain ⟨iU, hi0, hi1, hi2, hi3⟩ := info_parts infoU
  have HI := hide (And.intro hi0 (And.intro hi1 (And.intro hi2 hi3)))
  clear hi0 hi1 hi2 hi3
  have hA0 : AsmAt es (w.alloc (.cells #[S lb, .bool has, .int .u32 wd, .iface t x0, .int .i64 n, .int .i64 f.lo, .int .i64 f.wi, .int .i64 f.least, .int .i64 f.most, S []] 72)) B ga rn rl (.slice ad st.words.length cap) (.slice ado st.opens.length capo) st line := h.keep ((Below.refl _ _).alloc (Nat.le_refl _) _)
  have hbox0 := heap_alloc_new w (.cells #[S lb, .bool has, .int .u32 wd, .iface t x0, .int .i64 n, .int .i64 f.lo, .int .i64 f.wi, .int .i64 f.least, .int .i64 f.most, S []] 72)
  have HK0 : Hid (Kept B ga rl w (w.alloc (.cells #[S lb, .bool has, .int .u32 wd, .iface t x0, .int .i64 n, .int .i64 f.lo, .int .i64 f.wi, .int .i64 f.least, .int .i64 f.most, S []] 72))) := Kept.of h.base ((Below.refl _ _).alloc (Nat.le_refl _) _)
  have hlt : ga < w.heap.size := (Array.getElem?_eq_some_iff.1 h.blk).1
  obtain ⟨b, hb⟩ : ∃ b, b = w.heap.size := ⟨_, rfl⟩
  have HA0 := hide hA0
  have HBOX := hide hbox0
  clear h hA0 hbox0
  go_enter Tryz.func31, Tryz.ntmps31
  go_wp2_with fail
  have hA0 := unhide HA0
  have hbox0 := unhide HBOX
  rw [← hb] at hbox0 ⊢
  clear HA0 HBOX
  generalize w.alloc (.cells #[S lb, .bool has, .int .u32 wd, .iface t x0, .int .i64 n, .int .i64 f.lo, .int .i64 f.wi, .int .i64 f.least, .int .i64 f.most, S []] 72) = W0 at *
  clear hb
  have hb0 : b < W0.heap.size := (Array.getElem?_eq_some_iff.1 hbox0).1
  have hg0 : ga < W0.heap.size := (Array.getElem?_eq_some_iff.1 hA0.blk).1
  have HS : AddS ga b (.slice ad st.words.length cap) wd n f W0.drew := ⟨cell_row hA0.blk 2 _ rfl, cell_row hbox0 2 _ rfl, cell_row hbox0 4 _ rfl, cell_row hbox0 5 _ rfl, cell_row hbox0 6 _ rfl, cell_row hbox0 7 _ rfl, cell_row hbox0 8 _ rfl⟩
  refine till_begin 15 (AddS ga b (.slice ad st.words.length cap) wd n f) (by kernel_rfl) ?_
  refine till_take (i := 0) (v := ?_) rfl (by kernel_rfl) (by kernel_rfl) (by kernel_rfl) (by kernel_rfl) (fun _ _ _ h => h) (Or.inl ⟨by rfl, ?_⟩) HS ?_
  rotate_left
  · intro w' hSw
    obtain ⟨s1, s2, s3, s4, s5, s6, s7⟩ := hSw
    go_simp
    try rfl
  simp only [Act.put, List.setIfInBounds_toArray, List.set_cons_zero, List.set_cons_succ, List.getElem_toArray, List.getElem_cons_zero]
  refine till_take (i := 1) (v := ?_) rfl (by kernel_rfl) (by kernel_rfl) (by kernel_rfl) (by kernel_rfl) (fun _ _ _ h => h) (Or.inl ⟨by rfl, ?_⟩) HS ?_
  rotate_left
  · intro w' hSw
    obtain ⟨s1, s2, s3, s4, s5, s6, s7⟩ := hSw
    go_simp
    try rfl
  simp only [Act.put, List.setIfInBounds_toArray, List.set_cons_zero, List.set_cons_succ, List.getElem_toArray, List.getElem_cons_zero, List.getElem_cons_succ]
  refine till_take (i := 2) (v := ?_) rfl (by kernel_rfl) (by kernel_rfl) (by kernel_rfl) (by kernel_rfl) (fun _ _ _ h => h) (Or.inl ⟨by rfl, ?_⟩) HS ?_
  rotate_left
  · intro w' hSw
    obtain ⟨s1, s2, s3, s4, s5, s6, s7⟩ := hSw
    go_simp
    try rfl
  simp only [Act.put, List.setIfInBounds_toArray, List.set_cons_zero, List.set_cons_succ, List.getElem_toArray, List.getElem_cons_zero, List.getElem_cons_succ]
  refine till_take (i := 3) (v := ?_) rfl (by kernel_rfl) (by kernel_rfl) (by kernel_rfl) (by kernel_rfl) (fun _ _ _ h => h) (Or.inl ⟨by rfl, ?_⟩) HS ?_
  rotate_left
  · intro w' hSw
    obtain ⟨s1, s2, s3, s4, s5, s6, s7⟩ := hSw
    go_simp
    try rfl
  simp only [Act.put, List.setIfInBounds_toArray, List.set_cons_zero, List.set_cons_succ, List.getElem_toArray, List.getElem_cons_zero, List.getElem_cons_succ]
  refine till_take (i := 4) (v := ?_) rfl (by kernel_rfl) (by kernel_rfl) (by kernel_rfl) (by kernel_rfl) (fun _ _ _ h => h) (Or.inl ⟨by rfl, ?_⟩) HS ?_
  rotate_left
  · intro w' hSw
    obtain ⟨s1, s2, s3, s4, s5, s6, s7⟩ := hSw
    go_simp
    try rfl
  simp only [Act.put, List.setIfInBounds_toArray, List.set_cons_zero, List.set_cons_succ, List.getElem_toArray, List.getElem_cons_zero, List.getElem_cons_succ]
  refine till_take (i := 5) (v := ?_) rfl (by kernel_rfl) (by kernel_rfl) (by kernel_rfl) (by kernel_rfl) (fun _ _ _ h => h) (Or.inl ⟨by rfl, ?_⟩) HS ?_
  rotate_left
  · intro w' hSw
    obtain ⟨s1, s2, s3, s4, s5, s6, s7⟩ := hSw
    go_simp
    try rfl
  simp only [Act.put, List.setIfInBounds_toArray, List.set_cons_zero, List.set_cons_succ, List.getElem_toArray, List.getElem_cons_zero, List.getElem_cons_succ]
  refine till_take (i := 6) (v := ?_) rfl (by kernel_rfl) (by kernel_rfl) (by kernel_rfl) (by kernel_rfl) (fun _ _ _ h => h) (Or.inl ⟨by rfl, ?_⟩) HS ?_
  rotate_left
  · intro w' hSw
    obtain ⟨s1, s2, s3, s4, s5, s6, s7⟩ := hSw
    go_simp
    try rfl
  simp only [Act.put, List.setIfInBounds_toArray, List.set_cons_zero, List.set_cons_succ, List.getElem_toArray, List.getElem_cons_zero, List.getElem_cons_succ]
  refine till_take (i := 7) (v := ?_) rfl (by kernel_rfl) (by kernel_rfl) (by kernel_rfl) (by kernel_rfl) (fun _ _ _ h => h) (Or.inl ⟨by rfl, ?_⟩) HS ?_
  rotate_left
  · intro w' hSw
    obtain ⟨s1, s2, s3, s4, s5, s6, s7⟩ := hSw
    go_simp
    try rfl
  simp only [Act.put, List.setIfInBounds_toArray, List.set_cons_zero, List.set_cons_succ, List.getElem_toArray, List.getElem_cons_zero, List.getElem_cons_succ]
  refine till_take (i := 8) (v := ?_) rfl (by kernel_rfl) (by kernel_rfl) (by kernel_rfl) (by kernel_rfl) (fun _ _ _ h => h) (Or.inl ⟨by rfl, ?_⟩) HS ?_
  rotate_left
  · intro w' hSw
    obtain ⟨s1, s2, s3, s4, s5, s6, s7⟩ := hSw
    go_simp
    try rfl
  simp only [Act.put, List.setIfInBounds_toArray, List.set_cons_zero, List.set_cons_succ, List.getElem_toArray, List.getElem_cons_zero, List.getElem_cons_succ]
  refine till_take (i := 9) (v := ?_) rfl (by kernel_rfl) (by kernel_rfl) (by kernel_rfl) (by kernel_rfl) (fun _ _ _ h => h) (Or.inl ⟨by rfl, ?_⟩) HS ?_
  rotate_left
  · intro w' hSw
    obtain ⟨s1, s2, s3, s4, s5, s6, s7⟩ := hSw
    go_simp
    try rfl
  simp only [Act.put, List.setIfInBounds_toArray, List.set_cons_zero, List.set_cons_succ, List.getElem_toArray, List.getElem_cons_zero, List.getElem_cons_succ]
  refine till_take (i := 10) (v := ?_) rfl (by kernel_rfl) (by kernel_rfl) (by kernel_rfl) (by kernel_rfl) (fun _ _ _ h => h) (Or.inl ⟨by rfl, ?_⟩) HS ?_
  rotate_left
  · intro w' hSw
    obtain ⟨s1, s2, s3, s4, s5, s6, s7⟩ := hSw
    go_simp
    try rfl
  simp only [Act.put, List.setIfInBounds_toArray, List.set_cons_zero, List.set_cons_succ, List.getElem_toArray, List.getElem_cons_zero, List.getElem_cons_succ]
  refine till_one (i := 11) (by kernel_rfl) rfl ?_
  intro K hK
  go_simp
  refine (putF_calls f hf n _).mono ?_
  rintro e w1 ⟨rfl, hb1⟩
  show K _ _
  have hb1' : Below W0.heap.size W0 w1 := ⟨hb1.os, hb1.tape, hb1.output, hb1.size, hb1.block⟩
  have hS1 : AddS ga b (.slice ad st.words.length cap) wd n f w1 := by
    obtain ⟨s1, s2, s3, s4, s5, s6, s7⟩ := HS
    exact ⟨(hb1.cell (p := ⟨ga, 2, none⟩) hg0).trans s1, (hb1.cell (p := ⟨b, 2, none⟩) hb0).trans s2, (hb1.cell (p := ⟨b, 4, none⟩) hb0).trans s3, (hb1.cell (p := ⟨b, 5, none⟩) hb0).trans s4, (hb1.cell (p := ⟨b, 6, none⟩) hb0).trans s5, (hb1.cell (p := ⟨b, 7, none⟩) hb0).trans s6, (hb1.cell (p := ⟨b, 8, none⟩) hb0).trans s7⟩
  refine hK _ _ (fun _ => hS1) ?_
  clear hK K
  refine till_take (i := 12) (v := ?_) rfl (by kernel_rfl) (by kernel_rfl) (by kernel_rfl) (by kernel_rfl) (fun _ _ _ h => h) (Or.inl ⟨by rfl, ?_⟩) hS1 ?_
  rotate_left
  · intro w' hSw
    obtain ⟨s1, s2, s3, s4, s5, s6, s7⟩ := hSw
    go_simp
    try rfl
  simp only [Act.put, List.setIfInBounds_toArray, List.set_cons_zero, List.set_cons_succ, List.getElem_toArray, List.getElem_cons_zero, List.getElem_cons_succ]
  refine till_one (i := 13) (by kernel_rfl) rfl ?_
  intro K hK
  go_simp
  have hA1 := hA0.keep hb1'
  have hbs : b < w1.heap.size := Nat.lt_of_lt_of_le hb0 hb1.size
  have hgs : ga < w1.heap.size := (Array.getElem?_eq_some_iff.1 hA1.blk).1
  generalize hx : bits .or .u32 wd (putF f n) = x at *
  have hS2 : AddS ga b (.slice ad st.words.length cap) wd n f (w1.alloc (.cells #[.int .u32 x] 66)) := by
    obtain ⟨s1, s2, s3, s4, s5, s6, s7⟩ := hS1
    exact ⟨(World.cell?_alloc_past _ _ _ hgs).trans s1, (World.cell?_alloc_past _ _ _ hbs).trans s2, (World.cell?_alloc_past _ _ _ hbs).trans s3, (World.cell?_alloc_past _ _ _ hbs).trans s4, (World.cell?_alloc_past _ _ _ hbs).trans s5, (World.cell?_alloc_past _ _ _ hbs).trans s6, (World.cell?_alloc_past _ _ _ hbs).trans s7⟩
  refine hK _ _ (fun _ => hS2) ?_
  clear hK K
  have hA2 := hA1.keep (w' := w1.alloc (.cells #[.int .u32 x] 66)) ((Below.refl _ _).alloc (Nat.le_refl _) _)
  refine till_one (i := 14) (by kernel_rfl) rfl ?_
  intro K hK
  refine step_append_own rfl (.tmp 41) (.tmp 50) 37 rfl B 66 iU (.int .u32 0) 1 4 Tryz.underlying37 (unhide HI).1 (unhide HI).2.1 (unhide HI).2.2.1 (unhide HI).2.2.2 rfl (by decide) _ st.words.length (st.words.map fun x => Value.int .u32 x) rfl hA2.words ⟨w1.heap.size, 0, none⟩ 1 1 [.int .u32 x] rfl rfl (new_cells w1 [.int .u32 x] 66) ?_ ?_ ?_ hA2.base ?_
  · intro u hu; simp at hu; subst hu; rfl
  · unfold maxLen; omega
  · omega
  intro v' w' hn hgr
  have hbox1 := (Below.heap_alloc w1 (.cells #[.int .u32 x] 66) b hbs).trans ((hb1.block b hb0).trans hbox0)
  have hgs2 : ga < (w1.alloc (.cells #[.int .u32 x] 66)).heap.size := by simp; omega
  have hbs2 : b < (w1.alloc (.cells #[.int .u32 x] 66)).heap.size := by simp; omega
  have e1 := hgr.block ga hgs2 (own_ne hA2.words hA2.blk (by decide))
  have e2 := hgr.block b hbs2 (own_ne hA2.words hbox1 (by decide))
  have hS3 : AddS ga b (.slice ad st.words.length cap) wd n f w' := by
    obtain ⟨s1, s2, s3, s4, s5, s6, s7⟩ := hS2
    exact ⟨(World.cell?_of_block e1).trans s1, (World.cell?_of_block e2).trans s2, (World.cell?_of_block e2).trans s3, (World.cell?_of_block e2).trans s4, (World.cell?_of_block e2).trans s5, (World.cell?_of_block e2).trans s6, (World.cell?_of_block e2).trans s7⟩
  refine hK _ _ (fun _ => hS3) ?_
  clear hK K
  have hcw : w'.cell? ⟨ga, 2, none⟩ = some (.slice ad st.words.length cap) := hS3.1
  have hfw := frozen_row (e1.trans hA2.blk) 2
  obtain ⟨adv, capv, hv', _⟩ := slice_shape hn
  have HFIN := hide (asm_words hA2 hgr (by exact hn))
  have HKP := hide ((HK0.out.trans (Kept.of hA0.base hb1')).trans (Kept.of (w' := w1.alloc (.cells #[.int .u32 x] 66)) hA1.base ((Below.refl _ _).alloc (Nat.le_refl _) _)))
  subst hv'
  simp only [Act.put, List.setIfInBounds_toArray, List.set_cons_zero, List.set_cons_succ, List.getElem_toArray, List.getElem_cons_zero, List.getElem_cons_succ]
  refine till_one (i := 15) (by kernel_rfl) rfl ?_
  intro K hK
  go_simp
  refine hK _ _ (fun hh => absurd hh (by decide)) ?_
  clear hK K
  refine till_one (i := 16) (by kernel_rfl) rfl ?_
  intro K hK
  go_simp
  refine hK _ _ (fun hh => absurd hh (by decide)) ?_
  clear hK K
  refine till_one (i := 17) (by kernel_rfl) rfl ?_
  intro K hK
  go_simp
  refine hK _ _ (fun hh => absurd hh (by decide)) ?_
  clear hK K
  refine till_done (by kernel_rfl) ?_ _
  go_wp2_with fail
  go_end0
  subst hx
  exact ⟨(unhide HKP).trans (unhide HFIN).2, rfl, _, _, (unhide HFIN).1⟩
set_option maxHeartbeats 4000000 in
set_option maxRecDepth 100000 in
theorem addWord_gn (es : Array MapEntry) (lb : List UInt8) (has : Bool) (wd n : Int) (f : Fd) (gl : List UInt8) (hgl : gl.isEmpty = false) (B ga rn rl : Nat) (vw vo : Value) (st : PSt) (line : Nat) (w : World) (h : AsmAt es w B ga rn rl vw vo st line) (hw : st.words.length < 64) (ho : st.opens.length ≤ 64) (hf : FdOk f) :
    Calls Tryz.prog 31 #[.pointer (some ⟨ga, 0, none⟩), .agg #[S lb, .bool has, .int .u32 wd, .nilIface, .int .i64 n, .int .i64 f.lo, .int .i64 f.wi, .int .i64 f.least, .int .i64 f.most, S gl]] w fun e w' => AsmMakes es B ga rn rl line (.ok { st with words := st.words ++ [bits .or .u32 wd (putF f n)], opens := st.opens ++ [{ idx := st.words.length, line := line, shape := .nilIface, goal := gl }] }) w e w' := by
  have hcw0 := cell_row h.blk 2 _ rfl
  obtain ⟨ad, cap, rfl, _⟩ := slice_shape h.words
  obtain ⟨ado, capo, rfl, _⟩ := slice_shape h.opens
  have h64 : ((st.words.length : Int) == 64) = false := by rw [beq_eq_false_iff_ne]; omega
  obtain ⟨iU, hi0, hi1, hi2, hi3⟩ := info_parts infoU
  have HI := hide (And.intro hi0 (And.intro hi1 (And.intro hi2 hi3)))
  clear hi0 hi1 hi2 hi3
  obtain ⟨iO, hj0, hj1, hj2, hj3⟩ := info_parts infoO
  have HIO := hide (And.intro hj0 (And.intro hj1 (And.intro hj2 hj3)))
  clear hj0 hj1 hj2 hj3
  have hA0 : AsmAt es (w.alloc (.cells #[S lb, .bool has, .int .u32 wd, .nilIface, .int .i64 n, .int .i64 f.lo, .int .i64 f.wi, .int .i64 f.least, .int .i64 f.most, S gl] 72)) B ga rn rl (.slice ad st.words.length cap) (.slice ado st.opens.length capo) st line := h.keep ((Below.refl _ _).alloc (Nat.le_refl _) _)
  have hbox0 := heap_alloc_new w (.cells #[S lb, .bool has, .int .u32 wd, .nilIface, .int .i64 n, .int .i64 f.lo, .int .i64 f.wi, .int .i64 f.least, .int .i64 f.most, S gl] 72)
  have HK0 : Hid (Kept B ga rl w (w.alloc (.cells #[S lb, .bool has, .int .u32 wd, .nilIface, .int .i64 n, .int .i64 f.lo, .int .i64 f.wi, .int .i64 f.least, .int .i64 f.most, S gl] 72))) := Kept.of h.base ((Below.refl _ _).alloc (Nat.le_refl _) _)
  have hlt : ga < w.heap.size := (Array.getElem?_eq_some_iff.1 h.blk).1
  obtain ⟨b, hb⟩ : ∃ b, b = w.heap.size := ⟨_, rfl⟩
  have HA0 := hide hA0
  have HBOX := hide hbox0
  clear h hA0 hbox0
  go_enter Tryz.func31, Tryz.ntmps31
  go_wp2_with fail
  have hA0 := unhide HA0
  have hbox0 := unhide HBOX
  rw [← hb] at hbox0 ⊢
  clear HA0 HBOX
  generalize w.alloc (.cells #[S lb, .bool has, .int .u32 wd, .nilIface, .int .i64 n, .int .i64 f.lo, .int .i64 f.wi, .int .i64 f.least, .int .i64 f.most, S gl] 72) = W0 at *
  clear hb
  have HSo : OpenS ga b (.slice ado st.opens.length capo) (.slice ad st.words.length cap) line (.nilIface) gl W0.drew := ⟨cell_row hA0.blk 3 _ rfl, cell_row hA0.blk 2 _ rfl, cell_row hA0.blk 4 _ rfl, cell_row hbox0 3 _ rfl, cell_row hbox0 9 _ rfl⟩
  refine till_begin 21 (OpenS ga b (.slice ado st.opens.length capo) (.slice ad st.words.length cap) line (.nilIface) gl) (by kernel_rfl) ?_
  refine till_take (i := 0) (v := ?_) rfl (by kernel_rfl) (by kernel_rfl) (by kernel_rfl) (by kernel_rfl) (fun _ _ _ h => h) (Or.inl ⟨by rfl, ?_⟩) HSo ?_
  rotate_left
  · intro w' hSw
    obtain ⟨s1, s2, s3, s4, s5⟩ := hSw
    go_simp
    try rfl
  simp only [Act.put, List.setIfInBounds_toArray, List.set_cons_zero, List.set_cons_succ, List.getElem_toArray, List.getElem_cons_zero]
  refine till_take (i := 1) (v := ?_) rfl (by kernel_rfl) (by kernel_rfl) (by kernel_rfl) (by kernel_rfl) (fun _ _ _ h => h) (Or.inl ⟨by rfl, ?_⟩) HSo ?_
  rotate_left
  · intro w' hSw
    obtain ⟨s1, s2, s3, s4, s5⟩ := hSw
    go_simp
    try rfl
  simp only [Act.put, List.setIfInBounds_toArray, List.set_cons_zero, List.set_cons_succ, List.getElem_toArray, List.getElem_cons_zero, List.getElem_cons_succ]
  refine till_take (i := 2) (v := ?_) rfl (by kernel_rfl) (by kernel_rfl) (by kernel_rfl) (by kernel_rfl) (fun _ _ _ h => h) (Or.inl ⟨by rfl, ?_⟩) HSo ?_
  rotate_left
  · intro w' hSw
    obtain ⟨s1, s2, s3, s4, s5⟩ := hSw
    go_simp
    try rfl
  simp only [Act.put, List.setIfInBounds_toArray, List.set_cons_zero, List.set_cons_succ, List.getElem_toArray, List.getElem_cons_zero, List.getElem_cons_succ]
  refine till_take (i := 3) (v := ?_) rfl (by kernel_rfl) (by kernel_rfl) (by kernel_rfl) (by kernel_rfl) (fun _ _ _ h => h) (Or.inl ⟨by rfl, ?_⟩) HSo ?_
  rotate_left
  · intro w' hSw
    obtain ⟨s1, s2, s3, s4, s5⟩ := hSw
    go_simp
    try rfl
  simp only [Act.put, List.setIfInBounds_toArray, List.set_cons_zero, List.set_cons_succ, List.getElem_toArray, List.getElem_cons_zero, List.getElem_cons_succ]
  refine till_take (i := 4) (v := ?_) rfl (by kernel_rfl) (by kernel_rfl) (by kernel_rfl) (by kernel_rfl) (fun _ _ _ h => h) (Or.inl ⟨by rfl, ?_⟩) HSo ?_
  rotate_left
  · intro w' hSw
    obtain ⟨s1, s2, s3, s4, s5⟩ := hSw
    go_simp
    try rfl
  simp only [Act.put, List.setIfInBounds_toArray, List.set_cons_zero, List.set_cons_succ, List.getElem_toArray, List.getElem_cons_zero, List.getElem_cons_succ]
  refine till_take (i := 5) (v := ?_) rfl (by kernel_rfl) (by kernel_rfl) (by kernel_rfl) (by kernel_rfl) (fun _ _ _ h => h) (Or.inl ⟨by rfl, ?_⟩) HSo ?_
  rotate_left
  · intro w' hSw
    obtain ⟨s1, s2, s3, s4, s5⟩ := hSw
    go_simp
    try rfl
  simp only [Act.put, List.setIfInBounds_toArray, List.set_cons_zero, List.set_cons_succ, List.getElem_toArray, List.getElem_cons_zero, List.getElem_cons_succ]
  refine till_take (i := 6) (v := ?_) rfl (by kernel_rfl) (by kernel_rfl) (by kernel_rfl) (by kernel_rfl) (fun _ _ _ h => h) (Or.inl ⟨by rfl, ?_⟩) HSo ?_
  rotate_left
  · intro w' hSw
    obtain ⟨s1, s2, s3, s4, s5⟩ := hSw
    go_simp
    try rfl
  simp only [Act.put, List.setIfInBounds_toArray, List.set_cons_zero, List.set_cons_succ, List.getElem_toArray, List.getElem_cons_zero, List.getElem_cons_succ]
  refine till_take (i := 7) (v := ?_) rfl (by kernel_rfl) (by kernel_rfl) (by kernel_rfl) (by kernel_rfl) (fun _ _ _ h => h) (Or.inl ⟨by rfl, ?_⟩) HSo ?_
  rotate_left
  · intro w' hSw
    obtain ⟨s1, s2, s3, s4, s5⟩ := hSw
    go_simp
    try rfl
  simp only [Act.put, List.setIfInBounds_toArray, List.set_cons_zero, List.set_cons_succ, List.getElem_toArray, List.getElem_cons_zero, List.getElem_cons_succ]
  refine till_take (i := 8) (v := ?_) rfl (by kernel_rfl) (by kernel_rfl) (by kernel_rfl) (by kernel_rfl) (fun _ _ _ h => h) (Or.inl ⟨by rfl, ?_⟩) HSo ?_
  rotate_left
  · intro w' hSw
    obtain ⟨s1, s2, s3, s4, s5⟩ := hSw
    go_simp
    try rfl
  simp only [Act.put, List.setIfInBounds_toArray, List.set_cons_zero, List.set_cons_succ, List.getElem_toArray, List.getElem_cons_zero, List.getElem_cons_succ]
  refine till_take (i := 9) (v := ?_) rfl (by kernel_rfl) (by kernel_rfl) (by kernel_rfl) (by kernel_rfl) (fun _ _ _ h => h) (Or.inl ⟨by rfl, ?_⟩) HSo ?_
  rotate_left
  · intro w' hSw
    obtain ⟨s1, s2, s3, s4, s5⟩ := hSw
    go_simp
    try rfl
  simp only [Act.put, List.setIfInBounds_toArray, List.set_cons_zero, List.set_cons_succ, List.getElem_toArray, List.getElem_cons_zero, List.getElem_cons_succ]
  refine till_take (i := 10) (v := ?_) rfl (by kernel_rfl) (by kernel_rfl) (by kernel_rfl) (by kernel_rfl) (fun _ _ _ h => h) (Or.inl ⟨by rfl, ?_⟩) HSo ?_
  rotate_left
  · intro w' hSw
    obtain ⟨s1, s2, s3, s4, s5⟩ := hSw
    go_simp
    try rfl
  simp only [Act.put, List.setIfInBounds_toArray, List.set_cons_zero, List.set_cons_succ, List.getElem_toArray, List.getElem_cons_zero, List.getElem_cons_succ]
  refine till_take (i := 11) (v := ?_) rfl (by kernel_rfl) (by kernel_rfl) (by kernel_rfl) (by kernel_rfl) (fun _ _ _ h => h) (Or.inl ⟨by rfl, ?_⟩) HSo ?_
  rotate_left
  · intro w' hSw
    obtain ⟨s1, s2, s3, s4, s5⟩ := hSw
    go_simp
    try rfl
  simp only [Act.put, List.setIfInBounds_toArray, List.set_cons_zero, List.set_cons_succ, List.getElem_toArray, List.getElem_cons_zero, List.getElem_cons_succ]
  refine till_take (i := 12) (v := ?_) rfl (by kernel_rfl) (by kernel_rfl) (by kernel_rfl) (by kernel_rfl) (fun _ _ _ h => h) (Or.inl ⟨by rfl, ?_⟩) HSo ?_
  rotate_left
  · intro w' hSw
    obtain ⟨s1, s2, s3, s4, s5⟩ := hSw
    go_simp
    try rfl
  simp only [Act.put, List.setIfInBounds_toArray, List.set_cons_zero, List.set_cons_succ, List.getElem_toArray, List.getElem_cons_zero, List.getElem_cons_succ]
  refine till_take (i := 13) (v := ?_) rfl (by kernel_rfl) (by kernel_rfl) (by kernel_rfl) (by kernel_rfl) (fun _ _ _ h => h) (Or.inl ⟨by rfl, ?_⟩) HSo ?_
  rotate_left
  · intro w' hSw
    obtain ⟨s1, s2, s3, s4, s5⟩ := hSw
    go_simp
    try rfl
  simp only [Act.put, List.setIfInBounds_toArray, List.set_cons_zero, List.set_cons_succ, List.getElem_toArray, List.getElem_cons_zero, List.getElem_cons_succ]
  refine till_take (i := 14) (v := ?_) rfl (by kernel_rfl) (by kernel_rfl) (by kernel_rfl) (by kernel_rfl) (fun _ _ _ h => h) (Or.inl ⟨by rfl, ?_⟩) HSo ?_
  rotate_left
  · intro w' hSw
    obtain ⟨s1, s2, s3, s4, s5⟩ := hSw
    go_simp
    try rfl
  simp only [Act.put, List.setIfInBounds_toArray, List.set_cons_zero, List.set_cons_succ, List.getElem_toArray, List.getElem_cons_zero, List.getElem_cons_succ]
  refine till_take (i := 15) (v := ?_) rfl (by kernel_rfl) (by kernel_rfl) (by kernel_rfl) (by kernel_rfl) (fun _ _ _ h => h) (Or.inl ⟨by rfl, ?_⟩) HSo ?_
  rotate_left
  · intro w' hSw
    obtain ⟨s1, s2, s3, s4, s5⟩ := hSw
    go_simp
    try rfl
  simp only [Act.put, List.setIfInBounds_toArray, List.set_cons_zero, List.set_cons_succ, List.getElem_toArray, List.getElem_cons_zero, List.getElem_cons_succ]
  refine till_take (i := 16) (v := ?_) rfl (by kernel_rfl) (by kernel_rfl) (by kernel_rfl) (by kernel_rfl) (fun _ _ _ h => h) (Or.inl ⟨by rfl, ?_⟩) HSo ?_
  rotate_left
  · intro w' hSw
    obtain ⟨s1, s2, s3, s4, s5⟩ := hSw
    go_simp
    try rfl
  simp only [Act.put, List.setIfInBounds_toArray, List.set_cons_zero, List.set_cons_succ, List.getElem_toArray, List.getElem_cons_zero, List.getElem_cons_succ]
  refine till_take (i := 17) (v := ?_) rfl (by kernel_rfl) (by kernel_rfl) (by kernel_rfl) (by kernel_rfl) (fun _ _ _ h => h) (Or.inl ⟨by rfl, ?_⟩) HSo ?_
  rotate_left
  · intro w' hSw
    obtain ⟨s1, s2, s3, s4, s5⟩ := hSw
    go_simp
    try rfl
  simp only [Act.put, List.setIfInBounds_toArray, List.set_cons_zero, List.set_cons_succ, List.getElem_toArray, List.getElem_cons_zero, List.getElem_cons_succ]
  refine till_take (i := 18) (v := ?_) rfl (by kernel_rfl) (by kernel_rfl) (by kernel_rfl) (by kernel_rfl) (fun _ _ _ h => h) (Or.inl ⟨by rfl, ?_⟩) HSo ?_
  rotate_left
  · intro w' hSw
    obtain ⟨s1, s2, s3, s4, s5⟩ := hSw
    go_simp
    try rfl
  simp only [Act.put, List.setIfInBounds_toArray, List.set_cons_zero, List.set_cons_succ, List.getElem_toArray, List.getElem_cons_zero, List.getElem_cons_succ]
  refine till_one (i := 19) (by kernel_rfl) rfl ?_
  intro K hK
  go_simp
  have hb0 : b < W0.heap.size := (Array.getElem?_eq_some_iff.1 hbox0).1
  have hg0 : ga < W0.heap.size := (Array.getElem?_eq_some_iff.1 hA0.blk).1
  have hA0d : AsmAt es W0.drew B ga rn rl (.slice ad st.words.length cap) (.slice ado st.opens.length capo) st line := hA0.keep (Below.refl _ _).drew
  have hSo2 : OpenS ga b (.slice ado st.opens.length capo) (.slice ad st.words.length cap) line (.nilIface) gl (W0.drew.alloc (.cells #[.int .i64 st.words.length, .int .i64 line, .nilIface, S gl] 75)) := by
    obtain ⟨s1, s2, s3, s4, s5⟩ := HSo
    exact ⟨(World.cell?_alloc_past _ _ _ hg0).trans s1, (World.cell?_alloc_past _ _ _ hg0).trans s2, (World.cell?_alloc_past _ _ _ hg0).trans s3, (World.cell?_alloc_past _ _ _ hb0).trans s4, (World.cell?_alloc_past _ _ _ hb0).trans s5⟩
  refine hK _ _ (fun _ => hSo2) ?_
  clear hK K
  have hAo := hA0d.keep (w' := W0.drew.alloc (.cells #[.int .i64 st.words.length, .int .i64 line, .nilIface, S gl] 75)) ((Below.refl _ _).alloc (Nat.le_refl _) _)
  refine till_one (i := 20) (by kernel_rfl) rfl ?_
  intro K hK
  refine step_append_own rfl (.tmp 18) (.tmp 33) 38 rfl B 75 iO (.agg #[.int .i64 0, .int .i64 0, .nilIface, .string ⟨#[]⟩]) 4 48 Tryz.underlying38 (unhide HIO).1 (unhide HIO).2.1 (unhide HIO).2.2.1 (unhide HIO).2.2.2 rfl (by decide) _ st.opens.length (st.opens.flatMap Op4.list) rfl hAo.opens ⟨W0.heap.size, 0, none⟩ 1 1 [.int .i64 st.words.length, .int .i64 line, .nilIface, S gl] rfl rfl (new_cells W0.drew [.int .i64 st.words.length, .int .i64 line, .nilIface, S gl] 75) ?_ ?_ ?_ hAo.base ?_
  · intro u hu; simp at hu; rcases hu with rfl | rfl | rfl | rfl <;> rfl
  · unfold maxLen; omega
  · omega
  intro vo' wo hno hgo
  have hboxo := (Below.heap_alloc W0.drew (.cells #[.int .i64 st.words.length, .int .i64 line, .nilIface, S gl] 75) b hb0).trans hbox0
  have hgo2 : ga < (W0.drew.alloc (.cells #[.int .i64 st.words.length, .int .i64 line, .nilIface, S gl] 75)).heap.size := (Array.getElem?_eq_some_iff.1 hAo.blk).1
  have hbo2 : b < (W0.drew.alloc (.cells #[.int .i64 st.words.length, .int .i64 line, .nilIface, S gl] 75)).heap.size := (Array.getElem?_eq_some_iff.1 hboxo).1
  have f1 := hgo.block ga hgo2 (own_ne hAo.opens hAo.blk (by decide))
  have f2 := hgo.block b hbo2 (own_ne hAo.opens hboxo (by decide))
  have hSo3 : OpenS ga b (.slice ado st.opens.length capo) (.slice ad st.words.length cap) line (.nilIface) gl wo := by
    obtain ⟨s1, s2, s3, s4, s5⟩ := hSo2
    exact ⟨(World.cell?_of_block f1).trans s1, (World.cell?_of_block f1).trans s2, (World.cell?_of_block f1).trans s3, (World.cell?_of_block f2).trans s4, (World.cell?_of_block f2).trans s5⟩
  refine hK _ _ (fun _ => hSo3) ?_
  clear hK K
  have hco : wo.cell? ⟨ga, 3, none⟩ = some (.slice ado st.opens.length capo) := hSo3.1
  have hfo := frozen_row (f1.trans hAo.blk) 3
  obtain ⟨adv0, capv0, hvo', _⟩ := slice_shape hno
  have hfin := asm_opens (o := { idx := st.words.length, line := line, shape := .nilIface, goal := gl }) hAo hgo (by exact hno)
  have hbox4 := (heap_setCell_other wo ⟨ga, 3, none⟩ b vo' (by show b ≠ ga; intro e; rw [e, hA0.blk] at hbox0; simp at hbox0)).trans (f2.trans hboxo)
  have hK4 := (HK0.out.trans (Kept.of (w' := W0.drew) hA0.base (Below.refl _ _).drew)).trans ((Kept.of (w' := W0.drew.alloc (.cells #[.int .i64 st.words.length, .int .i64 line, .nilIface, S gl] 75)) hA0d.base ((Below.refl _ _).alloc (Nat.le_refl _) _)).trans hfin.2)
  have hA4 := hfin.1
  subst hvo'
  simp only [Act.put, List.setIfInBounds_toArray, List.set_cons_zero, List.set_cons_succ, List.getElem_toArray, List.getElem_cons_zero, List.getElem_cons_succ]
  refine till_one (i := 21) (by kernel_rfl) rfl ?_
  intro K hK
  go_simp
  refine hK _ _ (fun hh => absurd hh (by decide)) ?_
  clear hK K
  refine till_one (i := 22) (by kernel_rfl) rfl ?_
  intro K hK
  go_simp
  refine hK _ _ (fun hh => absurd hh (by decide)) ?_
  clear hK K
  refine till_one (i := 23) (by kernel_rfl) rfl ?_
  intro K hK
  go_simp
  refine hK _ _ (fun hh => absurd hh (by decide)) ?_
  clear hK K
  refine till_done (by kernel_rfl) ?_ _
  have HA5 := hide hA4
  have HBOX5 := hide hbox4
  have HK5 := hide hK4
  clear hSo2 hSo3 hfin hAo hA0d HSo hco hfo f1 f2 hboxo hgo2 hbo2 hgo hno hA4 hbox4 hK4 hA0 hbox0 HK0 hb0 hg0
  generalize wo.setCell ⟨ga, 3, none⟩ (.slice adv0 (st.opens.length + 1) capv0) = W5 at *
  have hcw5 := cell_row (unhide HA5).blk 2 _ rfl
  go_wp2_with fail
  have hA5 := unhide HA5
  have hbox5 := unhide HBOX5
  clear HA5 HBOX5
  have hb0 : b < W5.heap.size := (Array.getElem?_eq_some_iff.1 hbox5).1
  have hg0 : ga < W5.heap.size := (Array.getElem?_eq_some_iff.1 hA5.blk).1
  have HS : AddS ga b (.slice ad st.words.length cap) wd n f W5.drew := ⟨cell_row hA5.blk 2 _ rfl, cell_row hbox5 2 _ rfl, cell_row hbox5 4 _ rfl, cell_row hbox5 5 _ rfl, cell_row hbox5 6 _ rfl, cell_row hbox5 7 _ rfl, cell_row hbox5 8 _ rfl⟩
  refine till_begin 15 (AddS ga b (.slice ad st.words.length cap) wd n f) (by kernel_rfl) ?_
  refine till_take (i := 0) (v := ?_) rfl (by kernel_rfl) (by kernel_rfl) (by kernel_rfl) (by kernel_rfl) (fun _ _ _ h => h) (Or.inl ⟨by rfl, ?_⟩) HS ?_
  rotate_left
  · intro w' hSw
    obtain ⟨s1, s2, s3, s4, s5, s6, s7⟩ := hSw
    go_simp
    try rfl
  simp only [Act.put, List.setIfInBounds_toArray, List.set_cons_zero, List.set_cons_succ, List.getElem_toArray, List.getElem_cons_zero]
  refine till_take (i := 1) (v := ?_) rfl (by kernel_rfl) (by kernel_rfl) (by kernel_rfl) (by kernel_rfl) (fun _ _ _ h => h) (Or.inl ⟨by rfl, ?_⟩) HS ?_
  rotate_left
  · intro w' hSw
    obtain ⟨s1, s2, s3, s4, s5, s6, s7⟩ := hSw
    go_simp
    try rfl
  simp only [Act.put, List.setIfInBounds_toArray, List.set_cons_zero, List.set_cons_succ, List.getElem_toArray, List.getElem_cons_zero, List.getElem_cons_succ]
  refine till_take (i := 2) (v := ?_) rfl (by kernel_rfl) (by kernel_rfl) (by kernel_rfl) (by kernel_rfl) (fun _ _ _ h => h) (Or.inl ⟨by rfl, ?_⟩) HS ?_
  rotate_left
  · intro w' hSw
    obtain ⟨s1, s2, s3, s4, s5, s6, s7⟩ := hSw
    go_simp
    try rfl
  simp only [Act.put, List.setIfInBounds_toArray, List.set_cons_zero, List.set_cons_succ, List.getElem_toArray, List.getElem_cons_zero, List.getElem_cons_succ]
  refine till_take (i := 3) (v := ?_) rfl (by kernel_rfl) (by kernel_rfl) (by kernel_rfl) (by kernel_rfl) (fun _ _ _ h => h) (Or.inl ⟨by rfl, ?_⟩) HS ?_
  rotate_left
  · intro w' hSw
    obtain ⟨s1, s2, s3, s4, s5, s6, s7⟩ := hSw
    go_simp
    try rfl
  simp only [Act.put, List.setIfInBounds_toArray, List.set_cons_zero, List.set_cons_succ, List.getElem_toArray, List.getElem_cons_zero, List.getElem_cons_succ]
  refine till_take (i := 4) (v := ?_) rfl (by kernel_rfl) (by kernel_rfl) (by kernel_rfl) (by kernel_rfl) (fun _ _ _ h => h) (Or.inl ⟨by rfl, ?_⟩) HS ?_
  rotate_left
  · intro w' hSw
    obtain ⟨s1, s2, s3, s4, s5, s6, s7⟩ := hSw
    go_simp
    try rfl
  simp only [Act.put, List.setIfInBounds_toArray, List.set_cons_zero, List.set_cons_succ, List.getElem_toArray, List.getElem_cons_zero, List.getElem_cons_succ]
  refine till_take (i := 5) (v := ?_) rfl (by kernel_rfl) (by kernel_rfl) (by kernel_rfl) (by kernel_rfl) (fun _ _ _ h => h) (Or.inl ⟨by rfl, ?_⟩) HS ?_
  rotate_left
  · intro w' hSw
    obtain ⟨s1, s2, s3, s4, s5, s6, s7⟩ := hSw
    go_simp
    try rfl
  simp only [Act.put, List.setIfInBounds_toArray, List.set_cons_zero, List.set_cons_succ, List.getElem_toArray, List.getElem_cons_zero, List.getElem_cons_succ]
  refine till_take (i := 6) (v := ?_) rfl (by kernel_rfl) (by kernel_rfl) (by kernel_rfl) (by kernel_rfl) (fun _ _ _ h => h) (Or.inl ⟨by rfl, ?_⟩) HS ?_
  rotate_left
  · intro w' hSw
    obtain ⟨s1, s2, s3, s4, s5, s6, s7⟩ := hSw
    go_simp
    try rfl
  simp only [Act.put, List.setIfInBounds_toArray, List.set_cons_zero, List.set_cons_succ, List.getElem_toArray, List.getElem_cons_zero, List.getElem_cons_succ]
  refine till_take (i := 7) (v := ?_) rfl (by kernel_rfl) (by kernel_rfl) (by kernel_rfl) (by kernel_rfl) (fun _ _ _ h => h) (Or.inl ⟨by rfl, ?_⟩) HS ?_
  rotate_left
  · intro w' hSw
    obtain ⟨s1, s2, s3, s4, s5, s6, s7⟩ := hSw
    go_simp
    try rfl
  simp only [Act.put, List.setIfInBounds_toArray, List.set_cons_zero, List.set_cons_succ, List.getElem_toArray, List.getElem_cons_zero, List.getElem_cons_succ]
  refine till_take (i := 8) (v := ?_) rfl (by kernel_rfl) (by kernel_rfl) (by kernel_rfl) (by kernel_rfl) (fun _ _ _ h => h) (Or.inl ⟨by rfl, ?_⟩) HS ?_
  rotate_left
  · intro w' hSw
    obtain ⟨s1, s2, s3, s4, s5, s6, s7⟩ := hSw
    go_simp
    try rfl
  simp only [Act.put, List.setIfInBounds_toArray, List.set_cons_zero, List.set_cons_succ, List.getElem_toArray, List.getElem_cons_zero, List.getElem_cons_succ]
  refine till_take (i := 9) (v := ?_) rfl (by kernel_rfl) (by kernel_rfl) (by kernel_rfl) (by kernel_rfl) (fun _ _ _ h => h) (Or.inl ⟨by rfl, ?_⟩) HS ?_
  rotate_left
  · intro w' hSw
    obtain ⟨s1, s2, s3, s4, s5, s6, s7⟩ := hSw
    go_simp
    try rfl
  simp only [Act.put, List.setIfInBounds_toArray, List.set_cons_zero, List.set_cons_succ, List.getElem_toArray, List.getElem_cons_zero, List.getElem_cons_succ]
  refine till_take (i := 10) (v := ?_) rfl (by kernel_rfl) (by kernel_rfl) (by kernel_rfl) (by kernel_rfl) (fun _ _ _ h => h) (Or.inl ⟨by rfl, ?_⟩) HS ?_
  rotate_left
  · intro w' hSw
    obtain ⟨s1, s2, s3, s4, s5, s6, s7⟩ := hSw
    go_simp
    try rfl
  simp only [Act.put, List.setIfInBounds_toArray, List.set_cons_zero, List.set_cons_succ, List.getElem_toArray, List.getElem_cons_zero, List.getElem_cons_succ]
  refine till_one (i := 11) (by kernel_rfl) rfl ?_
  intro K hK
  go_simp
  refine (putF_calls f hf n _).mono ?_
  rintro e w1 ⟨rfl, hb1⟩
  show K _ _
  have hb1' : Below W5.heap.size W5 w1 := ⟨hb1.os, hb1.tape, hb1.output, hb1.size, hb1.block⟩
  have hS1 : AddS ga b (.slice ad st.words.length cap) wd n f w1 := by
    obtain ⟨s1, s2, s3, s4, s5, s6, s7⟩ := HS
    exact ⟨(hb1.cell (p := ⟨ga, 2, none⟩) hg0).trans s1, (hb1.cell (p := ⟨b, 2, none⟩) hb0).trans s2, (hb1.cell (p := ⟨b, 4, none⟩) hb0).trans s3, (hb1.cell (p := ⟨b, 5, none⟩) hb0).trans s4, (hb1.cell (p := ⟨b, 6, none⟩) hb0).trans s5, (hb1.cell (p := ⟨b, 7, none⟩) hb0).trans s6, (hb1.cell (p := ⟨b, 8, none⟩) hb0).trans s7⟩
  refine hK _ _ (fun _ => hS1) ?_
  clear hK K
  refine till_take (i := 12) (v := ?_) rfl (by kernel_rfl) (by kernel_rfl) (by kernel_rfl) (by kernel_rfl) (fun _ _ _ h => h) (Or.inl ⟨by rfl, ?_⟩) hS1 ?_
  rotate_left
  · intro w' hSw
    obtain ⟨s1, s2, s3, s4, s5, s6, s7⟩ := hSw
    go_simp
    try rfl
  simp only [Act.put, List.setIfInBounds_toArray, List.set_cons_zero, List.set_cons_succ, List.getElem_toArray, List.getElem_cons_zero, List.getElem_cons_succ]
  refine till_one (i := 13) (by kernel_rfl) rfl ?_
  intro K hK
  go_simp
  have hA1 := hA5.keep hb1'
  have hbs : b < w1.heap.size := Nat.lt_of_lt_of_le hb0 hb1.size
  have hgs : ga < w1.heap.size := (Array.getElem?_eq_some_iff.1 hA1.blk).1
  generalize hx : bits .or .u32 wd (putF f n) = x at *
  have hS2 : AddS ga b (.slice ad st.words.length cap) wd n f (w1.alloc (.cells #[.int .u32 x] 66)) := by
    obtain ⟨s1, s2, s3, s4, s5, s6, s7⟩ := hS1
    exact ⟨(World.cell?_alloc_past _ _ _ hgs).trans s1, (World.cell?_alloc_past _ _ _ hbs).trans s2, (World.cell?_alloc_past _ _ _ hbs).trans s3, (World.cell?_alloc_past _ _ _ hbs).trans s4, (World.cell?_alloc_past _ _ _ hbs).trans s5, (World.cell?_alloc_past _ _ _ hbs).trans s6, (World.cell?_alloc_past _ _ _ hbs).trans s7⟩
  refine hK _ _ (fun _ => hS2) ?_
  clear hK K
  have hA2 := hA1.keep (w' := w1.alloc (.cells #[.int .u32 x] 66)) ((Below.refl _ _).alloc (Nat.le_refl _) _)
  refine till_one (i := 14) (by kernel_rfl) rfl ?_
  intro K hK
  refine step_append_own rfl (.tmp 41) (.tmp 50) 37 rfl B 66 iU (.int .u32 0) 1 4 Tryz.underlying37 (unhide HI).1 (unhide HI).2.1 (unhide HI).2.2.1 (unhide HI).2.2.2 rfl (by decide) _ st.words.length (st.words.map fun x => Value.int .u32 x) rfl hA2.words ⟨w1.heap.size, 0, none⟩ 1 1 [.int .u32 x] rfl rfl (new_cells w1 [.int .u32 x] 66) ?_ ?_ ?_ hA2.base ?_
  · intro u hu; simp at hu; subst hu; rfl
  · unfold maxLen; omega
  · omega
  intro v' w' hn hgr
  have hbox1 := (Below.heap_alloc w1 (.cells #[.int .u32 x] 66) b hbs).trans ((hb1.block b hb0).trans hbox5)
  have hgs2 : ga < (w1.alloc (.cells #[.int .u32 x] 66)).heap.size := by simp; omega
  have hbs2 : b < (w1.alloc (.cells #[.int .u32 x] 66)).heap.size := by simp; omega
  have e1 := hgr.block ga hgs2 (own_ne hA2.words hA2.blk (by decide))
  have e2 := hgr.block b hbs2 (own_ne hA2.words hbox1 (by decide))
  have hS3 : AddS ga b (.slice ad st.words.length cap) wd n f w' := by
    obtain ⟨s1, s2, s3, s4, s5, s6, s7⟩ := hS2
    exact ⟨(World.cell?_of_block e1).trans s1, (World.cell?_of_block e2).trans s2, (World.cell?_of_block e2).trans s3, (World.cell?_of_block e2).trans s4, (World.cell?_of_block e2).trans s5, (World.cell?_of_block e2).trans s6, (World.cell?_of_block e2).trans s7⟩
  refine hK _ _ (fun _ => hS3) ?_
  clear hK K
  have hcw : w'.cell? ⟨ga, 2, none⟩ = some (.slice ad st.words.length cap) := hS3.1
  have hfw := frozen_row (e1.trans hA2.blk) 2
  obtain ⟨adv, capv, hv', _⟩ := slice_shape hn
  have HFIN := hide (asm_words hA2 hgr (by exact hn))
  have HKP := hide ((HK5.out.trans (Kept.of hA5.base hb1')).trans (Kept.of (w' := w1.alloc (.cells #[.int .u32 x] 66)) hA1.base ((Below.refl _ _).alloc (Nat.le_refl _) _)))
  subst hv'
  simp only [Act.put, List.setIfInBounds_toArray, List.set_cons_zero, List.set_cons_succ, List.getElem_toArray, List.getElem_cons_zero, List.getElem_cons_succ]
  refine till_one (i := 15) (by kernel_rfl) rfl ?_
  intro K hK
  go_simp
  refine hK _ _ (fun hh => absurd hh (by decide)) ?_
  clear hK K
  refine till_one (i := 16) (by kernel_rfl) rfl ?_
  intro K hK
  go_simp
  refine hK _ _ (fun hh => absurd hh (by decide)) ?_
  clear hK K
  refine till_one (i := 17) (by kernel_rfl) rfl ?_
  intro K hK
  go_simp
  refine hK _ _ (fun hh => absurd hh (by decide)) ?_
  clear hK K
  refine till_done (by kernel_rfl) ?_ _
  go_wp2_with fail
  go_end0
  subst hx
  exact ⟨(unhide HKP).trans (unhide HFIN).2, rfl, _, _, (unhide HFIN).1⟩
set_option maxHeartbeats 4000000 in
set_option maxRecDepth 100000 in
theorem addWord_gi (es : Array MapEntry) (lb : List UInt8) (t : TypeId) (x0 : Value) (has : Bool) (wd n : Int) (f : Fd) (gl : List UInt8) (hgl : gl.isEmpty = false) (B ga rn rl : Nat) (vw vo : Value) (st : PSt) (line : Nat) (w : World) (h : AsmAt es w B ga rn rl vw vo st line) (hw : st.words.length < 64) (ho : st.opens.length ≤ 64) (hf : FdOk f) :
    Calls Tryz.prog 31 #[.pointer (some ⟨ga, 0, none⟩), .agg #[S lb, .bool has, .int .u32 wd, .iface t x0, .int .i64 n, .int .i64 f.lo, .int .i64 f.wi, .int .i64 f.least, .int .i64 f.most, S gl]] w fun e w' => AsmMakes es B ga rn rl line (.ok { st with words := st.words ++ [bits .or .u32 wd (putF f n)], opens := st.opens ++ [{ idx := st.words.length, line := line, shape := .iface t x0, goal := gl }] }) w e w' := by
  have hcw0 := cell_row h.blk 2 _ rfl
  obtain ⟨ad, cap, rfl, _⟩ := slice_shape h.words
  obtain ⟨ado, capo, rfl, _⟩ := slice_shape h.opens
  have h64 : ((st.words.length : Int) == 64) = false := by rw [beq_eq_false_iff_ne]; omega
  obtain ⟨iU, hi0, hi1, hi2, hi3⟩ := info_parts infoU
  have HI := hide (And.intro hi0 (And.intro hi1 (And.intro hi2 hi3)))
  clear hi0 hi1 hi2 hi3
  obtain ⟨iO, hj0, hj1, hj2, hj3⟩ := info_parts infoO
  have HIO := hide (And.intro hj0 (And.intro hj1 (And.intro hj2 hj3)))
  clear hj0 hj1 hj2 hj3
  have hA0 : AsmAt es (w.alloc (.cells #[S lb, .bool has, .int .u32 wd, .iface t x0, .int .i64 n, .int .i64 f.lo, .int .i64 f.wi, .int .i64 f.least, .int .i64 f.most, S gl] 72)) B ga rn rl (.slice ad st.words.length cap) (.slice ado st.opens.length capo) st line := h.keep ((Below.refl _ _).alloc (Nat.le_refl _) _)
  have hbox0 := heap_alloc_new w (.cells #[S lb, .bool has, .int .u32 wd, .iface t x0, .int .i64 n, .int .i64 f.lo, .int .i64 f.wi, .int .i64 f.least, .int .i64 f.most, S gl] 72)
  have HK0 : Hid (Kept B ga rl w (w.alloc (.cells #[S lb, .bool has, .int .u32 wd, .iface t x0, .int .i64 n, .int .i64 f.lo, .int .i64 f.wi, .int .i64 f.least, .int .i64 f.most, S gl] 72))) := Kept.of h.base ((Below.refl _ _).alloc (Nat.le_refl _) _)
  have hlt : ga < w.heap.size := (Array.getElem?_eq_some_iff.1 h.blk).1
  obtain ⟨b, hb⟩ : ∃ b, b = w.heap.size := ⟨_, rfl⟩
  have HA0 := hide hA0
  have HBOX := hide hbox0
  clear h hA0 hbox0
  go_enter Tryz.func31, Tryz.ntmps31
  go_wp2_with fail
  have hA0 := unhide HA0
  have hbox0 := unhide HBOX
  rw [← hb] at hbox0 ⊢
  clear HA0 HBOX
  generalize w.alloc (.cells #[S lb, .bool has, .int .u32 wd, .iface t x0, .int .i64 n, .int .i64 f.lo, .int .i64 f.wi, .int .i64 f.least, .int .i64 f.most, S gl] 72) = W0 at *
  clear hb
  have HSo : OpenS ga b (.slice ado st.opens.length capo) (.slice ad st.words.length cap) line (.iface t x0) gl W0.drew := ⟨cell_row hA0.blk 3 _ rfl, cell_row hA0.blk 2 _ rfl, cell_row hA0.blk 4 _ rfl, cell_row hbox0 3 _ rfl, cell_row hbox0 9 _ rfl⟩
  refine till_begin 21 (OpenS ga b (.slice ado st.opens.length capo) (.slice ad st.words.length cap) line (.iface t x0) gl) (by kernel_rfl) ?_
  refine till_take (i := 0) (v := ?_) rfl (by kernel_rfl) (by kernel_rfl) (by kernel_rfl) (by kernel_rfl) (fun _ _ _ h => h) (Or.inl ⟨by rfl, ?_⟩) HSo ?_
  rotate_left
  · intro w' hSw
    obtain ⟨s1, s2, s3, s4, s5⟩ := hSw
    go_simp
    try rfl
  simp only [Act.put, List.setIfInBounds_toArray, List.set_cons_zero, List.set_cons_succ, List.getElem_toArray, List.getElem_cons_zero]
  refine till_take (i := 1) (v := ?_) rfl (by kernel_rfl) (by kernel_rfl) (by kernel_rfl) (by kernel_rfl) (fun _ _ _ h => h) (Or.inl ⟨by rfl, ?_⟩) HSo ?_
  rotate_left
  · intro w' hSw
    obtain ⟨s1, s2, s3, s4, s5⟩ := hSw
    go_simp
    try rfl
  simp only [Act.put, List.setIfInBounds_toArray, List.set_cons_zero, List.set_cons_succ, List.getElem_toArray, List.getElem_cons_zero, List.getElem_cons_succ]
  refine till_take (i := 2) (v := ?_) rfl (by kernel_rfl) (by kernel_rfl) (by kernel_rfl) (by kernel_rfl) (fun _ _ _ h => h) (Or.inl ⟨by rfl, ?_⟩) HSo ?_
  rotate_left
  · intro w' hSw
    obtain ⟨s1, s2, s3, s4, s5⟩ := hSw
    go_simp
    try rfl
  simp only [Act.put, List.setIfInBounds_toArray, List.set_cons_zero, List.set_cons_succ, List.getElem_toArray, List.getElem_cons_zero, List.getElem_cons_succ]
  refine till_take (i := 3) (v := ?_) rfl (by kernel_rfl) (by kernel_rfl) (by kernel_rfl) (by kernel_rfl) (fun _ _ _ h => h) (Or.inl ⟨by rfl, ?_⟩) HSo ?_
  rotate_left
  · intro w' hSw
    obtain ⟨s1, s2, s3, s4, s5⟩ := hSw
    go_simp
    try rfl
  simp only [Act.put, List.setIfInBounds_toArray, List.set_cons_zero, List.set_cons_succ, List.getElem_toArray, List.getElem_cons_zero, List.getElem_cons_succ]
  refine till_take (i := 4) (v := ?_) rfl (by kernel_rfl) (by kernel_rfl) (by kernel_rfl) (by kernel_rfl) (fun _ _ _ h => h) (Or.inl ⟨by rfl, ?_⟩) HSo ?_
  rotate_left
  · intro w' hSw
    obtain ⟨s1, s2, s3, s4, s5⟩ := hSw
    go_simp
    try rfl
  simp only [Act.put, List.setIfInBounds_toArray, List.set_cons_zero, List.set_cons_succ, List.getElem_toArray, List.getElem_cons_zero, List.getElem_cons_succ]
  refine till_take (i := 5) (v := ?_) rfl (by kernel_rfl) (by kernel_rfl) (by kernel_rfl) (by kernel_rfl) (fun _ _ _ h => h) (Or.inl ⟨by rfl, ?_⟩) HSo ?_
  rotate_left
  · intro w' hSw
    obtain ⟨s1, s2, s3, s4, s5⟩ := hSw
    go_simp
    try rfl
  simp only [Act.put, List.setIfInBounds_toArray, List.set_cons_zero, List.set_cons_succ, List.getElem_toArray, List.getElem_cons_zero, List.getElem_cons_succ]
  refine till_take (i := 6) (v := ?_) rfl (by kernel_rfl) (by kernel_rfl) (by kernel_rfl) (by kernel_rfl) (fun _ _ _ h => h) (Or.inl ⟨by rfl, ?_⟩) HSo ?_
  rotate_left
  · intro w' hSw
    obtain ⟨s1, s2, s3, s4, s5⟩ := hSw
    go_simp
    try rfl
  simp only [Act.put, List.setIfInBounds_toArray, List.set_cons_zero, List.set_cons_succ, List.getElem_toArray, List.getElem_cons_zero, List.getElem_cons_succ]
  refine till_take (i := 7) (v := ?_) rfl (by kernel_rfl) (by kernel_rfl) (by kernel_rfl) (by kernel_rfl) (fun _ _ _ h => h) (Or.inl ⟨by rfl, ?_⟩) HSo ?_
  rotate_left
  · intro w' hSw
    obtain ⟨s1, s2, s3, s4, s5⟩ := hSw
    go_simp
    try rfl
  simp only [Act.put, List.setIfInBounds_toArray, List.set_cons_zero, List.set_cons_succ, List.getElem_toArray, List.getElem_cons_zero, List.getElem_cons_succ]
  refine till_take (i := 8) (v := ?_) rfl (by kernel_rfl) (by kernel_rfl) (by kernel_rfl) (by kernel_rfl) (fun _ _ _ h => h) (Or.inl ⟨by rfl, ?_⟩) HSo ?_
  rotate_left
  · intro w' hSw
    obtain ⟨s1, s2, s3, s4, s5⟩ := hSw
    go_simp
    try rfl
  simp only [Act.put, List.setIfInBounds_toArray, List.set_cons_zero, List.set_cons_succ, List.getElem_toArray, List.getElem_cons_zero, List.getElem_cons_succ]
  refine till_take (i := 9) (v := ?_) rfl (by kernel_rfl) (by kernel_rfl) (by kernel_rfl) (by kernel_rfl) (fun _ _ _ h => h) (Or.inl ⟨by rfl, ?_⟩) HSo ?_
  rotate_left
  · intro w' hSw
    obtain ⟨s1, s2, s3, s4, s5⟩ := hSw
    go_simp
    try rfl
  simp only [Act.put, List.setIfInBounds_toArray, List.set_cons_zero, List.set_cons_succ, List.getElem_toArray, List.getElem_cons_zero, List.getElem_cons_succ]
  refine till_take (i := 10) (v := ?_) rfl (by kernel_rfl) (by kernel_rfl) (by kernel_rfl) (by kernel_rfl) (fun _ _ _ h => h) (Or.inl ⟨by rfl, ?_⟩) HSo ?_
  rotate_left
  · intro w' hSw
    obtain ⟨s1, s2, s3, s4, s5⟩ := hSw
    go_simp
    try rfl
  simp only [Act.put, List.setIfInBounds_toArray, List.set_cons_zero, List.set_cons_succ, List.getElem_toArray, List.getElem_cons_zero, List.getElem_cons_succ]
  refine till_take (i := 11) (v := ?_) rfl (by kernel_rfl) (by kernel_rfl) (by kernel_rfl) (by kernel_rfl) (fun _ _ _ h => h) (Or.inl ⟨by rfl, ?_⟩) HSo ?_
  rotate_left
  · intro w' hSw
    obtain ⟨s1, s2, s3, s4, s5⟩ := hSw
    go_simp
    try rfl
  simp only [Act.put, List.setIfInBounds_toArray, List.set_cons_zero, List.set_cons_succ, List.getElem_toArray, List.getElem_cons_zero, List.getElem_cons_succ]
  refine till_take (i := 12) (v := ?_) rfl (by kernel_rfl) (by kernel_rfl) (by kernel_rfl) (by kernel_rfl) (fun _ _ _ h => h) (Or.inl ⟨by rfl, ?_⟩) HSo ?_
  rotate_left
  · intro w' hSw
    obtain ⟨s1, s2, s3, s4, s5⟩ := hSw
    go_simp
    try rfl
  simp only [Act.put, List.setIfInBounds_toArray, List.set_cons_zero, List.set_cons_succ, List.getElem_toArray, List.getElem_cons_zero, List.getElem_cons_succ]
  refine till_take (i := 13) (v := ?_) rfl (by kernel_rfl) (by kernel_rfl) (by kernel_rfl) (by kernel_rfl) (fun _ _ _ h => h) (Or.inl ⟨by rfl, ?_⟩) HSo ?_
  rotate_left
  · intro w' hSw
    obtain ⟨s1, s2, s3, s4, s5⟩ := hSw
    go_simp
    try rfl
  simp only [Act.put, List.setIfInBounds_toArray, List.set_cons_zero, List.set_cons_succ, List.getElem_toArray, List.getElem_cons_zero, List.getElem_cons_succ]
  refine till_take (i := 14) (v := ?_) rfl (by kernel_rfl) (by kernel_rfl) (by kernel_rfl) (by kernel_rfl) (fun _ _ _ h => h) (Or.inl ⟨by rfl, ?_⟩) HSo ?_
  rotate_left
  · intro w' hSw
    obtain ⟨s1, s2, s3, s4, s5⟩ := hSw
    go_simp
    try rfl
  simp only [Act.put, List.setIfInBounds_toArray, List.set_cons_zero, List.set_cons_succ, List.getElem_toArray, List.getElem_cons_zero, List.getElem_cons_succ]
  refine till_take (i := 15) (v := ?_) rfl (by kernel_rfl) (by kernel_rfl) (by kernel_rfl) (by kernel_rfl) (fun _ _ _ h => h) (Or.inl ⟨by rfl, ?_⟩) HSo ?_
  rotate_left
  · intro w' hSw
    obtain ⟨s1, s2, s3, s4, s5⟩ := hSw
    go_simp
    try rfl
  simp only [Act.put, List.setIfInBounds_toArray, List.set_cons_zero, List.set_cons_succ, List.getElem_toArray, List.getElem_cons_zero, List.getElem_cons_succ]
  refine till_take (i := 16) (v := ?_) rfl (by kernel_rfl) (by kernel_rfl) (by kernel_rfl) (by kernel_rfl) (fun _ _ _ h => h) (Or.inl ⟨by rfl, ?_⟩) HSo ?_
  rotate_left
  · intro w' hSw
    obtain ⟨s1, s2, s3, s4, s5⟩ := hSw
    go_simp
    try rfl
  simp only [Act.put, List.setIfInBounds_toArray, List.set_cons_zero, List.set_cons_succ, List.getElem_toArray, List.getElem_cons_zero, List.getElem_cons_succ]
  refine till_take (i := 17) (v := ?_) rfl (by kernel_rfl) (by kernel_rfl) (by kernel_rfl) (by kernel_rfl) (fun _ _ _ h => h) (Or.inl ⟨by rfl, ?_⟩) HSo ?_
  rotate_left
  · intro w' hSw
    obtain ⟨s1, s2, s3, s4, s5⟩ := hSw
    go_simp
    try rfl
  simp only [Act.put, List.setIfInBounds_toArray, List.set_cons_zero, List.set_cons_succ, List.getElem_toArray, List.getElem_cons_zero, List.getElem_cons_succ]
  refine till_take (i := 18) (v := ?_) rfl (by kernel_rfl) (by kernel_rfl) (by kernel_rfl) (by kernel_rfl) (fun _ _ _ h => h) (Or.inl ⟨by rfl, ?_⟩) HSo ?_
  rotate_left
  · intro w' hSw
    obtain ⟨s1, s2, s3, s4, s5⟩ := hSw
    go_simp
    try rfl
  simp only [Act.put, List.setIfInBounds_toArray, List.set_cons_zero, List.set_cons_succ, List.getElem_toArray, List.getElem_cons_zero, List.getElem_cons_succ]
  refine till_one (i := 19) (by kernel_rfl) rfl ?_
  intro K hK
  go_simp
  have hb0 : b < W0.heap.size := (Array.getElem?_eq_some_iff.1 hbox0).1
  have hg0 : ga < W0.heap.size := (Array.getElem?_eq_some_iff.1 hA0.blk).1
  have hA0d : AsmAt es W0.drew B ga rn rl (.slice ad st.words.length cap) (.slice ado st.opens.length capo) st line := hA0.keep (Below.refl _ _).drew
  have hSo2 : OpenS ga b (.slice ado st.opens.length capo) (.slice ad st.words.length cap) line (.iface t x0) gl (W0.drew.alloc (.cells #[.int .i64 st.words.length, .int .i64 line, .iface t x0, S gl] 75)) := by
    obtain ⟨s1, s2, s3, s4, s5⟩ := HSo
    exact ⟨(World.cell?_alloc_past _ _ _ hg0).trans s1, (World.cell?_alloc_past _ _ _ hg0).trans s2, (World.cell?_alloc_past _ _ _ hg0).trans s3, (World.cell?_alloc_past _ _ _ hb0).trans s4, (World.cell?_alloc_past _ _ _ hb0).trans s5⟩
  refine hK _ _ (fun _ => hSo2) ?_
  clear hK K
  have hAo := hA0d.keep (w' := W0.drew.alloc (.cells #[.int .i64 st.words.length, .int .i64 line, .iface t x0, S gl] 75)) ((Below.refl _ _).alloc (Nat.le_refl _) _)
  refine till_one (i := 20) (by kernel_rfl) rfl ?_
  intro K hK
  refine step_append_own rfl (.tmp 18) (.tmp 33) 38 rfl B 75 iO (.agg #[.int .i64 0, .int .i64 0, .nilIface, .string ⟨#[]⟩]) 4 48 Tryz.underlying38 (unhide HIO).1 (unhide HIO).2.1 (unhide HIO).2.2.1 (unhide HIO).2.2.2 rfl (by decide) _ st.opens.length (st.opens.flatMap Op4.list) rfl hAo.opens ⟨W0.heap.size, 0, none⟩ 1 1 [.int .i64 st.words.length, .int .i64 line, .iface t x0, S gl] rfl rfl (new_cells W0.drew [.int .i64 st.words.length, .int .i64 line, .iface t x0, S gl] 75) ?_ ?_ ?_ hAo.base ?_
  · intro u hu; simp at hu; rcases hu with rfl | rfl | rfl | rfl <;> rfl
  · unfold maxLen; omega
  · omega
  intro vo' wo hno hgo
  have hboxo := (Below.heap_alloc W0.drew (.cells #[.int .i64 st.words.length, .int .i64 line, .iface t x0, S gl] 75) b hb0).trans hbox0
  have hgo2 : ga < (W0.drew.alloc (.cells #[.int .i64 st.words.length, .int .i64 line, .iface t x0, S gl] 75)).heap.size := (Array.getElem?_eq_some_iff.1 hAo.blk).1
  have hbo2 : b < (W0.drew.alloc (.cells #[.int .i64 st.words.length, .int .i64 line, .iface t x0, S gl] 75)).heap.size := (Array.getElem?_eq_some_iff.1 hboxo).1
  have f1 := hgo.block ga hgo2 (own_ne hAo.opens hAo.blk (by decide))
  have f2 := hgo.block b hbo2 (own_ne hAo.opens hboxo (by decide))
  have hSo3 : OpenS ga b (.slice ado st.opens.length capo) (.slice ad st.words.length cap) line (.iface t x0) gl wo := by
    obtain ⟨s1, s2, s3, s4, s5⟩ := hSo2
    exact ⟨(World.cell?_of_block f1).trans s1, (World.cell?_of_block f1).trans s2, (World.cell?_of_block f1).trans s3, (World.cell?_of_block f2).trans s4, (World.cell?_of_block f2).trans s5⟩
  refine hK _ _ (fun _ => hSo3) ?_
  clear hK K
  have hco : wo.cell? ⟨ga, 3, none⟩ = some (.slice ado st.opens.length capo) := hSo3.1
  have hfo := frozen_row (f1.trans hAo.blk) 3
  obtain ⟨adv0, capv0, hvo', _⟩ := slice_shape hno
  have hfin := asm_opens (o := { idx := st.words.length, line := line, shape := .iface t x0, goal := gl }) hAo hgo (by exact hno)
  have hbox4 := (heap_setCell_other wo ⟨ga, 3, none⟩ b vo' (by show b ≠ ga; intro e; rw [e, hA0.blk] at hbox0; simp at hbox0)).trans (f2.trans hboxo)
  have hK4 := (HK0.out.trans (Kept.of (w' := W0.drew) hA0.base (Below.refl _ _).drew)).trans ((Kept.of (w' := W0.drew.alloc (.cells #[.int .i64 st.words.length, .int .i64 line, .iface t x0, S gl] 75)) hA0d.base ((Below.refl _ _).alloc (Nat.le_refl _) _)).trans hfin.2)
  have hA4 := hfin.1
  subst hvo'
  simp only [Act.put, List.setIfInBounds_toArray, List.set_cons_zero, List.set_cons_succ, List.getElem_toArray, List.getElem_cons_zero, List.getElem_cons_succ]
  refine till_one (i := 21) (by kernel_rfl) rfl ?_
  intro K hK
  go_simp
  refine hK _ _ (fun hh => absurd hh (by decide)) ?_
  clear hK K
  refine till_one (i := 22) (by kernel_rfl) rfl ?_
  intro K hK
  go_simp
  refine hK _ _ (fun hh => absurd hh (by decide)) ?_
  clear hK K
  refine till_one (i := 23) (by kernel_rfl) rfl ?_
  intro K hK
  go_simp
  refine hK _ _ (fun hh => absurd hh (by decide)) ?_
  clear hK K
  refine till_done (by kernel_rfl) ?_ _
  have HA5 := hide hA4
  have HBOX5 := hide hbox4
  have HK5 := hide hK4
  clear hSo2 hSo3 hfin hAo hA0d HSo hco hfo f1 f2 hboxo hgo2 hbo2 hgo hno hA4 hbox4 hK4 hA0 hbox0 HK0 hb0 hg0
  generalize wo.setCell ⟨ga, 3, none⟩ (.slice adv0 (st.opens.length + 1) capv0) = W5 at *
  have hcw5 := cell_row (unhide HA5).blk 2 _ rfl
  go_wp2_with fail
  have hA5 := unhide HA5
  have hbox5 := unhide HBOX5
  clear HA5 HBOX5
  have hb0 : b < W5.heap.size := (Array.getElem?_eq_some_iff.1 hbox5).1
  have hg0 : ga < W5.heap.size := (Array.getElem?_eq_some_iff.1 hA5.blk).1
  have HS : AddS ga b (.slice ad st.words.length cap) wd n f W5.drew := ⟨cell_row hA5.blk 2 _ rfl, cell_row hbox5 2 _ rfl, cell_row hbox5 4 _ rfl, cell_row hbox5 5 _ rfl, cell_row hbox5 6 _ rfl, cell_row hbox5 7 _ rfl, cell_row hbox5 8 _ rfl⟩
  refine till_begin 15 (AddS ga b (.slice ad st.words.length cap) wd n f) (by kernel_rfl) ?_
  refine till_take (i := 0) (v := ?_) rfl (by kernel_rfl) (by kernel_rfl) (by kernel_rfl) (by kernel_rfl) (fun _ _ _ h => h) (Or.inl ⟨by rfl, ?_⟩) HS ?_
  rotate_left
  · intro w' hSw
    obtain ⟨s1, s2, s3, s4, s5, s6, s7⟩ := hSw
    go_simp
    try rfl
  simp only [Act.put, List.setIfInBounds_toArray, List.set_cons_zero, List.set_cons_succ, List.getElem_toArray, List.getElem_cons_zero]
  refine till_take (i := 1) (v := ?_) rfl (by kernel_rfl) (by kernel_rfl) (by kernel_rfl) (by kernel_rfl) (fun _ _ _ h => h) (Or.inl ⟨by rfl, ?_⟩) HS ?_
  rotate_left
  · intro w' hSw
    obtain ⟨s1, s2, s3, s4, s5, s6, s7⟩ := hSw
    go_simp
    try rfl
  simp only [Act.put, List.setIfInBounds_toArray, List.set_cons_zero, List.set_cons_succ, List.getElem_toArray, List.getElem_cons_zero, List.getElem_cons_succ]
  refine till_take (i := 2) (v := ?_) rfl (by kernel_rfl) (by kernel_rfl) (by kernel_rfl) (by kernel_rfl) (fun _ _ _ h => h) (Or.inl ⟨by rfl, ?_⟩) HS ?_
  rotate_left
  · intro w' hSw
    obtain ⟨s1, s2, s3, s4, s5, s6, s7⟩ := hSw
    go_simp
    try rfl
  simp only [Act.put, List.setIfInBounds_toArray, List.set_cons_zero, List.set_cons_succ, List.getElem_toArray, List.getElem_cons_zero, List.getElem_cons_succ]
  refine till_take (i := 3) (v := ?_) rfl (by kernel_rfl) (by kernel_rfl) (by kernel_rfl) (by kernel_rfl) (fun _ _ _ h => h) (Or.inl ⟨by rfl, ?_⟩) HS ?_
  rotate_left
  · intro w' hSw
    obtain ⟨s1, s2, s3, s4, s5, s6, s7⟩ := hSw
    go_simp
    try rfl
  simp only [Act.put, List.setIfInBounds_toArray, List.set_cons_zero, List.set_cons_succ, List.getElem_toArray, List.getElem_cons_zero, List.getElem_cons_succ]
  refine till_take (i := 4) (v := ?_) rfl (by kernel_rfl) (by kernel_rfl) (by kernel_rfl) (by kernel_rfl) (fun _ _ _ h => h) (Or.inl ⟨by rfl, ?_⟩) HS ?_
  rotate_left
  · intro w' hSw
    obtain ⟨s1, s2, s3, s4, s5, s6, s7⟩ := hSw
    go_simp
    try rfl
  simp only [Act.put, List.setIfInBounds_toArray, List.set_cons_zero, List.set_cons_succ, List.getElem_toArray, List.getElem_cons_zero, List.getElem_cons_succ]
  refine till_take (i := 5) (v := ?_) rfl (by kernel_rfl) (by kernel_rfl) (by kernel_rfl) (by kernel_rfl) (fun _ _ _ h => h) (Or.inl ⟨by rfl, ?_⟩) HS ?_
  rotate_left
  · intro w' hSw
    obtain ⟨s1, s2, s3, s4, s5, s6, s7⟩ := hSw
    go_simp
    try rfl
  simp only [Act.put, List.setIfInBounds_toArray, List.set_cons_zero, List.set_cons_succ, List.getElem_toArray, List.getElem_cons_zero, List.getElem_cons_succ]
  refine till_take (i := 6) (v := ?_) rfl (by kernel_rfl) (by kernel_rfl) (by kernel_rfl) (by kernel_rfl) (fun _ _ _ h => h) (Or.inl ⟨by rfl, ?_⟩) HS ?_
  rotate_left
  · intro w' hSw
    obtain ⟨s1, s2, s3, s4, s5, s6, s7⟩ := hSw
    go_simp
    try rfl
  simp only [Act.put, List.setIfInBounds_toArray, List.set_cons_zero, List.set_cons_succ, List.getElem_toArray, List.getElem_cons_zero, List.getElem_cons_succ]
  refine till_take (i := 7) (v := ?_) rfl (by kernel_rfl) (by kernel_rfl) (by kernel_rfl) (by kernel_rfl) (fun _ _ _ h => h) (Or.inl ⟨by rfl, ?_⟩) HS ?_
  rotate_left
  · intro w' hSw
    obtain ⟨s1, s2, s3, s4, s5, s6, s7⟩ := hSw
    go_simp
    try rfl
  simp only [Act.put, List.setIfInBounds_toArray, List.set_cons_zero, List.set_cons_succ, List.getElem_toArray, List.getElem_cons_zero, List.getElem_cons_succ]
  refine till_take (i := 8) (v := ?_) rfl (by kernel_rfl) (by kernel_rfl) (by kernel_rfl) (by kernel_rfl) (fun _ _ _ h => h) (Or.inl ⟨by rfl, ?_⟩) HS ?_
  rotate_left
  · intro w' hSw
    obtain ⟨s1, s2, s3, s4, s5, s6, s7⟩ := hSw
    go_simp
    try rfl
  simp only [Act.put, List.setIfInBounds_toArray, List.set_cons_zero, List.set_cons_succ, List.getElem_toArray, List.getElem_cons_zero, List.getElem_cons_succ]
  refine till_take (i := 9) (v := ?_) rfl (by kernel_rfl) (by kernel_rfl) (by kernel_rfl) (by kernel_rfl) (fun _ _ _ h => h) (Or.inl ⟨by rfl, ?_⟩) HS ?_
  rotate_left
  · intro w' hSw
    obtain ⟨s1, s2, s3, s4, s5, s6, s7⟩ := hSw
    go_simp
    try rfl
  simp only [Act.put, List.setIfInBounds_toArray, List.set_cons_zero, List.set_cons_succ, List.getElem_toArray, List.getElem_cons_zero, List.getElem_cons_succ]
  refine till_take (i := 10) (v := ?_) rfl (by kernel_rfl) (by kernel_rfl) (by kernel_rfl) (by kernel_rfl) (fun _ _ _ h => h) (Or.inl ⟨by rfl, ?_⟩) HS ?_
  rotate_left
  · intro w' hSw
    obtain ⟨s1, s2, s3, s4, s5, s6, s7⟩ := hSw
    go_simp
    try rfl
  simp only [Act.put, List.setIfInBounds_toArray, List.set_cons_zero, List.set_cons_succ, List.getElem_toArray, List.getElem_cons_zero, List.getElem_cons_succ]
  refine till_one (i := 11) (by kernel_rfl) rfl ?_
  intro K hK
  go_simp
  refine (putF_calls f hf n _).mono ?_
  rintro e w1 ⟨rfl, hb1⟩
  show K _ _
  have hb1' : Below W5.heap.size W5 w1 := ⟨hb1.os, hb1.tape, hb1.output, hb1.size, hb1.block⟩
  have hS1 : AddS ga b (.slice ad st.words.length cap) wd n f w1 := by
    obtain ⟨s1, s2, s3, s4, s5, s6, s7⟩ := HS
    exact ⟨(hb1.cell (p := ⟨ga, 2, none⟩) hg0).trans s1, (hb1.cell (p := ⟨b, 2, none⟩) hb0).trans s2, (hb1.cell (p := ⟨b, 4, none⟩) hb0).trans s3, (hb1.cell (p := ⟨b, 5, none⟩) hb0).trans s4, (hb1.cell (p := ⟨b, 6, none⟩) hb0).trans s5, (hb1.cell (p := ⟨b, 7, none⟩) hb0).trans s6, (hb1.cell (p := ⟨b, 8, none⟩) hb0).trans s7⟩
  refine hK _ _ (fun _ => hS1) ?_
  clear hK K
  refine till_take (i := 12) (v := ?_) rfl (by kernel_rfl) (by kernel_rfl) (by kernel_rfl) (by kernel_rfl) (fun _ _ _ h => h) (Or.inl ⟨by rfl, ?_⟩) hS1 ?_
  rotate_left
  · intro w' hSw
    obtain ⟨s1, s2, s3, s4, s5, s6, s7⟩ := hSw
    go_simp
    try rfl
  simp only [Act.put, List.setIfInBounds_toArray, List.set_cons_zero, List.set_cons_succ, List.getElem_toArray, List.getElem_cons_zero, List.getElem_cons_succ]
  refine till_one (i := 13) (by kernel_rfl) rfl ?_
  intro K hK
  go_simp
  have hA1 := hA5.keep hb1'
  have hbs : b < w1.heap.size := Nat.lt_of_lt_of_le hb0 hb1.size
  have hgs : ga < w1.heap.size := (Array.getElem?_eq_some_iff.1 hA1.blk).1
  generalize hx : bits .or .u32 wd (putF f n) = x at *
  have hS2 : AddS ga b (.slice ad st.words.length cap) wd n f (w1.alloc (.cells #[.int .u32 x] 66)) := by
    obtain ⟨s1, s2, s3, s4, s5, s6, s7⟩ := hS1
    exact ⟨(World.cell?_alloc_past _ _ _ hgs).trans s1, (World.cell?_alloc_past _ _ _ hbs).trans s2, (World.cell?_alloc_past _ _ _ hbs).trans s3, (World.cell?_alloc_past _ _ _ hbs).trans s4, (World.cell?_alloc_past _ _ _ hbs).trans s5, (World.cell?_alloc_past _ _ _ hbs).trans s6, (World.cell?_alloc_past _ _ _ hbs).trans s7⟩
  refine hK _ _ (fun _ => hS2) ?_
  clear hK K
  have hA2 := hA1.keep (w' := w1.alloc (.cells #[.int .u32 x] 66)) ((Below.refl _ _).alloc (Nat.le_refl _) _)
  refine till_one (i := 14) (by kernel_rfl) rfl ?_
  intro K hK
  refine step_append_own rfl (.tmp 41) (.tmp 50) 37 rfl B 66 iU (.int .u32 0) 1 4 Tryz.underlying37 (unhide HI).1 (unhide HI).2.1 (unhide HI).2.2.1 (unhide HI).2.2.2 rfl (by decide) _ st.words.length (st.words.map fun x => Value.int .u32 x) rfl hA2.words ⟨w1.heap.size, 0, none⟩ 1 1 [.int .u32 x] rfl rfl (new_cells w1 [.int .u32 x] 66) ?_ ?_ ?_ hA2.base ?_
  · intro u hu; simp at hu; subst hu; rfl
  · unfold maxLen; omega
  · omega
  intro v' w' hn hgr
  have hbox1 := (Below.heap_alloc w1 (.cells #[.int .u32 x] 66) b hbs).trans ((hb1.block b hb0).trans hbox5)
  have hgs2 : ga < (w1.alloc (.cells #[.int .u32 x] 66)).heap.size := by simp; omega
  have hbs2 : b < (w1.alloc (.cells #[.int .u32 x] 66)).heap.size := by simp; omega
  have e1 := hgr.block ga hgs2 (own_ne hA2.words hA2.blk (by decide))
  have e2 := hgr.block b hbs2 (own_ne hA2.words hbox1 (by decide))
  have hS3 : AddS ga b (.slice ad st.words.length cap) wd n f w' := by
    obtain ⟨s1, s2, s3, s4, s5, s6, s7⟩ := hS2
    exact ⟨(World.cell?_of_block e1).trans s1, (World.cell?_of_block e2).trans s2, (World.cell?_of_block e2).trans s3, (World.cell?_of_block e2).trans s4, (World.cell?_of_block e2).trans s5, (World.cell?_of_block e2).trans s6, (World.cell?_of_block e2).trans s7⟩
  refine hK _ _ (fun _ => hS3) ?_
  clear hK K
  have hcw : w'.cell? ⟨ga, 2, none⟩ = some (.slice ad st.words.length cap) := hS3.1
  have hfw := frozen_row (e1.trans hA2.blk) 2
  obtain ⟨adv, capv, hv', _⟩ := slice_shape hn
  have HFIN := hide (asm_words hA2 hgr (by exact hn))
  have HKP := hide ((HK5.out.trans (Kept.of hA5.base hb1')).trans (Kept.of (w' := w1.alloc (.cells #[.int .u32 x] 66)) hA1.base ((Below.refl _ _).alloc (Nat.le_refl _) _)))
  subst hv'
  simp only [Act.put, List.setIfInBounds_toArray, List.set_cons_zero, List.set_cons_succ, List.getElem_toArray, List.getElem_cons_zero, List.getElem_cons_succ]
  refine till_one (i := 15) (by kernel_rfl) rfl ?_
  intro K hK
  go_simp
  refine hK _ _ (fun hh => absurd hh (by decide)) ?_
  clear hK K
  refine till_one (i := 16) (by kernel_rfl) rfl ?_
  intro K hK
  go_simp
  refine hK _ _ (fun hh => absurd hh (by decide)) ?_
  clear hK K
  refine till_one (i := 17) (by kernel_rfl) rfl ?_
  intro K hK
  go_simp
  refine hK _ _ (fun hh => absurd hh (by decide)) ?_
  clear hK K
  refine till_done (by kernel_rfl) ?_ _
  go_wp2_with fail
  go_end0
  subst hx
  exact ⟨(unhide HKP).trans (unhide HFIN).2, rfl, _, _, (unhide HFIN).1⟩
set_option maxHeartbeats 1000000 in
theorem addWord_fn (es : Array MapEntry) (lb : List UInt8) (has : Bool) (wd n : Int) (f : Fd) (gl : List UInt8) (B ga rn rl : Nat) (vw vo : Value) (st : PSt) (line : Nat) (w : World) (h : AsmAt es w B ga rn rl vw vo st line) (hw : st.words.length = 64) :
    Calls Tryz.prog 31 #[.pointer (some ⟨ga, 0, none⟩), .agg #[S lb, .bool has, .int .u32 wd, .nilIface, .int .i64 n, .int .i64 f.lo, .int .i64 f.wi, .int .i64 f.least, .int .i64 f.most, S gl]] w fun e w' => AsmMakes es B ga rn rl line (.error 6) w e w' := by
  have hcw0 := cell_row h.blk 2 _ rfl
  obtain ⟨ad, cap, rfl, _⟩ := slice_shape h.words
  have h64 : ((st.words.length : Int) == 64) = true := by rw [beq_iff_eq]; omega
  have hlt : ga < w.heap.size := (Array.getElem?_eq_some_iff.1 h.blk).1
  have HH := hide h
  clear h hw
  go_enter Tryz.func31, Tryz.ntmps31
  go_wp2_with fail
  exact ⟨rfl, .of (unhide HH).base ((Below.refl _ _).alloc (Nat.le_refl _) _), rfl, ((unhide HH).keep ((Below.refl _ _).alloc (Nat.le_refl _) _)).line⟩
set_option maxHeartbeats 1000000 in
theorem addWord_fi (es : Array MapEntry) (lb : List UInt8) (t : TypeId) (x0 : Value) (has : Bool) (wd n : Int) (f : Fd) (gl : List UInt8) (B ga rn rl : Nat) (vw vo : Value) (st : PSt) (line : Nat) (w : World) (h : AsmAt es w B ga rn rl vw vo st line) (hw : st.words.length = 64) :
    Calls Tryz.prog 31 #[.pointer (some ⟨ga, 0, none⟩), .agg #[S lb, .bool has, .int .u32 wd, .iface t x0, .int .i64 n, .int .i64 f.lo, .int .i64 f.wi, .int .i64 f.least, .int .i64 f.most, S gl]] w fun e w' => AsmMakes es B ga rn rl line (.error 6) w e w' := by
  have hcw0 := cell_row h.blk 2 _ rfl
  obtain ⟨ad, cap, rfl, _⟩ := slice_shape h.words
  have h64 : ((st.words.length : Int) == 64) = true := by rw [beq_iff_eq]; omega
  have hlt : ga < w.heap.size := (Array.getElem?_eq_some_iff.1 h.blk).1
  have HH := hide h
  clear h hw
  go_enter Tryz.func31, Tryz.ntmps31
  go_wp2_with fail
  exact ⟨rfl, .of (unhide HH).base ((Below.refl _ _).alloc (Nat.le_refl _) _), rfl, ((unhide HH).keep ((Below.refl _ _).alloc (Nat.le_refl _) _)).line⟩
theorem addWord_ok (es : Array MapEntry) : AddWordOk es := by
  intro s B ga rn rl vw vo st line w h hw hfew hf hs
  obtain ⟨lb, has, wd, sh, n, f, gl⟩ := s
  dsimp only at hf hs
  by_cases h64 : st.words.length = 64
  · rw [if_pos h64]
    rcases hs with rfl | ⟨t, x, rfl⟩
    · exact addWord_fn es lb has wd n f gl B ga rn rl vw vo st line w h h64
    · exact addWord_fi es lb t x has wd n f gl B ga rn rl vw vo st line w h h64
  · rw [if_neg h64]
    by_cases hg : gl = []
    · subst hg
      rcases hs with rfl | ⟨t, x, rfl⟩
      · exact addWord_pn es lb has wd n f B ga rn rl vw vo st line w h (by omega) hf
      · exact addWord_pi es lb t x has wd n f B ga rn rl vw vo st line w h (by omega) hf
    · have hge : gl.isEmpty = false := by cases gl with
        | nil => exact absurd rfl hg
        | cons x y => rfl
      have e : ∀ sh, wordAdd { label := lb, has := has, word := wd, shape := sh, number := n, f := f, goal := gl } line st = { st with words := st.words ++ [bits .or .u32 wd (putF f n)], opens := st.opens ++ [{ idx := st.words.length, line := line, shape := sh, goal := gl }] } := fun sh => by
        unfold wordAdd; dsimp only; rw [if_neg hg]
      rw [e]
      rcases hs with rfl | ⟨t, x, rfl⟩
      · exact addWord_gn es lb has wd n f gl hge B ga rn rl vw vo st line w h (by omega) (by omega) hf
      · exact addWord_gi es lb t x has wd n f gl hge B ga rn rl vw vo st line w h (by omega) (by omega) hf
end Go.Proofs.YtnbhpmncppohaaaGreatDoor.Mill
