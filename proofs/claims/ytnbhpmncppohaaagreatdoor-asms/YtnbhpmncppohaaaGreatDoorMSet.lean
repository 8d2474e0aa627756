import Derived.Test.YtnbhpmncppohaaaGreatDoorMGo
namespace Go.Proofs.YtnbhpmncppohaaaGreatDoor.Mill
open Go.RowKit

/-- the shape of a shape's value -/
def shOf (v : Value) : UInt8 := match v with
  | .iface t _ => (shapes.find? (fun sh => shapeT sh == t)).getD 0
  | _ => 0
theorem shOf_shape : ∀ sh ∈ shapes, shOf (shapeV sh) = sh := by decide

/-- the labels are settled -/
def settleP (labels : List (List UInt8 × Nat)) : List Op4 → List Int → Except (Int × Nat) (List Int)
  | [], ws => .ok ws
  | o :: r, ws => match placeOf labels o.goal with
    | none => .error (7, o.line)
    | some p => settleP labels r (ws.set o.idx (bits .or .u32 (ws.getD o.idx 0) (goingI (shOf o.shape) (4 * o.idx) p)))

structure OpOk (n : Nat) (o : Op4) : Prop where
  idx : o.idx < n
  sh : ∃ sh ∈ shapes, o.shape = shapeV sh

theorem settleP_step (labels : List (List UInt8 × Nat)) (os : List Op4) (k : Nat) (h : k < os.length) (ws : List Int) : settleP labels (os.drop k) ws = match placeOf labels os[k].goal with
    | none => .error (7, os[k].line)
    | some p => settleP labels (os.drop (k + 1)) (ws.set os[k].idx (bits .or .u32 (ws.getD os[k].idx 0) (goingI (shOf os[k].shape) (4 * os[k].idx) p))) := by
  rw [List.drop_eq_getElem_cons h]; rfl
theorem flat4 (l : List Op4) (k : Nat) (h : k < l.length) :
    (l.flatMap Op4.list)[k * 4]? = some (.int .i64 l[k].idx) ∧ (l.flatMap Op4.list)[k * 4 + 1]? = some (.int .i64 l[k].line) ∧ (l.flatMap Op4.list)[k * 4 + 2]? = some l[k].shape ∧ (l.flatMap Op4.list)[k * 4 + 3]? = some (S l[k].goal) := by
  induction l generalizing k with
  | nil => simp at h
  | cons x r ih =>
    cases k with
    | zero => simp [Op4.list]
    | succ k =>
      have := ih k (by simpa using h)
      have e : (k + 1) * 4 = k * 4 + 4 := by omega
      rw [e]
      simpa [Op4.list] using this

/-- what settleLabels comes to -/
def SettleMakes (es : Array MapEntry) (B ga rn rl : Nat) (vo : Value) (st : PSt) (x : Except (Int × Nat) (List Int)) (w : World) (e : Ending) (w' : World) : Prop :=
  Kept B ga rl w w' ∧ match x with
  | .error n => e = gives n.1 ∧ w'.cell? ⟨ga, 4, none⟩ = some (.int .i64 (n.2 : Nat))
  | .ok ws => e = .returned (.tuple #[]) ∧ ∃ vw' line', AsmAt es w' B ga rn rl vw' vo { st with words := ws } line'
/-- a cell of an owned row is set -/
theorem owns_put {w : World} {B : Nat} {e : TypeId} {g n cap : Nat} {xs : List Value} (h : w.ownsRow B e 1 (.slice (some ⟨g, 0, none⟩) n cap) n xs) (i : Nat) (_hi : i < n) (u : Value) : (w.setCell ⟨g, i, none⟩ u).ownsRow B e 1 (.slice (some ⟨g, 0, none⟩) n cap) n (xs.set i u) := by
  refine ⟨by rw [List.length_set]; exact h.1, ?_⟩
  rcases h.2 with ⟨h0, _⟩ | ⟨g', cap', cur, h1, h2, h3, h4, h5, h6, h7⟩
  · cases h0
  · simp only [Value.slice.injEq, Option.some.injEq, Addr.mk.injEq, true_and, and_true] at h1
    obtain ⟨rfl, rfl⟩ := h1
    refine .inr ⟨g, cap, cur.setIfInBounds i u, rfl, h2, heap_setCell_same w g i cur e u h3, h4, h5, by simpa using h6, ?_⟩
    rw [← h7]
    simp [List.take_set]

/-- a word of the row is set -/
theorem asm_put {es : Array MapEntry} {w : World} {B ga rn rl gw n cap : Nat} {vo : Value} {st : PSt} {line : Int} (h : AsmAt es w B ga rn rl (.slice (some ⟨gw, 0, none⟩) n cap) vo st line) (hn : n = st.words.length) (i : Nat) (hi : i < n) (x : Int) :
    AsmAt es (w.setCell ⟨gw, i, none⟩ (.int .u32 x)) B ga rn rl (.slice (some ⟨gw, 0, none⟩) n cap) vo { st with words := st.words.set i x } line ∧ ∀ {ga rl : Nat}, Kept B ga rl w (w.setCell ⟨gw, i, none⟩ (.int .u32 x)) := by
  subst hn
  obtain ⟨cur, hgw, hB⟩ : ∃ cur, w.heap[gw]? = some (.cells cur 66 (0, 0)) ∧ B ≤ gw := by
    rcases h.words.2 with ⟨h0, _⟩ | ⟨g', cap', cur, h1, h2, h3, _⟩
    · cases h0
    · simp only [Value.slice.injEq, Option.some.injEq, Addr.mk.injEq, true_and, and_true] at h1
      obtain ⟨rfl, _⟩ := h1
      exact ⟨cur, h3, h2⟩
  have n0 : ga ≠ gw := fun e => by have := h.blk; rw [e, hgw] at this; simp at this
  have n1 : rl ≠ gw := fun e => by have := h.lab; rw [e, hgw] at this; cases this
  have n2 : rn ≠ gw := fun e => by have := h.nam; rw [e, hgw] at this; cases this
  have hp := owns_put h.words i hi (.int .u32 x)
  refine ⟨⟨(heap_setCell_other _ ⟨gw, i, none⟩ ga _ n0).trans h.blk, (heap_setCell_other _ ⟨gw, i, none⟩ rl _ n1).trans h.lab, (heap_setCell_other _ ⟨gw, i, none⟩ rn _ n2).trans h.nam, ?_, owns_set h.opens hgw (by decide) i _, h.ne, h.lo⟩, fun {ga rl} => ⟨(Below.refl _ _).setCell (p := ⟨gw, i, none⟩) hB _, fun k hk q1 q2 q3 q4 => heap_setCell_other _ ⟨gw, i, none⟩ k _ (fun e => q3 cur (0, 0) (by have e' : k = gw := e; rw [e']; exact hgw))⟩⟩
  have e : (st.words.map fun x => Value.int .u32 x).set i (.int .u32 x) = (st.words.set i x).map fun x => Value.int .u32 x := by rw [List.map_set]
  rw [e] at hp
  simpa using hp
/-- what is read to look a label up -/
def LookS (ga b rl : Nat) (gl : List UInt8) (ls : List (List UInt8 × Nat)) (w' : World) : Prop :=
  w'.cell? ⟨ga, 1, none⟩ = some (.map (some rl)) ∧ w'.cell? ⟨b, 3, none⟩ = some (S gl) ∧ w'.heap[rl]? = some (.map (labelEs ls) ls.length)
/-- what is read to settle a word -/
def PutS (ga b gw idx : Nat) (vw : Value) (x : Int) (sh : Value) (w' : World) : Prop :=
  w'.cell? ⟨ga, 2, none⟩ = some vw ∧ w'.cell? ⟨b, 0, none⟩ = some (.int .i64 idx) ∧ w'.cell? ⟨gw, idx, none⟩ = some (.int .u32 x) ∧ w'.cell? ⟨b, 2, none⟩ = some sh
theorem place_le (ls : List (List UInt8 × Nat)) (l : List UInt8) (p : Nat) (h : placeOf ls l = some p) (hl : ∀ x ∈ ls, x.2 ≤ 256) : p ≤ 256 := by
  unfold placeOf at h
  cases hf : ls.find? (fun x => x.1 == l) with
  | none => rw [hf] at h; cases h
  | some y =>
    rw [hf] at h
    simp only [Option.map_some, Option.some.injEq] at h
    subst h
    exact hl y (List.mem_of_find?_eq_some hf)

set_option maxHeartbeats 4000000 in
set_option maxRecDepth 100000 in
theorem settle_calls (es : Array MapEntry) (B ga rn rl : Nat) (vw vo : Value) (st : PSt) (line : Int) (w : World) (h : AsmAt es w B ga rn rl vw vo st line) (hw : st.words.length ≤ 64) (hfew : st.opens.length ≤ st.words.length) (ho : ∀ o ∈ st.opens, OpOk st.words.length o) (hl : ∀ x ∈ st.labels, x.2 ≤ 256) :
    Calls Tryz.prog 11 #[.pointer (some ⟨ga, 0, none⟩)] w fun e w' => SettleMakes es B ga rn rl vo st (settleP st.labels st.opens st.words) w e w' := by
  have hol : st.opens.length ≤ 64 := by omega
  clear hfew
  have hc3 := cell_row h.blk 3 _ rfl
  obtain ⟨ado, capo, rfl, hdo⟩ := slice_shape h.opens
  have HH := hide h
  have HO := hide ho
  have HL := hide hl
  have HDO := hide hdo
  clear h ho hl hdo
  go_enter Tryz.func11, Tryz.ntmps11
  go_wp2_with fail
  go_loopg [11] st.opens.length (fun n iv wx => ∃ k ws line', k ≤ st.opens.length ∧ n = st.opens.length - k ∧ iv = .int .i64 (k : Nat) ∧ ws.length = st.words.length ∧ AsmAt es wx B ga rn rl vw (.slice ado st.opens.length capo) { st with words := ws } line' ∧ Kept B ga rl w wx ∧ Hid (settleP st.labels st.opens st.words = settleP st.labels (st.opens.drop k) ws))
  case atStart => exact ⟨0, st.words, line, by omega, rfl, rfl, rfl, unhide HH, Kept.of (unhide HH).base (Below.refl _ _), rfl⟩
  case round =>
    obtain ⟨k, ws, line', hk, rfl, rfl, hwl, hA, hbx, hsp⟩ := hrel
    by_cases hlt : k < st.opens.length
    · obtain ⟨go, rfl, hgo, _⟩ : ∃ go, ado = some ⟨go, 0, none⟩ ∧ go < w.heap.size ∧ True := by
        rcases unhide HDO with ⟨_, h0⟩ | ⟨g, h1, h2, _⟩
        · omega
        · exact ⟨g, h1, h2, trivial⟩
      have hst := settleP_step st.labels st.opens k hlt ws
      have hok := unhide HO _ (List.getElem_mem hlt)
      obtain ⟨f0, f1, f2, f3⟩ := flat4 st.opens k hlt
      have hco := hA.opens.cells (g := go) rfl
      have g0 := hco _ _ f0
      have g1 := hco _ _ f1
      have g2 := hco _ _ f2
      have g3 := hco _ _ f3
      simp only [add_off] at g0 g1 g2 g3
      generalize st.opens[k] = o at *
      clear f0 f1 f2 f3 hco
      have hc1 := cell_row hA.blk 1 _ rfl
      have hc2 := cell_row hA.blk 2 _ rfl
      have hc4 := cell_row hA.blk 4 _ rfl
      have hfz := frozen_row hA.blk 4
      obtain ⟨sh, hsh, hshv⟩ := hok.sh
      rw [hshv, show shapeV sh = .iface (shapeT sh) (.agg #[]) from rfl] at g2
      have hga := (Array.getElem?_eq_some_iff.1 hA.blk).1
      have HA := hide hA
      have HBX := hide hbx
      clear hA hbx
      have hA2 := (unhide HA).setLine o.line
      have hb2 := (unhide HBX).setGa (unhide HA).lo.1 (unhide HA).base 4 (.int .i64 o.line)
      have hA0 := hA2.keep (w' := ((World.setCell wr ⟨ga, 4, none⟩ (.int .i64 o.line)).alloc (.cells #[.int .i64 o.idx, .int .i64 o.line, .iface (shapeT sh) (.agg #[]), S o.goal] 75))) ((Below.refl _ _).alloc (Nat.le_refl _) _)
      have hbox0 : ((World.setCell wr ⟨ga, 4, none⟩ (.int .i64 o.line)).alloc (.cells #[.int .i64 o.idx, .int .i64 o.line, .iface (shapeT sh) (.agg #[]), S o.goal] 75)).heap[wr.heap.size]? = some (.cells #[.int .i64 o.idx, .int .i64 o.line, .iface (shapeT sh) (.agg #[]), S o.goal] 75) := by
        have := heap_alloc_new (World.setCell wr ⟨ga, 4, none⟩ (.int .i64 o.line)) (.cells #[.int .i64 o.idx, .int .i64 o.line, .iface (shapeT sh) (.agg #[]), S o.goal] 75)
        simpa using this
      have hb0 : Kept B ga rl w ((World.setCell wr ⟨ga, 4, none⟩ (.int .i64 o.line)).alloc (.cells #[.int .i64 o.idx, .int .i64 o.line, .iface (shapeT sh) (.agg #[]), S o.goal] 75)) := hb2.trans (Kept.of hA2.base ((Below.refl _ _).alloc (Nat.le_refl _) _))
      have HA0 := hide hA0
      have HBOX := hide hbox0
      have HB0 := hide hb0
      clear hA2 hb2 hA0 hbox0 hb0
      go_upto_region 4 with fail
      have hA0 := unhide HA0
      have hbox0 := unhide HBOX
      have hb0 := unhide HB0
      clear HA0 HBOX HB0
      generalize ((World.setCell wr ⟨ga, 4, none⟩ (.int .i64 o.line)).alloc (.cells #[.int .i64 o.idx, .int .i64 o.line, .iface (shapeT sh) (.agg #[]), S o.goal] 75)) = W0 at *
      have HT : Tryz.prog.underlying 36 = some (.map 9 3) := by kernel_rfl
      have HKs : Tryz.prog.underlying 9 = some .string := by kernel_rfl
      have HSL : LookS ga wr.heap.size rl o.goal st.labels W0.drew := ⟨cell_row hA0.blk 1 _ rfl, cell_row hbox0 3 _ rfl, hA0.lab⟩
      rcases find_labels0 st.labels o.goal with ⟨p1, p2⟩ | ⟨p, j, p1, p2⟩
      · have HX : Hid (settleP st.labels st.opens st.words = .error (7, o.line)) := by show _ = _; rw [unhide hsp, hst, p1]
        refine till_begin 11 (LookS ga wr.heap.size rl o.goal st.labels) (by kernel_rfl) ?_
        refine till_take (i := 0) (v := ?_) rfl (by kernel_rfl) (by kernel_rfl) (by kernel_rfl) (by kernel_rfl) (fun _ _ _ h => h) (Or.inl ⟨by rfl, ?_⟩) HSL ?_
        rotate_left
        · intro w' hSw
          obtain ⟨s1, s2, s3⟩ := hSw
          go_simp
          try rfl
        simp only [Act.put, List.setIfInBounds_toArray, List.set_cons_zero, List.set_cons_succ, List.getElem_toArray, List.getElem_cons_zero]
        refine till_take (i := 1) (v := ?_) rfl (by kernel_rfl) (by kernel_rfl) (by kernel_rfl) (by kernel_rfl) (fun _ _ _ h => h) (Or.inl ⟨by rfl, ?_⟩) HSL ?_
        rotate_left
        · intro w' hSw
          obtain ⟨s1, s2, s3⟩ := hSw
          go_simp
          try rfl
        simp only [Act.put, List.setIfInBounds_toArray, List.set_cons_zero, List.set_cons_succ, List.getElem_toArray, List.getElem_cons_zero, List.getElem_cons_succ]
        refine till_take (i := 2) (v := ?_) rfl (by kernel_rfl) (by kernel_rfl) (by kernel_rfl) (by kernel_rfl) (fun _ _ _ h => h) (Or.inl ⟨by rfl, ?_⟩) HSL ?_
        rotate_left
        · intro w' hSw
          obtain ⟨s1, s2, s3⟩ := hSw
          go_simp
          try rfl
        simp only [Act.put, List.setIfInBounds_toArray, List.set_cons_zero, List.set_cons_succ, List.getElem_toArray, List.getElem_cons_zero, List.getElem_cons_succ]
        refine till_take (i := 3) (v := ?_) rfl (by kernel_rfl) (by kernel_rfl) (by kernel_rfl) (by kernel_rfl) (fun _ _ _ h => h) (Or.inl ⟨by rfl, ?_⟩) HSL ?_
        rotate_left
        · intro w' hSw
          obtain ⟨s1, s2, s3⟩ := hSw
          go_simp
          try rfl
        simp only [Act.put, List.setIfInBounds_toArray, List.set_cons_zero, List.set_cons_succ, List.getElem_toArray, List.getElem_cons_zero, List.getElem_cons_succ]
        refine till_take (i := 4) (v := ?_) rfl (by kernel_rfl) (by kernel_rfl) (by kernel_rfl) (by kernel_rfl) (fun _ _ _ h => h) (Or.inl ⟨by rfl, ?_⟩) HSL ?_
        rotate_left
        · intro w' hSw
          obtain ⟨s1, s2, s3⟩ := hSw
          go_simp
          try rfl
        simp only [Act.put, List.setIfInBounds_toArray, List.set_cons_zero, List.set_cons_succ, List.getElem_toArray, List.getElem_cons_zero, List.getElem_cons_succ]
        refine till_take (i := 5) (v := ?_) rfl (by kernel_rfl) (by kernel_rfl) (by kernel_rfl) (by kernel_rfl) (fun _ _ _ h => h) (Or.inl ⟨by rfl, ?_⟩) HSL ?_
        rotate_left
        · intro w' hSw
          obtain ⟨s1, s2, s3⟩ := hSw
          go_simp
          try rfl
        simp only [Act.put, List.setIfInBounds_toArray, List.set_cons_zero, List.set_cons_succ, List.getElem_toArray, List.getElem_cons_zero, List.getElem_cons_succ]
        refine till_take (i := 6) (v := ?_) rfl (by kernel_rfl) (by kernel_rfl) (by kernel_rfl) (by kernel_rfl) (fun _ _ _ h => h) (Or.inl ⟨by rfl, ?_⟩) HSL ?_
        rotate_left
        · intro w' hSw
          obtain ⟨s1, s2, s3⟩ := hSw
          have hl0 := look_miss HT HKs s3 ⟨o.goal.toArray⟩ (.int .i64 0) (infoInt w') p2
          go_simp
          try rfl
        simp only [Act.put, List.setIfInBounds_toArray, List.set_cons_zero, List.set_cons_succ, List.getElem_toArray, List.getElem_cons_zero, List.getElem_cons_succ]
        refine till_take (i := 7) (v := ?_) rfl (by kernel_rfl) (by kernel_rfl) (by kernel_rfl) (by kernel_rfl) (fun _ _ _ h => h) (Or.inl ⟨by rfl, ?_⟩) HSL ?_
        rotate_left
        · intro w' hSw
          obtain ⟨s1, s2, s3⟩ := hSw
          go_simp
          try rfl
        simp only [Act.put, List.setIfInBounds_toArray, List.set_cons_zero, List.set_cons_succ, List.getElem_toArray, List.getElem_cons_zero, List.getElem_cons_succ]
        refine till_take (i := 8) (v := ?_) rfl (by kernel_rfl) (by kernel_rfl) (by kernel_rfl) (by kernel_rfl) (fun _ _ _ h => h) (Or.inl ⟨by rfl, ?_⟩) HSL ?_
        rotate_left
        · intro w' hSw
          obtain ⟨s1, s2, s3⟩ := hSw
          go_simp
          try rfl
        simp only [Act.put, List.setIfInBounds_toArray, List.set_cons_zero, List.set_cons_succ, List.getElem_toArray, List.getElem_cons_zero, List.getElem_cons_succ]
        refine till_take (i := 9) (v := ?_) rfl (by kernel_rfl) (by kernel_rfl) (by kernel_rfl) (by kernel_rfl) (fun _ _ _ h => h) (Or.inl ⟨by rfl, ?_⟩) HSL ?_
        rotate_left
        · intro w' hSw
          obtain ⟨s1, s2, s3⟩ := hSw
          go_simp
          try rfl
        simp only [Act.put, List.setIfInBounds_toArray, List.set_cons_zero, List.set_cons_succ, List.getElem_toArray, List.getElem_cons_zero, List.getElem_cons_succ]
        refine till_take (i := 10) (v := ?_) rfl (by kernel_rfl) (by kernel_rfl) (by kernel_rfl) (by kernel_rfl) (fun _ _ _ h => h) (Or.inl ⟨by rfl, ?_⟩) HSL ?_
        rotate_left
        · intro w' hSw
          obtain ⟨s1, s2, s3⟩ := hSw
          go_simp
          try rfl
        simp only [Act.put, List.setIfInBounds_toArray, List.set_cons_zero, List.set_cons_succ, List.getElem_toArray, List.getElem_cons_zero, List.getElem_cons_succ]
        refine till_one (i := 11) (by kernel_rfl) rfl ?_
        intro K hK
        go_simp
        refine hK _ _ (fun hh => absurd hh (by decide)) ?_
        clear hK K
        refine till_done (by kernel_rfl) ?_ _
        go_wp2_with fail
        refine ⟨rfl, hb0.trans (Kept.of hA0.base (Below.refl _ _).drew), ?_⟩
        rw [unhide HX]
        exact ⟨rfl, (hA0.keep (Below.refl _ _).drew).line⟩
      · have HX : Hid (settleP st.labels st.opens st.words = settleP st.labels (st.opens.drop (k + 1)) (ws.set o.idx (bits .or .u32 (ws.getD o.idx 0) (goingI sh (4 * o.idx) p)))) := by show _ = _; rw [unhide hsp, hst, p1, hshv, shOf_shape sh hsh]
        have hp256 := place_le _ _ p p1 (unhide HL)
        refine till_begin 11 (LookS ga wr.heap.size rl o.goal st.labels) (by kernel_rfl) ?_
        refine till_take (i := 0) (v := ?_) rfl (by kernel_rfl) (by kernel_rfl) (by kernel_rfl) (by kernel_rfl) (fun _ _ _ h => h) (Or.inl ⟨by rfl, ?_⟩) HSL ?_
        rotate_left
        · intro w' hSw
          obtain ⟨s1, s2, s3⟩ := hSw
          go_simp
          try rfl
        simp only [Act.put, List.setIfInBounds_toArray, List.set_cons_zero, List.set_cons_succ, List.getElem_toArray, List.getElem_cons_zero]
        refine till_take (i := 1) (v := ?_) rfl (by kernel_rfl) (by kernel_rfl) (by kernel_rfl) (by kernel_rfl) (fun _ _ _ h => h) (Or.inl ⟨by rfl, ?_⟩) HSL ?_
        rotate_left
        · intro w' hSw
          obtain ⟨s1, s2, s3⟩ := hSw
          go_simp
          try rfl
        simp only [Act.put, List.setIfInBounds_toArray, List.set_cons_zero, List.set_cons_succ, List.getElem_toArray, List.getElem_cons_zero, List.getElem_cons_succ]
        refine till_take (i := 2) (v := ?_) rfl (by kernel_rfl) (by kernel_rfl) (by kernel_rfl) (by kernel_rfl) (fun _ _ _ h => h) (Or.inl ⟨by rfl, ?_⟩) HSL ?_
        rotate_left
        · intro w' hSw
          obtain ⟨s1, s2, s3⟩ := hSw
          go_simp
          try rfl
        simp only [Act.put, List.setIfInBounds_toArray, List.set_cons_zero, List.set_cons_succ, List.getElem_toArray, List.getElem_cons_zero, List.getElem_cons_succ]
        refine till_take (i := 3) (v := ?_) rfl (by kernel_rfl) (by kernel_rfl) (by kernel_rfl) (by kernel_rfl) (fun _ _ _ h => h) (Or.inl ⟨by rfl, ?_⟩) HSL ?_
        rotate_left
        · intro w' hSw
          obtain ⟨s1, s2, s3⟩ := hSw
          go_simp
          try rfl
        simp only [Act.put, List.setIfInBounds_toArray, List.set_cons_zero, List.set_cons_succ, List.getElem_toArray, List.getElem_cons_zero, List.getElem_cons_succ]
        refine till_take (i := 4) (v := ?_) rfl (by kernel_rfl) (by kernel_rfl) (by kernel_rfl) (by kernel_rfl) (fun _ _ _ h => h) (Or.inl ⟨by rfl, ?_⟩) HSL ?_
        rotate_left
        · intro w' hSw
          obtain ⟨s1, s2, s3⟩ := hSw
          go_simp
          try rfl
        simp only [Act.put, List.setIfInBounds_toArray, List.set_cons_zero, List.set_cons_succ, List.getElem_toArray, List.getElem_cons_zero, List.getElem_cons_succ]
        refine till_take (i := 5) (v := ?_) rfl (by kernel_rfl) (by kernel_rfl) (by kernel_rfl) (by kernel_rfl) (fun _ _ _ h => h) (Or.inl ⟨by rfl, ?_⟩) HSL ?_
        rotate_left
        · intro w' hSw
          obtain ⟨s1, s2, s3⟩ := hSw
          go_simp
          try rfl
        simp only [Act.put, List.setIfInBounds_toArray, List.set_cons_zero, List.set_cons_succ, List.getElem_toArray, List.getElem_cons_zero, List.getElem_cons_succ]
        refine till_take (i := 6) (v := ?_) rfl (by kernel_rfl) (by kernel_rfl) (by kernel_rfl) (by kernel_rfl) (fun _ _ _ h => h) (Or.inl ⟨by rfl, ?_⟩) HSL ?_
        rotate_left
        · intro w' hSw
          obtain ⟨s1, s2, s3⟩ := hSw
          have hl0 := look_hit HT HKs s3 ⟨o.goal.toArray⟩ j _ p2
          go_simp
          try rfl
        simp only [Act.put, List.setIfInBounds_toArray, List.set_cons_zero, List.set_cons_succ, List.getElem_toArray, List.getElem_cons_zero, List.getElem_cons_succ]
        refine till_take (i := 7) (v := ?_) rfl (by kernel_rfl) (by kernel_rfl) (by kernel_rfl) (by kernel_rfl) (fun _ _ _ h => h) (Or.inl ⟨by rfl, ?_⟩) HSL ?_
        rotate_left
        · intro w' hSw
          obtain ⟨s1, s2, s3⟩ := hSw
          go_simp
          try rfl
        simp only [Act.put, List.setIfInBounds_toArray, List.set_cons_zero, List.set_cons_succ, List.getElem_toArray, List.getElem_cons_zero, List.getElem_cons_succ]
        refine till_take (i := 8) (v := ?_) rfl (by kernel_rfl) (by kernel_rfl) (by kernel_rfl) (by kernel_rfl) (fun _ _ _ h => h) (Or.inl ⟨by rfl, ?_⟩) HSL ?_
        rotate_left
        · intro w' hSw
          obtain ⟨s1, s2, s3⟩ := hSw
          go_simp
          try rfl
        simp only [Act.put, List.setIfInBounds_toArray, List.set_cons_zero, List.set_cons_succ, List.getElem_toArray, List.getElem_cons_zero, List.getElem_cons_succ]
        refine till_take (i := 9) (v := ?_) rfl (by kernel_rfl) (by kernel_rfl) (by kernel_rfl) (by kernel_rfl) (fun _ _ _ h => h) (Or.inl ⟨by rfl, ?_⟩) HSL ?_
        rotate_left
        · intro w' hSw
          obtain ⟨s1, s2, s3⟩ := hSw
          go_simp
          try rfl
        simp only [Act.put, List.setIfInBounds_toArray, List.set_cons_zero, List.set_cons_succ, List.getElem_toArray, List.getElem_cons_zero, List.getElem_cons_succ]
        refine till_take (i := 10) (v := ?_) rfl (by kernel_rfl) (by kernel_rfl) (by kernel_rfl) (by kernel_rfl) (fun _ _ _ h => h) (Or.inl ⟨by rfl, ?_⟩) HSL ?_
        rotate_left
        · intro w' hSw
          obtain ⟨s1, s2, s3⟩ := hSw
          go_simp
          try rfl
        simp only [Act.put, List.setIfInBounds_toArray, List.set_cons_zero, List.set_cons_succ, List.getElem_toArray, List.getElem_cons_zero, List.getElem_cons_succ]
        refine till_one (i := 11) (by kernel_rfl) rfl ?_
        intro K hK
        go_simp
        refine hK _ _ (fun hh => absurd hh (by decide)) ?_
        clear hK K
        refine till_done (by kernel_rfl) ?_ _
        go_upto_region 7 with fail
        have hA1 := hA0.keep (w' := W0.drew) (Below.refl _ _).drew
        have hbox1 : W0.drew.heap[wr.heap.size]? = some (.cells #[.int .i64 o.idx, .int .i64 o.line, .iface (shapeT sh) (.agg #[]), S o.goal] 75) := hbox0
        have hb1 : Kept B ga rl w W0.drew := hb0.trans (Kept.of hA0.base (Below.refl _ _).drew)
        clear HSL hA0 hbox0 hb0
        generalize W0.drew = W1 at *
        have hidx : o.idx < ws.length := by have := hok.idx; omega
        have hwr : IntKind.i64.wrap (4 * (o.idx : Int)) = 4 * (o.idx : Int) := by have := hok.idx; rw [IntKind.wrap_i64]; omega
        have hi64 : (o.idx : Int) < 64 := by have := hok.idx; omega
        have HWL := hide hwl
        clear hwl
        obtain ⟨adw, capw, hvw, hdw⟩ := slice_shape hA1.words
        obtain ⟨gw, rfl, hgw, hcw⟩ : ∃ gw, adw = some ⟨gw, 0, none⟩ ∧ gw < W1.heap.size ∧ ∀ j u, (ws.map fun x => Value.int .u32 x)[j]? = some u → W1.cell? ⟨gw, j, none⟩ = some u := by
          rcases hdw with ⟨_, h0⟩ | h
          · dsimp only at h0; omega
          · exact h
        dsimp only at hvw
        subst hvw
        have hcx := hcw o.idx (.int .u32 ws[o.idx]) (by simp [hidx])
        have hget : ws.getD o.idx 0 = ws[o.idx] := by simp [hidx]
        rw [hget] at HX
        generalize ws[o.idx] = x at *
        have hgs : ga < W1.heap.size := (Array.getElem?_eq_some_iff.1 hA1.blk).1
        have hbs : wr.heap.size < W1.heap.size := (Array.getElem?_eq_some_iff.1 hbox1).1
        have hgfz : W1.frozen? ⟨gw, o.idx, none⟩ = false := by
          rcases hA1.words.2 with ⟨h0, _⟩ | ⟨g', cap', cur, h1, _, h3, _⟩
          · cases h0
          · simp only [Value.slice.injEq, Option.some.injEq, Addr.mk.injEq, true_and, and_true] at h1
            obtain ⟨rfl, _⟩ := h1
            exact frozen_row h3 _
        have HSP : PutS ga wr.heap.size gw o.idx (.slice (some ⟨gw, 0, none⟩) ws.length capw) x (.iface (shapeT sh) (.agg #[])) W1.drew := ⟨cell_row hA1.blk 2 _ rfl, cell_row hbox1 0 _ rfl, hcx, cell_row hbox1 2 _ rfl⟩
        have hi0 : (o.idx : Int) < (ws.length : Int) := by omega
        refine till_begin 16 (PutS ga wr.heap.size gw o.idx (.slice (some ⟨gw, 0, none⟩) ws.length capw) x (.iface (shapeT sh) (.agg #[]))) (by kernel_rfl) ?_
        refine till_take (i := 0) (v := ?_) rfl (by kernel_rfl) (by kernel_rfl) (by kernel_rfl) (by kernel_rfl) (fun _ _ _ h => h) (Or.inl ⟨by rfl, ?_⟩) HSP ?_
        rotate_left
        · intro w' hSw
          obtain ⟨s1, s2, s3, s4⟩ := hSw
          go_simp
          try rfl
        simp only [Act.put, List.setIfInBounds_toArray, List.set_cons_zero, List.set_cons_succ, List.getElem_toArray, List.getElem_cons_zero]
        refine till_take (i := 1) (v := ?_) rfl (by kernel_rfl) (by kernel_rfl) (by kernel_rfl) (by kernel_rfl) (fun _ _ _ h => h) (Or.inl ⟨by rfl, ?_⟩) HSP ?_
        rotate_left
        · intro w' hSw
          obtain ⟨s1, s2, s3, s4⟩ := hSw
          go_simp
          try rfl
        simp only [Act.put, List.setIfInBounds_toArray, List.set_cons_zero, List.set_cons_succ, List.getElem_toArray, List.getElem_cons_zero, List.getElem_cons_succ]
        refine till_take (i := 2) (v := ?_) rfl (by kernel_rfl) (by kernel_rfl) (by kernel_rfl) (by kernel_rfl) (fun _ _ _ h => h) (Or.inl ⟨by rfl, ?_⟩) HSP ?_
        rotate_left
        · intro w' hSw
          obtain ⟨s1, s2, s3, s4⟩ := hSw
          go_simp
          try rfl
        simp only [Act.put, List.setIfInBounds_toArray, List.set_cons_zero, List.set_cons_succ, List.getElem_toArray, List.getElem_cons_zero, List.getElem_cons_succ]
        refine till_take (i := 3) (v := ?_) rfl (by kernel_rfl) (by kernel_rfl) (by kernel_rfl) (by kernel_rfl) (fun _ _ _ h => h) (Or.inl ⟨by rfl, ?_⟩) HSP ?_
        rotate_left
        · intro w' hSw
          obtain ⟨s1, s2, s3, s4⟩ := hSw
          go_simp
          try rfl
        simp only [Act.put, List.setIfInBounds_toArray, List.set_cons_zero, List.set_cons_succ, List.getElem_toArray, List.getElem_cons_zero, List.getElem_cons_succ]
        refine till_take (i := 4) (v := ?_) rfl (by kernel_rfl) (by kernel_rfl) (by kernel_rfl) (by kernel_rfl) (fun _ _ _ h => h) (Or.inl ⟨by rfl, ?_⟩) HSP ?_
        rotate_left
        · intro w' hSw
          obtain ⟨s1, s2, s3, s4⟩ := hSw
          go_simp
          try rfl
        simp only [Act.put, List.setIfInBounds_toArray, List.set_cons_zero, List.set_cons_succ, List.getElem_toArray, List.getElem_cons_zero, List.getElem_cons_succ]
        refine till_take (i := 5) (v := ?_) rfl (by kernel_rfl) (by kernel_rfl) (by kernel_rfl) (by kernel_rfl) (fun _ _ _ h => h) (Or.inl ⟨by rfl, ?_⟩) HSP ?_
        rotate_left
        · intro w' hSw
          obtain ⟨s1, s2, s3, s4⟩ := hSw
          go_simp
          try rfl
        simp only [Act.put, List.setIfInBounds_toArray, List.set_cons_zero, List.set_cons_succ, List.getElem_toArray, List.getElem_cons_zero, List.getElem_cons_succ]
        refine till_take (i := 6) (v := ?_) rfl (by kernel_rfl) (by kernel_rfl) (by kernel_rfl) (by kernel_rfl) (fun _ _ _ h => h) (Or.inl ⟨by rfl, ?_⟩) HSP ?_
        rotate_left
        · intro w' hSw
          obtain ⟨s1, s2, s3, s4⟩ := hSw
          go_simp
          try rfl
        simp only [Act.put, List.setIfInBounds_toArray, List.set_cons_zero, List.set_cons_succ, List.getElem_toArray, List.getElem_cons_zero, List.getElem_cons_succ]
        refine till_take (i := 7) (v := ?_) rfl (by kernel_rfl) (by kernel_rfl) (by kernel_rfl) (by kernel_rfl) (fun _ _ _ h => h) (Or.inl ⟨by rfl, ?_⟩) HSP ?_
        rotate_left
        · intro w' hSw
          obtain ⟨s1, s2, s3, s4⟩ := hSw
          go_simp
          try rfl
        simp only [Act.put, List.setIfInBounds_toArray, List.set_cons_zero, List.set_cons_succ, List.getElem_toArray, List.getElem_cons_zero, List.getElem_cons_succ]
        refine till_take (i := 8) (v := ?_) rfl (by kernel_rfl) (by kernel_rfl) (by kernel_rfl) (by kernel_rfl) (fun _ _ _ h => h) (Or.inl ⟨by rfl, ?_⟩) HSP ?_
        rotate_left
        · intro w' hSw
          obtain ⟨s1, s2, s3, s4⟩ := hSw
          go_simp
          try rfl
        simp only [Act.put, List.setIfInBounds_toArray, List.set_cons_zero, List.set_cons_succ, List.getElem_toArray, List.getElem_cons_zero, List.getElem_cons_succ]
        refine till_take (i := 9) (v := ?_) rfl (by kernel_rfl) (by kernel_rfl) (by kernel_rfl) (by kernel_rfl) (fun _ _ _ h => h) (Or.inl ⟨by rfl, ?_⟩) HSP ?_
        rotate_left
        · intro w' hSw
          obtain ⟨s1, s2, s3, s4⟩ := hSw
          go_simp
          try rfl
        simp only [Act.put, List.setIfInBounds_toArray, List.set_cons_zero, List.set_cons_succ, List.getElem_toArray, List.getElem_cons_zero, List.getElem_cons_succ]
        refine till_take (i := 10) (v := ?_) rfl (by kernel_rfl) (by kernel_rfl) (by kernel_rfl) (by kernel_rfl) (fun _ _ _ h => h) (Or.inl ⟨by rfl, ?_⟩) HSP ?_
        rotate_left
        · intro w' hSw
          obtain ⟨s1, s2, s3, s4⟩ := hSw
          go_simp
          try rfl
        simp only [Act.put, List.setIfInBounds_toArray, List.set_cons_zero, List.set_cons_succ, List.getElem_toArray, List.getElem_cons_zero, List.getElem_cons_succ]
        refine till_take (i := 11) (v := ?_) rfl (by kernel_rfl) (by kernel_rfl) (by kernel_rfl) (by kernel_rfl) (fun _ _ _ h => h) (Or.inl ⟨by rfl, ?_⟩) HSP ?_
        rotate_left
        · intro w' hSw
          obtain ⟨s1, s2, s3, s4⟩ := hSw
          go_simp
          try rfl
        simp only [Act.put, List.setIfInBounds_toArray, List.set_cons_zero, List.set_cons_succ, List.getElem_toArray, List.getElem_cons_zero, List.getElem_cons_succ]
        refine till_take (i := 12) (v := ?_) rfl (by kernel_rfl) (by kernel_rfl) (by kernel_rfl) (by kernel_rfl) (fun _ _ _ h => h) (Or.inl ⟨by rfl, ?_⟩) HSP ?_
        rotate_left
        · intro w' hSw
          obtain ⟨s1, s2, s3, s4⟩ := hSw
          go_simp
          try rfl
        simp only [Act.put, List.setIfInBounds_toArray, List.set_cons_zero, List.set_cons_succ, List.getElem_toArray, List.getElem_cons_zero, List.getElem_cons_succ]
        refine till_take (i := 13) (v := ?_) rfl (by kernel_rfl) (by kernel_rfl) (by kernel_rfl) (by kernel_rfl) (fun _ _ _ h => h) (Or.inl ⟨by rfl, ?_⟩) HSP ?_
        rotate_left
        · intro w' hSw
          obtain ⟨s1, s2, s3, s4⟩ := hSw
          go_simp
          try rfl
        simp only [Act.put, List.setIfInBounds_toArray, List.set_cons_zero, List.set_cons_succ, List.getElem_toArray, List.getElem_cons_zero, List.getElem_cons_succ]
        refine till_one (i := 14) (by kernel_rfl) rfl ?_
        intro K hK
        go_simp
        try rw [hwr]
        have hcall := going_calls sh hsh (4 * (o.idx : Int)) p (by omega) (by omega) (by omega) (by omega) W1.drew
        rw [show shapeV sh = .iface (shapeT sh) (.agg #[]) from rfl] at hcall
        refine hcall.mono ?_
        rintro e w2 ⟨rfl, hbg⟩
        show K _ _
        have hS2 : PutS ga wr.heap.size gw o.idx (.slice (some ⟨gw, 0, none⟩) ws.length capw) x (.iface (shapeT sh) (.agg #[])) w2 := by
          obtain ⟨s1, s2, s3, s4⟩ := HSP
          exact ⟨(hbg.cell (p := ⟨ga, 2, none⟩) hgs).trans s1, (hbg.cell (p := ⟨wr.heap.size, 0, none⟩) hbs).trans s2, (hbg.cell (p := ⟨gw, o.idx, none⟩) hgw).trans s3, (hbg.cell (p := ⟨wr.heap.size, 2, none⟩) hbs).trans s4⟩
        refine hK _ _ (fun _ => hS2) ?_
        clear hK K hcall
        refine till_take (i := 15) (v := ?_) rfl (by kernel_rfl) (by kernel_rfl) (by kernel_rfl) (by kernel_rfl) (fun _ _ _ h => h) (Or.inl ⟨by rfl, ?_⟩) hS2 ?_
        rotate_left
        · intro w' hSw
          obtain ⟨s1, s2, s3, s4⟩ := hSw
          go_simp
          try rfl
        simp only [Act.put, List.setIfInBounds_toArray, List.set_cons_zero, List.set_cons_succ, List.getElem_toArray, List.getElem_cons_zero, List.getElem_cons_succ]
        have hA2 := (hA1.keep (w' := W1.drew) (Below.refl _ _).drew).keep hbg
        have hc2 := hS2.2.2.1
        have hf2 := (hbg.frozen (p := ⟨gw, o.idx, none⟩) hgw).trans hgfz
        have hput := asm_put hA2 rfl o.idx hidx (bits .or .u32 x (goingI sh (4 * (o.idx : Int)) p))
        have hbf : Kept B ga rl w w2 := hb1.trans (Kept.of hA1.base ⟨hbg.os, hbg.tape, hbg.output, hbg.size, hbg.block⟩)
        have HPUT := hide hput
        have HBF := hide (hbf.trans (hput.2 (ga := ga) (rl := rl)))
        clear hput hbf
        refine till_one (i := 16) (by kernel_rfl) rfl ?_
        intro K hK
        go_simp
        refine hK _ _ (fun hh => absurd hh (by decide)) ?_
        clear hK K
        refine till_one (i := 17) (by kernel_rfl) rfl ?_
        intro K hK
        go_simp
        refine hK _ _ (fun hh => absurd hh (by decide)) ?_
        clear hK K
        refine till_done (by kernel_rfl) ?_ _
        go_wp2_with fail
        go_roundg (st.opens.length - (k + 1))
        case measure => omega
        case rel => exact ⟨k + 1, _, _, by omega, rfl, by go_num, by rw [List.length_set]; exact unhide HWL, (unhide HPUT).1, unhide HBF, HX⟩
    · have HX : Hid (settleP st.labels st.opens st.words = .ok ws) := by show _ = _; rw [unhide hsp, List.drop_eq_nil_of_le (by omega)]; rfl
      have HA := hide hA
      have HBX := hide hbx
      clear hA hbx hsp
      go_wp2_with fail
      go_end0
      refine ⟨unhide HBX, ?_⟩
      rw [unhide HX]
      exact ⟨rfl, _, _, unhide HA⟩
end Go.Proofs.YtnbhpmncppohaaaGreatDoor.Mill
