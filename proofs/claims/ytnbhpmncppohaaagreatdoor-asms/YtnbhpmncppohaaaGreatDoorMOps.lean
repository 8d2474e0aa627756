import Derived.Test.YtnbhpmncppohaaaGreatDoorMRead2
namespace Go.Proofs.YtnbhpmncppohaaaGreatDoor.Mill
open Go.RowKit

theorem readOperand_calls (k : Nat) (hk : k ≤ 8) (o : List UInt8) (st : Stm) (g : Nat) (w : World) (hB : Base w) (hg : w.heap[g]? = some (.cells st.cells 72)) (hl : o.length ≤ 4294967280) :
    Calls Tryz.prog 67 #[.pointer (some ⟨g, 0, none⟩), .int .i64 k, S o] w fun e w' => Makes g (opP k o st) w e w' := by
  by_cases h2 : k ≤ 2
  · exact readOperand_r k h2 o st g w hB hg hl
  · by_cases h7 : k = 7
    · subst h7; exact readOperand_l o st g w hg hl
    · by_cases h6 : k = 6
      · subst h6; exact readOperand_m o st g w hB hg hl
      · exact readOperand_n k (by omega) o st g w hg hl

/-- a row of kinds -/
def KindsAt (w : World) (v : Value) (ks : List Nat) (g : Nat) : Prop :=
  (v = .slice none 0 0 ∧ ks = []) ∨ ∃ gk, v = .slice (some ⟨gk, 0, none⟩) ks.length ks.length ∧ gk ≠ g ∧ gk < w.heap.size ∧ w.heap[gk]? = some (.cells (ks.map fun k : Nat => Value.int .i64 k).toArray 126)

theorem commas_le (t : List UInt8) : ∀ p ∈ commas t, p.length ≤ t.length := by
  induction t with
  | nil => intro p hp; simp [commas] at hp; subst hp; simp
  | cons c r ih =>
    intro p hp
    rw [commas_cons] at hp
    split at hp
    · simp only [List.mem_cons] at hp
      rcases hp with rfl | hp
      · simp
      · have := ih p hp; simp; omega
    · split at hp
      · simp at hp; subst hp; simp
      · rename_i q qs hq
        simp only [List.mem_cons] at hp
        rcases hp with rfl | hp
        · have := ih q (by rw [hq]; simp); simp; omega
        · have := ih p (by rw [hq]; simp [hp]); simp; omega
theorem opsP_step (ks : List Nat) (os : List (List UInt8)) (i : Nat) (hi : i < ks.length) (ho : i < os.length) (s : Stm) :
    opsP (ks.drop i) (os.drop i) s = match opP ks[i] (trim os[i]) s with | some s' => opsP (ks.drop (i + 1)) (os.drop (i + 1)) s' | none => none := by
  rw [List.drop_eq_getElem_cons hi, List.drop_eq_getElem_cons ho]; rfl

set_option maxHeartbeats 4000000 in
set_option maxRecDepth 100000 in
theorem readOperands_some (ks : List Nat) (hk8 : ∀ k ∈ ks, k ≤ 8) (hkl : ks.length ≤ 3) (t : List UInt8) (hn : t ≠ []) (st : Stm) (g gk : Nat) (w : World) (hB : Base w) (hg16 : 8 ≤ g) (hg : w.heap[g]? = some (.cells st.cells 72))
    (hne : gk ≠ g) (hgk : w.heap[gk]? = some (.cells (ks.map fun k : Nat => Value.int .i64 k).toArray 126)) (hl : t.length ≤ 2000) :
    Calls Tryz.prog 51 #[.pointer (some ⟨g, 0, none⟩), .slice (some ⟨gk, 0, none⟩) ks.length ks.length, S t] w fun e w' => Makes g (operandsP ks t st) w e w' := by
  have hp : pieces t = commas t := by unfold pieces; rw [if_neg hn]
  have HS := hide (splitOperands_some t hn w hB (by omega))
  have HX : Hid (operandsP ks t st = if (commas t).length = ks.length then opsP ks (commas t) st else none) := by show _ = _; unfold operandsP; rw [hp]
  have HG := hide hg
  have HK := hide hgk
  have HB := hide hB
  have hlt : g < w.heap.size := (Array.getElem?_eq_some_iff.1 hg).1
  have hgl : gk < w.heap.size := (Array.getElem?_eq_some_iff.1 hgk).1
  have HPL : Hid (∀ p ∈ commas t, p.length ≤ 2000) := fun p hp => Nat.le_trans (commas_le t p hp) hl
  clear hg hgk hB hn hp
  generalize commas t = ps at *
  by_cases hlen : ps.length = ks.length
  · have hne2 : ((ps.length : Int) != (ks.length : Int)) = false := by rw [bne_eq_false_iff_eq]; omega
    have HX2 : Hid (operandsP ks t st = opsP ks ps st) := by show _ = _; rw [unhide HX, if_pos hlen]
    have HLEN := hide hlen
    clear HX hlen
    go_enter Tryz.func51, Tryz.ntmps51
    go_wp2_with (go_at_call 66; refine (unhide HS).mono ?_; rintro e w1 ⟨rfl, rfl⟩)
    go_loopg [19] ks.length (fun n iv wx => ∃ i s', i ≤ ks.length ∧ n = ks.length - i ∧ iv = .int .i64 (i : Nat) ∧ Turned g w wx ∧ wx.heap[g]? = some (.cells (Stm.cells s') 72) ∧ wx.heap[w.heap.size]? = some (.cells (ps.map S).toArray 9) ∧ Hid (opsP ks ps st = opsP (ks.drop i) (ps.drop i) s'))
    case atStart =>
      refine ⟨0, st, by omega, rfl, rfl, Turned.of ((Below.refl _ _).alloc (Nat.le_refl _) _), ?_, heap_alloc_new _ _, rfl⟩
      rw [Below.heap_alloc _ _ _ hlt]; exact unhide HG
    case round =>
      obtain ⟨i, s', hi, rfl, rfl, hT, hg', hps, hop⟩ := hrel
      by_cases hlt2 : i < ks.length
      · have hpi : i < ps.length := by rw [unhide HLEN]; exact hlt2
        have hst := opsP_step ks ps i hlt2 hpi s'
        have hck : ∀ wx : World, wx.heap[gk]? = some (.cells (ks.map fun k : Nat => Value.int .i64 k).toArray 126) → wx.cell? ⟨gk, i, none⟩ = some (.int .i64 (ks[i] : Nat)) := fun wx h => cell_row h i _ (by simp [hlt2])
        have hcp : ∀ wx : World, wx.heap[w.heap.size]? = some (.cells (ps.map S).toArray 9) → wx.cell? ⟨w.heap.size, i, none⟩ = some (S ps[i]) := fun wx h => cell_row h i _ (by simp [hpi])
        have hk8' : ks[i] ≤ 8 := hk8 _ (List.getElem_mem hlt2)
        have hpl : (ps[i]).length ≤ 2000 := unhide HPL _ (List.getElem_mem hpi)
        generalize ks[i] = k at *
        generalize ps[i] = p at *
        have hc1 := hck _ ((hT.block gk hgl hne).trans (unhide HK))
        have hc2 := hcp _ hps
        have htl := trim_le p
        have HT := hide (fun w => mtrim_calls p w (by omega))
        have hls := hT.size
        have hB1 := hide ((unhide HB).turned hT hg16)
        have HTT := hide hT
        have HG' := hide hg'
        have HPS := hide hps
        have hgx : w.heap.size ≤ _ := hls
        cases hopp : opP k (trim p) s' with
        | none =>
          have HX3 : Hid (operandsP ks t st = none) := by show _ = _; rw [unhide HX2, unhide hop, hst, hopp]
          have HR : Hid (∀ wc, Base wc → wc.heap[g]? = some (.cells s'.cells 72) → Calls Tryz.prog 67 #[.pointer (some ⟨g, 0, none⟩), .int .i64 k, S (trim p)] wc fun e w' => e = gives 3 ∧ Turned g wc w') := fun wc h1 h2 =>
            (readOperand_calls k hk8' (trim p) s' g wc h1 h2 (by omega)).mono fun e w' h => by rw [hopp] at h; exact ⟨h.2, h.1⟩
          clear hck hcp hst hopp hT hg' hps hop
          go_wp2_with (first | (go_at_call 34; refine (unhide HT _).mono ?_; rintro e w2 ⟨rfl, hb2⟩) | (go_at_call 67; refine (unhide HR _ ((unhide hB1).next (by assumption)) (((by assumption : Below _ _ _).block g (by omega)).trans (unhide HG'))).mono ?_; rintro e w3 ⟨rfl, ht3⟩))
          exact ⟨rfl, ((unhide HTT).trans (Turned.of hb2)).trans ht3, by rw [unhide HX3]⟩
        | some s2 =>
          have HX3 : Hid (opsP ks ps st = opsP (ks.drop (i + 1)) (ps.drop (i + 1)) s2) := by show _ = _; rw [unhide hop, hst, hopp]
          have HR : Hid (∀ wc, Base wc → wc.heap[g]? = some (.cells s'.cells 72) → Calls Tryz.prog 67 #[.pointer (some ⟨g, 0, none⟩), .int .i64 k, S (trim p)] wc fun e w' => e = .returned (.tuple #[]) ∧ Turned g wc w' ∧ w'.heap[g]? = some (.cells s2.cells 72)) := fun wc h1 h2 =>
            (readOperand_calls k hk8' (trim p) s' g wc h1 h2 (by omega)).mono fun e w' h => by rw [hopp] at h; exact ⟨h.2.1, h.1, h.2.2⟩
          clear hck hcp hst hopp hT hg' hps hop
          go_wp2_with (first | (go_at_call 34; refine (unhide HT _).mono ?_; rintro e w2 ⟨rfl, hb2⟩) | (go_at_call 67; refine (unhide HR _ ((unhide hB1).next (by assumption)) (((by assumption : Below _ _ _).block g (by omega)).trans (unhide HG'))).mono ?_; rintro e w3 ⟨rfl, ht3, hg3⟩))
          go_roundg (ks.length - (i + 1))
          case measure => omega
          case rel =>
            have hsz := (Array.getElem?_eq_some_iff.1 (unhide HPS)).1
            have hne3 : w.heap.size ≠ g := by omega
            exact ⟨i + 1, s2, by omega, rfl, by go_num, ((unhide HTT).trans (Turned.of hb2)).trans ht3, hg3, (ht3.block _ (Nat.lt_of_lt_of_le hsz hb2.size) hne3).trans ((hb2.block _ hsz).trans (unhide HPS)), HX3⟩
      · have HX3 : Hid (operandsP ks t st = some s') := by
          show _ = _
          rw [unhide HX2, unhide hop, List.drop_eq_nil_of_le (by omega), List.drop_eq_nil_of_le (by rw [unhide HLEN]; omega)]
          rfl
        have HTT := hide hT
        have HG' := hide hg'
        clear hT hg' hps hop
        go_wp2_with fail
        go_end0
        refine ⟨unhide HTT, ?_⟩
        rw [unhide HX3]
        exact ⟨rfl, unhide HG'⟩
  · have hne2 : ((ps.length : Int) != (ks.length : Int)) = true := by rw [bne_iff_ne]; omega
    have HX2 : Hid (operandsP ks t st = none) := by show _ = _; rw [unhide HX, if_neg hlen]
    clear HX
    go_enter Tryz.func51, Tryz.ntmps51
    go_wp2_with (go_at_call 66; refine (unhide HS).mono ?_; rintro e w1 ⟨rfl, rfl⟩)
    exact ⟨rfl, Turned.of ((Below.refl _ _).alloc (Nat.le_refl _) _), by rw [unhide HX2]⟩

set_option maxHeartbeats 1000000 in
theorem readOperands_nil (kv : Value) (ks : List Nat) (hv : kv = .slice none 0 0 ∧ ks = [] ∨ ∃ a, kv = .slice (some a) ks.length ks.length ∧ ks ≠ []) (hkl : ks.length ≤ 3) (st : Stm) (g : Nat) (w : World) (hg : w.heap[g]? = some (.cells st.cells 72)) :
    Calls Tryz.prog 51 #[.pointer (some ⟨g, 0, none⟩), kv, S []] w fun e w' => Makes g (operandsP ks [] st) w e w' := by
  rcases hv with ⟨rfl, rfl⟩ | ⟨a, rfl, hne⟩
  · have HX : Hid (operandsP [] [] st = some st) := rfl
    have HG := hide hg
    clear hg
    go_enter Tryz.func51, Tryz.ntmps51
    go_wp2_with (go_at_call 66; refine (splitOperands_nil _).mono ?_; rintro e w1 ⟨rfl, rfl⟩)
    go_loopg [19] 0 (fun n iv wx => iv = .int .i64 0 ∧ w1 = wx)
    case atStart => exact ⟨rfl, rfl⟩
    case round =>
      obtain ⟨rfl, rfl⟩ := hrel
      go_wp2_with fail
      go_end0
      refine ⟨Turned.of (Below.refl _ _), ?_⟩
      rw [unhide HX]
      exact ⟨rfl, unhide HG⟩
  · have HX : Hid (operandsP ks [] st = none) := by
      show _ = _
      unfold operandsP
      rw [if_neg (fun e => hne (List.eq_nil_of_length_eq_zero (by rw [← e]; rfl)))]
    have hlen : (((0 : Nat) : Int) != (ks.length : Int)) = true := by
      rw [bne_iff_ne]
      intro e
      exact hne (List.eq_nil_of_length_eq_zero (by omega))
    have hlen2 : ((0 : Int) != (ks.length : Int)) = true := hlen
    clear hg hne
    go_enter Tryz.func51, Tryz.ntmps51
    go_wp2_with (go_at_call 66; refine (splitOperands_nil _).mono ?_; rintro e w1 ⟨rfl, rfl⟩)
    exact ⟨rfl, Turned.of (Below.refl _ _), by rw [unhide HX]⟩

set_option maxHeartbeats 1000000 in
theorem readOperands_none (t : List UInt8) (hn : t ≠ []) (st : Stm) (g : Nat) (w : World) (hB : Base w) (hl : t.length ≤ 2000) :
    Calls Tryz.prog 51 #[.pointer (some ⟨g, 0, none⟩), .slice none 0 0, S t] w fun e w' => Makes g (operandsP [] t st) w e w' := by
  have HS := hide (splitOperands_some t hn w hB (by omega))
  have hp : pieces t = commas t := by unfold pieces; rw [if_neg hn]
  have hcn := commas_ne t
  have HX : Hid (operandsP [] t st = none) := by
    show _ = _
    unfold operandsP
    rw [hp, if_neg (fun e : (commas t).length = ([] : List Nat).length => hcn (List.eq_nil_of_length_eq_zero e))]
  have hlen : (((commas t).length : Int) != 0) = true := by
    rw [bne_iff_ne]
    intro e
    exact hcn (List.eq_nil_of_length_eq_zero (by omega))
  clear hn hp hcn hB
  generalize commas t = ps at *
  go_enter Tryz.func51, Tryz.ntmps51
  go_wp2_with (go_at_call 66; refine (unhide HS).mono ?_; rintro e w1 ⟨rfl, rfl⟩)
  exact ⟨rfl, Turned.of ((Below.refl _ _).alloc (Nat.le_refl _) _), by rw [unhide HX]⟩

/-- readOperands: kinds of a literal's block (or none), at any text -/
theorem readOperands_calls (ks : List Nat) (hk8 : ∀ k ∈ ks, k ≤ 8) (hkl : ks.length ≤ 3) (t : List UInt8) (kv : Value) (st : Stm) (g : Nat) (w : World) (hB : Base w) (hg16 : 8 ≤ g) (hg : w.heap[g]? = some (.cells st.cells 72))
    (hv : kv = .slice none 0 0 ∧ ks = [] ∨ ∃ gk, kv = .slice (some ⟨gk, 0, none⟩) ks.length ks.length ∧ ks ≠ [] ∧ gk ≠ g ∧ w.heap[gk]? = some (.cells (ks.map fun k : Nat => Value.int .i64 k).toArray 126)) (hl : t.length ≤ 2000) :
    Calls Tryz.prog 51 #[.pointer (some ⟨g, 0, none⟩), kv, S t] w fun e w' => Makes g (operandsP ks t st) w e w' := by
  by_cases ht : t = []
  · subst ht
    refine readOperands_nil kv ks ?_ hkl st g w hg
    rcases hv with h | ⟨gk, h1, h2, _⟩
    · exact .inl h
    · exact .inr ⟨_, h1, h2⟩
  · rcases hv with ⟨rfl, rfl⟩ | ⟨gk, rfl, hne, h2, h3⟩
    · exact readOperands_none t ht st g w hB hl
    · exact readOperands_some ks hk8 hkl t ht st g gk w hB hg16 hg h2 h3 hl
end Go.Proofs.YtnbhpmncppohaaaGreatDoor.Mill
