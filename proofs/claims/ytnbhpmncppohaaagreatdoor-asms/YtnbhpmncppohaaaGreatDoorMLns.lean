import Derived.Test.YtnbhpmncppohaaaGreatDoorMStm
namespace Go.Proofs.YtnbhpmncppohaaaGreatDoor.Mill
open Go.RowKit

def linesP (sv : UInt8 → Value) : List (List UInt8) → Nat → PSt → Except (Int × Nat) PSt
  | [], _, st => .ok st
  | p :: ps, n, st => match lineP sv p with
    | none => .error (3, n + 1)
    | some s => match addP s (n + 1) st with
      | .error e => .error (e, n + 1)
      | .ok st' => linesP sv ps (n + 1) st'

theorem FdOk.zero : FdOk ⟨0, 0, 0, 0⟩ := .inr (.inr (.inr ⟨rfl, rfl⟩))
theorem fieldOf_ok (k : Nat) (h : 3 ≤ k) : FdOk (fieldOf k) := by
  unfold fieldOf
  rw [if_neg (by omega), if_neg (by omega), if_neg (by omega)]
  split
  · exact .inl ⟨rfl, rfl⟩
  · split
    · exact .inr (.inl ⟨rfl, rfl⟩)
    · split
      · exact .inr (.inl ⟨rfl, rfl⟩)
      · split
        · exact .inr (.inr (.inl ⟨rfl, rfl⟩))
        · exact FdOk.zero
theorem opP_field (k : Nat) (o : List UInt8) (s s' : Stm) (h : opP k o s = some s') (hs : FdOk s.f) : FdOk s'.f := by
  unfold opP at h
  split at h
  · split at h
    · cases h
    · simp only [Option.some.injEq] at h; subst h; exact hs
  · rename_i hk
    split at h
    · split at h
      · simp only [Option.some.injEq] at h; subst h; exact hs
      · cases h
    · split at h
      · split at h
        · split at h
          · cases h
          · split at h
            · simp only [Option.some.injEq] at h; subst h; exact fieldOf_ok 6 (by omega)
            · cases h
        · cases h
      · split at h
        · simp only [Option.some.injEq] at h; subst h; exact fieldOf_ok k (by omega)
        · cases h
theorem opsP_field (ks : List Nat) : ∀ (os : List (List UInt8)) (s s' : Stm), opsP ks os s = some s' → FdOk s.f → FdOk s'.f := by
  induction ks with
  | nil => intro os s s' h hs; cases os <;> (simp only [opsP, Option.some.injEq] at h; subst h; exact hs)
  | cons k ks ih =>
    intro os s s' h hs
    cases os with
    | nil => simp only [opsP, Option.some.injEq] at h; subst h; exact hs
    | cons o os =>
      simp only [opsP] at h
      split at h
      · rename_i s2 h2
        exact ih os s2 s' h (opP_field k _ s s2 h2 hs)
      · cases h
theorem operandsP_field (ks : List Nat) (t : List UInt8) (s s' : Stm) (h : operandsP ks t s = some s') (hs : FdOk s.f) : FdOk s'.f := by
  unfold operandsP at h
  split at h
  · exact opsP_field ks _ s s' h hs
  · cases h
theorem wordP_field (sv : UInt8 → Value) (code : List UInt8) (s s' : Stm) (h : wordP sv code s = some s') (hs : FdOk s.f) : FdOk s'.f := by
  unfold wordP at h
  split at h
  · exact operandsP_field _ _ _ s' h hs
  · split at h
    · exact operandsP_field _ _ _ s' h hs
    · cases h
theorem codeP_ok (sv : UInt8 → Value) (hsv : ∀ sh, Ifc (sv sh)) (t : List UInt8) (s s' : Stm) (h : codeP sv t s = some s') (hs : FdOk s.f ∧ Ifc s.shape) : FdOk s'.f ∧ Ifc s'.shape := by
  unfold codeP at h
  split at h
  · simp only [Option.some.injEq] at h; subst h; exact hs
  · exact ⟨wordP_field sv _ s s' h hs.1, wordP_shape sv hsv _ s s' h hs.2⟩
theorem lineP_ok (sv : UInt8 → Value) (hsv : ∀ sh, Ifc (sv sh)) (p : List UInt8) (s : Stm) (h : lineP sv p = some s) : FdOk s.f ∧ Ifc s.shape := by
  unfold lineP at h
  split at h
  · split at h
    · exact codeP_ok sv hsv _ _ s h ⟨FdOk.zero, .inl rfl⟩
    · cases h
  · exact codeP_ok sv hsv _ _ s h ⟨FdOk.zero, .inl rfl⟩
theorem addP_len (s : Stm) (line : Nat) (st st' : PSt) (h : addP s line st = .ok st') (hw : st.words.length ≤ 64) : st'.words.length ≤ 64 := by
  have hl : ∀ l, (labelP l st).words = st.words := fun l => by unfold labelP; split <;> rfl
  unfold addP at h
  split at h
  · cases h
  · split at h
    · split at h
      · split at h
        · cases h
        · simp only [Except.ok.injEq] at h; subst h
          simp only [wordAdd, List.length_append, List.length_cons, List.length_nil, hl]
          omega
      · simp only [Except.ok.injEq] at h; subst h; rw [hl]; exact hw
    · cases h

theorem addP_few (s : Stm) (line : Nat) (st st' : PSt) (h : addP s line st = .ok st') (hw : st.opens.length ≤ st.words.length) : st'.opens.length ≤ st'.words.length := by
  have hl : ∀ l, (labelP l st).words = st.words := fun l => by unfold labelP; split <;> rfl
  have ho : ∀ l, (labelP l st).opens = st.opens := fun l => by unfold labelP; split <;> rfl
  unfold addP at h
  split at h
  · cases h
  · split at h
    · split at h
      · split at h
        · cases h
        · simp only [Except.ok.injEq] at h; subst h
          simp only [wordAdd, List.length_append, List.length_cons, List.length_nil, hl, ho]
          split
          · omega
          · simp only [List.length_append, List.length_cons, List.length_nil]; omega
      · simp only [Except.ok.injEq] at h; subst h; rw [hl, ho]; exact hw
    · cases h

theorem owns_set {w : World} {B : Nat} {e t : TypeId} {size : Nat} {v : Value} {n : Nat} {xs : List Value} {g : Nat} {cs : Array Value} (h : w.ownsRow B e size v n xs) (hg : w.heap[g]? = some (.cells cs t)) (hne : e ≠ t) (i : Nat) (u : Value) : (w.setCell ⟨g, i, none⟩ u).ownsRow B e size v n xs := by
  refine ⟨h.1, ?_⟩
  rcases h.2 with h0 | ⟨g', cap, cur, h1, h2, h3, h4⟩
  · exact .inl h0
  · have hn : g' ≠ g := fun e' => by
      rw [e', hg] at h3
      simp only [Option.some.injEq, Obj.cells.injEq] at h3
      exact hne h3.2.1.symm
    exact .inr ⟨g', cap, cur, h1, h2, (heap_setCell_other w ⟨g, i, none⟩ g' u hn).trans h3, h4⟩
theorem AsmAt.setLine {es : Array MapEntry} {w : World} {B ga rn rl : Nat} {vw vo : Value} {st : PSt} {line : Int} (h : AsmAt es w B ga rn rl vw vo st line) (n : Int) : AsmAt es (w.setCell ⟨ga, 4, none⟩ (.int .i64 n)) B ga rn rl vw vo st n := by
  have h1 : rl ≠ ga := fun e => by have := h.lab; rw [e, h.blk] at this; cases this
  have h2 : rn ≠ ga := fun e => by have := h.nam; rw [e, h.blk] at this; cases this
  exact ⟨heap_setCell_same _ ga 4 _ _ _ h.blk, (heap_setCell_other _ ⟨ga, 4, none⟩ rl _ h1).trans h.lab, (heap_setCell_other _ ⟨ga, 4, none⟩ rn _ h2).trans h.nam, owns_set h.words h.blk (by decide) 4 _, owns_set h.opens h.blk (by decide) 4 _, h.ne, h.lo⟩

theorem splitC_le (c : UInt8) (t : List UInt8) : (∀ p ∈ splitC c t, p.length ≤ t.length) ∧ (splitC c t).length ≤ t.length + 1 := by
  induction t with
  | nil => exact ⟨fun p hp => by simp [splitC] at hp; subst hp; simp, by simp [splitC]⟩
  | cons x r ih =>
    refine ⟨fun p hp => ?_, ?_⟩
    · rw [splitC] at hp
      split at hp
      · simp only [List.mem_cons] at hp
        rcases hp with rfl | hp
        · simp
        · have := ih.1 p hp; simp; omega
      · split at hp
        · simp at hp; subst hp; simp
        · rename_i q qs hq
          simp only [List.mem_cons] at hp
          rcases hp with rfl | hp
          · have := ih.1 q (by rw [hq]; simp); simp; omega
          · have := ih.1 p (by rw [hq]; simp [hp]); simp; omega
    · rw [splitC]
      split
      · simp; exact ih.2
      · split
        · simp
        · rename_i q qs hq
          have := ih.2
          rw [hq] at this
          simp at this ⊢; omega
theorem linesP_step (sv : UInt8 → Value) (ps : List (List UInt8)) (k : Nat) (h : k < ps.length) (st : PSt) : linesP sv (ps.drop k) k st = match lineP sv ps[k] with
    | none => .error (3, k + 1)
    | some s => match addP s (k + 1) st with
      | .error e => .error (e, k + 1)
      | .ok st' => linesP sv (ps.drop (k + 1)) (k + 1) st' := by
  rw [List.drop_eq_getElem_cons h]; rfl

theorem Kept.setGa {B ga rl : Nat} {w w' : World} (h : Kept B ga rl w w') (hB : B ≤ ga) (hs : B ≤ w'.heap.size) (i : Nat) (v : Value) : Kept B ga rl w (w'.setCell ⟨ga, i, none⟩ v) :=
  h.trans (Kept.turned ((Turned.of (Below.refl _ _)).set i v) (.inl rfl) hB hs)
/-- what addLines comes to -/
def LinesMake (es : Array MapEntry) (B ga rn rl : Nat) (x : Except (Int × Nat) PSt) (w : World) (e : Ending) (w' : World) : Prop :=
  Kept B ga rl w w' ∧ match x with
  | .error n => e = gives n.1 ∧ w'.cell? ⟨ga, 4, none⟩ = some (.int .i64 (n.2 : Nat))
  | .ok st' => e = .returned (.tuple #[]) ∧ st'.words.length ≤ 64 ∧ st'.opens.length ≤ st'.words.length ∧ ∃ vw vo line, AsmAt es w' B ga rn rl vw vo st' line

set_option maxHeartbeats 4000000 in
set_option maxRecDepth 100000 in
theorem addLines_calls (es : Array MapEntry) (sv : UInt8 → Value) (hsv : ∀ sh, Ifc (sv sh)) (WO : WordOk es sv) (AW : AddWordOk es) (t : List UInt8) (B ga rn rl : Nat) (vw vo : Value) (st : PSt) (line : Int) (w : World) (h : AsmAt es w B ga rn rl vw vo st line) (hw : st.words.length ≤ 64) (hfew : st.opens.length ≤ st.words.length) (hB : Base w) (hB16 : 8 ≤ B) (ht : t.length ≤ 2000) :
    Calls Tryz.prog 10 #[.pointer (some ⟨ga, 0, none⟩), S t] w fun e w' => LinesMake es B ga rn rl (linesP sv (splitC 10 t) 0 st) w e w' := by
  have HS := hide (split1_calls t 10 w hB (by omega))
  obtain ⟨hpl, hpn⟩ := splitC_le 10 t
  have HPL := hide hpl
  have HH := hide h
  have HB := hide hB
  have hbase := h.base
  have hgl := (Array.getElem?_eq_some_iff.1 h.blk).1
  have hrl := (Array.getElem?_eq_some_iff.1 h.lab).1
  clear h hB hpl
  generalize splitC 10 t = ps at *
  go_enter Tryz.func10, Tryz.ntmps10
  go_wp2_with (go_at_call 17; refine (unhide HS).mono ?_; rintro e w1 ⟨rfl, rfl⟩)
  go_loopg [9] ps.length (fun n iv wx => ∃ k st' vw' vo' line', k ≤ ps.length ∧ n = ps.length - k ∧ iv = .int .i64 (k : Nat) ∧ st'.words.length ≤ 64 ∧ st'.opens.length ≤ st'.words.length ∧ AsmAt es wx B ga rn rl vw' vo' st' line' ∧ Kept B ga rl w wx ∧ wx.heap[w.heap.size]? = some (.cells (ps.map S).toArray 9) ∧ Hid (linesP sv ps 0 st = linesP sv (ps.drop k) k st'))
  case atStart => exact ⟨0, st, vw, vo, line, by omega, rfl, rfl, hw, hfew, (unhide HH).keep ((Below.refl _ _).alloc (Nat.le_refl _) _), Kept.of hbase ((Below.refl _ _).alloc (Nat.le_refl _) _), heap_alloc_new _ _, rfl⟩
  case round =>
    obtain ⟨k, st', vw', vo', line', hk, rfl, rfl, hw', hfew', hA, hbx, hps, hlp⟩ := hrel
    by_cases hlt : k < ps.length
    · have hst := linesP_step sv ps k hlt st'
      have hcp := cell_row hps k (S ps[k]) (by simp [hlt])
      have hpk : (ps[k]).length ≤ 2000 := Nat.le_trans (unhide HPL _ (List.getElem_mem hlt)) ht
      generalize ps[k] = p at *
      have hc0 := cell_row hA.blk 0 _ rfl
      have hc4 := cell_row hA.blk 4 _ rfl
      have hfz := frozen_row hA.blk 4
      have HPS := hide hps
      have HBX := hide hbx
      have e1 : ((k + 1 : Nat) : Int) = (k : Int) + 1 := by omega
      have hA2 := hA.setLine ((k : Int) + 1)
      have hb2 := hbx.setGa hA.lo.1 hA.base 4 (.int .i64 ((k : Int) + 1))
      have hps2 := (heap_setCell_other _ ⟨ga, 4, none⟩ w.heap.size (.int .i64 ((k : Int) + 1)) (by show w.heap.size ≠ ga; omega)).trans hps
      have HA2 := hide hA2
      have HB2 := hide hb2
      have HPS2 := hide hps2
      have HLO := hide hA.lo
      have HK2 := hide ((unhide HB).below hb2.below hB16)
      clear hA hps hbx hA2 hb2 hps2
      cases hline : lineP sv p with
      | none =>
        have HX : Hid (linesP sv ps 0 st = .error (3, k + 1)) := by show _ = _; rw [unhide hlp, hst, hline]
        have HR : Hid (∀ wc, Base wc → wc.heap[rn]? = some (.map es 44) → Calls Tryz.prog 19 #[S p, .map (some rn)] wc fun e w' => e = gives 3 ∧ Below wc.heap.size wc w') := fun wc h1 h2 => by
          have := readLine_calls es sv WO hsv p rn wc h1 h2 hpk
          rw [hline] at this
          exact this
        clear hst hline hlp
        go_wp2_with (go_at_call 19; refine (unhide HR _ (unhide HK2) (unhide HA2).nam).mono ?_; rintro e w3 ⟨rfl, hb3⟩)
        refine ⟨rfl, (unhide HB2).trans (Kept.of (unhide HA2).base hb3), ?_⟩
        rw [unhide HX]
        exact ⟨rfl, by rw [((unhide HA2).keep hb3).line, e1]⟩
      | some s =>
        have hok := lineP_ok sv hsv p s hline
        have HR : Hid (∀ wc, Base wc → wc.heap[rn]? = some (.map es 44) → Calls Tryz.prog 19 #[S p, .map (some rn)] wc fun e w' => e = .returned (.agg s.cells) ∧ Below wc.heap.size wc w') := fun wc h1 h2 => by
          have := readLine_calls es sv WO hsv p rn wc h1 h2 hpk
          rw [hline] at this
          exact this
        rw [hline] at hst
        cases hadd : addP s (k + 1) st' with
        | error en =>
          have HX : Hid (linesP sv ps 0 st = .error (en, k + 1)) := by show _ = _; rw [unhide hlp, hst]; dsimp only; rw [hadd]
          have HS2 : Hid (∀ wc, AsmAt es wc B ga rn rl vw' vo' st' ((k : Int) + 1) → Calls Tryz.prog 18 #[.pointer (some ⟨ga, 0, none⟩), .agg s.cells] wc fun e w' => e = gives en ∧ Kept B ga rl wc w' ∧ w'.cell? ⟨ga, 4, none⟩ = some (.int .i64 ((k + 1 : Nat) : Int))) := fun wc h => by
            have := addStatement_calls es AW s B ga rn rl vw' vo' st' (k + 1) wc (by rw [e1]; exact h) hw' hfew' hok.1 hok.2
            rw [hadd] at this
            exact this.mono fun e w' h => ⟨h.2.1, h.1, h.2.2⟩
          clear hst hline hlp hadd
          generalize s.cells = sc at *
          go_wp2_with (first | (go_at_call 19; refine (unhide HR _ (unhide HK2) (unhide HA2).nam).mono ?_; rintro e w3 ⟨rfl, hb3⟩; have hA3 := hide ((unhide HA2).keep hb3)) | (go_at_call 18; refine (unhide HS2 _ (unhide hA3)).mono ?_; rintro e w4 ⟨rfl, hk4, hl4⟩))
          refine ⟨rfl, ((unhide HB2).trans (Kept.of (unhide HA2).base hb3)).trans hk4, ?_⟩
          rw [unhide HX]
          exact ⟨rfl, hl4⟩
        | ok st2 =>
          have HX : Hid (linesP sv ps 0 st = linesP sv (ps.drop (k + 1)) (k + 1) st2) := by show _ = _; rw [unhide hlp, hst]; dsimp only; rw [hadd]
          have hlen2 := addP_len s (k + 1) st' st2 hadd hw'
          have hfew2 := addP_few s (k + 1) st' st2 hadd hfew'
          have HS2 : Hid (∀ wc, AsmAt es wc B ga rn rl vw' vo' st' ((k : Int) + 1) → Calls Tryz.prog 18 #[.pointer (some ⟨ga, 0, none⟩), .agg s.cells] wc fun e w' => e = .returned (.tuple #[]) ∧ Kept B ga rl wc w' ∧ ∃ vw vo, AsmAt es w' B ga rn rl vw vo st2 ((k + 1 : Nat) : Int)) := fun wc h => by
            have := addStatement_calls es AW s B ga rn rl vw' vo' st' (k + 1) wc (by rw [e1]; exact h) hw' hfew' hok.1 hok.2
            rw [hadd] at this
            exact this.mono fun e w' h => ⟨h.2.1, h.1, h.2.2⟩
          clear hst hline hlp hadd
          generalize s.cells = sc at *
          go_wp2_with (first | (go_at_call 19; refine (unhide HR _ (unhide HK2) (unhide HA2).nam).mono ?_; rintro e w3 ⟨rfl, hb3⟩; have hA3 := hide ((unhide HA2).keep hb3)) | (go_at_call 18; refine (unhide HS2 _ (unhide hA3)).mono ?_; rintro e w4 ⟨rfl, hk4, vw4, vo4, hA4⟩))
          go_roundg (ps.length - (k + 1))
          case measure => omega
          case rel =>
            have hsz := (Array.getElem?_eq_some_iff.1 (unhide HPS2)).1
            have h3 := (hb3.block _ hsz).trans (unhide HPS2)
            have h4 := (hk4.spare w.heap.size (Nat.lt_of_lt_of_le hsz hb3.size) (by omega) (by omega) (fun c fz => by rw [h3]; simp) (fun c fz => by rw [h3]; simp)).trans h3
            exact ⟨k + 1, st2, vw4, vo4, _, by omega, rfl, by go_num, hlen2, hfew2, hA4, ((unhide HB2).trans (Kept.of (unhide HA2).base hb3)).trans hk4, h4, HX⟩
    · have HX : Hid (linesP sv ps 0 st = .ok st') := by show _ = _; rw [unhide hlp, List.drop_eq_nil_of_le (by omega)]; rfl
      have HA := hide hA
      have HBX := hide hbx
      clear hA hbx hps hlp
      go_wp2_with fail
      go_end0
      refine ⟨unhide HBX, ?_⟩
      rw [unhide HX]
      exact ⟨rfl, hw', hfew', _, _, _, unhide HA⟩
end Go.Proofs.YtnbhpmncppohaaaGreatDoor.Mill
