import Derived.Test.YtnbhpmncppohaaaGreatDoorMLab
import Derived.Test.YtnbhpmncppohaaaGreatDoorMLine
namespace Go.Proofs.YtnbhpmncppohaaaGreatDoor.Mill
open Go.RowKit

/-- a number in its field -/
def putF (f : Fd) (n : Int) : Int :=
  if f.wi = 5 then bits .and .u32 (IntKind.u32.wrap (IntKind.u32.wrap n * 64)) 1984
  else if f.wi = 16 then bits .and .u32 (IntKind.u32.wrap (IntKind.u32.wrap n)) 65535
  else if f.wi = 32 then bits .and .u32 (IntKind.u32.wrap (IntKind.u32.wrap n)) 4294967295
  else 0
/-- the fields of statements -/
def FdOk (f : Fd) : Prop := (f.lo = 6 ∧ f.wi = 5) ∨ (f.lo = 0 ∧ f.wi = 16) ∨ (f.lo = 0 ∧ f.wi = 32) ∨ (f.lo = 0 ∧ f.wi = 0)

def labelP (l : List UInt8) (st : PSt) : PSt := if l = [] then st else { st with labels := st.labels ++ [(l, 4 * st.words.length)] }
def wordAdd (s : Stm) (line : Nat) (st : PSt) : PSt :=
  { st with words := st.words ++ [bits .or .u32 s.word (putF s.f s.number)], opens := if s.goal = [] then st.opens else st.opens ++ [{ idx := st.words.length, line := line, shape := s.shape, goal := s.goal }] }
/-- one statement -/
def addP (s : Stm) (line : Nat) (st : PSt) : Except Int PSt :=
  if s.label ≠ [] ∧ (placeOf st.labels s.label).isSome = true then .error 5
  else if s.f.least ≤ s.number ∧ s.number ≤ s.f.most then
    if s.has then (if st.words.length = 64 then .error 6 else .ok (wordAdd s line (labelP s.label st))) else .ok (labelP s.label st)
  else .error 4

/-- what a call on the assembly leaves as it was -/
structure Kept (B ga rl : Nat) (w w' : World) : Prop where
  below : Below B w w'
  spare : ∀ k, k < w.heap.size → k ≠ ga → k ≠ rl → (∀ c fz, w.heap[k]? ≠ some (.cells c 66 fz)) → (∀ c fz, w.heap[k]? ≠ some (.cells c 75 fz)) → w'.heap[k]? = w.heap[k]?
theorem Kept.of {B ga rl : Nat} {w w' : World} (hB : B ≤ w.heap.size) (h : Below w.heap.size w w') : Kept B ga rl w w' := ⟨h.mono hB, fun k hk _ _ _ _ => h.block k hk⟩
theorem Kept.trans {B ga rl : Nat} {a b c : World} (h : Kept B ga rl a b) (h' : Kept B ga rl b c) : Kept B ga rl a c :=
  ⟨h.below.trans h'.below, fun k hk h1 h2 h3 h4 => by
    have e := h.spare k hk h1 h2 h3 h4
    exact (h'.spare k (Nat.lt_of_lt_of_le hk h.below.size) h1 h2 (by rw [e]; exact h3) (by rw [e]; exact h4)).trans e⟩
theorem Kept.turned {B ga rl g : Nat} {w w' : World} (h : Turned g w w') (hg : g = ga ∨ g = rl) (hB : B ≤ g) (hB' : B ≤ w.heap.size) : Kept B ga rl w w' :=
  ⟨h.below hB hB', fun k hk h1 h2 _ _ => h.block k hk (by rcases hg with rfl | rfl <;> assumption)⟩

/-- what a call on the assembly comes to -/
def AsmMakes (es : Array MapEntry) (B ga rn rl : Nat) (line : Int) (x : Except Int PSt) (w : World) (e : Ending) (w' : World) : Prop :=
  Kept B ga rl w w' ∧ match x with
  | .error n => e = gives n ∧ w'.cell? ⟨ga, 4, none⟩ = some (.int .i64 line)
  | .ok st' => e = .returned (.tuple #[]) ∧ ∃ vw vo, AsmAt es w' B ga rn rl vw vo st' line

/-- what is asked of addWord -/
def AddWordOk (es : Array MapEntry) : Prop :=
  ∀ (s : Stm) (B ga rn rl : Nat) (vw vo : Value) (st : PSt) (line : Nat) (w : World), AsmAt es w B ga rn rl vw vo st line → st.words.length ≤ 64 → st.opens.length ≤ st.words.length → FdOk s.f → Ifc s.shape →
    Calls Tryz.prog 31 #[.pointer (some ⟨ga, 0, none⟩), .agg s.cells] w fun e w' => AsmMakes es B ga rn rl line (if st.words.length = 64 then .error 6 else .ok (wordAdd s line st)) w e w'

theorem AsmAt.line {es : Array MapEntry} {w : World} {B ga rn rl : Nat} {vw vo : Value} {st : PSt} {line : Int} (h : AsmAt es w B ga rn rl vw vo st line) : w.cell? ⟨ga, 4, none⟩ = some (.int .i64 line) := cell_row h.blk 4 _ rfl
theorem AsmAt.base {es : Array MapEntry} {w : World} {B ga rn rl : Nat} {vw vo : Value} {st : PSt} {line : Int} (h : AsmAt es w B ga rn rl vw vo st line) : B ≤ w.heap.size := by
  have := (Array.getElem?_eq_some_iff.1 h.blk).1
  have := h.lo.1
  omega

set_option maxHeartbeats 4000000 in
set_option maxRecDepth 100000 in
theorem addStatement_nn (es : Array MapEntry) (AW : AddWordOk es) (has : Bool) (wd n : Int) (f : Fd) (gl : List UInt8) (B ga rn rl : Nat) (vw vo : Value) (st : PSt) (line : Nat) (w : World) (h : AsmAt es w B ga rn rl vw vo st line) (hw : st.words.length ≤ 64) (hfew : st.opens.length ≤ st.words.length) (hf : FdOk f) :
    Calls Tryz.prog 18 #[.pointer (some ⟨ga, 0, none⟩), .agg #[S [], .bool has, .int .u32 wd, .nilIface, .int .i64 n, .int .i64 f.lo, .int .i64 f.wi, .int .i64 f.least, .int .i64 f.most, S gl]] w fun e w' => AsmMakes es B ga rn rl line (if f.least ≤ n ∧ n ≤ f.most then (if has then (if st.words.length = 64 then .error 6 else .ok (wordAdd { label := [], has := has, word := wd, shape := .nilIface, number := n, f := f, goal := gl } line st)) else .ok st) else .error 4) w e w' := by
  have hB := h.base
  have HH := hide h
  have hrl := h.lo.2
  have hbox : ∀ o, AsmAt es (w.alloc o) B ga rn rl vw vo st line := fun o => h.keep ((Below.refl _ _).alloc (Nat.le_refl _) _)
  obtain ⟨tv, HTV⟩ : ∃ tv, decide (f.least ≤ n ∧ n ≤ f.most) = tv := ⟨_, rfl⟩
  have HTK : Hid (∀ wc, Calls Tryz.prog 30 #[.agg #[.int .i64 f.lo, .int .i64 f.wi, .int .i64 f.least, .int .i64 f.most], .int .i64 n] wc fun e w' => e = .returned (.bool tv) ∧ w' = wc.alloc (.cells #[.int .i64 f.lo, .int .i64 f.wi, .int .i64 f.least, .int .i64 f.most] 70)) := fun wc => by
    have := takes_calls f.lo f.wi f.least f.most n wc
    rw [HTV] at this
    exact this
  clear h hbox hrl
  cases tv
  · rw [if_neg (by simpa using HTV)]
    go_enter Tryz.func18, Tryz.ntmps18
    go_wp2_with (first | (go_at_call 30; refine (unhide HTK _).mono ?_; rintro e w2 ⟨rfl, rfl⟩))
    exact ⟨rfl, (Kept.of hB (((Below.refl _ _).alloc (Nat.le_refl _) _).alloc (by simp) _)), rfl, ((unhide HH).keep (((Below.refl _ _).alloc (Nat.le_refl _) _).alloc (by simp) _)).line⟩
  · rw [if_pos (by simpa using HTV)]
    cases has
    · go_enter Tryz.func18, Tryz.ntmps18
      go_wp2_with (first | (go_at_call 30; refine (unhide HTK _).mono ?_; rintro e w2 ⟨rfl, rfl⟩))
      go_end0
      exact ⟨(Kept.of hB (((Below.refl _ _).alloc (Nat.le_refl _) _).alloc (by simp) _)), rfl, vw, vo, ((unhide HH).keep (((Below.refl _ _).alloc (Nat.le_refl _) _).alloc (by simp) _))⟩
    · have HA := hide (fun wc h => AW { label := [], has := true, word := wd, shape := .nilIface, number := n, f := f, goal := gl } B ga rn rl vw vo st line wc h hw hfew hf (.inl rfl))
      by_cases h64 : st.words.length = 64
      · have HA1 : Hid (∀ wc, AsmAt es wc B ga rn rl vw vo st line → Calls Tryz.prog 31 #[.pointer (some ⟨ga, 0, none⟩), .agg #[S [], .bool true, .int .u32 wd, .nilIface, .int .i64 n, .int .i64 f.lo, .int .i64 f.wi, .int .i64 f.least, .int .i64 f.most, S gl]] wc fun e w' => e = gives 6 ∧ Kept B ga rl wc w' ∧ w'.cell? ⟨ga, 4, none⟩ = some (.int .i64 line)) := fun wc h => by
          have := unhide HA wc h
          rw [if_pos h64] at this
          exact this.mono fun e w' h => ⟨h.2.1, h.1, h.2.2⟩
        rw [if_pos rfl, if_pos h64]
        have H64 := hide h64
        clear h64 HA
        go_enter Tryz.func18, Tryz.ntmps18
        go_wp2_with (first | (go_at_call 30; refine (unhide HTK _).mono ?_; rintro e w2 ⟨rfl, rfl⟩) | (go_at_call 31; refine (unhide HA1 _ ((unhide HH).keep (((Below.refl _ _).alloc (Nat.le_refl _) _).alloc (by simp) _))).mono ?_; rintro e w3 ⟨rfl, hk3, hl3⟩))
        exact ⟨rfl, (Kept.of hB (((Below.refl _ _).alloc (Nat.le_refl _) _).alloc (by simp) _)).trans hk3, rfl, hl3⟩
      · have HA1 : Hid (∀ wc, AsmAt es wc B ga rn rl vw vo st line → Calls Tryz.prog 31 #[.pointer (some ⟨ga, 0, none⟩), .agg #[S [], .bool true, .int .u32 wd, .nilIface, .int .i64 n, .int .i64 f.lo, .int .i64 f.wi, .int .i64 f.least, .int .i64 f.most, S gl]] wc fun e w' => e = .returned (.tuple #[]) ∧ Kept B ga rl wc w' ∧ ∃ vw vo, AsmAt es w' B ga rn rl vw vo (wordAdd { label := [], has := true, word := wd, shape := .nilIface, number := n, f := f, goal := gl } line st) line) := fun wc h => by
          have := unhide HA wc h
          rw [if_neg h64] at this
          exact this.mono fun e w' h => ⟨h.2.1, h.1, h.2.2⟩
        rw [if_pos rfl, if_neg h64]
        have H64 := hide h64
        clear h64 HA
        go_enter Tryz.func18, Tryz.ntmps18
        go_wp2_with (first | (go_at_call 30; refine (unhide HTK _).mono ?_; rintro e w2 ⟨rfl, rfl⟩) | (go_at_call 31; refine (unhide HA1 _ ((unhide HH).keep (((Below.refl _ _).alloc (Nat.le_refl _) _).alloc (by simp) _))).mono ?_; rintro e w3 ⟨rfl, hk3, hl3⟩))
        go_end0
        exact ⟨(Kept.of hB (((Below.refl _ _).alloc (Nat.le_refl _) _).alloc (by simp) _)).trans hk3, rfl, hl3⟩
set_option maxHeartbeats 4000000 in
set_option maxRecDepth 100000 in
theorem addStatement_ni (es : Array MapEntry) (AW : AddWordOk es) (t : TypeId) (x : Value) (has : Bool) (wd n : Int) (f : Fd) (gl : List UInt8) (B ga rn rl : Nat) (vw vo : Value) (st : PSt) (line : Nat) (w : World) (h : AsmAt es w B ga rn rl vw vo st line) (hw : st.words.length ≤ 64) (hfew : st.opens.length ≤ st.words.length) (hf : FdOk f) :
    Calls Tryz.prog 18 #[.pointer (some ⟨ga, 0, none⟩), .agg #[S [], .bool has, .int .u32 wd, .iface t x, .int .i64 n, .int .i64 f.lo, .int .i64 f.wi, .int .i64 f.least, .int .i64 f.most, S gl]] w fun e w' => AsmMakes es B ga rn rl line (if f.least ≤ n ∧ n ≤ f.most then (if has then (if st.words.length = 64 then .error 6 else .ok (wordAdd { label := [], has := has, word := wd, shape := (.iface t x), number := n, f := f, goal := gl } line st)) else .ok st) else .error 4) w e w' := by
  have hB := h.base
  have HH := hide h
  have hrl := h.lo.2
  have hbox : ∀ o, AsmAt es (w.alloc o) B ga rn rl vw vo st line := fun o => h.keep ((Below.refl _ _).alloc (Nat.le_refl _) _)
  obtain ⟨tv, HTV⟩ : ∃ tv, decide (f.least ≤ n ∧ n ≤ f.most) = tv := ⟨_, rfl⟩
  have HTK : Hid (∀ wc, Calls Tryz.prog 30 #[.agg #[.int .i64 f.lo, .int .i64 f.wi, .int .i64 f.least, .int .i64 f.most], .int .i64 n] wc fun e w' => e = .returned (.bool tv) ∧ w' = wc.alloc (.cells #[.int .i64 f.lo, .int .i64 f.wi, .int .i64 f.least, .int .i64 f.most] 70)) := fun wc => by
    have := takes_calls f.lo f.wi f.least f.most n wc
    rw [HTV] at this
    exact this
  clear h hbox hrl
  cases tv
  · rw [if_neg (by simpa using HTV)]
    go_enter Tryz.func18, Tryz.ntmps18
    go_wp2_with (first | (go_at_call 30; refine (unhide HTK _).mono ?_; rintro e w2 ⟨rfl, rfl⟩))
    exact ⟨rfl, (Kept.of hB (((Below.refl _ _).alloc (Nat.le_refl _) _).alloc (by simp) _)), rfl, ((unhide HH).keep (((Below.refl _ _).alloc (Nat.le_refl _) _).alloc (by simp) _)).line⟩
  · rw [if_pos (by simpa using HTV)]
    cases has
    · go_enter Tryz.func18, Tryz.ntmps18
      go_wp2_with (first | (go_at_call 30; refine (unhide HTK _).mono ?_; rintro e w2 ⟨rfl, rfl⟩))
      go_end0
      exact ⟨(Kept.of hB (((Below.refl _ _).alloc (Nat.le_refl _) _).alloc (by simp) _)), rfl, vw, vo, ((unhide HH).keep (((Below.refl _ _).alloc (Nat.le_refl _) _).alloc (by simp) _))⟩
    · have HA := hide (fun wc h => AW { label := [], has := true, word := wd, shape := (.iface t x), number := n, f := f, goal := gl } B ga rn rl vw vo st line wc h hw hfew hf (.inr ⟨_, _, rfl⟩))
      by_cases h64 : st.words.length = 64
      · have HA1 : Hid (∀ wc, AsmAt es wc B ga rn rl vw vo st line → Calls Tryz.prog 31 #[.pointer (some ⟨ga, 0, none⟩), .agg #[S [], .bool true, .int .u32 wd, .iface t x, .int .i64 n, .int .i64 f.lo, .int .i64 f.wi, .int .i64 f.least, .int .i64 f.most, S gl]] wc fun e w' => e = gives 6 ∧ Kept B ga rl wc w' ∧ w'.cell? ⟨ga, 4, none⟩ = some (.int .i64 line)) := fun wc h => by
          have := unhide HA wc h
          rw [if_pos h64] at this
          exact this.mono fun e w' h => ⟨h.2.1, h.1, h.2.2⟩
        rw [if_pos rfl, if_pos h64]
        have H64 := hide h64
        clear h64 HA
        go_enter Tryz.func18, Tryz.ntmps18
        go_wp2_with (first | (go_at_call 30; refine (unhide HTK _).mono ?_; rintro e w2 ⟨rfl, rfl⟩) | (go_at_call 31; refine (unhide HA1 _ ((unhide HH).keep (((Below.refl _ _).alloc (Nat.le_refl _) _).alloc (by simp) _))).mono ?_; rintro e w3 ⟨rfl, hk3, hl3⟩))
        exact ⟨rfl, (Kept.of hB (((Below.refl _ _).alloc (Nat.le_refl _) _).alloc (by simp) _)).trans hk3, rfl, hl3⟩
      · have HA1 : Hid (∀ wc, AsmAt es wc B ga rn rl vw vo st line → Calls Tryz.prog 31 #[.pointer (some ⟨ga, 0, none⟩), .agg #[S [], .bool true, .int .u32 wd, .iface t x, .int .i64 n, .int .i64 f.lo, .int .i64 f.wi, .int .i64 f.least, .int .i64 f.most, S gl]] wc fun e w' => e = .returned (.tuple #[]) ∧ Kept B ga rl wc w' ∧ ∃ vw vo, AsmAt es w' B ga rn rl vw vo (wordAdd { label := [], has := true, word := wd, shape := (.iface t x), number := n, f := f, goal := gl } line st) line) := fun wc h => by
          have := unhide HA wc h
          rw [if_neg h64] at this
          exact this.mono fun e w' h => ⟨h.2.1, h.1, h.2.2⟩
        rw [if_pos rfl, if_neg h64]
        have H64 := hide h64
        clear h64 HA
        go_enter Tryz.func18, Tryz.ntmps18
        go_wp2_with (first | (go_at_call 30; refine (unhide HTK _).mono ?_; rintro e w2 ⟨rfl, rfl⟩) | (go_at_call 31; refine (unhide HA1 _ ((unhide HH).keep (((Below.refl _ _).alloc (Nat.le_refl _) _).alloc (by simp) _))).mono ?_; rintro e w3 ⟨rfl, hk3, hl3⟩))
        go_end0
        exact ⟨(Kept.of hB (((Below.refl _ _).alloc (Nat.le_refl _) _).alloc (by simp) _)).trans hk3, rfl, hl3⟩
set_option maxHeartbeats 4000000 in
set_option maxRecDepth 100000 in
theorem addStatement_ln (es : Array MapEntry) (AW : AddWordOk es) (lb : List UInt8) (has : Bool) (wd n : Int) (f : Fd) (gl : List UInt8) (B ga rn rl : Nat) (vw vo : Value) (st : PSt) (line : Nat) (w : World) (h : AsmAt es w B ga rn rl vw vo st line) (hw : st.words.length ≤ 64) (hfew : st.opens.length ≤ st.words.length) (hf : FdOk f) (hle : lb.isEmpty = false) (hnew : placeOf st.labels lb = none) :
    Calls Tryz.prog 18 #[.pointer (some ⟨ga, 0, none⟩), .agg #[S lb, .bool has, .int .u32 wd, .nilIface, .int .i64 n, .int .i64 f.lo, .int .i64 f.wi, .int .i64 f.least, .int .i64 f.most, S gl]] w fun e w' => AsmMakes es B ga rn rl line (if f.least ≤ n ∧ n ≤ f.most then (if has then (if st.words.length = 64 then .error 6 else .ok (wordAdd { label := lb, has := has, word := wd, shape := .nilIface, number := n, f := f, goal := gl } line { st with labels := st.labels ++ [(lb, 4 * st.words.length)] })) else .ok { st with labels := st.labels ++ [(lb, 4 * st.words.length)] }) else .error 4) w e w' := by
  have hB := h.base
  have HH := hide h
  have hrl := h.lo.2
  have hbox : ∀ o, AsmAt es (w.alloc o) B ga rn rl vw vo st line := fun o => h.keep ((Below.refl _ _).alloc (Nat.le_refl _) _)
  obtain ⟨tv, HTV⟩ : ∃ tv, decide (f.least ≤ n ∧ n ≤ f.most) = tv := ⟨_, rfl⟩
  have HTK : Hid (∀ wc, Calls Tryz.prog 30 #[.agg #[.int .i64 f.lo, .int .i64 f.wi, .int .i64 f.least, .int .i64 f.most], .int .i64 n] wc fun e w' => e = .returned (.bool tv) ∧ w' = wc.alloc (.cells #[.int .i64 f.lo, .int .i64 f.wi, .int .i64 f.least, .int .i64 f.most] 70)) := fun wc => by
    have := takes_calls f.lo f.wi f.least f.most n wc
    rw [HTV] at this
    exact this
  have HL : Hid (∀ o, Calls Tryz.prog 29 #[.pointer (some ⟨ga, 0, none⟩), S lb] (w.alloc o) fun e w' => e = .returned (.tuple #[]) ∧ AsmAt es w' B ga rn rl vw vo { st with labels := st.labels ++ [(lb, 4 * st.words.length)] } line ∧ Turned rl (w.alloc o) w') := fun o =>
    (addLabel_calls es lb B ga rn rl vw vo st line _ (hbox o) hw).mono fun e w' h => h.2 hnew
  have hnew' := hide hnew
  clear h hbox hnew
  cases tv
  · rw [if_neg (by simpa using HTV)]
    go_enter Tryz.func18, Tryz.ntmps18
    go_wp2_with (first | (go_at_call 29; refine (unhide HL _).mono ?_; rintro e w1 ⟨rfl, ha1, ht1⟩; have hbx := (ht1.block w.heap.size (by simp) (by have := (Array.getElem?_eq_some_iff.1 (unhide HH).lab).1; omega)).trans (heap_alloc_new w _); have hlt1 := (Array.getElem?_eq_some_iff.1 hbx).1; have c0 := cell_row hbx 0 _ rfl; have c1 := cell_row hbx 1 _ rfl; have c2 := cell_row hbx 2 _ rfl; have c3 := cell_row hbx 3 _ rfl; have c4 := cell_row hbx 4 _ rfl; have c5 := cell_row hbx 5 _ rfl; have c6 := cell_row hbx 6 _ rfl; have c7 := cell_row hbx 7 _ rfl; have c8 := cell_row hbx 8 _ rfl; have c9 := cell_row hbx 9 _ rfl; have hA1 := ha1; have hK1 : Kept B ga rl w w1 := (Kept.of hB ((Below.refl _ _).alloc (Nat.le_refl _) _)).trans (Kept.turned ht1 (.inr rfl) hrl (by simp; omega))) | (go_at_call 30; refine (unhide HTK _).mono ?_; rintro e w2 ⟨rfl, rfl⟩))
    exact ⟨rfl, (hK1.trans (Kept.of hA1.base ((Below.refl _ _).alloc (Nat.le_refl _) _))), rfl, (hA1.keep ((Below.refl _ _).alloc (Nat.le_refl _) _)).line⟩
  · rw [if_pos (by simpa using HTV)]
    cases has
    · go_enter Tryz.func18, Tryz.ntmps18
      go_wp2_with (first | (go_at_call 29; refine (unhide HL _).mono ?_; rintro e w1 ⟨rfl, ha1, ht1⟩; have hbx := (ht1.block w.heap.size (by simp) (by have := (Array.getElem?_eq_some_iff.1 (unhide HH).lab).1; omega)).trans (heap_alloc_new w _); have hlt1 := (Array.getElem?_eq_some_iff.1 hbx).1; have c0 := cell_row hbx 0 _ rfl; have c1 := cell_row hbx 1 _ rfl; have c2 := cell_row hbx 2 _ rfl; have c3 := cell_row hbx 3 _ rfl; have c4 := cell_row hbx 4 _ rfl; have c5 := cell_row hbx 5 _ rfl; have c6 := cell_row hbx 6 _ rfl; have c7 := cell_row hbx 7 _ rfl; have c8 := cell_row hbx 8 _ rfl; have c9 := cell_row hbx 9 _ rfl; have hA1 := ha1; have hK1 : Kept B ga rl w w1 := (Kept.of hB ((Below.refl _ _).alloc (Nat.le_refl _) _)).trans (Kept.turned ht1 (.inr rfl) hrl (by simp; omega))) | (go_at_call 30; refine (unhide HTK _).mono ?_; rintro e w2 ⟨rfl, rfl⟩))
      go_end0
      exact ⟨(hK1.trans (Kept.of hA1.base ((Below.refl _ _).alloc (Nat.le_refl _) _))), rfl, vw, vo, (hA1.keep ((Below.refl _ _).alloc (Nat.le_refl _) _))⟩
    · have HA := hide (fun wc h => AW { label := lb, has := true, word := wd, shape := .nilIface, number := n, f := f, goal := gl } B ga rn rl vw vo { st with labels := st.labels ++ [(lb, 4 * st.words.length)] } line wc h hw hfew hf (.inl rfl))
      by_cases h64 : st.words.length = 64
      · have HA1 : Hid (∀ wc, AsmAt es wc B ga rn rl vw vo { st with labels := st.labels ++ [(lb, 4 * st.words.length)] } line → Calls Tryz.prog 31 #[.pointer (some ⟨ga, 0, none⟩), .agg #[S lb, .bool true, .int .u32 wd, .nilIface, .int .i64 n, .int .i64 f.lo, .int .i64 f.wi, .int .i64 f.least, .int .i64 f.most, S gl]] wc fun e w' => e = gives 6 ∧ Kept B ga rl wc w' ∧ w'.cell? ⟨ga, 4, none⟩ = some (.int .i64 line)) := fun wc h => by
          have := unhide HA wc h
          rw [if_pos h64] at this
          exact this.mono fun e w' h => ⟨h.2.1, h.1, h.2.2⟩
        rw [if_pos rfl, if_pos h64]
        have H64 := hide h64
        clear h64 HA
        go_enter Tryz.func18, Tryz.ntmps18
        go_wp2_with (first | (go_at_call 29; refine (unhide HL _).mono ?_; rintro e w1 ⟨rfl, ha1, ht1⟩; have hbx := (ht1.block w.heap.size (by simp) (by have := (Array.getElem?_eq_some_iff.1 (unhide HH).lab).1; omega)).trans (heap_alloc_new w _); have hlt1 := (Array.getElem?_eq_some_iff.1 hbx).1; have c0 := cell_row hbx 0 _ rfl; have c1 := cell_row hbx 1 _ rfl; have c2 := cell_row hbx 2 _ rfl; have c3 := cell_row hbx 3 _ rfl; have c4 := cell_row hbx 4 _ rfl; have c5 := cell_row hbx 5 _ rfl; have c6 := cell_row hbx 6 _ rfl; have c7 := cell_row hbx 7 _ rfl; have c8 := cell_row hbx 8 _ rfl; have c9 := cell_row hbx 9 _ rfl; have hA1 := ha1; have hK1 : Kept B ga rl w w1 := (Kept.of hB ((Below.refl _ _).alloc (Nat.le_refl _) _)).trans (Kept.turned ht1 (.inr rfl) hrl (by simp; omega))) | (go_at_call 30; refine (unhide HTK _).mono ?_; rintro e w2 ⟨rfl, rfl⟩) | (go_at_call 31; refine (unhide HA1 _ (hA1.keep ((Below.refl _ _).alloc (Nat.le_refl _) _))).mono ?_; rintro e w3 ⟨rfl, hk3, hl3⟩))
        exact ⟨rfl, (hK1.trans (Kept.of hA1.base ((Below.refl _ _).alloc (Nat.le_refl _) _))).trans hk3, rfl, hl3⟩
      · have HA1 : Hid (∀ wc, AsmAt es wc B ga rn rl vw vo { st with labels := st.labels ++ [(lb, 4 * st.words.length)] } line → Calls Tryz.prog 31 #[.pointer (some ⟨ga, 0, none⟩), .agg #[S lb, .bool true, .int .u32 wd, .nilIface, .int .i64 n, .int .i64 f.lo, .int .i64 f.wi, .int .i64 f.least, .int .i64 f.most, S gl]] wc fun e w' => e = .returned (.tuple #[]) ∧ Kept B ga rl wc w' ∧ ∃ vw vo, AsmAt es w' B ga rn rl vw vo (wordAdd { label := lb, has := true, word := wd, shape := .nilIface, number := n, f := f, goal := gl } line { st with labels := st.labels ++ [(lb, 4 * st.words.length)] }) line) := fun wc h => by
          have := unhide HA wc h
          rw [if_neg h64] at this
          exact this.mono fun e w' h => ⟨h.2.1, h.1, h.2.2⟩
        rw [if_pos rfl, if_neg h64]
        have H64 := hide h64
        clear h64 HA
        go_enter Tryz.func18, Tryz.ntmps18
        go_wp2_with (first | (go_at_call 29; refine (unhide HL _).mono ?_; rintro e w1 ⟨rfl, ha1, ht1⟩; have hbx := (ht1.block w.heap.size (by simp) (by have := (Array.getElem?_eq_some_iff.1 (unhide HH).lab).1; omega)).trans (heap_alloc_new w _); have hlt1 := (Array.getElem?_eq_some_iff.1 hbx).1; have c0 := cell_row hbx 0 _ rfl; have c1 := cell_row hbx 1 _ rfl; have c2 := cell_row hbx 2 _ rfl; have c3 := cell_row hbx 3 _ rfl; have c4 := cell_row hbx 4 _ rfl; have c5 := cell_row hbx 5 _ rfl; have c6 := cell_row hbx 6 _ rfl; have c7 := cell_row hbx 7 _ rfl; have c8 := cell_row hbx 8 _ rfl; have c9 := cell_row hbx 9 _ rfl; have hA1 := ha1; have hK1 : Kept B ga rl w w1 := (Kept.of hB ((Below.refl _ _).alloc (Nat.le_refl _) _)).trans (Kept.turned ht1 (.inr rfl) hrl (by simp; omega))) | (go_at_call 30; refine (unhide HTK _).mono ?_; rintro e w2 ⟨rfl, rfl⟩) | (go_at_call 31; refine (unhide HA1 _ (hA1.keep ((Below.refl _ _).alloc (Nat.le_refl _) _))).mono ?_; rintro e w3 ⟨rfl, hk3, hl3⟩))
        go_end0
        exact ⟨(hK1.trans (Kept.of hA1.base ((Below.refl _ _).alloc (Nat.le_refl _) _))).trans hk3, rfl, hl3⟩
set_option maxHeartbeats 4000000 in
set_option maxRecDepth 100000 in
theorem addStatement_li (es : Array MapEntry) (AW : AddWordOk es) (lb : List UInt8) (t : TypeId) (x : Value) (has : Bool) (wd n : Int) (f : Fd) (gl : List UInt8) (B ga rn rl : Nat) (vw vo : Value) (st : PSt) (line : Nat) (w : World) (h : AsmAt es w B ga rn rl vw vo st line) (hw : st.words.length ≤ 64) (hfew : st.opens.length ≤ st.words.length) (hf : FdOk f) (hle : lb.isEmpty = false) (hnew : placeOf st.labels lb = none) :
    Calls Tryz.prog 18 #[.pointer (some ⟨ga, 0, none⟩), .agg #[S lb, .bool has, .int .u32 wd, .iface t x, .int .i64 n, .int .i64 f.lo, .int .i64 f.wi, .int .i64 f.least, .int .i64 f.most, S gl]] w fun e w' => AsmMakes es B ga rn rl line (if f.least ≤ n ∧ n ≤ f.most then (if has then (if st.words.length = 64 then .error 6 else .ok (wordAdd { label := lb, has := has, word := wd, shape := (.iface t x), number := n, f := f, goal := gl } line { st with labels := st.labels ++ [(lb, 4 * st.words.length)] })) else .ok { st with labels := st.labels ++ [(lb, 4 * st.words.length)] }) else .error 4) w e w' := by
  have hB := h.base
  have HH := hide h
  have hrl := h.lo.2
  have hbox : ∀ o, AsmAt es (w.alloc o) B ga rn rl vw vo st line := fun o => h.keep ((Below.refl _ _).alloc (Nat.le_refl _) _)
  obtain ⟨tv, HTV⟩ : ∃ tv, decide (f.least ≤ n ∧ n ≤ f.most) = tv := ⟨_, rfl⟩
  have HTK : Hid (∀ wc, Calls Tryz.prog 30 #[.agg #[.int .i64 f.lo, .int .i64 f.wi, .int .i64 f.least, .int .i64 f.most], .int .i64 n] wc fun e w' => e = .returned (.bool tv) ∧ w' = wc.alloc (.cells #[.int .i64 f.lo, .int .i64 f.wi, .int .i64 f.least, .int .i64 f.most] 70)) := fun wc => by
    have := takes_calls f.lo f.wi f.least f.most n wc
    rw [HTV] at this
    exact this
  have HL : Hid (∀ o, Calls Tryz.prog 29 #[.pointer (some ⟨ga, 0, none⟩), S lb] (w.alloc o) fun e w' => e = .returned (.tuple #[]) ∧ AsmAt es w' B ga rn rl vw vo { st with labels := st.labels ++ [(lb, 4 * st.words.length)] } line ∧ Turned rl (w.alloc o) w') := fun o =>
    (addLabel_calls es lb B ga rn rl vw vo st line _ (hbox o) hw).mono fun e w' h => h.2 hnew
  have hnew' := hide hnew
  clear h hbox hnew
  cases tv
  · rw [if_neg (by simpa using HTV)]
    go_enter Tryz.func18, Tryz.ntmps18
    go_wp2_with (first | (go_at_call 29; refine (unhide HL _).mono ?_; rintro e w1 ⟨rfl, ha1, ht1⟩; have hbx := (ht1.block w.heap.size (by simp) (by have := (Array.getElem?_eq_some_iff.1 (unhide HH).lab).1; omega)).trans (heap_alloc_new w _); have hlt1 := (Array.getElem?_eq_some_iff.1 hbx).1; have c0 := cell_row hbx 0 _ rfl; have c1 := cell_row hbx 1 _ rfl; have c2 := cell_row hbx 2 _ rfl; have c3 := cell_row hbx 3 _ rfl; have c4 := cell_row hbx 4 _ rfl; have c5 := cell_row hbx 5 _ rfl; have c6 := cell_row hbx 6 _ rfl; have c7 := cell_row hbx 7 _ rfl; have c8 := cell_row hbx 8 _ rfl; have c9 := cell_row hbx 9 _ rfl; have hA1 := ha1; have hK1 : Kept B ga rl w w1 := (Kept.of hB ((Below.refl _ _).alloc (Nat.le_refl _) _)).trans (Kept.turned ht1 (.inr rfl) hrl (by simp; omega))) | (go_at_call 30; refine (unhide HTK _).mono ?_; rintro e w2 ⟨rfl, rfl⟩))
    exact ⟨rfl, (hK1.trans (Kept.of hA1.base ((Below.refl _ _).alloc (Nat.le_refl _) _))), rfl, (hA1.keep ((Below.refl _ _).alloc (Nat.le_refl _) _)).line⟩
  · rw [if_pos (by simpa using HTV)]
    cases has
    · go_enter Tryz.func18, Tryz.ntmps18
      go_wp2_with (first | (go_at_call 29; refine (unhide HL _).mono ?_; rintro e w1 ⟨rfl, ha1, ht1⟩; have hbx := (ht1.block w.heap.size (by simp) (by have := (Array.getElem?_eq_some_iff.1 (unhide HH).lab).1; omega)).trans (heap_alloc_new w _); have hlt1 := (Array.getElem?_eq_some_iff.1 hbx).1; have c0 := cell_row hbx 0 _ rfl; have c1 := cell_row hbx 1 _ rfl; have c2 := cell_row hbx 2 _ rfl; have c3 := cell_row hbx 3 _ rfl; have c4 := cell_row hbx 4 _ rfl; have c5 := cell_row hbx 5 _ rfl; have c6 := cell_row hbx 6 _ rfl; have c7 := cell_row hbx 7 _ rfl; have c8 := cell_row hbx 8 _ rfl; have c9 := cell_row hbx 9 _ rfl; have hA1 := ha1; have hK1 : Kept B ga rl w w1 := (Kept.of hB ((Below.refl _ _).alloc (Nat.le_refl _) _)).trans (Kept.turned ht1 (.inr rfl) hrl (by simp; omega))) | (go_at_call 30; refine (unhide HTK _).mono ?_; rintro e w2 ⟨rfl, rfl⟩))
      go_end0
      exact ⟨(hK1.trans (Kept.of hA1.base ((Below.refl _ _).alloc (Nat.le_refl _) _))), rfl, vw, vo, (hA1.keep ((Below.refl _ _).alloc (Nat.le_refl _) _))⟩
    · have HA := hide (fun wc h => AW { label := lb, has := true, word := wd, shape := (.iface t x), number := n, f := f, goal := gl } B ga rn rl vw vo { st with labels := st.labels ++ [(lb, 4 * st.words.length)] } line wc h hw hfew hf (.inr ⟨_, _, rfl⟩))
      by_cases h64 : st.words.length = 64
      · have HA1 : Hid (∀ wc, AsmAt es wc B ga rn rl vw vo { st with labels := st.labels ++ [(lb, 4 * st.words.length)] } line → Calls Tryz.prog 31 #[.pointer (some ⟨ga, 0, none⟩), .agg #[S lb, .bool true, .int .u32 wd, .iface t x, .int .i64 n, .int .i64 f.lo, .int .i64 f.wi, .int .i64 f.least, .int .i64 f.most, S gl]] wc fun e w' => e = gives 6 ∧ Kept B ga rl wc w' ∧ w'.cell? ⟨ga, 4, none⟩ = some (.int .i64 line)) := fun wc h => by
          have := unhide HA wc h
          rw [if_pos h64] at this
          exact this.mono fun e w' h => ⟨h.2.1, h.1, h.2.2⟩
        rw [if_pos rfl, if_pos h64]
        have H64 := hide h64
        clear h64 HA
        go_enter Tryz.func18, Tryz.ntmps18
        go_wp2_with (first | (go_at_call 29; refine (unhide HL _).mono ?_; rintro e w1 ⟨rfl, ha1, ht1⟩; have hbx := (ht1.block w.heap.size (by simp) (by have := (Array.getElem?_eq_some_iff.1 (unhide HH).lab).1; omega)).trans (heap_alloc_new w _); have hlt1 := (Array.getElem?_eq_some_iff.1 hbx).1; have c0 := cell_row hbx 0 _ rfl; have c1 := cell_row hbx 1 _ rfl; have c2 := cell_row hbx 2 _ rfl; have c3 := cell_row hbx 3 _ rfl; have c4 := cell_row hbx 4 _ rfl; have c5 := cell_row hbx 5 _ rfl; have c6 := cell_row hbx 6 _ rfl; have c7 := cell_row hbx 7 _ rfl; have c8 := cell_row hbx 8 _ rfl; have c9 := cell_row hbx 9 _ rfl; have hA1 := ha1; have hK1 : Kept B ga rl w w1 := (Kept.of hB ((Below.refl _ _).alloc (Nat.le_refl _) _)).trans (Kept.turned ht1 (.inr rfl) hrl (by simp; omega))) | (go_at_call 30; refine (unhide HTK _).mono ?_; rintro e w2 ⟨rfl, rfl⟩) | (go_at_call 31; refine (unhide HA1 _ (hA1.keep ((Below.refl _ _).alloc (Nat.le_refl _) _))).mono ?_; rintro e w3 ⟨rfl, hk3, hl3⟩))
        exact ⟨rfl, (hK1.trans (Kept.of hA1.base ((Below.refl _ _).alloc (Nat.le_refl _) _))).trans hk3, rfl, hl3⟩
      · have HA1 : Hid (∀ wc, AsmAt es wc B ga rn rl vw vo { st with labels := st.labels ++ [(lb, 4 * st.words.length)] } line → Calls Tryz.prog 31 #[.pointer (some ⟨ga, 0, none⟩), .agg #[S lb, .bool true, .int .u32 wd, .iface t x, .int .i64 n, .int .i64 f.lo, .int .i64 f.wi, .int .i64 f.least, .int .i64 f.most, S gl]] wc fun e w' => e = .returned (.tuple #[]) ∧ Kept B ga rl wc w' ∧ ∃ vw vo, AsmAt es w' B ga rn rl vw vo (wordAdd { label := lb, has := true, word := wd, shape := (.iface t x), number := n, f := f, goal := gl } line { st with labels := st.labels ++ [(lb, 4 * st.words.length)] }) line) := fun wc h => by
          have := unhide HA wc h
          rw [if_neg h64] at this
          exact this.mono fun e w' h => ⟨h.2.1, h.1, h.2.2⟩
        rw [if_pos rfl, if_neg h64]
        have H64 := hide h64
        clear h64 HA
        go_enter Tryz.func18, Tryz.ntmps18
        go_wp2_with (first | (go_at_call 29; refine (unhide HL _).mono ?_; rintro e w1 ⟨rfl, ha1, ht1⟩; have hbx := (ht1.block w.heap.size (by simp) (by have := (Array.getElem?_eq_some_iff.1 (unhide HH).lab).1; omega)).trans (heap_alloc_new w _); have hlt1 := (Array.getElem?_eq_some_iff.1 hbx).1; have c0 := cell_row hbx 0 _ rfl; have c1 := cell_row hbx 1 _ rfl; have c2 := cell_row hbx 2 _ rfl; have c3 := cell_row hbx 3 _ rfl; have c4 := cell_row hbx 4 _ rfl; have c5 := cell_row hbx 5 _ rfl; have c6 := cell_row hbx 6 _ rfl; have c7 := cell_row hbx 7 _ rfl; have c8 := cell_row hbx 8 _ rfl; have c9 := cell_row hbx 9 _ rfl; have hA1 := ha1; have hK1 : Kept B ga rl w w1 := (Kept.of hB ((Below.refl _ _).alloc (Nat.le_refl _) _)).trans (Kept.turned ht1 (.inr rfl) hrl (by simp; omega))) | (go_at_call 30; refine (unhide HTK _).mono ?_; rintro e w2 ⟨rfl, rfl⟩) | (go_at_call 31; refine (unhide HA1 _ (hA1.keep ((Below.refl _ _).alloc (Nat.le_refl _) _))).mono ?_; rintro e w3 ⟨rfl, hk3, hl3⟩))
        go_end0
        exact ⟨(hK1.trans (Kept.of hA1.base ((Below.refl _ _).alloc (Nat.le_refl _) _))).trans hk3, rfl, hl3⟩
set_option maxHeartbeats 4000000 in
set_option maxRecDepth 100000 in
theorem addStatement_tn (es : Array MapEntry) (lb : List UInt8) (has : Bool) (wd n : Int) (f : Fd) (gl : List UInt8) (B ga rn rl : Nat) (vw vo : Value) (st : PSt) (line : Nat) (w : World) (h : AsmAt es w B ga rn rl vw vo st line) (hw : st.words.length ≤ 64) (hle : lb.isEmpty = false) (hp : (placeOf st.labels lb).isSome = true) :
    Calls Tryz.prog 18 #[.pointer (some ⟨ga, 0, none⟩), .agg #[S lb, .bool has, .int .u32 wd, .nilIface, .int .i64 n, .int .i64 f.lo, .int .i64 f.wi, .int .i64 f.least, .int .i64 f.most, S gl]] w fun e w' => AsmMakes es B ga rn rl line (.error 5) w e w' := by
  have hB := h.base
  have HH := hide h
  have HL : Hid (∀ wc, AsmAt es wc B ga rn rl vw vo st line → Calls Tryz.prog 29 #[.pointer (some ⟨ga, 0, none⟩), S lb] wc fun e w' => e = gives 5 ∧ w' = wc) := fun wc h =>
    (addLabel_calls es lb B ga rn rl vw vo st line wc h hw).mono fun e w' h => h.1 hp
  clear h hp
  go_enter Tryz.func18, Tryz.ntmps18
  go_wp2_with (go_at_call 29; refine (unhide HL _ ((unhide HH).keep ((Below.refl _ _).alloc (Nat.le_refl _) _))).mono ?_; rintro e w1 ⟨rfl, rfl⟩)
  exact ⟨rfl, .of hB ((Below.refl _ _).alloc (Nat.le_refl _) _), rfl, ((unhide HH).keep ((Below.refl _ _).alloc (Nat.le_refl _) _)).line⟩
set_option maxHeartbeats 4000000 in
set_option maxRecDepth 100000 in
theorem addStatement_ti (es : Array MapEntry) (lb : List UInt8) (t : TypeId) (x : Value) (has : Bool) (wd n : Int) (f : Fd) (gl : List UInt8) (B ga rn rl : Nat) (vw vo : Value) (st : PSt) (line : Nat) (w : World) (h : AsmAt es w B ga rn rl vw vo st line) (hw : st.words.length ≤ 64) (hle : lb.isEmpty = false) (hp : (placeOf st.labels lb).isSome = true) :
    Calls Tryz.prog 18 #[.pointer (some ⟨ga, 0, none⟩), .agg #[S lb, .bool has, .int .u32 wd, .iface t x, .int .i64 n, .int .i64 f.lo, .int .i64 f.wi, .int .i64 f.least, .int .i64 f.most, S gl]] w fun e w' => AsmMakes es B ga rn rl line (.error 5) w e w' := by
  have hB := h.base
  have HH := hide h
  have HL : Hid (∀ wc, AsmAt es wc B ga rn rl vw vo st line → Calls Tryz.prog 29 #[.pointer (some ⟨ga, 0, none⟩), S lb] wc fun e w' => e = gives 5 ∧ w' = wc) := fun wc h =>
    (addLabel_calls es lb B ga rn rl vw vo st line wc h hw).mono fun e w' h => h.1 hp
  clear h hp
  go_enter Tryz.func18, Tryz.ntmps18
  go_wp2_with (go_at_call 29; refine (unhide HL _ ((unhide HH).keep ((Below.refl _ _).alloc (Nat.le_refl _) _))).mono ?_; rintro e w1 ⟨rfl, rfl⟩)
  exact ⟨rfl, .of hB ((Below.refl _ _).alloc (Nat.le_refl _) _), rfl, ((unhide HH).keep ((Below.refl _ _).alloc (Nat.le_refl _) _)).line⟩

theorem addStatement_calls (es : Array MapEntry) (AW : AddWordOk es) (s : Stm) (B ga rn rl : Nat) (vw vo : Value) (st : PSt) (line : Nat) (w : World) (h : AsmAt es w B ga rn rl vw vo st line) (hw : st.words.length ≤ 64) (hfew : st.opens.length ≤ st.words.length) (hf : FdOk s.f) (hs : Ifc s.shape) :
    Calls Tryz.prog 18 #[.pointer (some ⟨ga, 0, none⟩), .agg s.cells] w fun e w' => AsmMakes es B ga rn rl line (addP s line st) w e w' := by
  obtain ⟨lb, has, wd, sh, n, f, gl⟩ := s
  dsimp only at hf hs
  by_cases hl : lb = []
  · subst hl
    have e : addP { label := [], has := has, word := wd, shape := sh, number := n, f := f, goal := gl } line st = (if f.least ≤ n ∧ n ≤ f.most then (if has then (if st.words.length = 64 then .error 6 else .ok (wordAdd { label := [], has := has, word := wd, shape := sh, number := n, f := f, goal := gl } line st)) else .ok st) else .error 4) := by
      unfold addP labelP; simp
    rw [e]
    rcases hs with rfl | ⟨t, x, rfl⟩
    · exact addStatement_nn es AW has wd n f gl B ga rn rl vw vo st line w h hw hfew hf
    · exact addStatement_ni es AW t x has wd n f gl B ga rn rl vw vo st line w h hw hfew hf
  · have hle : lb.isEmpty = false := by cases lb with
      | nil => exact absurd rfl hl
      | cons x y => rfl
    cases hp : placeOf st.labels lb with
    | some p =>
      have hps : (placeOf st.labels lb).isSome = true := by rw [hp]; rfl
      have e : addP { label := lb, has := has, word := wd, shape := sh, number := n, f := f, goal := gl } line st = .error 5 := by
        unfold addP; rw [if_pos ⟨hl, hps⟩]
      rw [e]
      rcases hs with rfl | ⟨t, x, rfl⟩
      · exact addStatement_tn es lb has wd n f gl B ga rn rl vw vo st line w h hw hle hps
      · exact addStatement_ti es lb t x has wd n f gl B ga rn rl vw vo st line w h hw hle hps
    | none =>
      have e : addP { label := lb, has := has, word := wd, shape := sh, number := n, f := f, goal := gl } line st = (if f.least ≤ n ∧ n ≤ f.most then (if has then (if st.words.length = 64 then .error 6 else .ok (wordAdd { label := lb, has := has, word := wd, shape := sh, number := n, f := f, goal := gl } line { st with labels := st.labels ++ [(lb, 4 * st.words.length)] })) else .ok { st with labels := st.labels ++ [(lb, 4 * st.words.length)] }) else .error 4) := by
        unfold addP labelP
        dsimp only
        rw [if_neg (fun c => by have := c.2; rw [hp] at this; cases this), if_neg hl]
      rw [e]
      rcases hs with rfl | ⟨t, x, rfl⟩
      · exact addStatement_ln es AW lb has wd n f gl B ga rn rl vw vo st line w h hw hfew hf hle hp
      · exact addStatement_li es AW lb t x has wd n f gl B ga rn rl vw vo st line w h hw hfew hf hle hp
end Go.Proofs.YtnbhpmncppohaaaGreatDoor.Mill
