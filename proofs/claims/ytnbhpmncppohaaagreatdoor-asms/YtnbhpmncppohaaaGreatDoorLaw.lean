import Derived.Test.YtnbhpmncppohaaaGreatDoorLeaf
import Derived.Deep.LoopGhost
import Derived.Below
import Derived.Test.YtnbhpmncppohaaaGreatDoorRows
import Derived.WalkKit
import Derived.ProofKit
import Derived.LaidMore
import Derived.Deep.DeepHandedRow
import Derived.Deep.DeepWitnessRowRef
import Derived.Deep.DeepLaidRun
import Derived.OpenShut
import Derived.Carry
import Derived.ChangeOld
import Derived.Deep.Slices
import Derived.Deep.Strs
namespace Go.Proofs.YtnbhpmncppohaaaGreatDoor.Mill
open Go.RowKit

/-- milllaw.num: the number itself -/
theorem num_calls (n : Int) (w : World) : Calls Tryz.prog 6 #[.int .i64 n] w fun e w' => e = .returned (.int .i64 n) ∧ w' = w := by
  go_enter Tryz.func6, Tryz.ntmps6
  go_wp2
  all_goals go_ret
  all_goals exact ⟨rfl, rfl⟩

/-- what the walk is told of a script: it is empty, or it leads to a row of steps, three cells each -/
def IsScript (w : World) (a : Option Addr) (len : Nat) : Prop :=
  len = 0 ∨ ∃ b off, a = some ⟨b, off, none⟩ ∧ b < w.heap.size ∧ len ≤ 9223372036854775807 ∧
    ∀ i, i < len → ∃ (k : Int) (s : List UInt8), w.cell? ⟨b, off + i * 3, none⟩ = some (.int .i64 k) ∧ w.cell? ⟨b, off + i * 3 + 2, none⟩ = some (S s) ∧ s.length ≤ 9223372036854775807

set_option maxHeartbeats 2000000 in
set_option maxRecDepth 100000 in
/-- the law's loop, given what the two calls answer -/
theorem law_calls (V : List UInt8 → List UInt8 × Int × Int) (P : World → Prop) (keep : ∀ w w' : World, P w → Below w.heap.size w w' → P w')
    (AP : ∀ t w, P w → Calls Tryz.prog 4 #[S t] w fun e w' => e = .returned (.tuple #[S (V t).1, .int .i64 (V t).2.1, .int .i64 (V t).2.2]) ∧ Below w.heap.size w w')
    (AR : ∀ t w, t.length ≤ 9223372036854775807 → Calls Tryz.prog 5 #[S t] w fun e w' => e = .returned (.tuple #[S (V t).1, .int .i64 (V t).2.1, .int .i64 (V t).2.2]) ∧ Below w.heap.size w w')
    (b off len cap : Nat) (w : World) (hP : P w) (hb : b < w.heap.size) (hl : len ≤ 9223372036854775807)
    (hc : ∀ i, i < len → ∃ (k : Int) (s : List UInt8), w.cell? ⟨b, off + i * 3, none⟩ = some (.int .i64 k) ∧ w.cell? ⟨b, off + i * 3 + 2, none⟩ = some (S s) ∧ s.length ≤ 9223372036854775807) :
    Calls Tryz.prog 3 #[.slice (some ⟨b, off, none⟩) len cap] w fun e w' => e = .returned (.bool true) ∧ Below w.heap.size w w' := by
  have HP := hide hP
  have HC := hide hc
  clear hP hc
  go_enter Tryz.func3, Tryz.ntmps3
  go_wp2_with fail
  go_loopg [3] len (fun g iv wx => ∃ k : Nat, k ≤ len ∧ g = len - k ∧ iv = .int .i64 k ∧ Below w.heap.size w wx ∧ Hid (P wx))
  case atStart => exact ⟨0, by omega, rfl, rfl, Below.refl _ _, unhide HP⟩
  case round =>
    obtain ⟨W0, rfl⟩ : ∃ W0, W0 = wr := ⟨_, rfl⟩
    obtain ⟨k, hk, rfl, rfl, hbw, hPW⟩ := hrel
    by_cases hlt : k < len
    · obtain ⟨kd, s, c0, c2, hs⟩ := unhide HC k hlt
      have d0 : W0.cell? ⟨b, off + k * 3, none⟩ = some (.int .i64 kd) := (hbw.cell (p := ⟨b, off + k * 3, none⟩) hb).trans c0
      have d2 : W0.cell? ⟨b, off + k * 3 + 2, none⟩ = some (S s) := (hbw.cell (p := ⟨b, off + k * 3 + 2, none⟩) hb).trans c2
      clear c0 c2
      have hbW : b < W0.heap.size := Nat.lt_of_lt_of_le hb hbw.size
      by_cases hm : (k : Int) < 1152921504606846976
      · by_cases h1 : kd = 1
        · subst h1
          go_wp2_with (first | (go_at_call 4; refine (AP s _ (unhide hPW)).mono ?_; rintro e w1 ⟨rfl, hb1⟩; have d2' : w1.cell? ⟨b, off + k * 3 + 2, none⟩ = some (S s) := (hb1.cell (p := ⟨b, off + k * 3 + 2, none⟩) hbW).trans d2) | (go_at_call 5; refine (AR s _ hs).mono ?_; rintro e w2 ⟨rfl, hb2⟩) | (go_at_call 6; refine (num_calls _ _).mono ?_; rintro e w3 ⟨rfl, rfl⟩))
          go_roundg (len - (k + 1))
          case measure => omega
          case rel =>
            have hs1 := hb1.size
            have hs2 := hb2.size
            exact ⟨k + 1, by omega, rfl, by go_num, (hbw.trans (hb1.mono hbw.size)).trans (hb2.mono (Nat.le_trans hbw.size hs1)), keep _ _ (keep _ _ (unhide hPW) hb1) hb2⟩
        · have hne : (kd == (1 : Int)) = false := by rw [beq_eq_false_iff_ne]; exact h1
          clear h1
          go_wp2_with fail
          go_roundg (len - (k + 1))
          case measure => omega
          case rel => exact ⟨k + 1, by omega, rfl, by go_num, hbw, hPW⟩
      · go_wp2_with fail
        go_ret
        exact ⟨rfl, hbw⟩
    · go_wp2_with fail
      go_ret
      exact ⟨rfl, hbw⟩

/-- an empty script -/
theorem law_empty (a : Option Addr) (cap : Nat) (w : World) : Calls Tryz.prog 3 #[.slice a 0 cap] w fun e w' => e = .returned (.bool true) ∧ Below w.heap.size w w' := by
  go_enter Tryz.func3, Tryz.ntmps3
  go_wp2_with fail
  go_loopg [3] 0 (fun g iv wx => g = 0 ∧ iv = .int .i64 0 ∧ wx = w)
  case atStart => exact ⟨rfl, rfl, rfl⟩
  case round =>
    obtain ⟨rfl, rfl, rfl⟩ := hrel
    go_wp2_with fail
    go_ret
    exact ⟨rfl, Below.refl _ _⟩

/-- THE LAW, AT EVERY SCRIPT, given what the two calls answer -/
theorem law_all (V : List UInt8 → List UInt8 × Int × Int) (P : World → Prop) (keep : ∀ w w' : World, P w → Below w.heap.size w w' → P w')
    (AP : ∀ t w, P w → Calls Tryz.prog 4 #[S t] w fun e w' => e = .returned (.tuple #[S (V t).1, .int .i64 (V t).2.1, .int .i64 (V t).2.2]) ∧ Below w.heap.size w w')
    (AR : ∀ t w, t.length ≤ 9223372036854775807 → Calls Tryz.prog 5 #[S t] w fun e w' => e = .returned (.tuple #[S (V t).1, .int .i64 (V t).2.1, .int .i64 (V t).2.2]) ∧ Below w.heap.size w w')
    (a : Option Addr) (len cap : Nat) (w : World) (hP : P w) (h : IsScript w a len) :
    Calls Tryz.prog 3 #[.slice a len cap] w fun e w' => e = .returned (.bool true) ∧ Below w.heap.size w w' := by
  rcases h with rfl | ⟨b, off, rfl, hb, hl, hc⟩
  · exact law_empty a cap w
  · exact law_calls V P keep AP AR b off len cap w hP hb hl hc
end Go.Proofs.YtnbhpmncppohaaaGreatDoor.Mill
namespace Go.Proofs.YtnbhpmncppohaaaGreatDoor.Mill
open Go.ChangeShapes Go.WideShapes Go.ChangeAt Go.RowKit

/- THE WITNESS: the heap that the door's own run leaves, Go's own table (pinned, block 1) laid by hand; the script is nil. -/
theorem own : ownKnob Tryz.prog.godebug = none := by kernel_rfl
/-- the cells of a table of numbers -/
def cellsOfTab : DataW Unit → Array Value
  | .agg l => (l.map fun d => match d with
    | .lit (.int k n) => Value.int k n
    | _ => .int .u8 0).toArray
  | _ => #[]
noncomputable def laidWorld (os : Os) : World :=
  { World.doorLaid Tryz.prog 72 os with heap := (World.doorLaid Tryz.prog 72 os).heap.modify 1 fun
      | .cells _ t frozen => .cells (cellsOfTab Rows.laid_unicode_utf8_first) t frozen
      | o => o }
set_option maxRecDepth 100000 in
theorem laid_met (os : Os) : laidMet Tryz.prog Rows.asmsRow.laid ((laidWorld os).forCall (fun _ _ => 0) ⟨#[], #[.slice none 0 0], []⟩).memory :=
  laidMet_of_run3 8 (by kernel_rfl) (by kernel_rfl) (by kernel_rfl)
set_option maxRecDepth 100000 in
theorem reads (os : Os) {H : Type} (enc : TypeId × Value → H) : ∃ places, DataW.whole enc Tryz.prog ((laidWorld os).forCall (fun _ _ => 0) ⟨#[], #[.slice none 0 0], []⟩).memory Tryz.f3.params.toList Rows.asmsSpec.vars false #[Value.slice none 0 0].toList 8 = some ([.nil], [], places) :=
  ⟨[], by kernel_rfl⟩
set_option maxRecDepth 100000 in
/-- there is an input that fits -/
theorem witness (os : Os) (H : Type) (enc : TypeId × Value → H) :
    ∃ (w : World) (tape : Tape) (i : Input), w.os = os ∧ (w.forCall tape i).Shaped Tryz.prog ∧ i.vars = [] ∧ Input.okWide Tryz.prog (w.forCall tape i) .any w.heap.size 3 i ∧
      (OpenSpec.ofChange Rows.asmsSpec).preRow enc Tryz.prog Tryz.f3 Rows.asmsRow.domain false Rows.asmsRow.laid (w.forCall tape i).memory i.args ∧ ({ modest := false } : Assume).holds Tryz.prog (lone (Frame.enter Tryz.prog 3 i.args .normal) [] (w.forCall tape i)) := by
  obtain ⟨places, hx⟩ := reads os enc
  exact witness_row_atRef (enc := enc) (C := Tryz.checked) false (laidWorld os) #[.slice none 0 0] rfl (by kernel_rfl) (by kernel_rfl) (by kernel_rfl)
      (OpenSpec.preRow_of_cond 8 hx (by kernel_rfl) (fun k hk => by cases hk) (by kernel_rfl) (laid_met os))
end Go.Proofs.YtnbhpmncppohaaaGreatDoor.Mill
namespace Go.Proofs.YtnbhpmncppohaaaGreatDoor.Mill
open Go.ChangeShapes Go.WideShapes Go.ChangeAt Go.RowKit Go.Deep

theorem laidOut : laidOutB Tryz.prog = true := by kernel_rfl
theorem cellsOp : Tryz.prog.cellsOf 24 = 3 := by kernel_rfl
theorem cellsInt : Tryz.prog.cellsOf 3 = 1 := by kernel_rfl
theorem cellsStr : Tryz.prog.cellsOf 9 = 1 := by kernel_rfl
theorem maxLen_eq : maxLen = 9223372036854775807 := rfl

/-- a row of three cells, one by one -/
theorem cells3 {w : World} {a : Addr} {cs : List Value} (h : w.cells? 0 a 3 = some cs) : ∃ c0 c1 c2, cs = [c0, c1, c2] ∧ w.cell? (a.add 0) = some c0 ∧ w.cell? (a.add 1) = some c1 ∧ w.cell? (a.add 2) = some c2 := by
  unfold World.cells? at h
  rw [if_pos (Nat.zero_le _)] at h
  simp only [show List.range 3 = [0, 1, 2] from rfl, List.mapM_cons, List.mapM_nil, Option.bind_eq_bind, Option.pure_def, Option.bind_eq_some_iff, Option.some.injEq] at h
  obtain ⟨c0, h0, r0, ⟨c1, h1, r1, ⟨c2, h2, r2, rfl, rfl⟩, rfl⟩, rfl⟩ := h
  exact ⟨c0, c1, c2, rfl, h0, h1, h2⟩

/-- WHAT A SCRIPT's READING GIVES THE WALK -/
theorem open_script {H : Type} {enc : TypeId × Value → H} {W : World} {a : Option Addr} {len cap : Nat} {d : DataW H} {ps : List MemPlace}
    (h : DataW.Trod enc Tryz.prog W 0 (fun _ => true) true 22 (.slice a len cap) d ps) : IsScript W a len := by
  have lt : ∀ x ∈ ps, x.block < W.heap.size := by obtain ⟨m, hm⟩ := h; exact DataW.trod_lt m _ _ _ hm
  obtain ⟨n, h⟩ := h
  rcases open_slice Tryz.underlying22 h with ⟨hcs, _⟩ | ⟨x, l, c, m, k, D, Pl, hcs, _, hl, hm, hmm, hx, hall⟩
  · simp [Value.cells] at hcs
    exact .inl hcs.2.1
  · simp [Value.cells] at hcs
    obtain ⟨rfl, rfl, rfl⟩ := hcs
    simp only [if_true] at hmm
    subst hmm
    by_cases h0 : len = 0
    · exact .inl h0
    simp only [Prod.mk.injEq] at hx
    have hps := hx.2
    rw [cellsOp] at hall hps
    rw [hps] at lt
    clear hx hps h
    have hopen : ∀ i, i < len → ∃ (k : Int) (s : List UInt8), W.cell? (x.add (i * 3)) = some (.int .i64 k) ∧ W.cell? ((x.add (i * 3)).add 2) = some (S s) ∧ s.length ≤ 9223372036854775807 := by
      intro i hi
      obtain ⟨cs, hc, ht⟩ := hall i (by omega)
      obtain ⟨c0, c1, c2, rfl, g0, _, g2⟩ := cells3 hc
      obtain ⟨y0, y1, y2, n', _, _, t0, _, t2⟩ := trod_struct3 Tryz.underlying24 ht
      simp only [cellsInt, cellsStr, List.drop, List.take] at t0 t2
      obtain ⟨k0, e0, _, _⟩ := DataW.trod_int Tryz.underlying3 t0
      obtain ⟨s0, e2, _, hs⟩ := DataW.trod_string Tryz.underlying9 t2
      simp only [List.cons.injEq, and_true] at e0 e2
      subst e0 e2
      refine ⟨k0, s0.data.toList, by simpa [add_add] using g0, by simpa using g2, ?_⟩
      rw [maxLen_eq] at hs
      simpa using hs
    obtain ⟨b, off, spot⟩ := x
    have hspot : spot = none := by
      obtain ⟨_, _, g0, _⟩ := hopen 0 (by omega)
      simpa [Addr.add] using World.cell?_spot g0
    subst hspot
    refine .inr ⟨b, off, rfl, ?_, by rw [maxLen_eq] at hm; omega, fun i hi => ?_⟩
    · exact lt (.cell b (off + 0)) (List.mem_append_left _ (by simp only [MemPlace.row, List.mem_map, List.mem_range]; exact ⟨0, by omega, rfl⟩))
    · obtain ⟨k, s, g0, g2, hs⟩ := hopen i hi
      exact ⟨k, s, by simpa [Addr.add_lit] using g0, by simpa [Addr.add_lit] using g2, hs⟩

set_option maxRecDepth 100000 in
/-- THE ROW's STEP -/
theorem lifted_of (V : List UInt8 → List UInt8 × Int × Int) (P : World → Prop) (keep : ∀ w w' : World, P w → Below w.heap.size w w' → P w')
    (AP : ∀ t w, P w → Calls Tryz.prog 4 #[S t] w fun e w' => e = .returned (.tuple #[S (V t).1, .int .i64 (V t).2.1, .int .i64 (V t).2.2]) ∧ Below w.heap.size w w')
    (AR : ∀ t w, t.length ≤ 9223372036854775807 → Calls Tryz.prog 5 #[S t] w fun e w' => e = .returned (.tuple #[S (V t).1, .int .i64 (V t).2.1, .int .i64 (V t).2.2]) ∧ Below w.heap.size w w')
    (hP : ∀ W : World, laidMetH Tryz.prog Rows.asmsRow.laid W → W.ShapedOpen Tryz.prog → P W)
    (os : Os) (started : os.Started) (H : Type) (enc : TypeId × Value → H) (F : Stop.Interp) :
    ReturnsInHanded {} Tryz.checked os 3 .any ((OpenSpec.ofChange Rows.asmsSpec).preRow enc Tryz.prog Tryz.f3 Rows.asmsRow.domain false Rows.asmsRow.laid) (((OpenSpec.ofChange Rows.asmsSpec).at F).post enc Tryz.prog Tryz.f3 false true false false) := by
  refine returnsInHanded_of_row (C := Tryz.checked) (s := OpenSpec.ofChange Rows.asmsSpec) own started (by kernel_rfl) Tryz.func3 (witness os H enc) ?_
  intro W base args ds gs before hval0 hW _ _ _ hL hsh _
  have hval : ∀ (j : Nat) t v, Tryz.f3.params[j]? = some t → args[j]? = some v → Value.okWide Tryz.prog W .any base t v := hval0
  have hW' := hW
  obtain ⟨p, q, hA0, hV, rfl, hfz, hnd⟩ := hW
  have hA : DataW.TrodAll enc Tryz.prog W 0 (fun _ => true) true Tryz.f3.params.toList args.toList ds p := hA0
  rw [Tryz.params3] at hA hval
  obtain ⟨v0, vs0, d0, ds0, p0, q0, hargs, rfl, rfl, h0, r0⟩ := trodAll_cons hA
  obtain ⟨rfl, rfl, rfl⟩ := trodAll_nil r0
  obtain rfl : args = #[v0] := by cases args; simp_all
  obtain ⟨rfl, rfl⟩ := trodVars_none hV
  obtain ⟨a, len, cap, rfl⟩ := okWide_slice Tryz.underlying22 (hval 0 22 v0 rfl rfl)
  have lt0 : ∀ x ∈ p0, x.block < W.heap.size := by obtain ⟨m, hm⟩ := h0; exact DataW.trod_lt m _ _ _ hm
  clear hA0 hval0
  refine (law_all V P keep AP AR a len cap W (hP W hL hsh) (open_script h0)).mono fun e W' ⟨he, bel⟩ => ?_
  subst he
  exact ⟨_, rfl, _, _, _, [], _, [], hW', trodAll_mk1 (shut_bool Tryz.underlying4 _), trodAll_cons_mk (Below.trod laidOut (by kernel_rfl) (of_decide_eq_true (by kernel_rfl)) h0 bel lt0) trodAll_mk0, rfl, bel.frame _, fun h => by cases h⟩
end Go.Proofs.YtnbhpmncppohaaaGreatDoor.Mill
