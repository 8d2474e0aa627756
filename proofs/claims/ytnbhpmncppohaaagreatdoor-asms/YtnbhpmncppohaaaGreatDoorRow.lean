import Derived.Test.YtnbhpmncppohaaaGreatDoorLaw
import Derived.Test.YtnbhpmncppohaaaGreatDoorWit
import Derived.OpenShut
import Derived.Carry
import Derived.ChangeOld
import Derived.Deep.Slices
import Derived.Deep.Strs
namespace Go.Proofs.YtnbhpmncppohaaaGreatDoor.Mill
open Go.ChangeShapes Go.WideShapes Go.ChangeAt Go.RowKit Go.Deep

theorem laidOut : laidOutB Tryz.prog = true := by kernel_rfl
theorem cellsOp : Tryz.prog.cellsOf 24 = 3 := by kernel_rfl
theorem cellsInt : Tryz.prog.cellsOf 3 = 1 := by kernel_rfl
theorem cellsStr : Tryz.prog.cellsOf 9 = 1 := by kernel_rfl
theorem maxLen_eq : maxLen = 9223372036854775807 := rfl

/-- a row of three cells, one by one -/
theorem cells3 {w : World} {a : Addr} {cs : List Value} (h : w.cells? 0 a 3 = some cs) : ∃ c0 c1 c2, cs = [c0, c1, c2] ∧ w.cell? (a.add 0) = some c0 ∧ w.cell? (a.add 1) = some c1 ∧ w.cell? (a.add 2) = some c2 := by
  unfold World.cells? at h
  rw [if_pos (Nat.zero_le _)] at h
  simp only [show List.range 3 = [0, 1, 2] from rfl, List.mapM_cons, List.mapM_nil, Option.bind_eq_bind, Option.pure_def, Option.bind_eq_some_iff, Option.some.injEq] at h
  obtain ⟨c0, h0, r0, ⟨c1, h1, r1, ⟨c2, h2, r2, rfl, rfl⟩, rfl⟩, rfl⟩ := h
  exact ⟨c0, c1, c2, rfl, h0, h1, h2⟩

/-- WHAT A SCRIPT's READING GIVES THE WALK -/
theorem open_script {H : Type} {enc : TypeId × Value → H} {W : World} {a : Option Addr} {len cap : Nat} {d : DataW H} {ps : List MemPlace}
    (h : DataW.Trod enc Tryz.prog W 0 (fun _ => true) true 22 (.slice a len cap) d ps) : IsScript W a len := by
  have lt : ∀ x ∈ ps, x.block < W.heap.size := by obtain ⟨m, hm⟩ := h; exact DataW.trod_lt m _ _ _ hm
  obtain ⟨n, h⟩ := h
  rcases open_slice Tryz.underlying22 h with ⟨hcs, _⟩ | ⟨x, l, c, m, k, D, Pl, hcs, _, hl, hm, hmm, hx, hall⟩
  · simp [Value.cells] at hcs
    exact .inl hcs.2.1
  · simp [Value.cells] at hcs
    obtain ⟨rfl, rfl, rfl⟩ := hcs
    simp only [if_true] at hmm
    subst hmm
    by_cases h0 : len = 0
    · exact .inl h0
    simp only [Prod.mk.injEq] at hx
    have hps := hx.2
    rw [cellsOp] at hall hps
    rw [hps] at lt
    clear hx hps h
    have hopen : ∀ i, i < len → ∃ (k : Int) (s : List UInt8), W.cell? (x.add (i * 3)) = some (.int .i64 k) ∧ W.cell? ((x.add (i * 3)).add 2) = some (S s) ∧ s.length ≤ 9223372036854775807 := by
      intro i hi
      obtain ⟨cs, hc, ht⟩ := hall i (by omega)
      obtain ⟨c0, c1, c2, rfl, g0, _, g2⟩ := cells3 hc
      obtain ⟨y0, y1, y2, n', _, _, t0, _, t2⟩ := trod_struct3 Tryz.underlying24 ht
      simp only [cellsInt, cellsStr, List.drop, List.take] at t0 t2
      obtain ⟨k0, e0, _, _⟩ := DataW.trod_int Tryz.underlying3 t0
      obtain ⟨s0, e2, _, hs⟩ := DataW.trod_string Tryz.underlying9 t2
      simp only [List.cons.injEq, and_true] at e0 e2
      subst e0 e2
      refine ⟨k0, s0.data.toList, by simpa [add_add] using g0, by simpa using g2, ?_⟩
      rw [maxLen_eq] at hs
      simpa using hs
    obtain ⟨b, off, spot⟩ := x
    have hspot : spot = none := by
      obtain ⟨_, _, g0, _⟩ := hopen 0 (by omega)
      simpa [Addr.add] using World.cell?_spot g0
    subst hspot
    refine .inr ⟨b, off, rfl, ?_, by rw [maxLen_eq] at hm; omega, fun i hi => ?_⟩
    · exact lt (.cell b (off + 0)) (List.mem_append_left _ (by simp only [MemPlace.row, List.mem_map, List.mem_range]; exact ⟨0, by omega, rfl⟩))
    · obtain ⟨k, s, g0, g2, hs⟩ := hopen i hi
      exact ⟨k, s, by simpa [Addr.add_lit] using g0, by simpa [Addr.add_lit] using g2, hs⟩

set_option maxRecDepth 100000 in
/-- THE ROW's STEP -/
theorem lifted_of (V : List UInt8 → List UInt8 × Int × Int) (P : World → Prop) (keep : ∀ w w' : World, P w → Below w.heap.size w w' → P w')
    (AP : ∀ t w, P w → Calls Tryz.prog 4 #[S t] w fun e w' => e = .returned (.tuple #[S (V t).1, .int .i64 (V t).2.1, .int .i64 (V t).2.2]) ∧ Below w.heap.size w w')
    (AR : ∀ t w, t.length ≤ 9223372036854775807 → Calls Tryz.prog 5 #[S t] w fun e w' => e = .returned (.tuple #[S (V t).1, .int .i64 (V t).2.1, .int .i64 (V t).2.2]) ∧ Below w.heap.size w w')
    (hP : ∀ W : World, laidMetH Tryz.prog Rows.asmsRow.laid W → W.ShapedOpen Tryz.prog → P W)
    (os : Os) (started : os.Started) (H : Type) (enc : TypeId × Value → H) (F : Stop.Interp) :
    ReturnsInHanded {} Tryz.checked os 3 .any ((OpenSpec.ofChange Rows.asmsSpec).preRow enc Tryz.prog Tryz.f3 Rows.asmsRow.domain false Rows.asmsRow.laid) (((OpenSpec.ofChange Rows.asmsSpec).at F).post enc Tryz.prog Tryz.f3 false true false false) := by
  refine returnsInHanded_of_row (C := Tryz.checked) (s := OpenSpec.ofChange Rows.asmsSpec) own started (by kernel_rfl) Tryz.func3 (witness os H enc) ?_
  intro W base args ds gs before hval0 hW _ _ _ hL hsh _
  have hval : ∀ (j : Nat) t v, Tryz.f3.params[j]? = some t → args[j]? = some v → Value.okWide Tryz.prog W .any base t v := hval0
  have hW' := hW
  obtain ⟨p, q, hA0, hV, rfl, hfz, hnd⟩ := hW
  have hA : DataW.TrodAll enc Tryz.prog W 0 (fun _ => true) true Tryz.f3.params.toList args.toList ds p := hA0
  rw [Tryz.params3] at hA hval
  obtain ⟨v0, vs0, d0, ds0, p0, q0, hargs, rfl, rfl, h0, r0⟩ := trodAll_cons hA
  obtain ⟨rfl, rfl, rfl⟩ := trodAll_nil r0
  obtain rfl : args = #[v0] := by cases args; simp_all
  obtain ⟨rfl, rfl⟩ := trodVars_none hV
  obtain ⟨a, len, cap, rfl⟩ := okWide_slice Tryz.underlying22 (hval 0 22 v0 rfl rfl)
  have lt0 : ∀ x ∈ p0, x.block < W.heap.size := by obtain ⟨m, hm⟩ := h0; exact DataW.trod_lt m _ _ _ hm
  clear hA0 hval0
  refine (law_all V P keep AP AR a len cap W (hP W hL hsh) (open_script h0)).mono fun e W' ⟨he, bel⟩ => ?_
  subst he
  exact ⟨_, rfl, _, _, _, [], _, [], hW', trodAll_mk1 (shut_bool Tryz.underlying4 _), trodAll_cons_mk (Below.trod laidOut (by kernel_rfl) (of_decide_eq_true (by kernel_rfl)) h0 bel lt0) trodAll_mk0, rfl, bel.frame _, fun h => by cases h⟩
end Go.Proofs.YtnbhpmncppohaaaGreatDoor.Mill
