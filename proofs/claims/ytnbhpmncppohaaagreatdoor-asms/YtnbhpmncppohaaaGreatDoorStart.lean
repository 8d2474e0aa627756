import Derived.Test.YtnbhpmncppohaaaGreatDoorRows
import Derived.Test.YtnbhpmncppohaaaGreatDoorMReg
import Derived.Stop.LaidErr
import Derived.ProofKit
import Derived.MakeChecks
namespace Go.Proofs.YtnbhpmncppohaaaGreatDoor.Mill
open Go.RowKit

/-- what stands in a block of cells -/
theorem cell_at {w : World} {g : Nat} {cs : Array Value} {t : TypeId} (h : w.heap[g]? = some (.cells cs t)) (i : Nat) (v : Value) (hv : cs[i]? = some v) : w.cell? ⟨g, i, none⟩ = some v := by
  rw [cell_of_row _ _ _ cs t (0, 0) h]; exact hv

set_option maxRecDepth 100000 in
theorem start_len {W : World} (hsh : W.ShapedOpen Tryz.prog) : ∃ m, W.cell? ⟨0, 0, none⟩ = some (.int .i64 m) := by
  obtain ⟨cs, hb, hsz, hok⟩ := hsh.1 0 #[.int .i64 0] 3 (of_decide_eq_true (by kernel_rfl)) (by kernel_rfl)
  obtain ⟨ts, hts, _, hall⟩ := hok (by kernel_rfl)
  have e : ts = [3] := Option.some.inj (hts.symm.trans (by kernel_rfl))
  subst e
  obtain ⟨v, hv⟩ : ∃ v, cs[0]? = some v := ⟨_, Array.getElem?_eq_getElem (by rw [hsz]; decide)⟩
  obtain ⟨u, hu, hc⟩ := hall 0 v hv
  simp at hu
  subst hu
  have hc' := hc
  unfold Cell.ok at hc'
  rw [Tryz.underlying3] at hc'
  cases v <;> simp at hc'
  rename_i k n
  obtain ⟨rfl, _⟩ := hc'
  exact ⟨n, cell_at hb 0 _ hv⟩
set_option maxRecDepth 100000 in
theorem start_low {W : World} (hsh : W.ShapedOpen Tryz.prog) : 8 ≤ W.heap.size := by
  obtain ⟨o, _, hb, _⟩ := hsh.2 12 (of_decide_eq_true (by kernel_rfl)) (of_decide_eq_true (by kernel_rfl))
  have := (Array.getElem?_eq_some_iff.1 hb).1
  omega

theorem gSyn : Tryz.prog.globalNamed "strconv.ErrSyntax" = some 3 := by kernel_rfl
theorem gRng : Tryz.prog.globalNamed "strconv.ErrRange" = some 4 := by kernel_rfl
theorem tSyn : (Tryz.prog.globals[3]?).map (·.type) = some 160 := by kernel_rfl
theorem tRng : (Tryz.prog.globals[4]?).map (·.type) = some 160 := by kernel_rfl
/-- a listed variable that reads as an interface value holds one -/
theorem iface_of_trod {H : Type} {enc : TypeId × Value → H} {P : Program} {w : World} {base : Nat} {sp : Nat → Bool} {held : Bool} {fuel : Nat} {t : TypeId} {cs : List Value} {nm : String} {d : DataW H} {p : List MemPlace} {ms : Array (String × TypeId)}
    (ht : P.underlying t = some (.interface ms)) (h : DataW.trod enc P w base sp held fuel t cs = some (.iface nm d, p)) : ∃ te pe, cs = [.iface te pe] := by
  cases fuel with
  | zero => simp [DataW.trod] at h
  | succ n =>
    unfold DataW.trod at h
    rw [ht] at h
    split at h <;> simp_all
theorem start_errs {W : World} (hL : laidMetH Tryz.prog Rows.asmsRow.laid W) :
    (∃ te pe, W.cell? ⟨3, 0, none⟩ = some (.iface te pe)) ∧ ∃ te pe, W.cell? ⟨4, 0, none⟩ = some (.iface te pe) := by
  rw [MakeChecks.laidMetH_plain _ _ _ (by kernel_rfl)] at hL
  have hR : laidMet Tryz.prog [("strconv.ErrRange", Rows.laid_strconv_ErrRange), ("strconv.ErrSyntax", Rows.laid_strconv_ErrSyntax), ("unicode/utf8.first", Rows.laid_unicode_utf8_first)] W := hL.tail.tail.tail.tail
  obtain ⟨ps, ⟨g0, t0, cs0, f0, p0, q0, hg0, ht0, hv0, hd0, ⟨g1, t1, cs1, f1, p1, q1, hg1, ht1, hv1, hd1, _, _⟩, _⟩, _, _⟩ := hR
  obtain rfl := Option.some.inj (gRng.symm.trans hg0)
  obtain rfl := Option.some.inj (gSyn.symm.trans hg1)
  obtain rfl := Option.some.inj (tRng.symm.trans ht0)
  obtain rfl := Option.some.inj (tSyn.symm.trans ht1)
  obtain ⟨a0, b0, e0⟩ := iface_of_trod Tryz.underlying160 hd0
  obtain ⟨a1, b1, e1⟩ := iface_of_trod Tryz.underlying160 hd1
  have k0 := World.var?_cell hg0 hv0 0
  have k1 := World.var?_cell hg1 hv1 0
  rw [← Array.getElem?_toList, e0] at k0
  rw [← Array.getElem?_toList, e1] at k1
  exact ⟨⟨a1, b1, by simpa using k1⟩, ⟨a0, b0, by simpa using k0⟩⟩
/-- WHAT THE ROW's CONDITION GIVES THE WALKS -/
theorem base_of (W : World) (hL : laidMetH Tryz.prog Rows.asmsRow.laid W) (hsh : W.ShapedOpen Tryz.prog) : Base W :=
  ⟨start_len hsh, (start_errs hL).1, (start_errs hL).2, start_low hsh⟩
end Go.Proofs.YtnbhpmncppohaaaGreatDoor.Mill
