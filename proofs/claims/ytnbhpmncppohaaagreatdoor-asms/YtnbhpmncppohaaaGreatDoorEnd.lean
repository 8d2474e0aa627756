import Derived.Test.YtnbhpmncppohaaaGreatDoorRows
import Derived.Test.YtnbhpmncppohaaaGreatDoorMReg
import Derived.Stop.LaidErr
import Derived.ProofKit
import Derived.MakeChecks
import Derived.Test.YtnbhpmncppohaaaGreatDoorMWord2
import Derived.Test.YtnbhpmncppohaaaGreatDoorCards
import Derived.Test.YtnbhpmncppohaaaGreatDoorTie
import Derived.Test.YtnbhpmncppohaaaGreatDoorLaw
import Derived.Test.YtnbhpmncppohaaaGreatDoorAsm
import Derived.OpenShut
namespace Go.Proofs.YtnbhpmncppohaaaGreatDoor.Mill
open Go.RowKit

/-- what stands in a block of cells -/
theorem cell_at {w : World} {g : Nat} {cs : Array Value} {t : TypeId} (h : w.heap[g]? = some (.cells cs t)) (i : Nat) (v : Value) (hv : cs[i]? = some v) : w.cell? ⟨g, i, none⟩ = some v := by
  rw [cell_of_row _ _ _ cs t (0, 0) h]; exact hv

set_option maxRecDepth 100000 in
theorem start_len {W : World} (hsh : W.ShapedOpen Tryz.prog) : ∃ m, W.cell? ⟨0, 0, none⟩ = some (.int .i64 m) := by
  obtain ⟨cs, hb, hsz, hok⟩ := hsh.1 0 #[.int .i64 0] 3 (of_decide_eq_true (by kernel_rfl)) (by kernel_rfl)
  obtain ⟨ts, hts, _, hall⟩ := hok (by kernel_rfl)
  have e : ts = [3] := Option.some.inj (hts.symm.trans (by kernel_rfl))
  subst e
  obtain ⟨v, hv⟩ : ∃ v, cs[0]? = some v := ⟨_, Array.getElem?_eq_getElem (by rw [hsz]; decide)⟩
  obtain ⟨u, hu, hc⟩ := hall 0 v hv
  simp at hu
  subst hu
  have hc' := hc
  unfold Cell.ok at hc'
  rw [Tryz.underlying3] at hc'
  cases v <;> simp at hc'
  rename_i k n
  obtain ⟨rfl, _⟩ := hc'
  exact ⟨n, cell_at hb 0 _ hv⟩
set_option maxRecDepth 100000 in
theorem start_low {W : World} (hsh : W.ShapedOpen Tryz.prog) : 8 ≤ W.heap.size := by
  obtain ⟨o, _, hb, _⟩ := hsh.2 12 (of_decide_eq_true (by kernel_rfl)) (of_decide_eq_true (by kernel_rfl))
  have := (Array.getElem?_eq_some_iff.1 hb).1
  omega

theorem gSyn : Tryz.prog.globalNamed "strconv.ErrSyntax" = some 3 := by kernel_rfl
theorem gRng : Tryz.prog.globalNamed "strconv.ErrRange" = some 4 := by kernel_rfl
theorem tSyn : (Tryz.prog.globals[3]?).map (·.type) = some 160 := by kernel_rfl
theorem tRng : (Tryz.prog.globals[4]?).map (·.type) = some 160 := by kernel_rfl
/-- a listed variable that reads as an interface value holds one -/
theorem iface_of_trod {H : Type} {enc : TypeId × Value → H} {P : Program} {w : World} {base : Nat} {sp : Nat → Bool} {held : Bool} {fuel : Nat} {t : TypeId} {cs : List Value} {nm : String} {d : DataW H} {p : List MemPlace} {ms : Array (String × TypeId)}
    (ht : P.underlying t = some (.interface ms)) (h : DataW.trod enc P w base sp held fuel t cs = some (.iface nm d, p)) : ∃ te pe, cs = [.iface te pe] := by
  cases fuel with
  | zero => simp [DataW.trod] at h
  | succ n =>
    unfold DataW.trod at h
    rw [ht] at h
    split at h <;> simp_all
theorem start_errs {W : World} (hL : laidMetH Tryz.prog Rows.asmsRow.laid W) :
    (∃ te pe, W.cell? ⟨3, 0, none⟩ = some (.iface te pe)) ∧ ∃ te pe, W.cell? ⟨4, 0, none⟩ = some (.iface te pe) := by
  rw [MakeChecks.laidMetH_plain _ _ _ (by kernel_rfl)] at hL
  have hR : laidMet Tryz.prog [("strconv.ErrRange", Rows.laid_strconv_ErrRange), ("strconv.ErrSyntax", Rows.laid_strconv_ErrSyntax), ("unicode/utf8.first", Rows.laid_unicode_utf8_first)] W := hL.tail.tail.tail.tail
  obtain ⟨ps, ⟨g0, t0, cs0, f0, p0, q0, hg0, ht0, hv0, hd0, ⟨g1, t1, cs1, f1, p1, q1, hg1, ht1, hv1, hd1, _, _⟩, _⟩, _, _⟩ := hR
  obtain rfl := Option.some.inj (gRng.symm.trans hg0)
  obtain rfl := Option.some.inj (gSyn.symm.trans hg1)
  obtain rfl := Option.some.inj (tRng.symm.trans ht0)
  obtain rfl := Option.some.inj (tSyn.symm.trans ht1)
  obtain ⟨a0, b0, e0⟩ := iface_of_trod Tryz.underlying160 hd0
  obtain ⟨a1, b1, e1⟩ := iface_of_trod Tryz.underlying160 hd1
  have k0 := World.var?_cell hg0 hv0 0
  have k1 := World.var?_cell hg1 hv1 0
  rw [← Array.getElem?_toList, e0] at k0
  rw [← Array.getElem?_toList, e1] at k1
  exact ⟨⟨a1, b1, by simpa using k1⟩, ⟨a0, b0, by simpa using k0⟩⟩
/-- WHAT THE ROW's CONDITION GIVES THE WALKS -/
theorem base_of (W : World) (hL : laidMetH Tryz.prog Rows.asmsRow.laid W) (hsh : W.ShapedOpen Tryz.prog) : Base W :=
  ⟨start_len hsh, (start_errs hL).1, (start_errs hL).2, start_low hsh⟩
end Go.Proofs.YtnbhpmncppohaaaGreatDoor.Mill
namespace Go.Proofs.YtnbhpmncppohaaaGreatDoor.Mill
open Go.RowKit

theorem nameOf_le (u : List UInt8) : (nameOf u).length ≤ u.length := by unfold nameOf; exact (List.takeWhile_sublist _).length_le
theorem behind_le (u : List UInt8) : (behind u).length ≤ u.length := by
  unfold behind
  have h1 := trim_le (u.dropWhile (fun c => !blankB c))
  have h2 := (List.dropWhile_sublist (fun c => !blankB c) (l := u)).length_le
  omega
theorem map_kept {w w1 : World} {g r : Nat} {es : Array MapEntry} {c : Array Value} {t : TypeId} (hg : w.heap[g]? = some (.cells c t)) (hr : w.heap[r]? = some (.map es 44)) (hb : Below (w.setCell ⟨g, 1, none⟩ (.bool true)).heap.size (w.setCell ⟨g, 1, none⟩ (.bool true)) w1) : w1.heap[r]? = some (.map es 44) := by
  have hne : r ≠ g := by rintro rfl; rw [hg] at hr; cases hr
  have h1 : (w.setCell ⟨g, 1, none⟩ (.bool true)).heap[r]? = some (.map es 44) := by
    simp [World.setCell, Array.getElem?_modify, Ne.symm hne, hr]
  exact (hb.block r (Array.getElem?_eq_some_iff.1 h1).1).trans h1
theorem ents_find (nam : List UInt8) : (tab.find? (fun y => y.1 == nam) = none ∧ Instr.findNow .string (S nam) (ents 44).toList 0 = some none) ∨ ∃ y j, tab.find? (fun y => y.1 == nam) = some y ∧ Instr.findNow .string (S nam) (ents 44).toList 0 = some (some (j, instV y)) := by
  have h : (ents 44).toList = (tab.zipIdx 0).map ent1 := by rfl
  rw [h]
  exact find_tab nam tab 0 0

set_option maxRecDepth 100000 in
theorem word_calls : WordOk (ents 44) shapeV := by
  intro code st g r w hB hg16 hg hr hc hl
  have HC := fun w => cutName_calls code w (by omega)
  have hrl : (behind code).length ≤ 2000 := Nat.le_trans (behind_le code) hl
  have HT : Tryz.prog.underlying 35 = some (.map 9 92) := by kernel_rfl
  have HK : Tryz.prog.underlying 9 = some .string := by kernel_rfl
  unfold wordP
  by_cases hw : nameOf code = wordN
  · rw [if_pos hw]
    exact readWord_word code st g r w hB hg16 hg _ _ hw HC hrl
  rw [if_neg hw]
  have hn : (nameOf code == [46, 119, 111, 114, 100]) = false := by
    rw [beq_eq_false_iff_ne]; exact hw
  rcases ents_find (nameOf code) with ⟨h1, h2⟩ | ⟨y, j, h1, h2⟩
  · rw [h1]
    exact readWord_none code st g r w hg _ _ hn HC (fun w1 hb1 => look_miss HT HK (map_kept hg hr hb1) _ _ (by kernel_rfl) h2)
  · rw [h1]
    dsimp only
    have ht := tab_shapes y (List.mem_of_find?_eq_some h1)
    have HL := fun w1 hb1 => look_hit HT HK (map_kept (w1 := w1) hg hr hb1) _ j _ h2
    have HBr := fun w => bare_calls y.2.1 ht.1 y.2.2 ht.2.1 ht.2.2 w
    unfold instV at HL
    generalize y.2.2 = num at *
    generalize y.2.1 = sh at *
    have hs := ht.1
    simp only [shapes, List.mem_cons, List.mem_nil_iff, or_false] at hs
    rcases hs with rfl | rfl | rfl | rfl | rfl | rfl | rfl | rfl | rfl | rfl | rfl | rfl | rfl | rfl
    · exact readWord_114 code st g r w hB hg16 hg _ _ hrl hn _ _ HC HL HBr
    · exact readWord_115 code st g r w hB hg16 hg _ _ hrl hn _ _ HC HL HBr
    · exact readWord_118 code st g r w hB hg16 hg _ _ hrl hn _ _ HC HL HBr
    · exact readWord_106 code st g r w hB hg16 hg _ _ hrl hn _ _ HC HL HBr
    · exact readWord_108 code st g r w hB hg16 hg _ _ hrl hn _ _ HC HL HBr
    · exact readWord_120 code st g r w hB hg16 hg _ _ hrl hn _ _ HC HL HBr
    · exact readWord_105 code st g r w hB hg16 hg _ _ hrl hn _ _ HC HL HBr
    · exact readWord_117 code st g r w hB hg16 hg _ _ hrl hn _ _ HC HL HBr
    · exact readWord_104 code st g r w hB hg16 hg _ _ hrl hn _ _ HC HL HBr
    · exact readWord_109 code st g r w hB hg16 hg _ _ hrl hn _ _ HC HL HBr
    · exact readWord_98 code st g r w hB hg16 hg _ _ hrl hn _ _ HC HL HBr
    · exact readWord_122 code st g r w hB hg16 hg _ _ hrl hn _ _ HC HL HBr
    · exact readWord_121 code st g r w hB hg16 hg _ _ hrl hn _ _ HC HL HBr
    · exact readWord_116 code st g r w hB hg16 hg _ _ hrl hn _ _ HC HL HBr

/-- Asm of the program answers asmS -/
theorem asm_program (t : List UInt8) (w : World) (hB : Base w) :
    Calls Tryz.prog 4 #[S t] w fun e w' => e = .returned (.tuple #[S (asmS t).1, .int .i64 (asmS t).2.1, .int .i64 (asmS t).2.2]) ∧ Below w.heap.size w w' := asmM_calls (ents 44) word_calls new_calls t w hB
end Go.Proofs.YtnbhpmncppohaaaGreatDoor.Mill
namespace Go.Proofs.YtnbhpmncppohaaaGreatDoor
open Go.ChangeShapes Go.WideShapes Go.ChangeAt Go.RowKit Mill

/-- the row's statement -/
theorem asms_said : Rows.AsmsSaid :=
  OpenClaim.holds_of_cond 3 Tryz.f3 rfl rfl rfl rfl rfl rfl rfl ⟨rfl, rfl, rfl, rfl, rfl⟩ rfl rfl rfl rfl rfl (by kernel_rfl) Tryz.func3 (by kernel_rfl)
    (of_decide_eq_true (by kernel_rfl)) (by unfold Func.isWrapper; first | (rw [if_pos (by decide +kernel)]; kernel_rfl) | (rw [if_neg (by decide +kernel)]; exact ⟨rfl, rfl⟩))
    (fun os started H enc _ F => by rw [OpenClaim.pre_eq_preRow]; exact lifted_of asmS Base (fun _ _ h hb => h.next hb) asm_program asm_calls base_of os started H enc F)

/-- no parameter wants a stand-in; the program bears the words of the looks -/
theorem asms_plain (f : FuncId) (fn : Func) (hf : Tryz.pinned.checked.prog.funcNamed "mill/milllaw.Asms" = some f) (hfn : Tryz.pinned.checked.prog.funcs[f]? = some fn) :
    true = Tryz.pinned.checked.prog.looks [] ∧ ∀ (j : Nat) t, fn.params[j]? = some t → Tryz.pinned.checked.prog.wantsStandIn t = false := by
  obtain rfl : f = 3 := Option.some.inj ((show Tryz.prog.funcNamed "mill/milllaw.Asms" = some 3 by kernel_rfl).symm.trans hf) |>.symm
  obtain rfl : fn = Tryz.f3 := (Option.some.inj (Tryz.func3.symm.trans hfn)).symm
  refine ⟨by kernel_rfl, fun j t ht => ?_⟩
  rw [Tryz.params3] at ht
  obtain rfl : t = 22 := by simpa using Array.mem_of_getElem? ht
  exact (show Tryz.prog.wantsStandIn 22 = false by kernel_rfl)

/-- THE CARD -/
theorem asms_card : Rows.AsmsCardSaid :=
  Claim7.holds_tied_plain_at .later [] _ _ _ _ asms_said (fun _ h => by cases h) (by kernel_rfl) (fun _ h => by cases h) asms_row_tie rfl ⟨rfl, rfl⟩ (by kernel_rfl) rfl asms_plain (by kernel_rfl)
end Go.Proofs.YtnbhpmncppohaaaGreatDoor
