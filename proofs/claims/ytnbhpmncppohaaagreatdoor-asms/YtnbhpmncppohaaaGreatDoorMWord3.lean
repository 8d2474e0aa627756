import Derived.Test.YtnbhpmncppohaaaGreatDoorMWord2
namespace Go.Proofs.YtnbhpmncppohaaaGreatDoor.Mill
open Go.RowKit

theorem nameOf_le (u : List UInt8) : (nameOf u).length ≤ u.length := by unfold nameOf; exact (List.takeWhile_sublist _).length_le
theorem behind_le (u : List UInt8) : (behind u).length ≤ u.length := by
  unfold behind
  have h1 := trim_le (u.dropWhile (fun c => !blankB c))
  have h2 := (List.dropWhile_sublist (fun c => !blankB c) (l := u)).length_le
  omega
theorem map_kept {w w1 : World} {g r : Nat} {es : Array MapEntry} {c : Array Value} {t : TypeId} (hg : w.heap[g]? = some (.cells c t)) (hr : w.heap[r]? = some (.map es 44)) (hb : Below (w.setCell ⟨g, 1, none⟩ (.bool true)).heap.size (w.setCell ⟨g, 1, none⟩ (.bool true)) w1) : w1.heap[r]? = some (.map es 44) := by
  have hne : r ≠ g := by rintro rfl; rw [hg] at hr; cases hr
  have h1 : (w.setCell ⟨g, 1, none⟩ (.bool true)).heap[r]? = some (.map es 44) := by
    simp [World.setCell, Array.getElem?_modify, Ne.symm hne, hr]
  exact (hb.block r (Array.getElem?_eq_some_iff.1 h1).1).trans h1
theorem ents_find (nam : List UInt8) : (tab.find? (fun y => y.1 == nam) = none ∧ Instr.findNow .string (S nam) (ents 44).toList 0 = some none) ∨ ∃ y j, tab.find? (fun y => y.1 == nam) = some y ∧ Instr.findNow .string (S nam) (ents 44).toList 0 = some (some (j, instV y)) := by
  have h : (ents 44).toList = (tab.zipIdx 0).map ent1 := by rfl
  rw [h]
  exact find_tab nam tab 0 0

set_option maxRecDepth 100000 in
theorem word_calls : WordOk (ents 44) shapeV := by
  intro code st g r w hB hg16 hg hr hc hl
  have HC := fun w => cutName_calls code w (by omega)
  have hrl : (behind code).length ≤ 2000 := Nat.le_trans (behind_le code) hl
  have HT : Tryz.prog.underlying 35 = some (.map 9 92) := by kernel_rfl
  have HK : Tryz.prog.underlying 9 = some .string := by kernel_rfl
  unfold wordP
  by_cases hw : nameOf code = wordN
  · rw [if_pos hw]
    exact readWord_word code st g r w hB hg16 hg _ _ hw HC hrl
  rw [if_neg hw]
  have hn : (nameOf code == [46, 119, 111, 114, 100]) = false := by
    rw [beq_eq_false_iff_ne]; exact hw
  rcases ents_find (nameOf code) with ⟨h1, h2⟩ | ⟨y, j, h1, h2⟩
  · rw [h1]
    exact readWord_none code st g r w hg _ _ hn HC (fun w1 hb1 => look_miss HT HK (map_kept hg hr hb1) _ _ (by kernel_rfl) h2)
  · rw [h1]
    dsimp only
    have ht := tab_shapes y (List.mem_of_find?_eq_some h1)
    have HL := fun w1 hb1 => look_hit HT HK (map_kept (w1 := w1) hg hr hb1) _ j _ h2
    have HBr := fun w => bare_calls y.2.1 ht.1 y.2.2 ht.2.1 ht.2.2 w
    unfold instV at HL
    generalize y.2.2 = num at *
    generalize y.2.1 = sh at *
    have hs := ht.1
    simp only [shapes, List.mem_cons, List.mem_nil_iff, or_false] at hs
    rcases hs with rfl | rfl | rfl | rfl | rfl | rfl | rfl | rfl | rfl | rfl | rfl | rfl | rfl | rfl
    · exact readWord_114 code st g r w hB hg16 hg _ _ hrl hn _ _ HC HL HBr
    · exact readWord_115 code st g r w hB hg16 hg _ _ hrl hn _ _ HC HL HBr
    · exact readWord_118 code st g r w hB hg16 hg _ _ hrl hn _ _ HC HL HBr
    · exact readWord_106 code st g r w hB hg16 hg _ _ hrl hn _ _ HC HL HBr
    · exact readWord_108 code st g r w hB hg16 hg _ _ hrl hn _ _ HC HL HBr
    · exact readWord_120 code st g r w hB hg16 hg _ _ hrl hn _ _ HC HL HBr
    · exact readWord_105 code st g r w hB hg16 hg _ _ hrl hn _ _ HC HL HBr
    · exact readWord_117 code st g r w hB hg16 hg _ _ hrl hn _ _ HC HL HBr
    · exact readWord_104 code st g r w hB hg16 hg _ _ hrl hn _ _ HC HL HBr
    · exact readWord_109 code st g r w hB hg16 hg _ _ hrl hn _ _ HC HL HBr
    · exact readWord_98 code st g r w hB hg16 hg _ _ hrl hn _ _ HC HL HBr
    · exact readWord_122 code st g r w hB hg16 hg _ _ hrl hn _ _ HC HL HBr
    · exact readWord_121 code st g r w hB hg16 hg _ _ hrl hn _ _ HC HL HBr
    · exact readWord_116 code st g r w hB hg16 hg _ _ hrl hn _ _ HC HL HBr

/-- Asm of the program answers asmS -/
theorem asm_program (t : List UInt8) (w : World) (hB : Base w) :
    Calls Tryz.prog 4 #[S t] w fun e w' => e = .returned (.tuple #[S (asmS t).1, .int .i64 (asmS t).2.1, .int .i64 (asmS t).2.2]) ∧ Below w.heap.size w w' := asmM_calls (ents 44) word_calls new_calls t w hB
end Go.Proofs.YtnbhpmncppohaaaGreatDoor.Mill
