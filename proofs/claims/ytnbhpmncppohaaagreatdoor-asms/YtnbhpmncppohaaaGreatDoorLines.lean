import Derived.Test.YtnbhpmncppohaaaGreatDoorLinesAt
import Derived.Deep.RegionWith
import Derived.Deep.CutBlock
namespace Go.Proofs.YtnbhpmncppohaaaGreatDoor.Mill
open Go.RowKit
attribute [local go_sem] setCell_drewN alloc_drewN

theorem cut10 (l : List UInt8) (w : World) (hl : l.length ≤ 4294967296) :
    Calls Tryz.prog 21 #[S l, .int .u8 10] w fun e w' => e = .returned (.tuple #[S (cutB l 10), S (cutA l 10), .bool (cutH l 10)]) ∧ ∃ n, w' = w.drewN n := cut_calls l 10 w hl
theorem cut35 (l : List UInt8) (w : World) (hl : l.length ≤ 4294967296) :
    Calls Tryz.prog 21 #[S l, .int .u8 35] w fun e w' => e = .returned (.tuple #[S (cutB l 35), S (cutA l 35), .bool (cutH l 35)]) ∧ ∃ n, w' = w.drewN n := cut_calls l 35 w hl
theorem cut58 (l : List UInt8) (w : World) (hl : l.length ≤ 4294967296) :
    Calls Tryz.prog 21 #[S l, .int .u8 58] w fun e w' => e = .returned (.tuple #[S (cutB l 58), S (cutA l 58), .bool (cutH l 58)]) ∧ ∃ n, w' = w.drewN n := cut_calls l 58 w hl
theorem cut44 (l : List UInt8) (w : World) (hl : l.length ≤ 4294967296) :
    Calls Tryz.prog 21 #[S l, .int .u8 44] w fun e w' => e = .returned (.tuple #[S (cutB l 44), S (cutA l 44), .bool (cutH l 44)]) ∧ ∃ n, w' = w.drewN n := cut_calls l 44 w hl

theorem cutA_lt (l : List UInt8) (c : UInt8) (h : l ≠ []) : (cutA l c).length < l.length := by
  unfold cutA
  have := (List.dropWhile_sublist (fun x : UInt8 => x != c) (l := l)).length_le
  have h0 : 0 < l.length := List.length_pos_iff.2 h
  simp; omega

theorem ret_bad {u : Value} {n : Nat} {x : List RL × Nat} {l : List RL} (h : x = (l, n + 1)) : Ending.returned (.tuple #[u, .int .i64 ((n : Int) + 1)]) = .returned (.tuple #[u, .int .i64 x.2]) := by rw [h]; rfl
theorem lines_bad {x : List RL × Nat} {l : List RL} {n B : Nat} {w : World} {u : Value} (h : x = (l, n)) (hl : LinesAt w B u l) : LinesAt w B u x.1 := by rw [h]; exact hl
/-- the line's own block, and its operands' row, behind one more operand -/
theorem ops_push {W wx w1 w0 : World} {X : Nat} {a b vo d v' : Value} {n : Nat} {xs : List Value} (c : Value) (hX : wx.heap[X]? = some (.cells #[a, b, vo, d] 50 (0, 0))) (hB : Below X W wx)
    (ho : wx.ownsRow (X + 1) 9 1 vo n xs) (h0 : Below wx.heap.size wx w0) (hg : w0.grownBy w1 vo.ownBlock) (hn : w1.ownsRow (X + 1) 9 1 v' (n + 1) (xs ++ [c])) :
    (w1.setCell ⟨X, 2, none⟩ v').heap[X]? = some (.cells #[a, b, v', d] 50 (0, 0)) ∧ (w1.setCell ⟨X, 2, none⟩ v').ownsRow (X + 1) 9 1 v' (n + 1) (xs ++ [c]) ∧ Below X W (w1.setCell ⟨X, 2, none⟩ v') ∧ w1.cell? ⟨X, 2, none⟩ = some vo ∧ w1.frozen? ⟨X, 2, none⟩ = false := by
  have hXl : X < wx.heap.size := (Array.getElem?_eq_some_iff.1 hX).1
  have hr : ∀ k, vo.ownBlock = some k → X + 1 ≤ k := fun k hk => (ho.lt k hk).1
  have h1 : w1.heap[X]? = some (.cells #[a, b, vo, d] 50 (0, 0)) := by
    rw [hg.block X (by have := h0.size; omega) (fun e => by have := hr X e.symm; omega), h0.block X hXl, hX]
  refine ⟨?_, ownsRow_setCell_below hn (by simp) _, ?_, by simp [World.cell?, h1], by simp [World.frozen?, h1]⟩
  · simp [World.setCell, Array.getElem?_modify, h1]
  · have b1 : Below X W w0 := hB.trans (h0.mono (by omega))
    have b2 : Below X W w1 := b1.grown hg (by have := h0.size; omega) (fun k hk => by have := hr k hk; omega)
    exact b2.setCell (by simp) _

theorem new_cells (w : World) (l : List Value) (t : TypeId) : ∀ j u, l[j]? = some u → (w.alloc (.cells l.toArray t)).cell? ((⟨w.heap.size, 0, none⟩ : Addr).add j) = some u := by
  intro j u h
  have hadd : (⟨w.heap.size, 0, none⟩ : Addr).add j = ⟨w.heap.size, j, none⟩ := by unfold Addr.add; split <;> simp_all
  rw [hadd]
  have hb : (w.alloc (.cells l.toArray t)).heap[w.heap.size]? = some (.cells l.toArray t) := heap_alloc_new w _
  rw [cell_of_row _ w.heap.size j l.toArray t (0, 0) hb]
  simpa using h
theorem owns_oneCell {w : World} {B : Nat} {e : TypeId} {size : Nat} {v : Value} {n : Nat} {xs : List Value} (h : w.ownsRow B e size v n xs) : v.oneCell' = true := by
  rcases h.2 with ⟨rfl, _⟩ | ⟨g, cap, cur, rfl, _⟩ <;> rfl
theorem linesGo_step {s0 : List RL × Nat} {r0 : List RL × Nat} {p : List UInt8} {ps : List (List UInt8)} {n : Nat} {done : List RL} {x : RL} (h : s0 = (done ++ r0.1, r0.2)) (h1 : r0 = linesGo (p :: ps) n) (hp : parseL p (n + 1) = some x) :
    s0 = ((done ++ [x]) ++ (linesGo ps (n + 1)).1, (linesGo ps (n + 1)).2) := by
  rw [h, h1]; simp [linesGo, hp]
theorem linesGo_bad {s0 : List RL × Nat} {r0 : List RL × Nat} {p : List UInt8} {ps : List (List UInt8)} {n : Nat} {done : List RL} (h : s0 = (done ++ r0.1, r0.2)) (h1 : r0 = linesGo (p :: ps) n) (hp : parseL p (n + 1) = none) :
    s0 = (done, n + 1) := by
  rw [h, h1]; simp [linesGo, hp]

/-- all that one line more does to the outer loop's memory -/
theorem line_done {w W0 wr w1 : World} {u4 v' vo : Value} {done : List RL} {vs : List Value} {lab nm : List UInt8} {dn : List (List UInt8)} {n : Nat} {o : Obj}
    (hbel : Below w.heap.size w W0) (hB : Below W0.heap.size W0 wr) (hXs : W0.heap.size < wr.heap.size) (ho : wr.ownsRow (W0.heap.size + 1) 9 1 vo dn.length (dn.map S))
    (h1 : vs.length = done.length) (h2 : W0.ownsRow w.heap.size 50 4 u4 done.length (lcells done vs))
    (h3 : ∀ (j : Nat) (x : RL) (u : Value), done[j]? = some x → vs[j]? = some u → W0.ownsRow w.heap.size 9 1 u x.ops.length (x.ops.map S))
    (hn : w1.ownsRow w.heap.size 50 4 v' (done.length + 1) (lcells done vs ++ [S lab, S nm, vo, .int .i64 ((n : Int) + 1)])) (hg : (wr.alloc o).grownBy w1 u4.ownBlock) :
    LinesAt w1 w.heap.size v' (done ++ [{ label := lab, name := nm, ops := dn, num := n + 1 }]) ∧ Below w.heap.size w w1 := by
  have hsame : ∀ k, k < W0.heap.size → (wr.alloc o).heap[k]? = W0.heap[k]? := by
    intro k hk
    rw [Below.heap_alloc _ _ _ (by omega)]
    exact hB.block k hk
  have hw : w.heap.size ≤ W0.heap.size := hbel.size
  have b1 : Below w.heap.size w (wr.alloc o) := (hbel.trans (hB.mono hw)).alloc (by omega) o
  refine ⟨lines_push { label := lab, name := nm, ops := dn, num := n + 1 } h1 (owns_same h2 hsame) (fun j x u hx hu => owns_same (h3 j x u hx hu) hsame) ?_ hn hg, ?_⟩
  · exact owns_base (owns_same ho (fun k hk => Below.heap_alloc _ _ _ hk)) (by omega)
  · exact b1.grown hg (by simp; omega) (fun k hk => (h2.lt k hk).1)

theorem owns_some {w : World} {B : Nat} {e : TypeId} {size : Nat} {v : Value} {n : Nat} {xs : List Value} (h : w.ownsRow B e size v (n + 1) xs) : ∃ g cap, v = .slice (some ⟨g, 0, none⟩) (n + 1) cap := by
  rcases h.2 with ⟨_, h0⟩ | ⟨g, cap, cur, rfl, _⟩
  · omega
  · exact ⟨g, cap, rfl⟩

theorem infoS : (Tryz.prog.info? 9).map (fun i => (i.zero, i.size, i.bytes)) = some (some (.string ⟨#[]⟩), 1, 16) := by kernel_rfl
theorem infoL : (Tryz.prog.info? 50).map (fun i => (i.zero, i.size, i.bytes)) = some (some (.agg #[.string ⟨#[]⟩, .string ⟨#[]⟩, .slice none 0 0, .int .i64 0]), 4, 64) := by kernel_rfl
theorem opsT_go {q t : List UInt8} {dn : List (List UInt8)} (h : opsT q = (opsT t).map (dn ++ ·)) (ht : t ≠ []) (h1 : trim (cutB t 44) ≠ []) (h2 : cutH t 44 = true → trim (cutA t 44) ≠ []) :
    opsT q = (opsT (trim (cutA t 44))).map ((dn ++ [trim (cutB t 44)]) ++ ·) := by
  rw [h, opsT_step t ht h1 h2]
  cases opsT (trim (cutA t 44)) <;> simp
theorem bodyL_some {lab t u : List UInt8} {n : Nat} {dn : List (List UInt8)} (hu : trim t = u) (h : opsT (behind u) = some dn) : bodyL lab t n = some { label := lab, name := nameOf u, ops := dn, num := n } := by
  subst hu; simp [bodyL, h]
theorem bodyL_none {lab t u : List UInt8} {n : Nat} (hu : trim t = u) (h : opsT (behind u) = none) : bodyL lab t n = none := by
  subst hu; simp [bodyL, h]

set_option maxHeartbeats 4000000 in
set_option maxRecDepth 100000 in
theorem lines_calls (s : List UInt8) (w : World) (hl : s.length ≤ 2000) :
    Calls Tryz.prog 13 #[S s] w fun e w' => ∃ v, e = .returned (.tuple #[v, .int .i64 (linesGo (rawLines s) 0).2]) ∧ LinesAt w' w.heap.size v (linesGo (rawLines s) 0).1 ∧ Below w.heap.size w w' := by
  go_enter Tryz.func13, Tryz.ntmps13
  go_upto_region 4 with fail
  go_loopg [0, 4, 5, 6] s.length (fun g sv lv nv mv wx => ∃ (rest : List UInt8) (done : List RL) (n : Nat), g = rest.length ∧ sv = S rest ∧ nv = .int .i64 n ∧ mv = .bool (decide (0 < rest.length)) ∧ n + rest.length ≤ s.length ∧ done.length = n ∧ LinesAt wx w.heap.size lv done ∧ Below w.heap.size w wx ∧
    Hid (linesGo (rawLines s) 0 = (done ++ (linesGo (rawLines rest) n).1, (linesGo (rawLines rest) n).2)))
  case atStart => exact ⟨s, [], 0, rfl, rfl, rfl, rfl, by omega, rfl, lines_nil _ _, Below.refl _ _, by simp [Hid]⟩
  case round =>
    obtain ⟨W0, rfl⟩ : ∃ W0, W0 = wr := ⟨_, rfl⟩
    obtain ⟨rest, done, n, rfl, rfl, rfl, rfl, hn, hdn, hlines, hbel, hgo⟩ := hrel
    have HDN := hide hdn
    clear hdn
    by_cases hr : rest = []
    · subst hr
      have HV : Hid (linesGo (rawLines s) 0 = (done, 0)) := by show _ = _; rw [unhide hgo]; simp [rawLines, linesGo]
      go_wp2
      go_ret2
      exact ⟨_, by rw [unhide HV]; rfl, by rw [unhide HV]; exact hlines, hbel⟩
    · have hpos : 0 < rest.length := List.length_pos_iff.2 hr
      have hgo1 : Hid (linesGo (rawLines rest) n = linesGo (cutB rest 10 :: rawLines (cutA rest 10)) n) := by show _ = _; rw [rawLines_cut rest hr]
      have hlt := cutA_lt rest 10 hr
      have hbl := cutB_le rest 10
      have hbl2 := cutB_le (cutB rest 10) 35
      have HM : Hid (cutH rest 10 = false → cutA rest 10 = []) := fun h => (cutB_none rest 10 h).2
      clear hr
      go_upto_region 7 with (go_at_call 21; refine (cut10 rest _ (by omega)).mono ?_; rintro e w' ⟨rfl, m, rfl⟩)
      go_cut [6, 9] (fun mv _ w' => mv = .bool (decide (0 < (cutA rest 10).length)) ∧ w' = W0.drewN m)
      case first =>
        cases hh : cutH rest 10
        · have HE := hide (unhide HM hh)
          go_wp2
          go_meet
          case rel => exact ⟨by rw [unhide HE]; rfl, rfl⟩
        · go_wp2
          go_meet
          case rel => exact ⟨rfl, rfl⟩
      case rest =>
        obtain ⟨rfl, rfl⟩ := hcut
        generalize hp : cutB rest 10 = p at *
        generalize ht2 : cutB p 35 = t2 at *
        have HP := hide hp
        have HT2 := hide ht2
        clear hp ht2
        have hbl3 := cutB_le t2 58
        have hal3 := cutA_le t2 58
        have htl3 := trim_le (cutB t2 58)
        go_upto_if 52 with (first | (go_at_call_of 21 (S p); refine (cut35 p _ (by omega)).mono ?_; rintro e w' ⟨rfl, m2, rfl⟩; rw [unhide HT2]) | (go_at_call_of 21 (S t2); refine (cut58 t2 _ (by omega)).mono ?_; rintro e w' ⟨rfl, m3, rfl⟩))
        go_cut [7, 13] (fun tv _ w' => ∃ (lab t3 : List UInt8) (k : Nat), tv = S t3 ∧ t3.length ≤ 2000 ∧ w' = (W0.alloc (.cells #[S lab, S [], .slice none 0 0, .int .i64 ((n : Int) + 1)] 50)).drewN k ∧ Hid (parseL p (n + 1) = bodyL lab t3 (n + 1)))
        case first =>
          cases hh : cutH t2 58
          · have HV : Hid (parseL p (n + 1) = bodyL [] t2 (n + 1)) := by show _ = _; unfold parseL; rw [unhide HT2, hh]; rfl
            go_wp2
            go_meet
            case rel => exact ⟨[], t2, _, rfl, by omega, rfl, HV⟩
          · cases hb : labelB (trim (cutB t2 58))
            · have HV : Hid (parseL p (n + 1) = none) := by show _ = _; unfold parseL; rw [unhide HT2, hh, hb]; rfl
              have HV2 : Hid (linesGo (rawLines s) 0 = (done, n + 1)) := by show _ = _; rw [unhide hgo, unhide hgo1]; simp [linesGo, unhide HV]
              go_wp2_with (first | (go_at_call 22; refine (trim_calls (cutB t2 58) _ (by omega)).mono ?_; rintro e w' ⟨rfl, rfl⟩) | (go_at_call 23; refine (label_calls (trim (cutB t2 58)) _ (by omega)).mono ?_; rintro e w' ⟨rfl, rfl⟩))
              go_ret2
              exact ⟨_, ret_bad (unhide HV2), lines_bad (unhide HV2) (lines_same hlines (fun k hk => Below.heap_alloc _ _ _ hk)), below_drewN (hbel.alloc hbel.size _) _⟩
            · have HV : Hid (parseL p (n + 1) = bodyL (trim (cutB t2 58)) (cutA t2 58) (n + 1)) := by show _ = _; unfold parseL; rw [unhide HT2, hh, hb]; rfl
              go_wp2_with (first | (go_at_call 22; refine (trim_calls (cutB t2 58) _ (by omega)).mono ?_; rintro e w' ⟨rfl, rfl⟩) | (go_at_call 23; refine (label_calls (trim (cutB t2 58)) _ (by omega)).mono ?_; rintro e w' ⟨rfl, rfl⟩))
              go_meet
              case rel => exact ⟨_, _, _, rfl, by omega, rfl, HV⟩
        case rest =>
          obtain ⟨lab, t3, k, rfl, ht3, rfl, hpar⟩ := hcut
          clear hbl3 hal3 htl3 HM HT2 HP
          have htt := trim_le t3
          generalize hu : trim t3 = u at *
          have HU := hide hu
          clear hu
          go_upto_block 2 with (go_at_call 22; refine (trim_calls t3 _ (by omega)).mono ?_; rintro e w' ⟨rfl, rfl⟩; rw [unhide HU])
          go_cut [15] (fun iv w' => ∃ i : Nat, i ≤ u.length ∧ iv = .int .i64 i ∧ w' = (W0.alloc (.cells #[S lab, S [], .slice none 0 0, .int .i64 ((n : Int) + 1)] 50)).drewN k ∧ Hid (nameOf u = u.take i ∧ u.dropWhile (fun c => !blankB c) = u.drop i))
          case first =>
            go_wp2_with fail
            go_loopg [15] u.length (fun g iv wx => (W0.alloc (.cells #[S lab, S [], .slice none 0 0, .int .i64 ((n : Int) + 1)] 50)).drewN k = wx ∧ ∃ i : Nat, i ≤ u.length ∧ g = u.length - i ∧ iv = .int .i64 i ∧ Hid (∀ j, j < i → ∀ x, u[j]? = some x → blankB x = false))
            case atStart => exact ⟨rfl, 0, by omega, rfl, rfl, fun j hj => absurd hj (by omega)⟩
            case round =>
              obtain ⟨rfl, i, hi, rfl, rfl, hnb⟩ := hrel
              by_cases hlt2 : i < u.length
              · have HX : Hid (u[i]? = some ((⟨u.toArray⟩ : ByteArray)[i]'(by simpa [ByteArray.size] using hlt2))) := List.getElem?_eq_getElem hlt2
                generalize hxe : (⟨u.toArray⟩ : ByteArray)[i]'(by simpa [ByteArray.size] using hlt2) = x at HX
                cases hbx : blankB x
                · go_wp2_with (go_at_call 24; refine (blank_calls x _).mono ?_; rintro e w' ⟨rfl, rfl⟩)
                  go_roundg (u.length - (i + 1))
                  case measure => omega
                  case rel =>
                    refine ⟨rfl, i + 1, by omega, rfl, by go_num, fun j hj y hy => ?_⟩
                    by_cases e : j = i
                    · subst e
                      rw [unhide HX] at hy
                      cases hy
                      exact hbx
                    · exact unhide hnb j (by omega) y hy
                · have HN := hide (nameOf_take u i hi (unhide hnb) (fun y hy => by rw [unhide HX] at hy; cases hy; exact hbx))
                  go_wp2_with (go_at_call 24; refine (blank_calls x _).mono ?_; rintro e w' ⟨rfl, rfl⟩)
                  go_meet
                  case rel => exact ⟨i, hi, rfl, rfl, HN⟩
              · have HN := hide (nameOf_take u i hi (unhide hnb) (fun y hy => by rw [List.getElem?_eq_none (by omega)] at hy; cases hy))
                go_wp2_with fail
                go_meet
                case rel => exact ⟨i, hi, rfl, rfl, HN⟩
          case rest =>
            obtain ⟨i, hi, rfl, rfl, HN⟩ := hcut
            have HQ : Hid (trim (u.drop i) = behind u) := by show _ = _; unfold behind; rw [(unhide HN).2]
            have hql : (behind u).length ≤ 2000 := by
              have := trim_le (u.drop i)
              rw [unhide HQ] at this
              simp at this; omega
            have HNM : Hid (Value.string ((⟨u.toArray⟩ : ByteArray).extract 0 i) = S (nameOf u)) := by
              show _ = _
              rw [(unhide HN).1]; exact str_eq (ext_head u i)
            generalize hq0 : behind u = q at *
            have HQ0 := hide hq0
            clear hq0
            obtain ⟨iS, hiS, hzS0, hzS1, hzS2⟩ := info_parts infoS
            obtain ⟨iL, hiL, hzL0, hzL1, hzL2⟩ := info_parts infoL
            have HI := hide (And.intro hiS (And.intro hzS0 (And.intro hzS1 hzS2)))
            have HIL := hide (And.intro hiL (And.intro hzL0 (And.intro hzL1 hzL2)))
            clear hiS hzS0 hzS1 hzS2 hiL hzL0 hzL1 hzL2
            go_upto_block 4 with (go_at_call 22; rw [str_eq (ext_end u i)]; refine (trim_calls (u.drop i) _ (by simp; omega)).mono ?_; rintro e w' ⟨rfl, rfl⟩; rw [unhide HQ])
            go_wp2_with fail
            go_loopg [7] q.length (fun g tv wx => ∃ (t : List UInt8) (dn : List (List UInt8)) (vo : Value), g = t.length ∧ tv = S t ∧ dn.length + t.length ≤ 2000 ∧ wx.heap[W0.heap.size]? = some (.cells #[S lab, S (nameOf u), vo, .int .i64 ((n : Int) + 1)] 50 (0, 0)) ∧ wx.ownsRow (W0.heap.size + 1) 9 1 vo dn.length (dn.map S) ∧ Below W0.heap.size W0 wx ∧ Hid (opsT q = (opsT t).map (dn ++ ·)))
            case atStart =>
              refine ⟨q, [], _, rfl, rfl, by simpa using hql, ?_, World.ownsRow_nil _ _ _ _, below_drewN ((Below.refl _ _).alloc (Nat.le_refl _) _) _, by simp [Hid]⟩
              rw [← unhide HNM]
              exact heap_alloc_new W0 _
            case round =>
              obtain ⟨t, dn, vo, rfl, rfl, hdt, hX, hown, hbX, hops⟩ := hrel
              have hc0 : wr.cell? ⟨W0.heap.size, 0, none⟩ = some (S lab) := by simp [World.cell?, hX]
              have hc1 : wr.cell? ⟨W0.heap.size, 1, none⟩ = some (S (nameOf u)) := by simp [World.cell?, hX]
              have hc2 : wr.cell? ⟨W0.heap.size, 2, none⟩ = some vo := by simp [World.cell?, hX]
              have hc3 : wr.cell? ⟨W0.heap.size, 3, none⟩ = some (.int .i64 ((n : Int) + 1)) := by simp [World.cell?, hX]
              have HX := hide hX
              have HOWN := hide hown
              have HBX := hide hbX
              have hXs : W0.heap.size < wr.heap.size := (Array.getElem?_eq_some_iff.1 hX).1
              clear hX hown hbX
              by_cases ht : t = []
              · subst ht
                have HPA : Hid (parseL p (n + 1) = some { label := lab, name := nameOf u, ops := dn, num := n + 1 }) := by
                  show _ = _
                  rw [unhide hpar]
                  refine bodyL_some (unhide HU) ?_
                  rw [unhide HQ0, unhide hops, opsT_nil]
                  simp
                have HGO := hide (linesGo_step (unhide hgo) (unhide hgo1) (unhide HPA))
                obtain ⟨vs, hv1, hv2, hv3⟩ := hlines
                have HV := hide (And.intro hv1 (And.intro hv2 hv3))
                have HDL := unhide HDN
                have hsame : ∀ o k, k < W0.heap.size → (wr.alloc o).heap[k]? = W0.heap[k]? := by
                  intro o k hk
                  rw [Below.heap_alloc _ _ _ (by omega)]
                  exact (unhide HBX).block k hk
                have HSAME := hide hsame
                have HVO := hide (owns_oneCell (unhide HOWN))
                have hbs : w.heap.size ≤ W0.heap.size := hbel.size
                clear hv1 hv2 hv3 hsame HDL
                go_wp2_with (at_builtin; refine wpList_append_own _ rfl _ _ 43 rfl w.heap.size 50 iL (.agg #[.string ⟨#[]⟩, .string ⟨#[]⟩, .slice none 0 0, .int .i64 0]) 4 64 Tryz.underlying43 (unhide HIL).1 (unhide HIL).2.1 (unhide HIL).2.2.1 (unhide HIL).2.2.2 rfl (by decide) u4 done.length (lcells done vs) rfl (owns_same (unhide HV).2.1 (unhide HSAME _)) ⟨wr.heap.size, 0, none⟩ 1 1 [S lab, S (nameOf u), vo, .int .i64 ((n : Int) + 1)] rfl rfl (new_cells wr [S lab, S (nameOf u), vo, .int .i64 ((n : Int) + 1)] 50) ?c2 ?c3 ?c4 ?c5 ?_)
                case c2 => intro x hx; simp at hx; rcases hx with rfl | rfl | rfl | rfl <;> first | rfl | exact unhide HVO
                case c3 => have := unhide HDN; unfold maxLen; omega
                case c4 => have := unhide HDN; omega
                case c5 => simp; omega
                intro v' w1 hown' hgrow _
                have HF := hide (line_done hbel (unhide HBX) hXs (unhide HOWN) (unhide HV).1 (unhide HV).2.1 (unhide HV).2.2 hown' hgrow)
                clear hown' hgrow
                go_wp2_with fail
                go_roundg (cutA rest 10).length
                case measure => omega
                case rel => exact ⟨cutA rest 10, _, n + 1, rfl, rfl, by go_num, rfl, by omega, by simp [unhide HDN], (unhide HF).1, (unhide HF).2, HGO⟩
              · have hpos2 : 0 < t.length := List.length_pos_iff.2 ht
                have hlt3 := cutA_lt t 44 ht
                have hbt := cutB_le t 44
                have htd := trim_le (cutA t 44)
                have htc := trim_le (cutB t 44)
                have H1 := hide (opsT_bad1 t ht)
                have H2 := hide (opsT_bad2 t)
                have H3 := hide (opsT_go (q := q) (t := t) (dn := dn) (unhide hops) ht)
                clear ht
                cases hce : (trim (cutB t 44)).isEmpty
                · cases hh : cutH t 44
                  · have HOP := hide (unhide H3 (by simpa using hce) (by simp [hh]))
                    go_upto_region 29 with (first | (go_at_call_of 21 (S t); refine (cut44 t _ (by omega)).mono ?_; rintro e w' ⟨rfl, m4, rfl⟩) | (go_at_call_of 22 (S (cutB t 44)); refine (trim_calls (cutB t 44) _ (by omega)).mono ?_; rintro e w' ⟨rfl, rfl⟩) | (go_at_call_of 22 (S (cutA t 44)); refine (trim_calls (cutA t 44) _ (by omega)).mono ?_; rintro e w' ⟨rfl, rfl⟩))
                    go_wp2_with (at_builtin; refine wpList_append_own _ rfl _ _ 47 rfl (W0.heap.size + 1) 9 iS (.string ⟨#[]⟩) 1 16 Tryz.underlying47 (unhide HI).1 (unhide HI).2.1 (unhide HI).2.2.1 (unhide HI).2.2.2 rfl (by decide) vo dn.length (dn.map S) rfl (owns_same (unhide HOWN) (fun k hk => Below.heap_alloc _ _ _ hk)) ⟨wr.heap.size, 0, none⟩ 1 1 [S (trim (cutB t 44))] rfl rfl (new_cells wr [S (trim (cutB t 44))] 9) ?c2a ?c3a ?c4a ?c5a ?_)
                    case c2a => intro x hx; simp at hx; subst hx; rfl
                    case c3a => unfold maxLen; omega
                    case c4a => omega
                    case c5a => simp; omega
                    intro v' w1 hown' hgrow _
                    obtain ⟨g', cap', hv'⟩ := owns_some hown'
                    rw [hv'] at hown' ⊢
                    clear hv'
                    have R := ops_push (S (trim (cutB t 44))) (unhide HX) (unhide HBX) (unhide HOWN) (below_drewN ((Below.refl _ _).alloc (Nat.le_refl _) _) _) hgrow hown'
                    obtain ⟨R1, R2, R3, hw1c, hw1f⟩ := R
                    have HR := hide (And.intro R1 (And.intro R2 R3))
                    clear R1 R2 R3 hown' hgrow hc0 hc1 hc2 hc3
                    go_wp2_with (first | (go_at_call_of 21 (S t); refine (cut44 t _ (by omega)).mono ?_; rintro e w' ⟨rfl, m4, rfl⟩) | (go_at_call_of 22 (S (cutB t 44)); refine (trim_calls (cutB t 44) _ (by omega)).mono ?_; rintro e w' ⟨rfl, rfl⟩) | (go_at_call_of 22 (S (cutA t 44)); refine (trim_calls (cutA t 44) _ (by omega)).mono ?_; rintro e w' ⟨rfl, rfl⟩))
                    go_roundg (trim (cutA t 44)).length
                    case measure => omega
                    case rel => exact ⟨_, dn ++ [trim (cutB t 44)], _, rfl, rfl, by simp; omega, (unhide HR).1, by simpa using (unhide HR).2.1, (unhide HR).2.2, HOP⟩
                  · cases hde : (trim (cutA t 44)).isEmpty
                    · have HOP := hide (unhide H3 (by simpa using hce) (fun _ => by simpa using hde))
                      go_upto_region 29 with (first | (go_at_call_of 21 (S t); refine (cut44 t _ (by omega)).mono ?_; rintro e w' ⟨rfl, m4, rfl⟩) | (go_at_call_of 22 (S (cutB t 44)); refine (trim_calls (cutB t 44) _ (by omega)).mono ?_; rintro e w' ⟨rfl, rfl⟩) | (go_at_call_of 22 (S (cutA t 44)); refine (trim_calls (cutA t 44) _ (by omega)).mono ?_; rintro e w' ⟨rfl, rfl⟩))
                      go_wp2_with (at_builtin; refine wpList_append_own _ rfl _ _ 47 rfl (W0.heap.size + 1) 9 iS (.string ⟨#[]⟩) 1 16 Tryz.underlying47 (unhide HI).1 (unhide HI).2.1 (unhide HI).2.2.1 (unhide HI).2.2.2 rfl (by decide) vo dn.length (dn.map S) rfl (owns_same (unhide HOWN) (fun k hk => Below.heap_alloc _ _ _ hk)) ⟨wr.heap.size, 0, none⟩ 1 1 [S (trim (cutB t 44))] rfl rfl (new_cells wr [S (trim (cutB t 44))] 9) ?c2b ?c3b ?c4b ?c5b ?_)
                      case c2b => intro x hx; simp at hx; subst hx; rfl
                      case c3b => unfold maxLen; omega
                      case c4b => omega
                      case c5b => simp; omega
                      intro v' w1 hown' hgrow _
                      obtain ⟨g', cap', hv'⟩ := owns_some hown'
                      rw [hv'] at hown' ⊢
                      clear hv'
                      have R := ops_push (S (trim (cutB t 44))) (unhide HX) (unhide HBX) (unhide HOWN) (below_drewN ((Below.refl _ _).alloc (Nat.le_refl _) _) _) hgrow hown'
                      obtain ⟨R1, R2, R3, hw1c, hw1f⟩ := R
                      have HR := hide (And.intro R1 (And.intro R2 R3))
                      clear R1 R2 R3 hown' hgrow hc0 hc1 hc2 hc3
                      go_wp2_with (first | (go_at_call_of 21 (S t); refine (cut44 t _ (by omega)).mono ?_; rintro e w' ⟨rfl, m4, rfl⟩) | (go_at_call_of 22 (S (cutB t 44)); refine (trim_calls (cutB t 44) _ (by omega)).mono ?_; rintro e w' ⟨rfl, rfl⟩) | (go_at_call_of 22 (S (cutA t 44)); refine (trim_calls (cutA t 44) _ (by omega)).mono ?_; rintro e w' ⟨rfl, rfl⟩))
                      go_roundg (trim (cutA t 44)).length
                      case measure => omega
                      case rel => exact ⟨_, dn ++ [trim (cutB t 44)], _, rfl, rfl, by simp; omega, (unhide HR).1, by simpa using (unhide HR).2.1, (unhide HR).2.2, HOP⟩
                    · have HPA : Hid (parseL p (n + 1) = none) := by
                        show _ = _
                        rw [unhide hpar]
                        refine bodyL_none (unhide HU) ?_
                        rw [unhide HQ0, unhide hops, unhide H2 hh (by simpa using hde)]
                        rfl
                      have HGO := hide (linesGo_bad (unhide hgo) (unhide hgo1) (unhide HPA))
                      go_wp2_with (first | (go_at_call_of 21 (S t); refine (cut44 t _ (by omega)).mono ?_; rintro e w' ⟨rfl, m4, rfl⟩) | (go_at_call_of 22 (S (cutB t 44)); refine (trim_calls (cutB t 44) _ (by omega)).mono ?_; rintro e w' ⟨rfl, rfl⟩) | (go_at_call_of 22 (S (cutA t 44)); refine (trim_calls (cutA t 44) _ (by omega)).mono ?_; rintro e w' ⟨rfl, rfl⟩))
                      go_ret2
                      exact ⟨_, ret_bad (unhide HGO), lines_bad (unhide HGO) (lines_same hlines (fun k hk => (unhide HBX).block k hk)), below_drewN (hbel.trans ((unhide HBX).mono hbel.size)) _⟩
                · have HPA : Hid (parseL p (n + 1) = none) := by
                    show _ = _
                    rw [unhide hpar]
                    refine bodyL_none (unhide HU) ?_
                    rw [unhide HQ0, unhide hops, unhide H1 (by simpa using hce)]
                    rfl
                  have HGO := hide (linesGo_bad (unhide hgo) (unhide hgo1) (unhide HPA))
                  go_wp2_with (first | (go_at_call_of 21 (S t); refine (cut44 t _ (by omega)).mono ?_; rintro e w' ⟨rfl, m4, rfl⟩) | (go_at_call_of 22 (S (cutB t 44)); refine (trim_calls (cutB t 44) _ (by omega)).mono ?_; rintro e w' ⟨rfl, rfl⟩) | (go_at_call_of 22 (S (cutA t 44)); refine (trim_calls (cutA t 44) _ (by omega)).mono ?_; rintro e w' ⟨rfl, rfl⟩))
                  go_ret2
                  exact ⟨_, ret_bad (unhide HGO), lines_bad (unhide HGO) (lines_same hlines (fun k hk => (unhide HBX).block k hk)), below_drewN (hbel.trans ((unhide HBX).mono hbel.size)) _⟩
end Go.Proofs.YtnbhpmncppohaaaGreatDoor.Mill
