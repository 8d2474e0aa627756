import Derived.Test.YtnbhpmncppohaaaGreatDoorSpec
import Derived.WalkSmall
namespace Go.Proofs.YtnbhpmncppohaaaGreatDoor.Mill
open Go.RowKit

theorem letters (sh : UInt8) (h : sh ∈ shapes) : ∀ c ∈ opsOf sh, c ∈ ([100, 115, 116, 110, 109, 108] : List UInt8) := by
  simp only [shapes, List.mem_cons, List.mem_nil_iff, or_false] at h
  rcases h with rfl | rfl | rfl | rfl | rfl | rfl | rfl | rfl | rfl | rfl | rfl | rfl | rfl | rfl
  all_goals decide

theorem fillGo_step (cs : List UInt8) (os : List (List UInt8)) (k : Nat) (h : k < cs.length) (h' : k < os.length) (a : Ak) (e : Int) :
    fillGo (cs.drop k) (os.drop k) a e = if (opStep cs[k] os[k] a e).2.2 then fillGo (cs.drop (k + 1)) (os.drop (k + 1)) (opStep cs[k] os[k] a e).1 (opStep cs[k] os[k] a e).2.1 else ((opStep cs[k] os[k] a e).1, 3) := by
  rw [List.drop_eq_getElem_cons h, List.drop_eq_getElem_cons h']
  rfl
theorem fillGo_end (cs : List UInt8) (os : List (List UInt8)) (k : Nat) (h : cs.length ≤ k) (a : Ak) (e : Int) : fillGo (cs.drop k) (os.drop k) a e = (a, e) := by
  rw [List.drop_eq_nil_of_le h]
  rfl

theorem setCell_drewN (w : World) (n : Nat) (a : Addr) (v : Value) : (w.drewN n).setCell a v = (w.setCell a v).drewN n := rfl
theorem alloc_drewN (w : World) (n : Nat) (o : Obj) : (w.drewN n).alloc o = (w.alloc o).drewN n := rfl
attribute [local go_sem] setCell_drewN alloc_drewN
theorem fw_below (w : World) (o1 o2 o3 : Obj) (n : Nat) : Below w.heap.size w ((((w.alloc o1).alloc o2).alloc o3).drewN n) :=
  below_drewN ((((Below.refl _ _).alloc (Nat.le_refl _) _).alloc (by simp) _).alloc (by simp; omega) _) _
theorem ret_ask {x y : Ak × Int} (h : y = x) : Ending.returned (.tuple #[.agg x.1.cells, .int .i64 x.2]) = .returned (.tuple #[.agg y.1.cells, .int .i64 y.2]) := by rw [h]
theorem cut40 (l : List UInt8) (w : World) (hl : l.length ≤ 4294967296) :
    Calls Tryz.prog 21 #[S l, .int .u8 40] w fun e w' => e = .returned (.tuple #[S (cutB l 40), S (cutA l 40), .bool (cutH l 40)]) ∧ ∃ n, w' = w.drewN n := cut_calls l 40 w hl
theorem ext_init (q : List UInt8) (y : UInt8) : Value.string ((⟨(q ++ [y]).toArray⟩ : ByteArray).extract 0 q.length) = S q := str_eq (by rw [ext_head]; simp)
theorem opStep_reg_bad (c : UInt8) (hc : c = 100 ∨ c = 115 ∨ c = 116) (o : List UInt8) (a : Ak) (e : Int) (h : regI o < 0) : opStep c o a e = (a, e, false) := by
  rcases hc with rfl | rfl | rfl <;> simp [opStep, h]
theorem opStep_d (o : List UInt8) (a : Ak) (e : Int) (h : ¬ regI o < 0) : opStep 100 o a e = ({ a with d := regI o }, e, true) := by simp [opStep, h]
theorem opStep_s (o : List UInt8) (a : Ak) (e : Int) (h : ¬ regI o < 0) : opStep 115 o a e = ({ a with s := regI o }, e, true) := by simp [opStep, h]
theorem opStep_t (o : List UInt8) (a : Ak) (e : Int) (h : ¬ regI o < 0) : opStep 116 o a e = ({ a with t := regI o }, e, true) := by simp [opStep, h]
theorem opStep_n_bad (o : List UInt8) (a : Ak) (e : Int) (h : numOk o = false) : opStep 110 o a e = (a, e, false) := by simp [opStep, numStep, h]
theorem opStep_n_in (o : List UInt8) (a : Ak) (e : Int) (h : numOk o = true) (h' : withinB a.sh (numVal o) = true) : opStep 110 o a e = ({ a with n := numVal o }, e, true) := by simp [opStep, numStep, h, h']
theorem opStep_n_out (o : List UInt8) (a : Ak) (e : Int) (h : numOk o = true) (h' : withinB a.sh (numVal o) = false) : opStep 110 o a e = ({ a with n := numVal o }, 4, true) := by simp [opStep, numStep, h, h']
theorem opStep_l_bad (o : List UInt8) (a : Ak) (e : Int) (h : labelB o = false) : opStep 108 o a e = (a, e, false) := by simp [opStep, h]
theorem opStep_l (o : List UInt8) (a : Ak) (e : Int) (h : labelB o = true) : opStep 108 o a e = ({ a with goal := o }, e, true) := by simp [opStep, h]
theorem opStep_m_no (o : List UInt8) (a : Ak) (e : Int) (h : (cutH o 40 && closes (cutA o 40)) = false) : opStep 109 o a e = (a, e, false) := by simp [opStep, h]
theorem opStep_m_reg (o q : List UInt8) (a : Ak) (e : Int) (h : cutH o 40 = true) (hq : cutA o 40 = q ++ [41]) (hr : regI (trim q) < 0) : opStep 109 o a e = (a, e, false) := by
  have : closes (q ++ [41]) = true := by simp [closes]
  simp [opStep, h, hq, this, hr]
theorem opStep_m_go (o q : List UInt8) (a : Ak) (e : Int) (h : cutH o 40 = true) (hq : cutA o 40 = q ++ [41]) (hr : ¬ regI (trim q) < 0) : opStep 109 o a e = numStep (trim (cutB o 40)) { a with s := regI (trim q) } e := by
  have : closes (q ++ [41]) = true := by simp [closes]
  simp [opStep, h, hq, this, hr]
theorem numStep_bad (o : List UInt8) (a : Ak) (e : Int) (h : numOk o = false) : numStep o a e = (a, e, false) := by simp [numStep, h]
theorem numStep_in (o : List UInt8) (a : Ak) (e : Int) (h : numOk o = true) (h' : withinB a.sh (numVal o) = true) : numStep o a e = ({ a with n := numVal o }, e, true) := by simp [numStep, h, h']
theorem numStep_out (o : List UInt8) (a : Ak) (e : Int) (h : numOk o = true) (h' : withinB a.sh (numVal o) = false) : numStep o a e = ({ a with n := numVal o }, 4, true) := by simp [numStep, h, h']

set_option maxHeartbeats 8000000 in
set_option maxRecDepth 100000 in
theorem filled_calls (a0 : Ak) (hsh : a0.sh ∈ shapes) (lab nam : List UInt8) (os : List (List UInt8)) (N : Int) (b : Nat) (cap : Nat) (w : World)
    (hos : os.length ≤ 2000) (hol : ∀ o ∈ os, o.length ≤ 2000) (hb : b < w.heap.size)
    (hcell : ∀ k (h : k < os.length), w.cell? ⟨b, k, none⟩ = some (S os[k])) :
    Calls Tryz.prog 27 #[.agg #[S a0.name, B a0.sh, .int .i64 a0.num, .int .i64 a0.s, .int .i64 a0.t, .int .i64 a0.d, .int .i64 a0.n, .int .i64 a0.raw, .bool a0.data, S a0.goal, .int .i64 a0.line], .agg #[S lab, S nam, .slice (some ⟨b, 0, none⟩) os.length cap, .int .i64 N]] w fun e w' => e = .returned (.tuple #[.agg (fillS a0 os).1.cells, .int .i64 (fillS a0 os).2]) ∧ Below w.heap.size w w' := by
  have HL := hide (letters a0.sh hsh)
  have HC := hide hcell
  have HOL := hide hol
  clear hcell hol
  by_cases hlen : os.length = (opsOf a0.sh).length
  · have hne : ((os.length : Int) != ((opsOf a0.sh).length : Int)) = false := by rw [bne_eq_false_iff_eq]; omega
    have HF : Hid (fillS a0 os = fillGo ((opsOf a0.sh).drop 0) (os.drop 0) a0 0) := by
      show _ = _
      rw [fillS, if_pos hlen]; rfl
    have HLEN := hide hlen
    clear hlen
    generalize hwant : opsOf a0.sh = want at *
    have HW := hide hwant
    clear hwant
    go_enter Tryz.func27, Tryz.ntmps27
    go_wp2_with (go_at_call 39; refine (operands_calls a0.sh hsh _).mono ?_; rintro e w' ⟨rfl, rfl⟩; rw [unhide HW])
    go_loopg [7, 8] os.length (fun g ev i wx => ∃ (k n : Nat) (a : Ak) (x : Int), k ≤ os.length ∧ g = os.length - k ∧ i = .int .i64 k ∧ ev = .int .i64 x ∧ wx = (((w.alloc (.cells #[S a.name, B a.sh, .int .i64 a.num, .int .i64 a.s, .int .i64 a.t, .int .i64 a.d, .int .i64 a.n, .int .i64 a.raw, .bool a.data, S a.goal, .int .i64 a.line] 56)).alloc (.cells #[S lab, S nam, .slice (some ⟨b, 0, none⟩) os.length cap, .int .i64 N] 50)).alloc (.cells #[.string { data := #[] }, .int .u8 0, .int .i64 0, .int .i64 0, .int .i64 0, .int .i64 0, .int .i64 0, .int .i64 0, .bool false, .string { data := #[] }, .int .i64 0] 56)).drewN n ∧ Hid (a.sh = a0.sh) ∧ Hid (fillS a0 os = fillGo (want.drop k) (os.drop k) a x))
    case atStart => exact ⟨0, 0, a0, 0, by omega, rfl, rfl, rfl, rfl, rfl, HF⟩
    case round =>
      obtain ⟨k, n, a, x, hk, rfl, rfl, rfl, rfl, hash, hfill⟩ := hrel
      have hsha : a.sh ∈ shapes := by rw [unhide hash]; exact hsh
      by_cases hlt : k < os.length
      · have hlw : k < want.length := by have := unhide HLEN; omega
        have HCk : ∀ o1 o2 o3, (((w.alloc o1).alloc o2).alloc o3).cell? ⟨b, k, none⟩ = some (S os[k]) := by
          intro o1 o2 o3
          rw [World.cell?_alloc_past _ _ _ (by simp; omega), World.cell?_alloc_past _ _ _ (by simp; omega), World.cell?_alloc_past _ _ _ hb]
          exact unhide HC k hlt
        have HO : os[k].length ≤ 2000 := unhide HOL _ (List.getElem_mem hlt)
        have HS := hide (fillGo_step want os k hlw hlt a x)
        have HM := hide (unhide HL want[k] (List.getElem_mem hlw))
        have HXE : Hid ((⟨want.toArray⟩ : ByteArray)[k]'(by simpa [ByteArray.size] using hlw) = want[k]) := rfl
        generalize hc : want[k] = c at *
        generalize ho : os[k] = o at *
        clear hc ho
        simp only [List.mem_cons, List.mem_nil_iff, or_false] at HM
        rcases unhide HM with rfl | rfl | rfl | rfl | rfl | rfl
        all_goals
          have hx := unhide HXE
          clear HM HXE
        · by_cases hr : regI o < 0
          · have HV : Hid (fillS a0 os = (a, 3)) := by show _ = _; rw [unhide hfill, unhide HS, opStep_reg_bad 100 (by simp) o a x hr]; rfl
            go_wp2_with (first | (go_at_call 40; refine (register_calls o _ (by omega)).mono ?_; rintro e w' ⟨rfl, rfl⟩) | (go_at_call 25; refine (number_calls o _ (by omega)).mono ?_; rintro e w' ⟨rfl, rfl⟩) | (go_at_call 41; refine (within_calls a.sh hsha _ _).mono ?_; rintro e w' ⟨rfl, rfl⟩) | (go_at_call 23; refine (label_calls o _ (by omega)).mono ?_; rintro e w' ⟨rfl, rfl⟩))
            exact bodyPost_ret (v := .tuple #[.agg #[S a.name, B a.sh, .int .i64 a.num, .int .i64 a.s, .int .i64 a.t, .int .i64 a.d, .int .i64 a.n, .int .i64 a.raw, .bool a.data, S a.goal, .int .i64 a.line], .int .i64 3]) (by simp [results, Tryz.results27, go_sem]) rfl ⟨ret_ask (x := (a, 3)) (unhide HV), fw_below w _ _ _ _⟩
          · have HV : Hid (fillS a0 os = fillGo (want.drop (k + 1)) (os.drop (k + 1)) { a with d := regI o } x) := by show _ = _; rw [unhide hfill, unhide HS, opStep_d o a x hr]; rfl
            go_wp2_with (first | (go_at_call 40; refine (register_calls o _ (by omega)).mono ?_; rintro e w' ⟨rfl, rfl⟩) | (go_at_call 25; refine (number_calls o _ (by omega)).mono ?_; rintro e w' ⟨rfl, rfl⟩) | (go_at_call 41; refine (within_calls a.sh hsha _ _).mono ?_; rintro e w' ⟨rfl, rfl⟩) | (go_at_call 23; refine (label_calls o _ (by omega)).mono ?_; rintro e w' ⟨rfl, rfl⟩))
            go_roundg (os.length - (k + 1))
            case measure => omega
            case rel => exact ⟨k + 1, n, { a with d := regI o }, x, by omega, rfl, by go_num, rfl, rfl, hash, HV⟩
        · by_cases hr : regI o < 0
          · have HV : Hid (fillS a0 os = (a, 3)) := by show _ = _; rw [unhide hfill, unhide HS, opStep_reg_bad 115 (by simp) o a x hr]; rfl
            go_wp2_with (first | (go_at_call 40; refine (register_calls o _ (by omega)).mono ?_; rintro e w' ⟨rfl, rfl⟩) | (go_at_call 25; refine (number_calls o _ (by omega)).mono ?_; rintro e w' ⟨rfl, rfl⟩) | (go_at_call 41; refine (within_calls a.sh hsha _ _).mono ?_; rintro e w' ⟨rfl, rfl⟩) | (go_at_call 23; refine (label_calls o _ (by omega)).mono ?_; rintro e w' ⟨rfl, rfl⟩))
            exact bodyPost_ret (v := .tuple #[.agg #[S a.name, B a.sh, .int .i64 a.num, .int .i64 a.s, .int .i64 a.t, .int .i64 a.d, .int .i64 a.n, .int .i64 a.raw, .bool a.data, S a.goal, .int .i64 a.line], .int .i64 3]) (by simp [results, Tryz.results27, go_sem]) rfl ⟨ret_ask (x := (a, 3)) (unhide HV), fw_below w _ _ _ _⟩
          · have HV : Hid (fillS a0 os = fillGo (want.drop (k + 1)) (os.drop (k + 1)) { a with s := regI o } x) := by show _ = _; rw [unhide hfill, unhide HS, opStep_s o a x hr]; rfl
            go_wp2_with (first | (go_at_call 40; refine (register_calls o _ (by omega)).mono ?_; rintro e w' ⟨rfl, rfl⟩) | (go_at_call 25; refine (number_calls o _ (by omega)).mono ?_; rintro e w' ⟨rfl, rfl⟩) | (go_at_call 41; refine (within_calls a.sh hsha _ _).mono ?_; rintro e w' ⟨rfl, rfl⟩) | (go_at_call 23; refine (label_calls o _ (by omega)).mono ?_; rintro e w' ⟨rfl, rfl⟩))
            go_roundg (os.length - (k + 1))
            case measure => omega
            case rel => exact ⟨k + 1, n, { a with s := regI o }, x, by omega, rfl, by go_num, rfl, rfl, hash, HV⟩
        · by_cases hr : regI o < 0
          · have HV : Hid (fillS a0 os = (a, 3)) := by show _ = _; rw [unhide hfill, unhide HS, opStep_reg_bad 116 (by simp) o a x hr]; rfl
            go_wp2_with (first | (go_at_call 40; refine (register_calls o _ (by omega)).mono ?_; rintro e w' ⟨rfl, rfl⟩) | (go_at_call 25; refine (number_calls o _ (by omega)).mono ?_; rintro e w' ⟨rfl, rfl⟩) | (go_at_call 41; refine (within_calls a.sh hsha _ _).mono ?_; rintro e w' ⟨rfl, rfl⟩) | (go_at_call 23; refine (label_calls o _ (by omega)).mono ?_; rintro e w' ⟨rfl, rfl⟩))
            exact bodyPost_ret (v := .tuple #[.agg #[S a.name, B a.sh, .int .i64 a.num, .int .i64 a.s, .int .i64 a.t, .int .i64 a.d, .int .i64 a.n, .int .i64 a.raw, .bool a.data, S a.goal, .int .i64 a.line], .int .i64 3]) (by simp [results, Tryz.results27, go_sem]) rfl ⟨ret_ask (x := (a, 3)) (unhide HV), fw_below w _ _ _ _⟩
          · have HV : Hid (fillS a0 os = fillGo (want.drop (k + 1)) (os.drop (k + 1)) { a with t := regI o } x) := by show _ = _; rw [unhide hfill, unhide HS, opStep_t o a x hr]; rfl
            go_wp2_with (first | (go_at_call 40; refine (register_calls o _ (by omega)).mono ?_; rintro e w' ⟨rfl, rfl⟩) | (go_at_call 25; refine (number_calls o _ (by omega)).mono ?_; rintro e w' ⟨rfl, rfl⟩) | (go_at_call 41; refine (within_calls a.sh hsha _ _).mono ?_; rintro e w' ⟨rfl, rfl⟩) | (go_at_call 23; refine (label_calls o _ (by omega)).mono ?_; rintro e w' ⟨rfl, rfl⟩))
            go_roundg (os.length - (k + 1))
            case measure => omega
            case rel => exact ⟨k + 1, n, { a with t := regI o }, x, by omega, rfl, by go_num, rfl, rfl, hash, HV⟩
        · cases hn : numOk o
          · have HV : Hid (fillS a0 os = (a, 3)) := by show _ = _; rw [unhide hfill, unhide HS, opStep_n_bad o a x hn]; rfl
            go_wp2_with (first | (go_at_call 40; refine (register_calls o _ (by omega)).mono ?_; rintro e w' ⟨rfl, rfl⟩) | (go_at_call 25; refine (number_calls o _ (by omega)).mono ?_; rintro e w' ⟨rfl, rfl⟩) | (go_at_call 41; refine (within_calls a.sh hsha _ _).mono ?_; rintro e w' ⟨rfl, rfl⟩) | (go_at_call 23; refine (label_calls o _ (by omega)).mono ?_; rintro e w' ⟨rfl, rfl⟩))
            exact bodyPost_ret (v := .tuple #[.agg #[S a.name, B a.sh, .int .i64 a.num, .int .i64 a.s, .int .i64 a.t, .int .i64 a.d, .int .i64 a.n, .int .i64 a.raw, .bool a.data, S a.goal, .int .i64 a.line], .int .i64 3]) (by simp [results, Tryz.results27, go_sem]) rfl ⟨ret_ask (x := (a, 3)) (unhide HV), fw_below w _ _ _ _⟩
          · cases hi : withinB a.sh (numVal o)
            · have HV : Hid (fillS a0 os = fillGo (want.drop (k + 1)) (os.drop (k + 1)) { a with n := numVal o } 4) := by show _ = _; rw [unhide hfill, unhide HS, opStep_n_out o a x hn hi]; rfl
              go_wp2_with (first | (go_at_call 40; refine (register_calls o _ (by omega)).mono ?_; rintro e w' ⟨rfl, rfl⟩) | (go_at_call 25; refine (number_calls o _ (by omega)).mono ?_; rintro e w' ⟨rfl, rfl⟩) | (go_at_call 41; refine (within_calls a.sh hsha _ _).mono ?_; rintro e w' ⟨rfl, rfl⟩) | (go_at_call 23; refine (label_calls o _ (by omega)).mono ?_; rintro e w' ⟨rfl, rfl⟩))
              go_roundg (os.length - (k + 1))
              case measure => omega
              case rel => exact ⟨k + 1, n, { a with n := numVal o }, 4, by omega, rfl, by go_num, rfl, rfl, hash, HV⟩
            · have HV : Hid (fillS a0 os = fillGo (want.drop (k + 1)) (os.drop (k + 1)) { a with n := numVal o } x) := by show _ = _; rw [unhide hfill, unhide HS, opStep_n_in o a x hn hi]; rfl
              go_wp2_with (first | (go_at_call 40; refine (register_calls o _ (by omega)).mono ?_; rintro e w' ⟨rfl, rfl⟩) | (go_at_call 25; refine (number_calls o _ (by omega)).mono ?_; rintro e w' ⟨rfl, rfl⟩) | (go_at_call 41; refine (within_calls a.sh hsha _ _).mono ?_; rintro e w' ⟨rfl, rfl⟩) | (go_at_call 23; refine (label_calls o _ (by omega)).mono ?_; rintro e w' ⟨rfl, rfl⟩))
              go_roundg (os.length - (k + 1))
              case measure => omega
              case rel => exact ⟨k + 1, n, { a with n := numVal o }, x, by omega, rfl, by go_num, rfl, rfl, hash, HV⟩
        · have hcl : (cutA o 40).length ≤ 2000 := Nat.le_trans (cutA_le o 40) HO
          have hbl : (cutB o 40).length ≤ 2000 := Nat.le_trans (cutB_le o 40) HO
          cases hh : cutH o 40
          · have HV : Hid (fillS a0 os = (a, 3)) := by show _ = _; rw [unhide hfill, unhide HS, opStep_m_no o a x (by rw [hh]; rfl)]; rfl
            go_wp2_with (first | (go_at_call 21; refine (cut40 o _ (by omega)).mono ?_; rintro e w' ⟨rfl, m, rfl⟩) | (go_at_call 22; rw [ext_init]; refine (trim_calls q _ (by omega)).mono ?_; rintro e w' ⟨rfl, rfl⟩) | (go_at_call 22; refine (trim_calls (cutB o 40) _ (by omega)).mono ?_; rintro e w' ⟨rfl, rfl⟩) | (go_at_call 40; refine (register_calls (trim q) _ (by omega)).mono ?_; rintro e w' ⟨rfl, rfl⟩) | (go_at_call 25; refine (number_calls (trim (cutB o 40)) _ (by omega)).mono ?_; rintro e w' ⟨rfl, rfl⟩) | (go_at_call 41; refine (within_calls a.sh hsha _ _).mono ?_; rintro e w' ⟨rfl, rfl⟩))
            exact bodyPost_ret (v := .tuple #[.agg #[S a.name, B a.sh, .int .i64 a.num, .int .i64 a.s, .int .i64 a.t, .int .i64 a.d, .int .i64 a.n, .int .i64 a.raw, .bool a.data, S a.goal, .int .i64 a.line], .int .i64 3]) (by simp [results, Tryz.results27, go_sem]) rfl ⟨ret_ask (x := (a, 3)) (unhide HV), fw_below w _ _ _ _⟩
          · rcases List.eq_nil_or_concat (cutA o 40) with hq | ⟨q, y, hq⟩
            · have HV : Hid (fillS a0 os = (a, 3)) := by show _ = _; rw [unhide hfill, unhide HS, opStep_m_no o a x (by rw [hh, hq]; rfl)]; rfl
              go_wp2_with (first | (go_at_call 21; refine (cut40 o _ (by omega)).mono ?_; rintro e w' ⟨rfl, m, rfl⟩) | (go_at_call 22; rw [ext_init]; refine (trim_calls q _ (by omega)).mono ?_; rintro e w' ⟨rfl, rfl⟩) | (go_at_call 22; refine (trim_calls (cutB o 40) _ (by omega)).mono ?_; rintro e w' ⟨rfl, rfl⟩) | (go_at_call 40; refine (register_calls (trim q) _ (by omega)).mono ?_; rintro e w' ⟨rfl, rfl⟩) | (go_at_call 25; refine (number_calls (trim (cutB o 40)) _ (by omega)).mono ?_; rintro e w' ⟨rfl, rfl⟩) | (go_at_call 41; refine (within_calls a.sh hsha _ _).mono ?_; rintro e w' ⟨rfl, rfl⟩))
              exact bodyPost_ret (v := .tuple #[.agg #[S a.name, B a.sh, .int .i64 a.num, .int .i64 a.s, .int .i64 a.t, .int .i64 a.d, .int .i64 a.n, .int .i64 a.raw, .bool a.data, S a.goal, .int .i64 a.line], .int .i64 3]) (by simp [results, Tryz.results27, go_sem]) rfl ⟨ret_ask (x := (a, 3)) (unhide HV), fw_below w _ _ _ _⟩
            · rw [List.concat_eq_append] at hq
              have hql : q.length + 1 ≤ 2000 := by rw [hq] at hcl; simpa using hcl
              have hq0 : (((q.length : Int) + 1) == 0) = false := by rw [beq_eq_false_iff_ne]; omega
              have hly : ∀ h, (⟨(q ++ [y]).toArray⟩ : ByteArray)[q.length]'h = y := last_at q y
              have htl : (trim q).length ≤ 2000 := by have := trim_le q; omega
              have htb : (trim (cutB o 40)).length ≤ 2000 := by have := trim_le (cutB o 40); omega
              clear hcl
              by_cases hy : y = 41
              · subst hy
                by_cases hr : regI (trim q) < 0
                · have HV : Hid (fillS a0 os = (a, 3)) := by show _ = _; rw [unhide hfill, unhide HS, opStep_m_reg o q a x hh hq hr]; rfl
                  go_wp2_with (first | (go_at_call 21; refine (cut40 o _ (by omega)).mono ?_; rintro e w' ⟨rfl, m, rfl⟩) | (go_at_call 22; rw [ext_init]; refine (trim_calls q _ (by omega)).mono ?_; rintro e w' ⟨rfl, rfl⟩) | (go_at_call 22; refine (trim_calls (cutB o 40) _ (by omega)).mono ?_; rintro e w' ⟨rfl, rfl⟩) | (go_at_call 40; refine (register_calls (trim q) _ (by omega)).mono ?_; rintro e w' ⟨rfl, rfl⟩) | (go_at_call 25; refine (number_calls (trim (cutB o 40)) _ (by omega)).mono ?_; rintro e w' ⟨rfl, rfl⟩) | (go_at_call 41; refine (within_calls a.sh hsha _ _).mono ?_; rintro e w' ⟨rfl, rfl⟩))
                  exact bodyPost_ret (v := .tuple #[.agg #[S a.name, B a.sh, .int .i64 a.num, .int .i64 a.s, .int .i64 a.t, .int .i64 a.d, .int .i64 a.n, .int .i64 a.raw, .bool a.data, S a.goal, .int .i64 a.line], .int .i64 3]) (by simp [results, Tryz.results27, go_sem]) rfl ⟨ret_ask (x := (a, 3)) (unhide HV), fw_below w _ _ _ _⟩
                · cases hn : numOk (trim (cutB o 40))
                  · have HV : Hid (fillS a0 os = ({ a with s := regI (trim q) }, 3)) := by show _ = _; rw [unhide hfill, unhide HS, opStep_m_go o q a x hh hq hr, numStep_bad _ _ _ hn]; rfl
                    go_wp2_with (first | (go_at_call 21; refine (cut40 o _ (by omega)).mono ?_; rintro e w' ⟨rfl, m, rfl⟩) | (go_at_call 22; rw [ext_init]; refine (trim_calls q _ (by omega)).mono ?_; rintro e w' ⟨rfl, rfl⟩) | (go_at_call 22; refine (trim_calls (cutB o 40) _ (by omega)).mono ?_; rintro e w' ⟨rfl, rfl⟩) | (go_at_call 40; refine (register_calls (trim q) _ (by omega)).mono ?_; rintro e w' ⟨rfl, rfl⟩) | (go_at_call 25; refine (number_calls (trim (cutB o 40)) _ (by omega)).mono ?_; rintro e w' ⟨rfl, rfl⟩) | (go_at_call 41; refine (within_calls a.sh hsha _ _).mono ?_; rintro e w' ⟨rfl, rfl⟩))
                    exact bodyPost_ret (v := .tuple #[.agg #[S a.name, B a.sh, .int .i64 a.num, .int .i64 (regI (trim q)), .int .i64 a.t, .int .i64 a.d, .int .i64 a.n, .int .i64 a.raw, .bool a.data, S a.goal, .int .i64 a.line], .int .i64 3]) (by simp [results, Tryz.results27, go_sem]) rfl ⟨ret_ask (x := ({ a with s := regI (trim q) }, 3)) (unhide HV), fw_below w _ _ _ _⟩
                  · cases hi : withinB a.sh (numVal (trim (cutB o 40)))
                    · have HV : Hid (fillS a0 os = fillGo (want.drop (k + 1)) (os.drop (k + 1)) { a with s := regI (trim q), n := numVal (trim (cutB o 40)) } 4) := by show _ = _; rw [unhide hfill, unhide HS, opStep_m_go o q a x hh hq hr, numStep_out _ { a with s := regI (trim q) } _ hn hi]; rfl
                      go_wp2_with (first | (go_at_call 21; refine (cut40 o _ (by omega)).mono ?_; rintro e w' ⟨rfl, m, rfl⟩) | (go_at_call 22; rw [ext_init]; refine (trim_calls q _ (by omega)).mono ?_; rintro e w' ⟨rfl, rfl⟩) | (go_at_call 22; refine (trim_calls (cutB o 40) _ (by omega)).mono ?_; rintro e w' ⟨rfl, rfl⟩) | (go_at_call 40; refine (register_calls (trim q) _ (by omega)).mono ?_; rintro e w' ⟨rfl, rfl⟩) | (go_at_call 25; refine (number_calls (trim (cutB o 40)) _ (by omega)).mono ?_; rintro e w' ⟨rfl, rfl⟩) | (go_at_call 41; refine (within_calls a.sh hsha _ _).mono ?_; rintro e w' ⟨rfl, rfl⟩))
                      go_roundg (os.length - (k + 1))
                      case measure => omega
                      case rel => exact ⟨k + 1, n + m, { a with s := regI (trim q), n := numVal (trim (cutB o 40)) }, 4, by omega, rfl, by go_num, rfl, rfl, hash, HV⟩
                    · have HV : Hid (fillS a0 os = fillGo (want.drop (k + 1)) (os.drop (k + 1)) { a with s := regI (trim q), n := numVal (trim (cutB o 40)) } x) := by show _ = _; rw [unhide hfill, unhide HS, opStep_m_go o q a x hh hq hr, numStep_in _ { a with s := regI (trim q) } _ hn hi]; rfl
                      go_wp2_with (first | (go_at_call 21; refine (cut40 o _ (by omega)).mono ?_; rintro e w' ⟨rfl, m, rfl⟩) | (go_at_call 22; rw [ext_init]; refine (trim_calls q _ (by omega)).mono ?_; rintro e w' ⟨rfl, rfl⟩) | (go_at_call 22; refine (trim_calls (cutB o 40) _ (by omega)).mono ?_; rintro e w' ⟨rfl, rfl⟩) | (go_at_call 40; refine (register_calls (trim q) _ (by omega)).mono ?_; rintro e w' ⟨rfl, rfl⟩) | (go_at_call 25; refine (number_calls (trim (cutB o 40)) _ (by omega)).mono ?_; rintro e w' ⟨rfl, rfl⟩) | (go_at_call 41; refine (within_calls a.sh hsha _ _).mono ?_; rintro e w' ⟨rfl, rfl⟩))
                      go_roundg (os.length - (k + 1))
                      case measure => omega
                      case rel => exact ⟨k + 1, n + m, { a with s := regI (trim q), n := numVal (trim (cutB o 40)) }, x, by omega, rfl, by go_num, rfl, rfl, hash, HV⟩
              · have hy' : ((y.toNat : Int) != 41) = true := by
                  rw [bne_iff_ne]
                  intro h
                  exact hy (UInt8.toNat_inj.1 (by simpa using Int.ofNat.inj h))
                have HV : Hid (fillS a0 os = (a, 3)) := by show _ = _; rw [unhide hfill, unhide HS, opStep_m_no o a x (by rw [hh, hq]; simp [closes, hy])]; rfl
                go_wp2_with (first | (go_at_call 21; refine (cut40 o _ (by omega)).mono ?_; rintro e w' ⟨rfl, m, rfl⟩) | (go_at_call 22; rw [ext_init]; refine (trim_calls q _ (by omega)).mono ?_; rintro e w' ⟨rfl, rfl⟩) | (go_at_call 22; refine (trim_calls (cutB o 40) _ (by omega)).mono ?_; rintro e w' ⟨rfl, rfl⟩) | (go_at_call 40; refine (register_calls (trim q) _ (by omega)).mono ?_; rintro e w' ⟨rfl, rfl⟩) | (go_at_call 25; refine (number_calls (trim (cutB o 40)) _ (by omega)).mono ?_; rintro e w' ⟨rfl, rfl⟩) | (go_at_call 41; refine (within_calls a.sh hsha _ _).mono ?_; rintro e w' ⟨rfl, rfl⟩))
                exact bodyPost_ret (v := .tuple #[.agg #[S a.name, B a.sh, .int .i64 a.num, .int .i64 a.s, .int .i64 a.t, .int .i64 a.d, .int .i64 a.n, .int .i64 a.raw, .bool a.data, S a.goal, .int .i64 a.line], .int .i64 3]) (by simp [results, Tryz.results27, go_sem]) rfl ⟨ret_ask (x := (a, 3)) (unhide HV), fw_below w _ _ _ _⟩
        · cases hb2 : labelB o
          · have HV : Hid (fillS a0 os = (a, 3)) := by show _ = _; rw [unhide hfill, unhide HS, opStep_l_bad o a x hb2]; rfl
            go_wp2_with (first | (go_at_call 40; refine (register_calls o _ (by omega)).mono ?_; rintro e w' ⟨rfl, rfl⟩) | (go_at_call 25; refine (number_calls o _ (by omega)).mono ?_; rintro e w' ⟨rfl, rfl⟩) | (go_at_call 41; refine (within_calls a.sh hsha _ _).mono ?_; rintro e w' ⟨rfl, rfl⟩) | (go_at_call 23; refine (label_calls o _ (by omega)).mono ?_; rintro e w' ⟨rfl, rfl⟩))
            exact bodyPost_ret (v := .tuple #[.agg #[S a.name, B a.sh, .int .i64 a.num, .int .i64 a.s, .int .i64 a.t, .int .i64 a.d, .int .i64 a.n, .int .i64 a.raw, .bool a.data, S a.goal, .int .i64 a.line], .int .i64 3]) (by simp [results, Tryz.results27, go_sem]) rfl ⟨ret_ask (x := (a, 3)) (unhide HV), fw_below w _ _ _ _⟩
          · have HV : Hid (fillS a0 os = fillGo (want.drop (k + 1)) (os.drop (k + 1)) { a with goal := o } x) := by show _ = _; rw [unhide hfill, unhide HS, opStep_l o a x hb2]; rfl
            go_wp2_with (first | (go_at_call 40; refine (register_calls o _ (by omega)).mono ?_; rintro e w' ⟨rfl, rfl⟩) | (go_at_call 25; refine (number_calls o _ (by omega)).mono ?_; rintro e w' ⟨rfl, rfl⟩) | (go_at_call 41; refine (within_calls a.sh hsha _ _).mono ?_; rintro e w' ⟨rfl, rfl⟩) | (go_at_call 23; refine (label_calls o _ (by omega)).mono ?_; rintro e w' ⟨rfl, rfl⟩))
            go_roundg (os.length - (k + 1))
            case measure => omega
            case rel => exact ⟨k + 1, n, { a with goal := o }, x, by omega, rfl, by go_num, rfl, rfl, hash, HV⟩
      · have HV : Hid (fillS a0 os = (a, x)) := by show _ = _; rw [unhide hfill, fillGo_end want os k (by have := unhide HLEN; omega)]
        have hlw : ¬ k < want.length := by have := unhide HLEN; omega
        go_wp2
        exact bodyPost_ret (v := .tuple #[.agg #[S a.name, B a.sh, .int .i64 a.num, .int .i64 a.s, .int .i64 a.t, .int .i64 a.d, .int .i64 a.n, .int .i64 a.raw, .bool a.data, S a.goal, .int .i64 a.line], .int .i64 x]) (by simp [results, Tryz.results27, go_sem]) rfl ⟨ret_ask (x := (a, x)) (unhide HV), fw_below w _ _ _ _⟩
  · have hne : ((os.length : Int) != ((opsOf a0.sh).length : Int)) = true := by rw [bne_iff_ne]; omega
    have HV : Hid (fillS a0 os = (a0, 3)) := by show _ = _; rw [fillS, if_neg hlen]
    have HLEN := hide hlen
    clear hlen
    go_enter Tryz.func27, Tryz.ntmps27
    go_wp2_with (go_at_call 39; refine (operands_calls a0.sh hsh _).mono ?_; rintro e w' ⟨rfl, rfl⟩)
    exact bodyPost_ret (v := .tuple #[.agg #[S a0.name, B a0.sh, .int .i64 a0.num, .int .i64 a0.s, .int .i64 a0.t, .int .i64 a0.d, .int .i64 a0.n, .int .i64 a0.raw, .bool a0.data, S a0.goal, .int .i64 a0.line], .int .i64 3]) (by simp [results, Tryz.results27, go_sem]) rfl ⟨ret_ask (x := (a0, 3)) (unhide HV), fw_below w _ _ _ 0⟩
end Go.Proofs.YtnbhpmncppohaaaGreatDoor.Mill
