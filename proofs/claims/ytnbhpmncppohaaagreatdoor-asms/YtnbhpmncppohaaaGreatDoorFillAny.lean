import Derived.Test.YtnbhpmncppohaaaGreatDoorLines
namespace Go.Proofs.YtnbhpmncppohaaaGreatDoor.Mill
open Go.RowKit
attribute [local go_sem] setCell_drewN alloc_drewN

theorem opsOf_len (sh : UInt8) (h : sh ∈ shapes) : (opsOf sh).length = 0 → sh = 120 := by
  simp only [shapes, List.mem_cons, List.mem_nil_iff, or_false] at h
  rcases h with rfl | rfl | rfl | rfl | rfl | rfl | rfl | rfl | rfl | rfl | rfl | rfl | rfl | rfl
  all_goals decide

set_option maxHeartbeats 1000000 in
set_option maxRecDepth 100000 in
theorem filled_nil (a0 : Ak) (hsh : a0.sh ∈ shapes) (lab nam : List UInt8) (N : Int) (w : World) :
    Calls Tryz.prog 27 #[.agg #[S a0.name, B a0.sh, .int .i64 a0.num, .int .i64 a0.s, .int .i64 a0.t, .int .i64 a0.d, .int .i64 a0.n, .int .i64 a0.raw, .bool a0.data, S a0.goal, .int .i64 a0.line], .agg #[S lab, S nam, .slice none 0 0, .int .i64 N]] w fun e w' => e = .returned (.tuple #[.agg (fillS a0 []).1.cells, .int .i64 (fillS a0 []).2]) ∧ Below w.heap.size w w' := by
  generalize hwant : opsOf a0.sh = want
  have HW := hide hwant
  by_cases hlen : want.length = 0
  · obtain rfl : want = [] := List.eq_nil_of_length_eq_zero hlen
    have HV : Hid (fillS a0 [] = (a0, 0)) := by show _ = _; simp [fillS, hwant, fillGo]
    clear hwant hlen
    go_enter Tryz.func27, Tryz.ntmps27
    go_wp2_with (go_at_call 39; refine (operands_calls a0.sh hsh _).mono ?_; rintro e w' ⟨rfl, rfl⟩; rw [unhide HW])
    go_loopg [7, 8] 0 (fun g ev i wx => g = 0 ∧ i = .int .i64 0 ∧ ev = .int .i64 0 ∧ wx = (((w.alloc (.cells #[S a0.name, B a0.sh, .int .i64 a0.num, .int .i64 a0.s, .int .i64 a0.t, .int .i64 a0.d, .int .i64 a0.n, .int .i64 a0.raw, .bool a0.data, S a0.goal, .int .i64 a0.line] 56)).alloc (.cells #[S lab, S nam, .slice none 0 0, .int .i64 N] 50)).alloc (.cells #[.string { data := #[] }, .int .u8 0, .int .i64 0, .int .i64 0, .int .i64 0, .int .i64 0, .int .i64 0, .int .i64 0, .bool false, .string { data := #[] }, .int .i64 0] 56)))
    case atStart => exact ⟨rfl, rfl, rfl, rfl⟩
    case round =>
      obtain ⟨rfl, rfl, rfl, rfl⟩ := hrel
      go_wp2
      exact bodyPost_ret (v := .tuple #[.agg #[S a0.name, B a0.sh, .int .i64 a0.num, .int .i64 a0.s, .int .i64 a0.t, .int .i64 a0.d, .int .i64 a0.n, .int .i64 a0.raw, .bool a0.data, S a0.goal, .int .i64 a0.line], .int .i64 0]) (by simp [results, Tryz.results27, go_sem]) rfl ⟨ret_ask (x := (a0, 0)) (unhide HV), fw_below w _ _ _ 0⟩
  · have HV : Hid (fillS a0 [] = (a0, 3)) := by show _ = _; rw [fillS, hwant, if_neg (by simpa using Ne.symm hlen)]
    have hne : ((0 : Int) != (want.length : Int)) = true := by rw [bne_iff_ne]; omega
    clear hwant hlen
    go_enter Tryz.func27, Tryz.ntmps27
    go_wp2_with (go_at_call 39; refine (operands_calls a0.sh hsh _).mono ?_; rintro e w' ⟨rfl, rfl⟩; rw [unhide HW])
    exact bodyPost_ret (v := .tuple #[.agg #[S a0.name, B a0.sh, .int .i64 a0.num, .int .i64 a0.s, .int .i64 a0.t, .int .i64 a0.d, .int .i64 a0.n, .int .i64 a0.raw, .bool a0.data, S a0.goal, .int .i64 a0.line], .int .i64 3]) (by simp [results, Tryz.results27, go_sem]) rfl ⟨ret_ask (x := (a0, 3)) (unhide HV), fw_below w _ _ _ 0⟩

/-- filled, whatever the operands' slice -/
theorem filled_any (a0 : Ak) (hsh : a0.sh ∈ shapes) (lab nam : List UInt8) (os : List (List UInt8)) (N : Int) (vo : Value) (Bs : Nat) (w : World)
    (hos : os.length ≤ 2000) (hol : ∀ o ∈ os, o.length ≤ 2000) (ho : w.ownsRow Bs 9 1 vo os.length (os.map S)) :
    Calls Tryz.prog 27 #[.agg #[S a0.name, B a0.sh, .int .i64 a0.num, .int .i64 a0.s, .int .i64 a0.t, .int .i64 a0.d, .int .i64 a0.n, .int .i64 a0.raw, .bool a0.data, S a0.goal, .int .i64 a0.line], .agg #[S lab, S nam, vo, .int .i64 N]] w fun e w' => e = .returned (.tuple #[.agg (fillS a0 os).1.cells, .int .i64 (fillS a0 os).2]) ∧ Below w.heap.size w w' := by
  have ho' := ho
  rcases ho.2 with ⟨rfl, h0⟩ | ⟨g, cap, cur, rfl, _, hg, _⟩
  · obtain rfl : os = [] := List.eq_nil_of_length_eq_zero h0
    exact filled_nil a0 hsh lab nam N w
  · refine filled_calls a0 hsh lab nam os N g cap w hos hol (Array.getElem?_eq_some_iff.1 hg).1 (fun k hk => ?_)
    have := ho'.cells (g := g) rfl k (S os[k]) (by simp [hk])
    have hadd : (⟨g, 0, none⟩ : Addr).add k = ⟨g, k, none⟩ := by unfold Addr.add; split <;> simp_all
    rwa [hadd] at this
end Go.Proofs.YtnbhpmncppohaaaGreatDoor.Mill
