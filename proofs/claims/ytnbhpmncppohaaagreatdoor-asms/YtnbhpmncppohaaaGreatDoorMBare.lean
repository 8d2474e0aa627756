import Derived.Test.YtnbhpmncppohaaaGreatDoorMGo
namespace Go.Proofs.YtnbhpmncppohaaaGreatDoor.Mill
open Go.RowKit

theorem bare_t (num : Nat) (hn : num ≤ 1) : bits .or .u32 67108864 ((num : Int) * 65536) = 67108864 + (num : Int) * 65536 := by
  rw [or_16 _ _ (by omega) (by omega) (by omega) (by omega) (by omega)]
set_option maxHeartbeats 1000000 in
set_option maxRecDepth 100000 in
theorem bare_114 (num : Nat) (_hn : num ≤ 63) (w : World) :
    Calls Tryz.prog 52 #[.agg #[.int .u32 num, shapeV 114]] w fun e w' => e = .returned (.int .u32 (bareOf 114 num)) ∧ Below w.heap.size w w' := by
  rw [show shapeV 114 = .iface 90 (.agg #[]) from rfl]
  have hm : ∀ w, (method 311 90 (.agg #[]) "mill/mill.bare").run Tryz.prog w = .ok (137, .agg #[]) w := fun _ => by kernel_rfl
  go_enter Tryz.func52, Tryz.ntmps52
  go_wp2
  go_ret
  exact ⟨rfl, ((Below.refl _ _).alloc (Nat.le_refl _) _).alloc (by simp) _⟩
set_option maxHeartbeats 1000000 in
set_option maxRecDepth 100000 in
theorem bare_115 (num : Nat) (_hn : num ≤ 63) (w : World) :
    Calls Tryz.prog 52 #[.agg #[.int .u32 num, shapeV 115]] w fun e w' => e = .returned (.int .u32 (bareOf 115 num)) ∧ Below w.heap.size w w' := by
  rw [show shapeV 115 = .iface 93 (.agg #[]) from rfl]
  have hm : ∀ w, (method 311 93 (.agg #[]) "mill/mill.bare").run Tryz.prog w = .ok (137, .agg #[]) w := fun _ => by kernel_rfl
  go_enter Tryz.func52, Tryz.ntmps52
  go_wp2
  go_ret
  exact ⟨rfl, ((Below.refl _ _).alloc (Nat.le_refl _) _).alloc (by simp) _⟩
set_option maxHeartbeats 1000000 in
set_option maxRecDepth 100000 in
theorem bare_118 (num : Nat) (_hn : num ≤ 63) (w : World) :
    Calls Tryz.prog 52 #[.agg #[.int .u32 num, shapeV 118]] w fun e w' => e = .returned (.int .u32 (bareOf 118 num)) ∧ Below w.heap.size w w' := by
  rw [show shapeV 118 = .iface 94 (.agg #[]) from rfl]
  have hm : ∀ w, (method 311 94 (.agg #[]) "mill/mill.bare").run Tryz.prog w = .ok (137, .agg #[]) w := fun _ => by kernel_rfl
  go_enter Tryz.func52, Tryz.ntmps52
  go_wp2
  go_ret
  exact ⟨rfl, ((Below.refl _ _).alloc (Nat.le_refl _) _).alloc (by simp) _⟩
set_option maxHeartbeats 1000000 in
set_option maxRecDepth 100000 in
theorem bare_106 (num : Nat) (_hn : num ≤ 63) (w : World) :
    Calls Tryz.prog 52 #[.agg #[.int .u32 num, shapeV 106]] w fun e w' => e = .returned (.int .u32 (bareOf 106 num)) ∧ Below w.heap.size w w' := by
  rw [show shapeV 106 = .iface 95 (.agg #[]) from rfl]
  have hm : ∀ w, (method 311 95 (.agg #[]) "mill/mill.bare").run Tryz.prog w = .ok (137, .agg #[]) w := fun _ => by kernel_rfl
  go_enter Tryz.func52, Tryz.ntmps52
  go_wp2
  go_ret
  exact ⟨rfl, ((Below.refl _ _).alloc (Nat.le_refl _) _).alloc (by simp) _⟩
set_option maxHeartbeats 1000000 in
set_option maxRecDepth 100000 in
theorem bare_108 (num : Nat) (_hn : num ≤ 63) (w : World) :
    Calls Tryz.prog 52 #[.agg #[.int .u32 num, shapeV 108]] w fun e w' => e = .returned (.int .u32 (bareOf 108 num)) ∧ Below w.heap.size w w' := by
  rw [show shapeV 108 = .iface 96 (.agg #[]) from rfl]
  have hm : ∀ w, (method 311 96 (.agg #[]) "mill/mill.bare").run Tryz.prog w = .ok (137, .agg #[]) w := fun _ => by kernel_rfl
  go_enter Tryz.func52, Tryz.ntmps52
  go_wp2
  go_ret
  exact ⟨rfl, ((Below.refl _ _).alloc (Nat.le_refl _) _).alloc (by simp) _⟩
set_option maxHeartbeats 1000000 in
set_option maxRecDepth 100000 in
theorem bare_120 (num : Nat) (_hn : num ≤ 63) (w : World) :
    Calls Tryz.prog 52 #[.agg #[.int .u32 num, shapeV 120]] w fun e w' => e = .returned (.int .u32 (bareOf 120 num)) ∧ Below w.heap.size w w' := by
  rw [show shapeV 120 = .iface 97 (.agg #[]) from rfl]
  have hm : ∀ w, (method 311 97 (.agg #[]) "mill/mill.bare").run Tryz.prog w = .ok (137, .agg #[]) w := fun _ => by kernel_rfl
  go_enter Tryz.func52, Tryz.ntmps52
  go_wp2
  go_ret
  exact ⟨rfl, ((Below.refl _ _).alloc (Nat.le_refl _) _).alloc (by simp) _⟩
set_option maxHeartbeats 1000000 in
set_option maxRecDepth 100000 in
theorem bare_105 (num : Nat) (hn : num ≤ 63) (w : World) :
    Calls Tryz.prog 52 #[.agg #[.int .u32 num, shapeV 105]] w fun e w' => e = .returned (.int .u32 (bareOf 105 num)) ∧ Below w.heap.size w w' := by
  rw [show shapeV 105 = .iface 100 (.agg #[]) from rfl]
  have hm : ∀ w, (method 311 100 (.agg #[]) "mill/mill.bare").run Tryz.prog w = .ok (144, .agg #[]) w := fun _ => by kernel_rfl
  go_enter Tryz.func52, Tryz.ntmps52
  go_wp2
  go_ret
  exact ⟨rfl, ((Below.refl _ _).alloc (Nat.le_refl _) _).alloc (by simp) _⟩
set_option maxHeartbeats 1000000 in
set_option maxRecDepth 100000 in
theorem bare_117 (num : Nat) (hn : num ≤ 63) (w : World) :
    Calls Tryz.prog 52 #[.agg #[.int .u32 num, shapeV 117]] w fun e w' => e = .returned (.int .u32 (bareOf 117 num)) ∧ Below w.heap.size w w' := by
  rw [show shapeV 117 = .iface 101 (.agg #[]) from rfl]
  have hm : ∀ w, (method 311 101 (.agg #[]) "mill/mill.bare").run Tryz.prog w = .ok (144, .agg #[]) w := fun _ => by kernel_rfl
  go_enter Tryz.func52, Tryz.ntmps52
  go_wp2
  go_ret
  exact ⟨rfl, ((Below.refl _ _).alloc (Nat.le_refl _) _).alloc (by simp) _⟩
set_option maxHeartbeats 1000000 in
set_option maxRecDepth 100000 in
theorem bare_104 (num : Nat) (hn : num ≤ 63) (w : World) :
    Calls Tryz.prog 52 #[.agg #[.int .u32 num, shapeV 104]] w fun e w' => e = .returned (.int .u32 (bareOf 104 num)) ∧ Below w.heap.size w w' := by
  rw [show shapeV 104 = .iface 102 (.agg #[]) from rfl]
  have hm : ∀ w, (method 311 102 (.agg #[]) "mill/mill.bare").run Tryz.prog w = .ok (144, .agg #[]) w := fun _ => by kernel_rfl
  go_enter Tryz.func52, Tryz.ntmps52
  go_wp2
  go_ret
  exact ⟨rfl, ((Below.refl _ _).alloc (Nat.le_refl _) _).alloc (by simp) _⟩
set_option maxHeartbeats 1000000 in
set_option maxRecDepth 100000 in
theorem bare_109 (num : Nat) (hn : num ≤ 63) (w : World) :
    Calls Tryz.prog 52 #[.agg #[.int .u32 num, shapeV 109]] w fun e w' => e = .returned (.int .u32 (bareOf 109 num)) ∧ Below w.heap.size w w' := by
  rw [show shapeV 109 = .iface 103 (.agg #[]) from rfl]
  have hm : ∀ w, (method 311 103 (.agg #[]) "mill/mill.bare").run Tryz.prog w = .ok (144, .agg #[]) w := fun _ => by kernel_rfl
  go_enter Tryz.func52, Tryz.ntmps52
  go_wp2
  go_ret
  exact ⟨rfl, ((Below.refl _ _).alloc (Nat.le_refl _) _).alloc (by simp) _⟩
set_option maxHeartbeats 1000000 in
set_option maxRecDepth 100000 in
theorem bare_98 (num : Nat) (hn : num ≤ 63) (w : World) :
    Calls Tryz.prog 52 #[.agg #[.int .u32 num, shapeV 98]] w fun e w' => e = .returned (.int .u32 (bareOf 98 num)) ∧ Below w.heap.size w w' := by
  rw [show shapeV 98 = .iface 104 (.agg #[]) from rfl]
  have hm : ∀ w, (method 311 104 (.agg #[]) "mill/mill.bare").run Tryz.prog w = .ok (144, .agg #[]) w := fun _ => by kernel_rfl
  go_enter Tryz.func52, Tryz.ntmps52
  go_wp2
  go_ret
  exact ⟨rfl, ((Below.refl _ _).alloc (Nat.le_refl _) _).alloc (by simp) _⟩
set_option maxHeartbeats 1000000 in
set_option maxRecDepth 100000 in
theorem bare_122 (num : Nat) (hn : num ≤ 63) (w : World) :
    Calls Tryz.prog 52 #[.agg #[.int .u32 num, shapeV 122]] w fun e w' => e = .returned (.int .u32 (bareOf 122 num)) ∧ Below w.heap.size w w' := by
  rw [show shapeV 122 = .iface 105 (.agg #[]) from rfl]
  have hm : ∀ w, (method 311 105 (.agg #[]) "mill/mill.bare").run Tryz.prog w = .ok (144, .agg #[]) w := fun _ => by kernel_rfl
  go_enter Tryz.func52, Tryz.ntmps52
  go_wp2
  go_ret
  exact ⟨rfl, ((Below.refl _ _).alloc (Nat.le_refl _) _).alloc (by simp) _⟩
set_option maxHeartbeats 1000000 in
set_option maxRecDepth 100000 in
theorem bare_121 (num : Nat) (hn : num ≤ 1) (w : World) :
    Calls Tryz.prog 52 #[.agg #[.int .u32 num, shapeV 121]] w fun e w' => e = .returned (.int .u32 (bareOf 121 num)) ∧ Below w.heap.size w w' := by
  rw [show shapeV 121 = .iface 108 (.agg #[]) from rfl]
  have hm : ∀ w, (method 311 108 (.agg #[]) "mill/mill.bare").run Tryz.prog w = .ok (151, .agg #[]) w := fun _ => by kernel_rfl
  go_enter Tryz.func52, Tryz.ntmps52
  go_wp2
  go_ret
  exact ⟨congrArg (fun x => Ending.returned (Value.int .u32 x)) (bare_t num hn), ((Below.refl _ _).alloc (Nat.le_refl _) _).alloc (by simp) _⟩
set_option maxHeartbeats 1000000 in
set_option maxRecDepth 100000 in
theorem bare_116 (num : Nat) (hn : num ≤ 63) (w : World) :
    Calls Tryz.prog 52 #[.agg #[.int .u32 num, shapeV 116]] w fun e w' => e = .returned (.int .u32 (bareOf 116 num)) ∧ Below w.heap.size w w' := by
  rw [show shapeV 116 = .iface 109 (.agg #[]) from rfl]
  have hm : ∀ w, (method 311 109 (.agg #[]) "mill/mill.bare").run Tryz.prog w = .ok (144, .agg #[]) w := fun _ => by kernel_rfl
  go_enter Tryz.func52, Tryz.ntmps52
  go_wp2
  go_ret
  exact ⟨rfl, ((Below.refl _ _).alloc (Nat.le_refl _) _).alloc (by simp) _⟩
theorem bare_calls (sh : UInt8) (hs : sh ∈ shapes) (num : Nat) (hn : num ≤ 63) (hy : sh = 121 → num ≤ 1) (w : World) :
    Calls Tryz.prog 52 #[.agg #[.int .u32 num, shapeV sh]] w fun e w' => e = .returned (.int .u32 (bareOf sh num)) ∧ Below w.heap.size w w' := by
  simp only [shapes, List.mem_cons, List.mem_nil_iff, or_false] at hs
  rcases hs with rfl | rfl | rfl | rfl | rfl | rfl | rfl | rfl | rfl | rfl | rfl | rfl | rfl | rfl
  · exact bare_114 num hn w
  · exact bare_115 num hn w
  · exact bare_118 num hn w
  · exact bare_106 num hn w
  · exact bare_108 num hn w
  · exact bare_120 num hn w
  · exact bare_105 num hn w
  · exact bare_117 num hn w
  · exact bare_104 num hn w
  · exact bare_109 num hn w
  · exact bare_98 num hn w
  · exact bare_122 num hn w
  · exact bare_121 num (hy rfl) w
  · exact bare_116 num hn w
end Go.Proofs.YtnbhpmncppohaaaGreatDoor.Mill
