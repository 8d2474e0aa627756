import Derived.Test.YtnbhpmncppohaaaGreatDoorMGo
namespace Go.Proofs.YtnbhpmncppohaaaGreatDoor.Mill
open Go.RowKit

/-- what an operands() comes to -/
def KindsMake (ks : List Nat) (w : World) (e : Ending) (w' : World) : Prop :=
  Below w.heap.size w w' ∧ ((e = .returned (.slice none 0 0) ∧ ks = []) ∨ ∃ gk, e = .returned (.slice (some ⟨gk, 0, none⟩) ks.length ks.length) ∧ ks ≠ [] ∧ w.heap.size ≤ gk ∧ w'.heap[gk]? = some (.cells (ks.map fun k : Nat => Value.int .i64 k).toArray 126))
theorem heap_two2 (w : World) (o1 o2 : Obj) : ((w.alloc o1).alloc o2).heap[w.heap.size + 1]? = some o2 := by
  have := heap_alloc_new (w.alloc o1) o2
  simpa using this
set_option maxHeartbeats 1000000 in
set_option maxRecDepth 100000 in
theorem kinds_114 (w : World) : Calls Tryz.prog 138 #[.agg #[]] w fun e w' => KindsMake (kindsOf 114) w e w' := by
  go_enter Tryz.func138, Tryz.ntmps138
  go_wp2
  go_ret
  exact ⟨((Below.refl _ _).alloc (Nat.le_refl _) _).alloc (by simp) _, .inr ⟨w.heap.size + 1, rfl, by decide, by omega, (heap_two2 w _ _)⟩⟩
theorem kindsM_114 : ∀ w, (method 311 90 (.agg #[]) "mill/mill.operands").run Tryz.prog w = .ok (138, .agg #[]) w := fun _ => by kernel_rfl
set_option maxHeartbeats 1000000 in
set_option maxRecDepth 100000 in
theorem kinds_115 (w : World) : Calls Tryz.prog 139 #[.agg #[]] w fun e w' => KindsMake (kindsOf 115) w e w' := by
  go_enter Tryz.func139, Tryz.ntmps139
  go_wp2
  go_ret
  exact ⟨((Below.refl _ _).alloc (Nat.le_refl _) _).alloc (by simp) _, .inr ⟨w.heap.size + 1, rfl, by decide, by omega, (heap_two2 w _ _)⟩⟩
theorem kindsM_115 : ∀ w, (method 311 93 (.agg #[]) "mill/mill.operands").run Tryz.prog w = .ok (139, .agg #[]) w := fun _ => by kernel_rfl
set_option maxHeartbeats 1000000 in
set_option maxRecDepth 100000 in
theorem kinds_118 (w : World) : Calls Tryz.prog 140 #[.agg #[]] w fun e w' => KindsMake (kindsOf 118) w e w' := by
  go_enter Tryz.func140, Tryz.ntmps140
  go_wp2
  go_ret
  exact ⟨((Below.refl _ _).alloc (Nat.le_refl _) _).alloc (by simp) _, .inr ⟨w.heap.size + 1, rfl, by decide, by omega, (heap_two2 w _ _)⟩⟩
theorem kindsM_118 : ∀ w, (method 311 94 (.agg #[]) "mill/mill.operands").run Tryz.prog w = .ok (140, .agg #[]) w := fun _ => by kernel_rfl
set_option maxHeartbeats 1000000 in
set_option maxRecDepth 100000 in
theorem kinds_106 (w : World) : Calls Tryz.prog 141 #[.agg #[]] w fun e w' => KindsMake (kindsOf 106) w e w' := by
  go_enter Tryz.func141, Tryz.ntmps141
  go_wp2
  go_ret
  exact ⟨((Below.refl _ _).alloc (Nat.le_refl _) _).alloc (by simp) _, .inr ⟨w.heap.size + 1, rfl, by decide, by omega, (heap_two2 w _ _)⟩⟩
theorem kindsM_106 : ∀ w, (method 311 95 (.agg #[]) "mill/mill.operands").run Tryz.prog w = .ok (141, .agg #[]) w := fun _ => by kernel_rfl
set_option maxHeartbeats 1000000 in
set_option maxRecDepth 100000 in
theorem kinds_108 (w : World) : Calls Tryz.prog 142 #[.agg #[]] w fun e w' => KindsMake (kindsOf 108) w e w' := by
  go_enter Tryz.func142, Tryz.ntmps142
  go_wp2
  go_ret
  exact ⟨((Below.refl _ _).alloc (Nat.le_refl _) _).alloc (by simp) _, .inr ⟨w.heap.size + 1, rfl, by decide, by omega, (heap_two2 w _ _)⟩⟩
theorem kindsM_108 : ∀ w, (method 311 96 (.agg #[]) "mill/mill.operands").run Tryz.prog w = .ok (142, .agg #[]) w := fun _ => by kernel_rfl
set_option maxHeartbeats 1000000 in
set_option maxRecDepth 100000 in
theorem kinds_120 (w : World) : Calls Tryz.prog 143 #[.agg #[]] w fun e w' => KindsMake (kindsOf 120) w e w' := by
  go_enter Tryz.func143, Tryz.ntmps143
  go_wp2
  go_ret
  exact ⟨(Below.refl _ _).alloc (Nat.le_refl _) _, .inl ⟨rfl, rfl⟩⟩
theorem kindsM_120 : ∀ w, (method 311 97 (.agg #[]) "mill/mill.operands").run Tryz.prog w = .ok (143, .agg #[]) w := fun _ => by kernel_rfl
set_option maxHeartbeats 1000000 in
set_option maxRecDepth 100000 in
theorem kinds_105 (w : World) : Calls Tryz.prog 145 #[.agg #[]] w fun e w' => KindsMake (kindsOf 105) w e w' := by
  go_enter Tryz.func145, Tryz.ntmps145
  go_wp2
  go_ret
  exact ⟨((Below.refl _ _).alloc (Nat.le_refl _) _).alloc (by simp) _, .inr ⟨w.heap.size + 1, rfl, by decide, by omega, (heap_two2 w _ _)⟩⟩
theorem kindsM_105 : ∀ w, (method 311 100 (.agg #[]) "mill/mill.operands").run Tryz.prog w = .ok (145, .agg #[]) w := fun _ => by kernel_rfl
set_option maxHeartbeats 1000000 in
set_option maxRecDepth 100000 in
theorem kinds_117 (w : World) : Calls Tryz.prog 146 #[.agg #[]] w fun e w' => KindsMake (kindsOf 117) w e w' := by
  go_enter Tryz.func146, Tryz.ntmps146
  go_wp2
  go_ret
  exact ⟨((Below.refl _ _).alloc (Nat.le_refl _) _).alloc (by simp) _, .inr ⟨w.heap.size + 1, rfl, by decide, by omega, (heap_two2 w _ _)⟩⟩
theorem kindsM_117 : ∀ w, (method 311 101 (.agg #[]) "mill/mill.operands").run Tryz.prog w = .ok (146, .agg #[]) w := fun _ => by kernel_rfl
set_option maxHeartbeats 1000000 in
set_option maxRecDepth 100000 in
theorem kinds_104 (w : World) : Calls Tryz.prog 147 #[.agg #[]] w fun e w' => KindsMake (kindsOf 104) w e w' := by
  go_enter Tryz.func147, Tryz.ntmps147
  go_wp2
  go_ret
  exact ⟨((Below.refl _ _).alloc (Nat.le_refl _) _).alloc (by simp) _, .inr ⟨w.heap.size + 1, rfl, by decide, by omega, (heap_two2 w _ _)⟩⟩
theorem kindsM_104 : ∀ w, (method 311 102 (.agg #[]) "mill/mill.operands").run Tryz.prog w = .ok (147, .agg #[]) w := fun _ => by kernel_rfl
set_option maxHeartbeats 1000000 in
set_option maxRecDepth 100000 in
theorem kinds_109 (w : World) : Calls Tryz.prog 148 #[.agg #[]] w fun e w' => KindsMake (kindsOf 109) w e w' := by
  go_enter Tryz.func148, Tryz.ntmps148
  go_wp2
  go_ret
  exact ⟨((Below.refl _ _).alloc (Nat.le_refl _) _).alloc (by simp) _, .inr ⟨w.heap.size + 1, rfl, by decide, by omega, (heap_two2 w _ _)⟩⟩
theorem kindsM_109 : ∀ w, (method 311 103 (.agg #[]) "mill/mill.operands").run Tryz.prog w = .ok (148, .agg #[]) w := fun _ => by kernel_rfl
set_option maxHeartbeats 1000000 in
set_option maxRecDepth 100000 in
theorem kinds_98 (w : World) : Calls Tryz.prog 149 #[.agg #[]] w fun e w' => KindsMake (kindsOf 98) w e w' := by
  go_enter Tryz.func149, Tryz.ntmps149
  go_wp2
  go_ret
  exact ⟨((Below.refl _ _).alloc (Nat.le_refl _) _).alloc (by simp) _, .inr ⟨w.heap.size + 1, rfl, by decide, by omega, (heap_two2 w _ _)⟩⟩
theorem kindsM_98 : ∀ w, (method 311 104 (.agg #[]) "mill/mill.operands").run Tryz.prog w = .ok (149, .agg #[]) w := fun _ => by kernel_rfl
set_option maxHeartbeats 1000000 in
set_option maxRecDepth 100000 in
theorem kinds_122 (w : World) : Calls Tryz.prog 150 #[.agg #[]] w fun e w' => KindsMake (kindsOf 122) w e w' := by
  go_enter Tryz.func150, Tryz.ntmps150
  go_wp2
  go_ret
  exact ⟨((Below.refl _ _).alloc (Nat.le_refl _) _).alloc (by simp) _, .inr ⟨w.heap.size + 1, rfl, by decide, by omega, (heap_two2 w _ _)⟩⟩
theorem kindsM_122 : ∀ w, (method 311 105 (.agg #[]) "mill/mill.operands").run Tryz.prog w = .ok (150, .agg #[]) w := fun _ => by kernel_rfl
set_option maxHeartbeats 1000000 in
set_option maxRecDepth 100000 in
theorem kinds_121 (w : World) : Calls Tryz.prog 152 #[.agg #[]] w fun e w' => KindsMake (kindsOf 121) w e w' := by
  go_enter Tryz.func152, Tryz.ntmps152
  go_wp2
  go_ret
  exact ⟨((Below.refl _ _).alloc (Nat.le_refl _) _).alloc (by simp) _, .inr ⟨w.heap.size + 1, rfl, by decide, by omega, (heap_two2 w _ _)⟩⟩
theorem kindsM_121 : ∀ w, (method 311 108 (.agg #[]) "mill/mill.operands").run Tryz.prog w = .ok (152, .agg #[]) w := fun _ => by kernel_rfl
set_option maxHeartbeats 1000000 in
set_option maxRecDepth 100000 in
theorem kinds_116 (w : World) : Calls Tryz.prog 153 #[.agg #[]] w fun e w' => KindsMake (kindsOf 116) w e w' := by
  go_enter Tryz.func153, Tryz.ntmps153
  go_wp2
  go_ret
  exact ⟨((Below.refl _ _).alloc (Nat.le_refl _) _).alloc (by simp) _, .inr ⟨w.heap.size + 1, rfl, by decide, by omega, (heap_two2 w _ _)⟩⟩
theorem kindsM_116 : ∀ w, (method 311 109 (.agg #[]) "mill/mill.operands").run Tryz.prog w = .ok (153, .agg #[]) w := fun _ => by kernel_rfl
/-- the method of a shape, and what it comes to -/
theorem kinds_calls (sh : UInt8) (hs : sh ∈ shapes) : ∃ K, (∀ w, (method 311 (shapeT sh) (.agg #[]) "mill/mill.operands").run Tryz.prog w = .ok (K, .agg #[]) w) ∧ ∀ w, Calls Tryz.prog K #[.agg #[]] w fun e w' => KindsMake (kindsOf sh) w e w' := by
  simp only [shapes, List.mem_cons, List.mem_nil_iff, or_false] at hs
  rcases hs with rfl | rfl | rfl | rfl | rfl | rfl | rfl | rfl | rfl | rfl | rfl | rfl | rfl | rfl
  · exact ⟨_, kindsM_114, kinds_114⟩
  · exact ⟨_, kindsM_115, kinds_115⟩
  · exact ⟨_, kindsM_118, kinds_118⟩
  · exact ⟨_, kindsM_106, kinds_106⟩
  · exact ⟨_, kindsM_108, kinds_108⟩
  · exact ⟨_, kindsM_120, kinds_120⟩
  · exact ⟨_, kindsM_105, kinds_105⟩
  · exact ⟨_, kindsM_117, kinds_117⟩
  · exact ⟨_, kindsM_104, kinds_104⟩
  · exact ⟨_, kindsM_109, kinds_109⟩
  · exact ⟨_, kindsM_98, kinds_98⟩
  · exact ⟨_, kindsM_122, kinds_122⟩
  · exact ⟨_, kindsM_121, kinds_121⟩
  · exact ⟨_, kindsM_116, kinds_116⟩
end Go.Proofs.YtnbhpmncppohaaaGreatDoor.Mill
