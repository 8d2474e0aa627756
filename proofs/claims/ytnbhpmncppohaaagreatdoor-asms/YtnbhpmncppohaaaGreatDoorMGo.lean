import Derived.Test.YtnbhpmncppohaaaGreatDoorMAdd
namespace Go.Proofs.YtnbhpmncppohaaaGreatDoor.Mill
open Go.RowKit

/-- the shapes' types -/
def shapeT (sh : UInt8) : Nat :=
  if sh = 114 then 90 else if sh = 115 then 93 else if sh = 118 then 94 else if sh = 106 then 95 else if sh = 108 then 96
  else if sh = 120 then 97 else if sh = 105 then 100 else if sh = 117 then 101 else if sh = 104 then 102 else if sh = 109 then 103
  else if sh = 98 then 104 else if sh = 122 then 105 else if sh = 121 then 108 else 109
def shapeV (sh : UInt8) : Value := .iface (shapeT sh) (.agg #[])
/-- the bits that tell where a word goes -/
def goingM (sh : UInt8) : Int := if sh = 116 then 67108863 else if sh = 98 ∨ sh = 122 ∨ sh = 121 then 65535 else 0
/-- what stands there -/
def goingI (sh : UInt8) (fr dst : Int) : Int :=
  if sh = 116 then bits .and .u32 (IntKind.u32.wrap (dst / 4)) 67108863 else if sh = 98 ∨ sh = 122 ∨ sh = 121 then bits .and .u32 (IntKind.u32.wrap ((dst - fr).tdiv 4 - 1)) 65535 else 0

set_option maxHeartbeats 4000000 in
set_option maxRecDepth 100000 in
theorem goingBits_calls (sh : UInt8) (hs : sh ∈ shapes) (w : World) :
    Calls Tryz.prog 36 #[shapeV sh] w fun e w' => e = .returned (.int .u32 (goingM sh)) ∧ Below w.heap.size w w' := by
  simp only [shapes, List.mem_cons, List.mem_nil_iff, or_false] at hs
  rcases hs with rfl | rfl | rfl | rfl | rfl | rfl | rfl | rfl | rfl | rfl | rfl | rfl | rfl | rfl
  · rw [show shapeV 114 = .iface 90 (.agg #[]) from rfl]
    have q0 : ∀ w, (Instr.typeAssert (.iface 90 (.agg #[])) 68 109 true).run Tryz.prog w = .ok (.tuple #[.agg #[], .bool false]) w := fun _ => by kernel_rfl
    have q1 : ∀ w, (Instr.typeAssert (.iface 90 (.agg #[])) 68 104 true).run Tryz.prog w = .ok (.tuple #[.agg #[], .bool false]) w := fun _ => by kernel_rfl
    have q2 : ∀ w, (Instr.typeAssert (.iface 90 (.agg #[])) 68 105 true).run Tryz.prog w = .ok (.tuple #[.agg #[], .bool false]) w := fun _ => by kernel_rfl
    have q3 : ∀ w, (Instr.typeAssert (.iface 90 (.agg #[])) 68 108 true).run Tryz.prog w = .ok (.tuple #[.agg #[], .bool false]) w := fun _ => by kernel_rfl
    go_enter Tryz.func36, Tryz.ntmps36
    go_wp2_with fail
    go_ret
    exact ⟨rfl, Below.refl _ _⟩
  · rw [show shapeV 115 = .iface 93 (.agg #[]) from rfl]
    have q0 : ∀ w, (Instr.typeAssert (.iface 93 (.agg #[])) 68 109 true).run Tryz.prog w = .ok (.tuple #[.agg #[], .bool false]) w := fun _ => by kernel_rfl
    have q1 : ∀ w, (Instr.typeAssert (.iface 93 (.agg #[])) 68 104 true).run Tryz.prog w = .ok (.tuple #[.agg #[], .bool false]) w := fun _ => by kernel_rfl
    have q2 : ∀ w, (Instr.typeAssert (.iface 93 (.agg #[])) 68 105 true).run Tryz.prog w = .ok (.tuple #[.agg #[], .bool false]) w := fun _ => by kernel_rfl
    have q3 : ∀ w, (Instr.typeAssert (.iface 93 (.agg #[])) 68 108 true).run Tryz.prog w = .ok (.tuple #[.agg #[], .bool false]) w := fun _ => by kernel_rfl
    go_enter Tryz.func36, Tryz.ntmps36
    go_wp2_with fail
    go_ret
    exact ⟨rfl, Below.refl _ _⟩
  · rw [show shapeV 118 = .iface 94 (.agg #[]) from rfl]
    have q0 : ∀ w, (Instr.typeAssert (.iface 94 (.agg #[])) 68 109 true).run Tryz.prog w = .ok (.tuple #[.agg #[], .bool false]) w := fun _ => by kernel_rfl
    have q1 : ∀ w, (Instr.typeAssert (.iface 94 (.agg #[])) 68 104 true).run Tryz.prog w = .ok (.tuple #[.agg #[], .bool false]) w := fun _ => by kernel_rfl
    have q2 : ∀ w, (Instr.typeAssert (.iface 94 (.agg #[])) 68 105 true).run Tryz.prog w = .ok (.tuple #[.agg #[], .bool false]) w := fun _ => by kernel_rfl
    have q3 : ∀ w, (Instr.typeAssert (.iface 94 (.agg #[])) 68 108 true).run Tryz.prog w = .ok (.tuple #[.agg #[], .bool false]) w := fun _ => by kernel_rfl
    go_enter Tryz.func36, Tryz.ntmps36
    go_wp2_with fail
    go_ret
    exact ⟨rfl, Below.refl _ _⟩
  · rw [show shapeV 106 = .iface 95 (.agg #[]) from rfl]
    have q0 : ∀ w, (Instr.typeAssert (.iface 95 (.agg #[])) 68 109 true).run Tryz.prog w = .ok (.tuple #[.agg #[], .bool false]) w := fun _ => by kernel_rfl
    have q1 : ∀ w, (Instr.typeAssert (.iface 95 (.agg #[])) 68 104 true).run Tryz.prog w = .ok (.tuple #[.agg #[], .bool false]) w := fun _ => by kernel_rfl
    have q2 : ∀ w, (Instr.typeAssert (.iface 95 (.agg #[])) 68 105 true).run Tryz.prog w = .ok (.tuple #[.agg #[], .bool false]) w := fun _ => by kernel_rfl
    have q3 : ∀ w, (Instr.typeAssert (.iface 95 (.agg #[])) 68 108 true).run Tryz.prog w = .ok (.tuple #[.agg #[], .bool false]) w := fun _ => by kernel_rfl
    go_enter Tryz.func36, Tryz.ntmps36
    go_wp2_with fail
    go_ret
    exact ⟨rfl, Below.refl _ _⟩
  · rw [show shapeV 108 = .iface 96 (.agg #[]) from rfl]
    have q0 : ∀ w, (Instr.typeAssert (.iface 96 (.agg #[])) 68 109 true).run Tryz.prog w = .ok (.tuple #[.agg #[], .bool false]) w := fun _ => by kernel_rfl
    have q1 : ∀ w, (Instr.typeAssert (.iface 96 (.agg #[])) 68 104 true).run Tryz.prog w = .ok (.tuple #[.agg #[], .bool false]) w := fun _ => by kernel_rfl
    have q2 : ∀ w, (Instr.typeAssert (.iface 96 (.agg #[])) 68 105 true).run Tryz.prog w = .ok (.tuple #[.agg #[], .bool false]) w := fun _ => by kernel_rfl
    have q3 : ∀ w, (Instr.typeAssert (.iface 96 (.agg #[])) 68 108 true).run Tryz.prog w = .ok (.tuple #[.agg #[], .bool false]) w := fun _ => by kernel_rfl
    go_enter Tryz.func36, Tryz.ntmps36
    go_wp2_with fail
    go_ret
    exact ⟨rfl, Below.refl _ _⟩
  · rw [show shapeV 120 = .iface 97 (.agg #[]) from rfl]
    have q0 : ∀ w, (Instr.typeAssert (.iface 97 (.agg #[])) 68 109 true).run Tryz.prog w = .ok (.tuple #[.agg #[], .bool false]) w := fun _ => by kernel_rfl
    have q1 : ∀ w, (Instr.typeAssert (.iface 97 (.agg #[])) 68 104 true).run Tryz.prog w = .ok (.tuple #[.agg #[], .bool false]) w := fun _ => by kernel_rfl
    have q2 : ∀ w, (Instr.typeAssert (.iface 97 (.agg #[])) 68 105 true).run Tryz.prog w = .ok (.tuple #[.agg #[], .bool false]) w := fun _ => by kernel_rfl
    have q3 : ∀ w, (Instr.typeAssert (.iface 97 (.agg #[])) 68 108 true).run Tryz.prog w = .ok (.tuple #[.agg #[], .bool false]) w := fun _ => by kernel_rfl
    go_enter Tryz.func36, Tryz.ntmps36
    go_wp2_with fail
    go_ret
    exact ⟨rfl, Below.refl _ _⟩
  · rw [show shapeV 105 = .iface 100 (.agg #[]) from rfl]
    have q0 : ∀ w, (Instr.typeAssert (.iface 100 (.agg #[])) 68 109 true).run Tryz.prog w = .ok (.tuple #[.agg #[], .bool false]) w := fun _ => by kernel_rfl
    have q1 : ∀ w, (Instr.typeAssert (.iface 100 (.agg #[])) 68 104 true).run Tryz.prog w = .ok (.tuple #[.agg #[], .bool false]) w := fun _ => by kernel_rfl
    have q2 : ∀ w, (Instr.typeAssert (.iface 100 (.agg #[])) 68 105 true).run Tryz.prog w = .ok (.tuple #[.agg #[], .bool false]) w := fun _ => by kernel_rfl
    have q3 : ∀ w, (Instr.typeAssert (.iface 100 (.agg #[])) 68 108 true).run Tryz.prog w = .ok (.tuple #[.agg #[], .bool false]) w := fun _ => by kernel_rfl
    go_enter Tryz.func36, Tryz.ntmps36
    go_wp2_with fail
    go_ret
    exact ⟨rfl, Below.refl _ _⟩
  · rw [show shapeV 117 = .iface 101 (.agg #[]) from rfl]
    have q0 : ∀ w, (Instr.typeAssert (.iface 101 (.agg #[])) 68 109 true).run Tryz.prog w = .ok (.tuple #[.agg #[], .bool false]) w := fun _ => by kernel_rfl
    have q1 : ∀ w, (Instr.typeAssert (.iface 101 (.agg #[])) 68 104 true).run Tryz.prog w = .ok (.tuple #[.agg #[], .bool false]) w := fun _ => by kernel_rfl
    have q2 : ∀ w, (Instr.typeAssert (.iface 101 (.agg #[])) 68 105 true).run Tryz.prog w = .ok (.tuple #[.agg #[], .bool false]) w := fun _ => by kernel_rfl
    have q3 : ∀ w, (Instr.typeAssert (.iface 101 (.agg #[])) 68 108 true).run Tryz.prog w = .ok (.tuple #[.agg #[], .bool false]) w := fun _ => by kernel_rfl
    go_enter Tryz.func36, Tryz.ntmps36
    go_wp2_with fail
    go_ret
    exact ⟨rfl, Below.refl _ _⟩
  · rw [show shapeV 104 = .iface 102 (.agg #[]) from rfl]
    have q0 : ∀ w, (Instr.typeAssert (.iface 102 (.agg #[])) 68 109 true).run Tryz.prog w = .ok (.tuple #[.agg #[], .bool false]) w := fun _ => by kernel_rfl
    have q1 : ∀ w, (Instr.typeAssert (.iface 102 (.agg #[])) 68 104 true).run Tryz.prog w = .ok (.tuple #[.agg #[], .bool false]) w := fun _ => by kernel_rfl
    have q2 : ∀ w, (Instr.typeAssert (.iface 102 (.agg #[])) 68 105 true).run Tryz.prog w = .ok (.tuple #[.agg #[], .bool false]) w := fun _ => by kernel_rfl
    have q3 : ∀ w, (Instr.typeAssert (.iface 102 (.agg #[])) 68 108 true).run Tryz.prog w = .ok (.tuple #[.agg #[], .bool false]) w := fun _ => by kernel_rfl
    go_enter Tryz.func36, Tryz.ntmps36
    go_wp2_with fail
    go_ret
    exact ⟨rfl, Below.refl _ _⟩
  · rw [show shapeV 109 = .iface 103 (.agg #[]) from rfl]
    have q0 : ∀ w, (Instr.typeAssert (.iface 103 (.agg #[])) 68 109 true).run Tryz.prog w = .ok (.tuple #[.agg #[], .bool false]) w := fun _ => by kernel_rfl
    have q1 : ∀ w, (Instr.typeAssert (.iface 103 (.agg #[])) 68 104 true).run Tryz.prog w = .ok (.tuple #[.agg #[], .bool false]) w := fun _ => by kernel_rfl
    have q2 : ∀ w, (Instr.typeAssert (.iface 103 (.agg #[])) 68 105 true).run Tryz.prog w = .ok (.tuple #[.agg #[], .bool false]) w := fun _ => by kernel_rfl
    have q3 : ∀ w, (Instr.typeAssert (.iface 103 (.agg #[])) 68 108 true).run Tryz.prog w = .ok (.tuple #[.agg #[], .bool false]) w := fun _ => by kernel_rfl
    go_enter Tryz.func36, Tryz.ntmps36
    go_wp2_with fail
    go_ret
    exact ⟨rfl, Below.refl _ _⟩
  · rw [show shapeV 98 = .iface 104 (.agg #[]) from rfl]
    have q0 : ∀ w, (Instr.typeAssert (.iface 104 (.agg #[])) 68 109 true).run Tryz.prog w = .ok (.tuple #[.agg #[], .bool false]) w := fun _ => by kernel_rfl
    have q1 : ∀ w, (Instr.typeAssert (.iface 104 (.agg #[])) 68 104 true).run Tryz.prog w = .ok (.tuple #[.agg #[], .bool true]) w := fun _ => by kernel_rfl
    have q2 : ∀ w, (Instr.typeAssert (.iface 104 (.agg #[])) 68 105 true).run Tryz.prog w = .ok (.tuple #[.agg #[], .bool false]) w := fun _ => by kernel_rfl
    have q3 : ∀ w, (Instr.typeAssert (.iface 104 (.agg #[])) 68 108 true).run Tryz.prog w = .ok (.tuple #[.agg #[], .bool false]) w := fun _ => by kernel_rfl
    go_enter Tryz.func36, Tryz.ntmps36
    go_wp2_with fail
    go_ret
    exact ⟨rfl, Below.refl _ _⟩
  · rw [show shapeV 122 = .iface 105 (.agg #[]) from rfl]
    have q0 : ∀ w, (Instr.typeAssert (.iface 105 (.agg #[])) 68 109 true).run Tryz.prog w = .ok (.tuple #[.agg #[], .bool false]) w := fun _ => by kernel_rfl
    have q1 : ∀ w, (Instr.typeAssert (.iface 105 (.agg #[])) 68 104 true).run Tryz.prog w = .ok (.tuple #[.agg #[], .bool false]) w := fun _ => by kernel_rfl
    have q2 : ∀ w, (Instr.typeAssert (.iface 105 (.agg #[])) 68 105 true).run Tryz.prog w = .ok (.tuple #[.agg #[], .bool true]) w := fun _ => by kernel_rfl
    have q3 : ∀ w, (Instr.typeAssert (.iface 105 (.agg #[])) 68 108 true).run Tryz.prog w = .ok (.tuple #[.agg #[], .bool false]) w := fun _ => by kernel_rfl
    go_enter Tryz.func36, Tryz.ntmps36
    go_wp2_with fail
    go_ret
    exact ⟨rfl, Below.refl _ _⟩
  · rw [show shapeV 121 = .iface 108 (.agg #[]) from rfl]
    have q0 : ∀ w, (Instr.typeAssert (.iface 108 (.agg #[])) 68 109 true).run Tryz.prog w = .ok (.tuple #[.agg #[], .bool false]) w := fun _ => by kernel_rfl
    have q1 : ∀ w, (Instr.typeAssert (.iface 108 (.agg #[])) 68 104 true).run Tryz.prog w = .ok (.tuple #[.agg #[], .bool false]) w := fun _ => by kernel_rfl
    have q2 : ∀ w, (Instr.typeAssert (.iface 108 (.agg #[])) 68 105 true).run Tryz.prog w = .ok (.tuple #[.agg #[], .bool false]) w := fun _ => by kernel_rfl
    have q3 : ∀ w, (Instr.typeAssert (.iface 108 (.agg #[])) 68 108 true).run Tryz.prog w = .ok (.tuple #[.agg #[], .bool true]) w := fun _ => by kernel_rfl
    go_enter Tryz.func36, Tryz.ntmps36
    go_wp2_with fail
    go_ret
    exact ⟨rfl, Below.refl _ _⟩
  · rw [show shapeV 116 = .iface 109 (.agg #[]) from rfl]
    have q0 : ∀ w, (Instr.typeAssert (.iface 109 (.agg #[])) 68 109 true).run Tryz.prog w = .ok (.tuple #[.agg #[], .bool true]) w := fun _ => by kernel_rfl
    have q1 : ∀ w, (Instr.typeAssert (.iface 109 (.agg #[])) 68 104 true).run Tryz.prog w = .ok (.tuple #[.agg #[], .bool false]) w := fun _ => by kernel_rfl
    have q2 : ∀ w, (Instr.typeAssert (.iface 109 (.agg #[])) 68 105 true).run Tryz.prog w = .ok (.tuple #[.agg #[], .bool false]) w := fun _ => by kernel_rfl
    have q3 : ∀ w, (Instr.typeAssert (.iface 109 (.agg #[])) 68 108 true).run Tryz.prog w = .ok (.tuple #[.agg #[], .bool false]) w := fun _ => by kernel_rfl
    go_enter Tryz.func36, Tryz.ntmps36
    go_wp2_with fail
    go_ret
    exact ⟨rfl, Below.refl _ _⟩

set_option maxHeartbeats 4000000 in
set_option maxRecDepth 100000 in
theorem going_calls (sh : UInt8) (hs : sh ∈ shapes) (fr dst : Int) (hf0 : 0 ≤ fr) (hf1 : fr ≤ 1024) (ht0 : 0 ≤ dst) (ht1 : dst ≤ 1024) (w : World) :
    Calls Tryz.prog 20 #[shapeV sh, .int .i64 fr, .int .i64 dst] w fun e w' => e = .returned (.int .u32 (goingI sh fr dst)) ∧ Below w.heap.size w w' := by
  have HG := hide (goingBits_calls sh hs)
  simp only [shapes, List.mem_cons, List.mem_nil_iff, or_false] at hs
  rcases hs with rfl | rfl | rfl | rfl | rfl | rfl | rfl | rfl | rfl | rfl | rfl | rfl | rfl | rfl
  · rw [show shapeV 114 = .iface 90 (.agg #[]) from rfl] at HG ⊢
    rw [show goingM 114 = 0 from rfl] at HG
    have q0 : ∀ w, (Instr.typeAssert (.iface 90 (.agg #[])) 68 109 true).run Tryz.prog w = .ok (.tuple #[.agg #[], .bool false]) w := fun _ => by kernel_rfl
    have q1 : ∀ w, (Instr.typeAssert (.iface 90 (.agg #[])) 68 104 true).run Tryz.prog w = .ok (.tuple #[.agg #[], .bool false]) w := fun _ => by kernel_rfl
    have q2 : ∀ w, (Instr.typeAssert (.iface 90 (.agg #[])) 68 105 true).run Tryz.prog w = .ok (.tuple #[.agg #[], .bool false]) w := fun _ => by kernel_rfl
    have q3 : ∀ w, (Instr.typeAssert (.iface 90 (.agg #[])) 68 108 true).run Tryz.prog w = .ok (.tuple #[.agg #[], .bool false]) w := fun _ => by kernel_rfl
    go_enter Tryz.func20, Tryz.ntmps20
    go_wp2_with fail
    go_ret
    exact ⟨rfl, Below.refl _ _⟩
  · rw [show shapeV 115 = .iface 93 (.agg #[]) from rfl] at HG ⊢
    rw [show goingM 115 = 0 from rfl] at HG
    have q0 : ∀ w, (Instr.typeAssert (.iface 93 (.agg #[])) 68 109 true).run Tryz.prog w = .ok (.tuple #[.agg #[], .bool false]) w := fun _ => by kernel_rfl
    have q1 : ∀ w, (Instr.typeAssert (.iface 93 (.agg #[])) 68 104 true).run Tryz.prog w = .ok (.tuple #[.agg #[], .bool false]) w := fun _ => by kernel_rfl
    have q2 : ∀ w, (Instr.typeAssert (.iface 93 (.agg #[])) 68 105 true).run Tryz.prog w = .ok (.tuple #[.agg #[], .bool false]) w := fun _ => by kernel_rfl
    have q3 : ∀ w, (Instr.typeAssert (.iface 93 (.agg #[])) 68 108 true).run Tryz.prog w = .ok (.tuple #[.agg #[], .bool false]) w := fun _ => by kernel_rfl
    go_enter Tryz.func20, Tryz.ntmps20
    go_wp2_with fail
    go_ret
    exact ⟨rfl, Below.refl _ _⟩
  · rw [show shapeV 118 = .iface 94 (.agg #[]) from rfl] at HG ⊢
    rw [show goingM 118 = 0 from rfl] at HG
    have q0 : ∀ w, (Instr.typeAssert (.iface 94 (.agg #[])) 68 109 true).run Tryz.prog w = .ok (.tuple #[.agg #[], .bool false]) w := fun _ => by kernel_rfl
    have q1 : ∀ w, (Instr.typeAssert (.iface 94 (.agg #[])) 68 104 true).run Tryz.prog w = .ok (.tuple #[.agg #[], .bool false]) w := fun _ => by kernel_rfl
    have q2 : ∀ w, (Instr.typeAssert (.iface 94 (.agg #[])) 68 105 true).run Tryz.prog w = .ok (.tuple #[.agg #[], .bool false]) w := fun _ => by kernel_rfl
    have q3 : ∀ w, (Instr.typeAssert (.iface 94 (.agg #[])) 68 108 true).run Tryz.prog w = .ok (.tuple #[.agg #[], .bool false]) w := fun _ => by kernel_rfl
    go_enter Tryz.func20, Tryz.ntmps20
    go_wp2_with fail
    go_ret
    exact ⟨rfl, Below.refl _ _⟩
  · rw [show shapeV 106 = .iface 95 (.agg #[]) from rfl] at HG ⊢
    rw [show goingM 106 = 0 from rfl] at HG
    have q0 : ∀ w, (Instr.typeAssert (.iface 95 (.agg #[])) 68 109 true).run Tryz.prog w = .ok (.tuple #[.agg #[], .bool false]) w := fun _ => by kernel_rfl
    have q1 : ∀ w, (Instr.typeAssert (.iface 95 (.agg #[])) 68 104 true).run Tryz.prog w = .ok (.tuple #[.agg #[], .bool false]) w := fun _ => by kernel_rfl
    have q2 : ∀ w, (Instr.typeAssert (.iface 95 (.agg #[])) 68 105 true).run Tryz.prog w = .ok (.tuple #[.agg #[], .bool false]) w := fun _ => by kernel_rfl
    have q3 : ∀ w, (Instr.typeAssert (.iface 95 (.agg #[])) 68 108 true).run Tryz.prog w = .ok (.tuple #[.agg #[], .bool false]) w := fun _ => by kernel_rfl
    go_enter Tryz.func20, Tryz.ntmps20
    go_wp2_with fail
    go_ret
    exact ⟨rfl, Below.refl _ _⟩
  · rw [show shapeV 108 = .iface 96 (.agg #[]) from rfl] at HG ⊢
    rw [show goingM 108 = 0 from rfl] at HG
    have q0 : ∀ w, (Instr.typeAssert (.iface 96 (.agg #[])) 68 109 true).run Tryz.prog w = .ok (.tuple #[.agg #[], .bool false]) w := fun _ => by kernel_rfl
    have q1 : ∀ w, (Instr.typeAssert (.iface 96 (.agg #[])) 68 104 true).run Tryz.prog w = .ok (.tuple #[.agg #[], .bool false]) w := fun _ => by kernel_rfl
    have q2 : ∀ w, (Instr.typeAssert (.iface 96 (.agg #[])) 68 105 true).run Tryz.prog w = .ok (.tuple #[.agg #[], .bool false]) w := fun _ => by kernel_rfl
    have q3 : ∀ w, (Instr.typeAssert (.iface 96 (.agg #[])) 68 108 true).run Tryz.prog w = .ok (.tuple #[.agg #[], .bool false]) w := fun _ => by kernel_rfl
    go_enter Tryz.func20, Tryz.ntmps20
    go_wp2_with fail
    go_ret
    exact ⟨rfl, Below.refl _ _⟩
  · rw [show shapeV 120 = .iface 97 (.agg #[]) from rfl] at HG ⊢
    rw [show goingM 120 = 0 from rfl] at HG
    have q0 : ∀ w, (Instr.typeAssert (.iface 97 (.agg #[])) 68 109 true).run Tryz.prog w = .ok (.tuple #[.agg #[], .bool false]) w := fun _ => by kernel_rfl
    have q1 : ∀ w, (Instr.typeAssert (.iface 97 (.agg #[])) 68 104 true).run Tryz.prog w = .ok (.tuple #[.agg #[], .bool false]) w := fun _ => by kernel_rfl
    have q2 : ∀ w, (Instr.typeAssert (.iface 97 (.agg #[])) 68 105 true).run Tryz.prog w = .ok (.tuple #[.agg #[], .bool false]) w := fun _ => by kernel_rfl
    have q3 : ∀ w, (Instr.typeAssert (.iface 97 (.agg #[])) 68 108 true).run Tryz.prog w = .ok (.tuple #[.agg #[], .bool false]) w := fun _ => by kernel_rfl
    go_enter Tryz.func20, Tryz.ntmps20
    go_wp2_with fail
    go_ret
    exact ⟨rfl, Below.refl _ _⟩
  · rw [show shapeV 105 = .iface 100 (.agg #[]) from rfl] at HG ⊢
    rw [show goingM 105 = 0 from rfl] at HG
    have q0 : ∀ w, (Instr.typeAssert (.iface 100 (.agg #[])) 68 109 true).run Tryz.prog w = .ok (.tuple #[.agg #[], .bool false]) w := fun _ => by kernel_rfl
    have q1 : ∀ w, (Instr.typeAssert (.iface 100 (.agg #[])) 68 104 true).run Tryz.prog w = .ok (.tuple #[.agg #[], .bool false]) w := fun _ => by kernel_rfl
    have q2 : ∀ w, (Instr.typeAssert (.iface 100 (.agg #[])) 68 105 true).run Tryz.prog w = .ok (.tuple #[.agg #[], .bool false]) w := fun _ => by kernel_rfl
    have q3 : ∀ w, (Instr.typeAssert (.iface 100 (.agg #[])) 68 108 true).run Tryz.prog w = .ok (.tuple #[.agg #[], .bool false]) w := fun _ => by kernel_rfl
    go_enter Tryz.func20, Tryz.ntmps20
    go_wp2_with fail
    go_ret
    exact ⟨rfl, Below.refl _ _⟩
  · rw [show shapeV 117 = .iface 101 (.agg #[]) from rfl] at HG ⊢
    rw [show goingM 117 = 0 from rfl] at HG
    have q0 : ∀ w, (Instr.typeAssert (.iface 101 (.agg #[])) 68 109 true).run Tryz.prog w = .ok (.tuple #[.agg #[], .bool false]) w := fun _ => by kernel_rfl
    have q1 : ∀ w, (Instr.typeAssert (.iface 101 (.agg #[])) 68 104 true).run Tryz.prog w = .ok (.tuple #[.agg #[], .bool false]) w := fun _ => by kernel_rfl
    have q2 : ∀ w, (Instr.typeAssert (.iface 101 (.agg #[])) 68 105 true).run Tryz.prog w = .ok (.tuple #[.agg #[], .bool false]) w := fun _ => by kernel_rfl
    have q3 : ∀ w, (Instr.typeAssert (.iface 101 (.agg #[])) 68 108 true).run Tryz.prog w = .ok (.tuple #[.agg #[], .bool false]) w := fun _ => by kernel_rfl
    go_enter Tryz.func20, Tryz.ntmps20
    go_wp2_with fail
    go_ret
    exact ⟨rfl, Below.refl _ _⟩
  · rw [show shapeV 104 = .iface 102 (.agg #[]) from rfl] at HG ⊢
    rw [show goingM 104 = 0 from rfl] at HG
    have q0 : ∀ w, (Instr.typeAssert (.iface 102 (.agg #[])) 68 109 true).run Tryz.prog w = .ok (.tuple #[.agg #[], .bool false]) w := fun _ => by kernel_rfl
    have q1 : ∀ w, (Instr.typeAssert (.iface 102 (.agg #[])) 68 104 true).run Tryz.prog w = .ok (.tuple #[.agg #[], .bool false]) w := fun _ => by kernel_rfl
    have q2 : ∀ w, (Instr.typeAssert (.iface 102 (.agg #[])) 68 105 true).run Tryz.prog w = .ok (.tuple #[.agg #[], .bool false]) w := fun _ => by kernel_rfl
    have q3 : ∀ w, (Instr.typeAssert (.iface 102 (.agg #[])) 68 108 true).run Tryz.prog w = .ok (.tuple #[.agg #[], .bool false]) w := fun _ => by kernel_rfl
    go_enter Tryz.func20, Tryz.ntmps20
    go_wp2_with fail
    go_ret
    exact ⟨rfl, Below.refl _ _⟩
  · rw [show shapeV 109 = .iface 103 (.agg #[]) from rfl] at HG ⊢
    rw [show goingM 109 = 0 from rfl] at HG
    have q0 : ∀ w, (Instr.typeAssert (.iface 103 (.agg #[])) 68 109 true).run Tryz.prog w = .ok (.tuple #[.agg #[], .bool false]) w := fun _ => by kernel_rfl
    have q1 : ∀ w, (Instr.typeAssert (.iface 103 (.agg #[])) 68 104 true).run Tryz.prog w = .ok (.tuple #[.agg #[], .bool false]) w := fun _ => by kernel_rfl
    have q2 : ∀ w, (Instr.typeAssert (.iface 103 (.agg #[])) 68 105 true).run Tryz.prog w = .ok (.tuple #[.agg #[], .bool false]) w := fun _ => by kernel_rfl
    have q3 : ∀ w, (Instr.typeAssert (.iface 103 (.agg #[])) 68 108 true).run Tryz.prog w = .ok (.tuple #[.agg #[], .bool false]) w := fun _ => by kernel_rfl
    go_enter Tryz.func20, Tryz.ntmps20
    go_wp2_with fail
    go_ret
    exact ⟨rfl, Below.refl _ _⟩
  · rw [show shapeV 98 = .iface 104 (.agg #[]) from rfl] at HG ⊢
    rw [show goingM 98 = 65535 from rfl] at HG
    have q0 : ∀ w, (Instr.typeAssert (.iface 104 (.agg #[])) 68 109 true).run Tryz.prog w = .ok (.tuple #[.agg #[], .bool false]) w := fun _ => by kernel_rfl
    have q1 : ∀ w, (Instr.typeAssert (.iface 104 (.agg #[])) 68 104 true).run Tryz.prog w = .ok (.tuple #[.agg #[], .bool true]) w := fun _ => by kernel_rfl
    have q2 : ∀ w, (Instr.typeAssert (.iface 104 (.agg #[])) 68 105 true).run Tryz.prog w = .ok (.tuple #[.agg #[], .bool false]) w := fun _ => by kernel_rfl
    have q3 : ∀ w, (Instr.typeAssert (.iface 104 (.agg #[])) 68 108 true).run Tryz.prog w = .ok (.tuple #[.agg #[], .bool false]) w := fun _ => by kernel_rfl
    go_enter Tryz.func20, Tryz.ntmps20
    go_wp2_with (go_at_call 36; refine (unhide HG _).mono ?_; rintro e w1 ⟨rfl, hb1⟩)
    go_ret
    refine ⟨congrArg Ending.returned (congrArg (Value.int .u32) ?_), hb1⟩
    simp only [goingI]
    simp (config := { decide := true }) only [if_true, if_false]
    rw [IntKind.wrap_u32]
    first
      | (congr 1; simp only [wrap64]; omega)
      | (congr 1; omega)
  · rw [show shapeV 122 = .iface 105 (.agg #[]) from rfl] at HG ⊢
    rw [show goingM 122 = 65535 from rfl] at HG
    have q0 : ∀ w, (Instr.typeAssert (.iface 105 (.agg #[])) 68 109 true).run Tryz.prog w = .ok (.tuple #[.agg #[], .bool false]) w := fun _ => by kernel_rfl
    have q1 : ∀ w, (Instr.typeAssert (.iface 105 (.agg #[])) 68 104 true).run Tryz.prog w = .ok (.tuple #[.agg #[], .bool false]) w := fun _ => by kernel_rfl
    have q2 : ∀ w, (Instr.typeAssert (.iface 105 (.agg #[])) 68 105 true).run Tryz.prog w = .ok (.tuple #[.agg #[], .bool true]) w := fun _ => by kernel_rfl
    have q3 : ∀ w, (Instr.typeAssert (.iface 105 (.agg #[])) 68 108 true).run Tryz.prog w = .ok (.tuple #[.agg #[], .bool false]) w := fun _ => by kernel_rfl
    go_enter Tryz.func20, Tryz.ntmps20
    go_wp2_with (go_at_call 36; refine (unhide HG _).mono ?_; rintro e w1 ⟨rfl, hb1⟩)
    go_ret
    refine ⟨congrArg Ending.returned (congrArg (Value.int .u32) ?_), hb1⟩
    simp only [goingI]
    simp (config := { decide := true }) only [if_true, if_false]
    rw [IntKind.wrap_u32]
    first
      | (congr 1; simp only [wrap64]; omega)
      | (congr 1; omega)
  · rw [show shapeV 121 = .iface 108 (.agg #[]) from rfl] at HG ⊢
    rw [show goingM 121 = 65535 from rfl] at HG
    have q0 : ∀ w, (Instr.typeAssert (.iface 108 (.agg #[])) 68 109 true).run Tryz.prog w = .ok (.tuple #[.agg #[], .bool false]) w := fun _ => by kernel_rfl
    have q1 : ∀ w, (Instr.typeAssert (.iface 108 (.agg #[])) 68 104 true).run Tryz.prog w = .ok (.tuple #[.agg #[], .bool false]) w := fun _ => by kernel_rfl
    have q2 : ∀ w, (Instr.typeAssert (.iface 108 (.agg #[])) 68 105 true).run Tryz.prog w = .ok (.tuple #[.agg #[], .bool false]) w := fun _ => by kernel_rfl
    have q3 : ∀ w, (Instr.typeAssert (.iface 108 (.agg #[])) 68 108 true).run Tryz.prog w = .ok (.tuple #[.agg #[], .bool true]) w := fun _ => by kernel_rfl
    go_enter Tryz.func20, Tryz.ntmps20
    go_wp2_with (go_at_call 36; refine (unhide HG _).mono ?_; rintro e w1 ⟨rfl, hb1⟩)
    go_ret
    refine ⟨congrArg Ending.returned (congrArg (Value.int .u32) ?_), hb1⟩
    simp only [goingI]
    simp (config := { decide := true }) only [if_true, if_false]
    rw [IntKind.wrap_u32]
    first
      | (congr 1; simp only [wrap64]; omega)
      | (congr 1; omega)
  · rw [show shapeV 116 = .iface 109 (.agg #[]) from rfl] at HG ⊢
    rw [show goingM 116 = 67108863 from rfl] at HG
    have q0 : ∀ w, (Instr.typeAssert (.iface 109 (.agg #[])) 68 109 true).run Tryz.prog w = .ok (.tuple #[.agg #[], .bool true]) w := fun _ => by kernel_rfl
    have q1 : ∀ w, (Instr.typeAssert (.iface 109 (.agg #[])) 68 104 true).run Tryz.prog w = .ok (.tuple #[.agg #[], .bool false]) w := fun _ => by kernel_rfl
    have q2 : ∀ w, (Instr.typeAssert (.iface 109 (.agg #[])) 68 105 true).run Tryz.prog w = .ok (.tuple #[.agg #[], .bool false]) w := fun _ => by kernel_rfl
    have q3 : ∀ w, (Instr.typeAssert (.iface 109 (.agg #[])) 68 108 true).run Tryz.prog w = .ok (.tuple #[.agg #[], .bool false]) w := fun _ => by kernel_rfl
    go_enter Tryz.func20, Tryz.ntmps20
    go_wp2_with (go_at_call 36; refine (unhide HG _).mono ?_; rintro e w1 ⟨rfl, hb1⟩)
    go_ret
    refine ⟨congrArg Ending.returned (congrArg (Value.int .u32) ?_), hb1⟩
    simp only [goingI]
    simp (config := { decide := true }) only [if_true, if_false]
    rw [IntKind.wrap_u32]
    first
      | (congr 1; simp only [wrap64]; omega)
      | (congr 1; omega)
end Go.Proofs.YtnbhpmncppohaaaGreatDoor.Mill
