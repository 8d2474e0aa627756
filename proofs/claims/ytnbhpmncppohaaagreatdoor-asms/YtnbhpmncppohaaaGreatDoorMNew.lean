import Derived.Test.YtnbhpmncppohaaaGreatDoorMInst
import Derived.Test.YtnbhpmncppohaaaGreatDoorMPure
namespace Go.Proofs.YtnbhpmncppohaaaGreatDoor.Mill
open Go.RowKit

set_option maxHeartbeats 4000000 in
set_option maxRecDepth 100000 in
theorem new_calls : NewOk (ents 44) := by
  intro w
  have hI := instructions_calls
  have hmk : ∀ w, (Instr.makeMap 36 none).run Tryz.prog w = .ok (.map (some w.heap.size)) (w.alloc (.map #[] 0)) := fun _ => rfl
  generalize hE : ents 44 = E at *
  go_enter Tryz.func7, Tryz.ntmps7
  go_wp2_with (go_at_call 16; refine (hI _).mono ?_; rintro e w' ⟨rfl, rfl⟩)
  go_ret
  refine ⟨w.heap.size + 1 + 1, w.heap.size, w.heap.size + 1, rfl, (((Below.refl _ _).alloc (Nat.le_refl _) _).alloc (by simp) _).alloc (by simp; omega) _, ?_, ?_, ?_, World.ownsRow_nil _ _ _ _, World.ownsRow_nil _ _ _ _, by omega, by omega, by omega⟩
  · have := heap_alloc_new ((w.alloc (.map E 44)).alloc (.map #[] 0)) (.cells #[.map (some w.heap.size), .map (some (w.heap.size + 1)), .slice none 0 0, .slice none 0 0, .int .i64 0] 40)
    simpa using this
  · rw [Below.heap_alloc _ _ _ (by simp)]; exact (heap_two w _ _).2
  · rw [Below.heap_alloc _ _ _ (by simp; omega)]; exact (heap_two w _ _).1
end Go.Proofs.YtnbhpmncppohaaaGreatDoor.Mill
