import Derived.Test.YtnbhpmncppohaaaGreatDoorMCatch
namespace Go.Proofs.YtnbhpmncppohaaaGreatDoor.Mill
open Go.RowKit

/-- an instruction, as the map holds it -/
def instV (y : List UInt8 × UInt8 × Nat) : Value := .agg #[.int .u32 y.2.2, shapeV y.2.1]
def ent1 (x : (List UInt8 × UInt8 × Nat) × Nat) : MapEntry := { key := S x.1.1, val := instV x.1, born := x.2 }
def ents (k : Nat) : Array MapEntry := ((tab.take k).zipIdx.map ent1).toArray

theorem find_tab (nam : List UInt8) : ∀ (l : List (List UInt8 × UInt8 × Nat)) (k i : Nat),
    (l.find? (fun y => y.1 == nam) = none ∧ Instr.findNow .string (S nam) ((l.zipIdx k).map ent1) i = some none) ∨ ∃ y j, l.find? (fun y => y.1 == nam) = some y ∧ Instr.findNow .string (S nam) ((l.zipIdx k).map ent1) i = some (some (j, instV y))
  | [], _, _ => .inl ⟨rfl, rfl⟩
  | x :: l, k, i => by
    have hs : Instr.sameNow .string (S nam) (S x.1) = some (x.1 == nam) := by
      simp only [Instr.sameNow, bytes_eq_iff]
      rw [Bool.beq_comm]
    simp only [List.zipIdx_cons, List.map_cons, Instr.findNow, ent1, hs]
    cases hx : (x.1 == nam)
    · rw [List.find?_cons, hx]
      exact find_tab nam l (k + 1) (i + 1)
    · exact .inr ⟨x, i, by rw [List.find?_cons, hx], rfl⟩
theorem tab_new : ∀ k, k < 44 → (tab.take k).find? (fun y => y.1 == (tab.getD k ([], 0, 0)).1) = none := by decide
theorem ents_new (k : Nat) (h : k < 44) : Instr.findNow .string (S (tab.getD k ([], 0, 0)).1) (ents k).toList 0 = some none := by
  rcases find_tab (tab.getD k ([], 0, 0)).1 (tab.take k) 0 0 with ⟨_, h2⟩ | ⟨y, j, h1, _⟩
  · simpa [ents] using h2
  · rw [tab_new k h] at h1; cases h1
theorem ents_push (k : Nat) (h : k < 44) : (ents k).push (ent1 (tab.getD k ([], 0, 0), k)) = ents (k + 1) := by
  have hl : k < tab.length := h
  have e : tab.take (k + 1) = tab.take k ++ [tab.getD k ([], 0, 0)] := by
    rw [List.getD_eq_getElem?_getD, List.getElem?_eq_getElem hl]
    simp
  have hlen : (tab.take k).length = k := by rw [List.length_take]; omega
  unfold ents
  rw [e, List.zipIdx_append, List.map_append, hlen]
  simp
theorem set_new (w : World) (o o' : Obj) : setObjAt (w.alloc o) w.heap.size o' = w.alloc o' := by
  have h : (w.heap.push o).setIfInBounds w.heap.size o' = w.heap.push o' := by
    apply Array.ext
    · simp
    · intro i h1 h2
      simp [Array.getElem_push]
      grind
  unfold setObjAt World.alloc
  dsimp only
  rw [h]
theorem ins (k : Nat) (h : k < 44) (w : World) : (Instr.mapUpdate 35 (.map (some w.heap.size)) (S (tab.getD k ([], 0, 0)).1) (instV (tab.getD k ([], 0, 0)))).run Tryz.prog (w.alloc (.map (ents k) k)) = .ok () (w.alloc (.map (ents (k + 1)) (k + 1))) := by
  have HT : Tryz.prog.underlying 35 = some (.map 9 92) := by kernel_rfl
  have HK : Tryz.prog.underlying 9 = some .string := by kernel_rfl
  rw [upd_new HT HK (heap_alloc_new w _) ⟨(tab.getD k ([], 0, 0)).1.toArray⟩ _ (ents_new k h)]
  have e := ents_push k h
  unfold ent1 at e
  dsimp only at e
  rw [e, set_new]

set_option maxHeartbeats 8000000 in
set_option maxRecDepth 100000 in
theorem instructions_calls (w : World) :
    Calls Tryz.prog 16 #[] w fun e w' => e = .returned (.map (some w.heap.size)) ∧ w' = w.alloc (.map (ents 44) 44) := by
  have hmk : (Instr.makeMap 35 none).run Tryz.prog w = .ok (.map (some w.heap.size)) (w.alloc (.map (ents 0) 0)) := rfl
  have i0 : (Instr.mapUpdate 35 (.map (some w.heap.size)) (.string { data := #[97, 100, 100] }) (.agg #[.int .u32 32, .iface 90 (.agg #[])])).run Tryz.prog (w.alloc (.map (ents 0) 0)) = .ok () (w.alloc (.map (ents 1) 1)) := ins 0 (by decide) w
  have i1 : (Instr.mapUpdate 35 (.map (some w.heap.size)) (.string { data := #[97, 100, 100, 117] }) (.agg #[.int .u32 33, .iface 90 (.agg #[])])).run Tryz.prog (w.alloc (.map (ents 1) 1)) = .ok () (w.alloc (.map (ents 2) 2)) := ins 1 (by decide) w
  have i2 : (Instr.mapUpdate 35 (.map (some w.heap.size)) (.string { data := #[115, 117, 98] }) (.agg #[.int .u32 34, .iface 90 (.agg #[])])).run Tryz.prog (w.alloc (.map (ents 2) 2)) = .ok () (w.alloc (.map (ents 3) 3)) := ins 2 (by decide) w
  have i3 : (Instr.mapUpdate 35 (.map (some w.heap.size)) (.string { data := #[115, 117, 98, 117] }) (.agg #[.int .u32 35, .iface 90 (.agg #[])])).run Tryz.prog (w.alloc (.map (ents 3) 3)) = .ok () (w.alloc (.map (ents 4) 4)) := ins 3 (by decide) w
  have i4 : (Instr.mapUpdate 35 (.map (some w.heap.size)) (.string { data := #[97, 110, 100] }) (.agg #[.int .u32 36, .iface 90 (.agg #[])])).run Tryz.prog (w.alloc (.map (ents 4) 4)) = .ok () (w.alloc (.map (ents 5) 5)) := ins 4 (by decide) w
  have i5 : (Instr.mapUpdate 35 (.map (some w.heap.size)) (.string { data := #[111, 114] }) (.agg #[.int .u32 37, .iface 90 (.agg #[])])).run Tryz.prog (w.alloc (.map (ents 5) 5)) = .ok () (w.alloc (.map (ents 6) 6)) := ins 5 (by decide) w
  have i6 : (Instr.mapUpdate 35 (.map (some w.heap.size)) (.string { data := #[120, 111, 114] }) (.agg #[.int .u32 38, .iface 90 (.agg #[])])).run Tryz.prog (w.alloc (.map (ents 6) 6)) = .ok () (w.alloc (.map (ents 7) 7)) := ins 6 (by decide) w
  have i7 : (Instr.mapUpdate 35 (.map (some w.heap.size)) (.string { data := #[110, 111, 114] }) (.agg #[.int .u32 39, .iface 90 (.agg #[])])).run Tryz.prog (w.alloc (.map (ents 7) 7)) = .ok () (w.alloc (.map (ents 8) 8)) := ins 7 (by decide) w
  have i8 : (Instr.mapUpdate 35 (.map (some w.heap.size)) (.string { data := #[115, 108, 116] }) (.agg #[.int .u32 42, .iface 90 (.agg #[])])).run Tryz.prog (w.alloc (.map (ents 8) 8)) = .ok () (w.alloc (.map (ents 9) 9)) := ins 8 (by decide) w
  have i9 : (Instr.mapUpdate 35 (.map (some w.heap.size)) (.string { data := #[115, 108, 116, 117] }) (.agg #[.int .u32 43, .iface 90 (.agg #[])])).run Tryz.prog (w.alloc (.map (ents 9) 9)) = .ok () (w.alloc (.map (ents 10) 10)) := ins 9 (by decide) w
  have i10 : (Instr.mapUpdate 35 (.map (some w.heap.size)) (.string { data := #[115, 108, 108] }) (.agg #[.int .u32 0, .iface 93 (.agg #[])])).run Tryz.prog (w.alloc (.map (ents 10) 10)) = .ok () (w.alloc (.map (ents 11) 11)) := ins 10 (by decide) w
  have i11 : (Instr.mapUpdate 35 (.map (some w.heap.size)) (.string { data := #[115, 114, 108] }) (.agg #[.int .u32 2, .iface 93 (.agg #[])])).run Tryz.prog (w.alloc (.map (ents 11) 11)) = .ok () (w.alloc (.map (ents 12) 12)) := ins 11 (by decide) w
  have i12 : (Instr.mapUpdate 35 (.map (some w.heap.size)) (.string { data := #[115, 114, 97] }) (.agg #[.int .u32 3, .iface 93 (.agg #[])])).run Tryz.prog (w.alloc (.map (ents 12) 12)) = .ok () (w.alloc (.map (ents 13) 13)) := ins 12 (by decide) w
  have i13 : (Instr.mapUpdate 35 (.map (some w.heap.size)) (.string { data := #[115, 108, 108, 118] }) (.agg #[.int .u32 4, .iface 94 (.agg #[])])).run Tryz.prog (w.alloc (.map (ents 13) 13)) = .ok () (w.alloc (.map (ents 14) 14)) := ins 13 (by decide) w
  have i14 : (Instr.mapUpdate 35 (.map (some w.heap.size)) (.string { data := #[115, 114, 108, 118] }) (.agg #[.int .u32 6, .iface 94 (.agg #[])])).run Tryz.prog (w.alloc (.map (ents 14) 14)) = .ok () (w.alloc (.map (ents 15) 15)) := ins 14 (by decide) w
  have i15 : (Instr.mapUpdate 35 (.map (some w.heap.size)) (.string { data := #[115, 114, 97, 118] }) (.agg #[.int .u32 7, .iface 94 (.agg #[])])).run Tryz.prog (w.alloc (.map (ents 15) 15)) = .ok () (w.alloc (.map (ents 16) 16)) := ins 15 (by decide) w
  have i16 : (Instr.mapUpdate 35 (.map (some w.heap.size)) (.string { data := #[106, 114] }) (.agg #[.int .u32 8, .iface 95 (.agg #[])])).run Tryz.prog (w.alloc (.map (ents 16) 16)) = .ok () (w.alloc (.map (ents 17) 17)) := ins 16 (by decide) w
  have i17 : (Instr.mapUpdate 35 (.map (some w.heap.size)) (.string { data := #[106, 97, 108, 114] }) (.agg #[.int .u32 9, .iface 96 (.agg #[])])).run Tryz.prog (w.alloc (.map (ents 17) 17)) = .ok () (w.alloc (.map (ents 18) 18)) := ins 17 (by decide) w
  have i18 : (Instr.mapUpdate 35 (.map (some w.heap.size)) (.string { data := #[115, 121, 115, 99, 97, 108, 108] }) (.agg #[.int .u32 12, .iface 97 (.agg #[])])).run Tryz.prog (w.alloc (.map (ents 18) 18)) = .ok () (w.alloc (.map (ents 19) 19)) := ins 18 (by decide) w
  have i19 : (Instr.mapUpdate 35 (.map (some w.heap.size)) (.string { data := #[98, 114, 101, 97, 107] }) (.agg #[.int .u32 13, .iface 97 (.agg #[])])).run Tryz.prog (w.alloc (.map (ents 19) 19)) = .ok () (w.alloc (.map (ents 20) 20)) := ins 19 (by decide) w
  have i20 : (Instr.mapUpdate 35 (.map (some w.heap.size)) (.string { data := #[97, 100, 100, 105] }) (.agg #[.int .u32 8, .iface 100 (.agg #[])])).run Tryz.prog (w.alloc (.map (ents 20) 20)) = .ok () (w.alloc (.map (ents 21) 21)) := ins 20 (by decide) w
  have i21 : (Instr.mapUpdate 35 (.map (some w.heap.size)) (.string { data := #[97, 100, 100, 105, 117] }) (.agg #[.int .u32 9, .iface 100 (.agg #[])])).run Tryz.prog (w.alloc (.map (ents 21) 21)) = .ok () (w.alloc (.map (ents 22) 22)) := ins 21 (by decide) w
  have i22 : (Instr.mapUpdate 35 (.map (some w.heap.size)) (.string { data := #[115, 108, 116, 105] }) (.agg #[.int .u32 10, .iface 100 (.agg #[])])).run Tryz.prog (w.alloc (.map (ents 22) 22)) = .ok () (w.alloc (.map (ents 23) 23)) := ins 22 (by decide) w
  have i23 : (Instr.mapUpdate 35 (.map (some w.heap.size)) (.string { data := #[115, 108, 116, 105, 117] }) (.agg #[.int .u32 11, .iface 100 (.agg #[])])).run Tryz.prog (w.alloc (.map (ents 23) 23)) = .ok () (w.alloc (.map (ents 24) 24)) := ins 23 (by decide) w
  have i24 : (Instr.mapUpdate 35 (.map (some w.heap.size)) (.string { data := #[97, 110, 100, 105] }) (.agg #[.int .u32 12, .iface 101 (.agg #[])])).run Tryz.prog (w.alloc (.map (ents 24) 24)) = .ok () (w.alloc (.map (ents 25) 25)) := ins 24 (by decide) w
  have i25 : (Instr.mapUpdate 35 (.map (some w.heap.size)) (.string { data := #[111, 114, 105] }) (.agg #[.int .u32 13, .iface 101 (.agg #[])])).run Tryz.prog (w.alloc (.map (ents 25) 25)) = .ok () (w.alloc (.map (ents 26) 26)) := ins 25 (by decide) w
  have i26 : (Instr.mapUpdate 35 (.map (some w.heap.size)) (.string { data := #[120, 111, 114, 105] }) (.agg #[.int .u32 14, .iface 101 (.agg #[])])).run Tryz.prog (w.alloc (.map (ents 26) 26)) = .ok () (w.alloc (.map (ents 27) 27)) := ins 26 (by decide) w
  have i27 : (Instr.mapUpdate 35 (.map (some w.heap.size)) (.string { data := #[108, 117, 105] }) (.agg #[.int .u32 15, .iface 102 (.agg #[])])).run Tryz.prog (w.alloc (.map (ents 27) 27)) = .ok () (w.alloc (.map (ents 28) 28)) := ins 27 (by decide) w
  have i28 : (Instr.mapUpdate 35 (.map (some w.heap.size)) (.string { data := #[108, 98] }) (.agg #[.int .u32 32, .iface 103 (.agg #[])])).run Tryz.prog (w.alloc (.map (ents 28) 28)) = .ok () (w.alloc (.map (ents 29) 29)) := ins 28 (by decide) w
  have i29 : (Instr.mapUpdate 35 (.map (some w.heap.size)) (.string { data := #[108, 104] }) (.agg #[.int .u32 33, .iface 103 (.agg #[])])).run Tryz.prog (w.alloc (.map (ents 29) 29)) = .ok () (w.alloc (.map (ents 30) 30)) := ins 29 (by decide) w
  have i30 : (Instr.mapUpdate 35 (.map (some w.heap.size)) (.string { data := #[108, 119] }) (.agg #[.int .u32 35, .iface 103 (.agg #[])])).run Tryz.prog (w.alloc (.map (ents 30) 30)) = .ok () (w.alloc (.map (ents 31) 31)) := ins 30 (by decide) w
  have i31 : (Instr.mapUpdate 35 (.map (some w.heap.size)) (.string { data := #[108, 98, 117] }) (.agg #[.int .u32 36, .iface 103 (.agg #[])])).run Tryz.prog (w.alloc (.map (ents 31) 31)) = .ok () (w.alloc (.map (ents 32) 32)) := ins 31 (by decide) w
  have i32 : (Instr.mapUpdate 35 (.map (some w.heap.size)) (.string { data := #[108, 104, 117] }) (.agg #[.int .u32 37, .iface 103 (.agg #[])])).run Tryz.prog (w.alloc (.map (ents 32) 32)) = .ok () (w.alloc (.map (ents 33) 33)) := ins 32 (by decide) w
  have i33 : (Instr.mapUpdate 35 (.map (some w.heap.size)) (.string { data := #[115, 98] }) (.agg #[.int .u32 40, .iface 103 (.agg #[])])).run Tryz.prog (w.alloc (.map (ents 33) 33)) = .ok () (w.alloc (.map (ents 34) 34)) := ins 33 (by decide) w
  have i34 : (Instr.mapUpdate 35 (.map (some w.heap.size)) (.string { data := #[115, 104] }) (.agg #[.int .u32 41, .iface 103 (.agg #[])])).run Tryz.prog (w.alloc (.map (ents 34) 34)) = .ok () (w.alloc (.map (ents 35) 35)) := ins 34 (by decide) w
  have i35 : (Instr.mapUpdate 35 (.map (some w.heap.size)) (.string { data := #[115, 119] }) (.agg #[.int .u32 43, .iface 103 (.agg #[])])).run Tryz.prog (w.alloc (.map (ents 35) 35)) = .ok () (w.alloc (.map (ents 36) 36)) := ins 35 (by decide) w
  have i36 : (Instr.mapUpdate 35 (.map (some w.heap.size)) (.string { data := #[98, 101, 113] }) (.agg #[.int .u32 4, .iface 104 (.agg #[])])).run Tryz.prog (w.alloc (.map (ents 36) 36)) = .ok () (w.alloc (.map (ents 37) 37)) := ins 36 (by decide) w
  have i37 : (Instr.mapUpdate 35 (.map (some w.heap.size)) (.string { data := #[98, 110, 101] }) (.agg #[.int .u32 5, .iface 104 (.agg #[])])).run Tryz.prog (w.alloc (.map (ents 37) 37)) = .ok () (w.alloc (.map (ents 38) 38)) := ins 37 (by decide) w
  have i38 : (Instr.mapUpdate 35 (.map (some w.heap.size)) (.string { data := #[98, 108, 101, 122] }) (.agg #[.int .u32 6, .iface 105 (.agg #[])])).run Tryz.prog (w.alloc (.map (ents 38) 38)) = .ok () (w.alloc (.map (ents 39) 39)) := ins 38 (by decide) w
  have i39 : (Instr.mapUpdate 35 (.map (some w.heap.size)) (.string { data := #[98, 103, 116, 122] }) (.agg #[.int .u32 7, .iface 105 (.agg #[])])).run Tryz.prog (w.alloc (.map (ents 39) 39)) = .ok () (w.alloc (.map (ents 40) 40)) := ins 39 (by decide) w
  have i40 : (Instr.mapUpdate 35 (.map (some w.heap.size)) (.string { data := #[98, 108, 116, 122] }) (.agg #[.int .u32 0, .iface 108 (.agg #[])])).run Tryz.prog (w.alloc (.map (ents 40) 40)) = .ok () (w.alloc (.map (ents 41) 41)) := ins 40 (by decide) w
  have i41 : (Instr.mapUpdate 35 (.map (some w.heap.size)) (.string { data := #[98, 103, 101, 122] }) (.agg #[.int .u32 1, .iface 108 (.agg #[])])).run Tryz.prog (w.alloc (.map (ents 41) 41)) = .ok () (w.alloc (.map (ents 42) 42)) := ins 41 (by decide) w
  have i42 : (Instr.mapUpdate 35 (.map (some w.heap.size)) (.string { data := #[106] }) (.agg #[.int .u32 2, .iface 109 (.agg #[])])).run Tryz.prog (w.alloc (.map (ents 42) 42)) = .ok () (w.alloc (.map (ents 43) 43)) := ins 42 (by decide) w
  have i43 : (Instr.mapUpdate 35 (.map (some w.heap.size)) (.string { data := #[106, 97, 108] }) (.agg #[.int .u32 3, .iface 109 (.agg #[])])).run Tryz.prog (w.alloc (.map (ents 43) 43)) = .ok () (w.alloc (.map (ents 44) 44)) := ins 43 (by decide) w
  generalize hE : ents = E at *
  go_enter Tryz.func16, Tryz.ntmps16
  go_wp2_with fail
  go_ret
  exact ⟨rfl, rfl⟩
end Go.Proofs.YtnbhpmncppohaaaGreatDoor.Mill
