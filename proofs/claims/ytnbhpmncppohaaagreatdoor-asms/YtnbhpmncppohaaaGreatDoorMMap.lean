import Derived.Test.YtnbhpmncppohaaaGreatDoorMOps
import Derived.MapKept
namespace Go.Proofs.YtnbhpmncppohaaaGreatDoor.Mill
open Go.RowKit

/- MMAP: maps by texts: looked up, and set anew. -/
section
variable {P : Program} {T K E : TypeId}
theorem look_hit (hT : P.underlying T = some (.map K E)) (hK : P.underlying K = some .string) {w : World} {r : Nat} {es : Array MapEntry} {c : Nat} (hb : w.heap[r]? = some (.map es c)) (s : ByteArray) (i : Nat) (v : Value)
    (hf : Instr.findNow .string (.string s) es.toList 0 = some (some (i, v))) : (Instr.lookup T (.map (some r)) (.string s) true).run P w = .ok (.tuple #[v, .bool true]) w := by
  have hk : MapKept.IsKey .string (.string s) := by simp [MapKept.IsKey]
  simp [Instr.lookup, run_underlying hT, MapKept.run_getObj_map hb, MapKept.run_checkKey hK hk, MapKept.run_findKey hK hf, Result.andThen]
theorem look_miss (hT : P.underlying T = some (.map K E)) (hK : P.underlying K = some .string) {w : World} {r : Nat} {es : Array MapEntry} {c : Nat} (hb : w.heap[r]? = some (.map es c)) (s : ByteArray) (z : Value) (hz : (zeroValue E).run P w = .ok z w)
    (hf : Instr.findNow .string (.string s) es.toList 0 = some none) : (Instr.lookup T (.map (some r)) (.string s) true).run P w = .ok (.tuple #[z, .bool false]) w := by
  have hk : MapKept.IsKey .string (.string s) := by simp [MapKept.IsKey]
  simp [Instr.lookup, run_underlying hT, MapKept.run_getObj_map hb, MapKept.run_checkKey hK hk, MapKept.run_findKey hK hf, Result.andThen, hz]
/-- a block set anew -/
def setObjAt (w : World) (r : Nat) (o : Obj) : World := { w with heap := w.heap.setIfInBounds r o }
theorem upd_new (hT : P.underlying T = some (.map K E)) (hK : P.underlying K = some .string) {w : World} {r : Nat} {es : Array MapEntry} {c : Nat} (hb : w.heap[r]? = some (.map es c)) (s : ByteArray) (v : Value)
    (hf : Instr.findNow .string (.string s) es.toList 0 = some none) : (Instr.mapUpdate T (.map (some r)) (.string s) v).run P w = .ok () (setObjAt w r (.map (es.push { key := .string s, val := v, born := c }) (c + 1))) := by
  have hk : MapKept.IsKey .string (.string s) := by simp [MapKept.IsKey]
  simp [Instr.mapUpdate, run_underlying hT, MapKept.run_getObj_map hb, MapKept.run_checkKey hK hk, MapKept.run_findKey hK hf, MapKept.run_setObj_map _ hb, Result.andThen, setObjAt]
end
theorem setObjAt_same {w : World} {r : Nat} (h : r < w.heap.size) (o : Obj) : (setObjAt w r o).heap[r]? = some o := by simp [setObjAt, h]
theorem setObjAt_other (w : World) {r k : Nat} (h : k ≠ r) (o : Obj) : (setObjAt w r o).heap[k]? = w.heap[k]? := by simp [setObjAt, Ne.symm h]
theorem setObjAt_size (w : World) (r : Nat) (o : Obj) : (setObjAt w r o).heap.size = w.heap.size := by simp [setObjAt]

/-- the labels' entries -/
def ent (x : (List UInt8 × Nat) × Nat) : MapEntry := { key := S x.1.1, val := .int .i64 x.1.2, born := x.2 }
def labelEs (ls : List (List UInt8 × Nat)) : Array MapEntry := (ls.zipIdx.map ent).toArray
def placeOf (ls : List (List UInt8 × Nat)) (l : List UInt8) : Option Nat := (ls.find? (fun x => x.1 == l)).map (·.2)

theorem labelEs_push (ls : List (List UInt8 × Nat)) (l : List UInt8) (p : Nat) : labelEs (ls ++ [(l, p)]) = (labelEs ls).push { key := S l, val := .int .i64 p, born := ls.length } := by
  simp [labelEs, List.zipIdx_append, ent]
theorem bytes_eq_iff (a b : List UInt8) : ((⟨a.toArray⟩ : ByteArray) == ⟨b.toArray⟩) = (a == b) := by
  rw [Bool.eq_iff_iff, MapKept.bytes_beq]
  simp
theorem find_labels (l : List UInt8) : ∀ (ls : List (List UInt8 × Nat)) (k i : Nat),
    (placeOf ls l = none ∧ Instr.findNow .string (S l) ((ls.zipIdx k).map ent) i = some none) ∨ ∃ p j, placeOf ls l = some p ∧ Instr.findNow .string (S l) ((ls.zipIdx k).map ent) i = some (some (j, .int .i64 p))
  | [], _, _ => .inl ⟨rfl, rfl⟩
  | x :: ls, k, i => by
    have hs : Instr.sameNow .string (S l) (S x.1) = some (x.1 == l) := by
      simp only [Instr.sameNow, bytes_eq_iff]
      rw [Bool.beq_comm]
    simp only [List.zipIdx_cons, List.map_cons, Instr.findNow, ent, hs]
    cases hx : (x.1 == l)
    · have e : placeOf (x :: ls) l = placeOf ls l := by unfold placeOf; rw [List.find?_cons, hx]
      rw [e]
      exact find_labels l ls (k + 1) (i + 1)
    · exact .inr ⟨x.2, i, by unfold placeOf; rw [List.find?_cons, hx]; rfl, rfl⟩
theorem find_labels0 (ls : List (List UInt8 × Nat)) (l : List UInt8) :
    (placeOf ls l = none ∧ Instr.findNow .string (S l) (labelEs ls).toList 0 = some none) ∨ ∃ p j, placeOf ls l = some p ∧ Instr.findNow .string (S l) (labelEs ls).toList 0 = some (some (j, .int .i64 p)) := by
  have := find_labels l ls 0 0
  simpa [labelEs] using this
end Go.Proofs.YtnbhpmncppohaaaGreatDoor.Mill
