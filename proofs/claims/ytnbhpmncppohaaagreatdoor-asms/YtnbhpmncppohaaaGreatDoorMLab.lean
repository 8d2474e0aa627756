import Derived.Test.YtnbhpmncppohaaaGreatDoorMMap
import Derived.Test.YtnbhpmncppohaaaGreatDoorAsm
namespace Go.Proofs.YtnbhpmncppohaaaGreatDoor.Mill
open Go.RowKit

/-- a word that does not yet say where it goes -/
structure Op4 where
  idx : Nat
  line : Nat
  shape : Value
  goal : List UInt8
abbrev Op4.list (o : Op4) : List Value := [.int .i64 o.idx, .int .i64 o.line, o.shape, S o.goal]
/-- an image while the program puts it together -/
structure PSt where
  words : List Int
  labels : List (List UInt8 × Nat)
  opens : List Op4

/-- how it lies: the assembly in block ga, the labels' map in block rl, the names' in block rn -/
structure AsmAt (es : Array MapEntry) (w : World) (B ga rn rl : Nat) (vw vo : Value) (st : PSt) (line : Int) : Prop where
  blk : w.heap[ga]? = some (.cells #[.map (some rn), .map (some rl), vw, vo, .int .i64 line] 40)
  lab : w.heap[rl]? = some (.map (labelEs st.labels) st.labels.length)
  nam : w.heap[rn]? = some (.map es 44)
  words : w.ownsRow B 66 1 vw st.words.length (st.words.map fun x => Value.int .u32 x)
  opens : w.ownsRow B 75 4 vo st.opens.length (st.opens.flatMap Op4.list)
  ne : rl ≠ rn
  lo : B ≤ ga ∧ B ≤ rl

theorem AsmAt.keep {es : Array MapEntry} {w w' : World} {B ga rn rl : Nat} {vw vo : Value} {st : PSt} {line : Int} (h : AsmAt es w B ga rn rl vw vo st line) (hb : Below w.heap.size w w') : AsmAt es w' B ga rn rl vw vo st line := by
  have l1 := (Array.getElem?_eq_some_iff.1 h.blk).1
  have l2 := (Array.getElem?_eq_some_iff.1 h.lab).1
  have l3 := (Array.getElem?_eq_some_iff.1 h.nam).1
  exact ⟨(hb.block _ l1).trans h.blk, (hb.block _ l2).trans h.lab, (hb.block _ l3).trans h.nam, owns_same h.words hb.block, owns_same h.opens hb.block, h.ne, h.lo⟩

/-- a row stays where a map's block is set anew -/
theorem owns_map {w : World} {B : Nat} {e : TypeId} {size : Nat} {v : Value} {n : Nat} {xs : List Value} {r c : Nat} {es : Array MapEntry} {o : Obj} (h : w.ownsRow B e size v n xs) (hr : w.heap[r]? = some (.map es c)) : (setObjAt w.drew r o).ownsRow B e size v n xs := by
  refine ⟨h.1, ?_⟩
  rcases h.2 with h0 | ⟨g, cap, cur, h1, h2, h3, h4⟩
  · exact .inl h0
  · have hne : g ≠ r := fun e => by rw [e, hr] at h3; cases h3
    exact .inr ⟨g, cap, cur, h1, h2, (setObjAt_other _ hne _).trans h3, h4⟩

theorem infoInt (w : World) : (zeroValue 3).run Tryz.prog w = .ok (.int .i64 0) w := by
  have hz : (Tryz.prog.info? 3).map (fun i => (i.zero, i.size)) = some (some (.int .i64 0), 1) := by kernel_rfl
  exact (zero_of_info hz).1 w

set_option maxHeartbeats 2000000 in
set_option maxRecDepth 100000 in
theorem addLabel_calls (es : Array MapEntry) (l : List UInt8) (B ga rn rl : Nat) (vw vo : Value) (st : PSt) (line : Int) (w : World) (h : AsmAt es w B ga rn rl vw vo st line) (hw : st.words.length ≤ 64) :
    Calls Tryz.prog 29 #[.pointer (some ⟨ga, 0, none⟩), S l] w fun e w' =>
      ((placeOf st.labels l).isSome = true → e = gives 5 ∧ w' = w) ∧
      (placeOf st.labels l = none → e = .returned (.tuple #[]) ∧ AsmAt es w' B ga rn rl vw vo { st with labels := st.labels ++ [(l, 4 * st.words.length)] } line ∧ Turned rl w w') := by
  have hc1 := cell_row h.blk 1 _ rfl
  have hc2 := cell_row h.blk 2 _ rfl
  obtain ⟨ad, cap, hvw, _⟩ := slice_shape h.words
  subst hvw
  have HT : Tryz.prog.underlying 36 = some (.map 9 3) := by kernel_rfl
  have HK : Tryz.prog.underlying 9 = some .string := by kernel_rfl
  rcases find_labels0 st.labels l with ⟨h1, h2⟩ | ⟨p, j, h1, h2⟩
  · have hlk := look_miss HT HK h.lab ⟨l.toArray⟩ (.int .i64 0) (infoInt w) h2
    have hup : ∀ v, (Instr.mapUpdate 36 (.map (some rl)) (S l) v).run Tryz.prog w.drew = .ok () (setObjAt w.drew rl (.map ((labelEs st.labels).push { key := S l, val := v, born := st.labels.length }) (st.labels.length + 1))) := fun v => upd_new HT HK (w := w.drew) h.lab ⟨l.toArray⟩ v h2
    have HH := hide h
    have H1 := hide h1
    clear h h1 h2 HT HK
    go_enter Tryz.func29, Tryz.ntmps29
    go_wp2_with fail
    go_region
    all_goals
      go_wp2_with fail
      go_end0
      have hh := unhide HH
      have hl1 := (Array.getElem?_eq_some_iff.1 hh.lab).1
      refine ⟨fun hs => (by rw [unhide H1] at hs; cases hs), fun _ => ⟨rfl, ?_, ?_⟩⟩
      · have hga : ga ≠ rl := fun e => by have := hh.blk; rw [e, hh.lab] at this; cases this
        refine ⟨(setObjAt_other _ hga _).trans hh.blk, ?_, (setObjAt_other _ (Ne.symm hh.ne) _).trans hh.nam, ?_, ?_, hh.ne, hh.lo⟩
        · have e4 : (4 * (st.words.length : Int)) = ((4 * st.words.length : Nat) : Int) := by omega
          rw [labelEs_push, setObjAt_same (w := w.drew) hl1, e4]
          simp
        · exact owns_map hh.words hh.lab
        · exact owns_map hh.opens hh.lab
      · exact ⟨rfl, rfl, rfl, by rw [setObjAt_size]; exact Nat.le_refl _, fun k hk hne => setObjAt_other _ hne _⟩
  · have hlk := look_hit HT HK h.lab ⟨l.toArray⟩ j _ h2
    have H1 := hide h1
    clear h h2 HT HK h1
    go_enter Tryz.func29, Tryz.ntmps29
    go_wp2_with fail
    exact ⟨rfl, fun _ => ⟨rfl, rfl⟩, fun hn => by rw [unhide H1] at hn; cases hn⟩
end Go.Proofs.YtnbhpmncppohaaaGreatDoor.Mill
