import Derived.Test.YtnbhpmncppohaaaGreatDoorMLns
import Derived.Laws.IdiomStrings
import Derived.Lib.BufferRead
namespace Go.Proofs.YtnbhpmncppohaaaGreatDoor.Mill
open Go.RowKit

theorem infoB : (Tryz.prog.info? 5).map (fun i => (i.zero, i.size, i.bytes)) = some (some (.int .u8 0), 1, 1) := by kernel_rfl
def outB (ws : List Int) : List UInt8 := ws.flatMap bytes4
theorem outB_len (ws : List Int) : (outB ws).length = 4 * ws.length := by
  induction ws with
  | nil => rfl
  | cons x r ih => simp only [outB, List.flatMap_cons, List.length_append, List.length_cons] at ih ⊢; rw [ih]; simp [bytes4]; omega
theorem outB_snoc (ws : List Int) (k : Nat) (h : k < ws.length) : outB (ws.take (k + 1)) = outB (ws.take k) ++ bytes4 ws[k] := by
  have e : ws.take (k + 1) = ws.take k ++ [ws[k]] := by simp
  unfold outB
  rw [e, List.flatMap_append]; simp

set_option maxHeartbeats 4000000 in
set_option maxRecDepth 100000 in
theorem image_calls (es : Array MapEntry) (B0 ga rn rl : Nat) (vw vo : Value) (st : PSt) (line : Int) (w : World) (h : AsmAt es w B0 ga rn rl vw vo st line) (hw : st.words.length ≤ 64) (hr : ∀ x ∈ st.words, 0 ≤ x ∧ x < 4294967296) :
    Calls Tryz.prog 12 #[.pointer (some ⟨ga, 0, none⟩)] w fun e w' => e = .returned (S (outB st.words)) ∧ Below w.heap.size w w' := by
  have hc2 := cell_row h.blk 2 _ rfl
  obtain ⟨ad, cap, rfl, had⟩ := slice_shape h.words
  have HAD := hide had
  have HR := hide hr
  clear h had hr
  obtain ⟨iB, hi0, hi1, hi2, hi3⟩ := info_parts infoB
  have HI := hide (And.intro hi0 (And.intro hi1 (And.intro hi2 hi3)))
  clear hi0 hi1 hi2 hi3
  go_enter Tryz.func12, Tryz.ntmps12
  go_wp2_with fail
  go_loopg [3, 11] st.words.length (fun g vb iv wx => ∃ k, k ≤ st.words.length ∧ g = st.words.length - k ∧ iv = .int .i64 (k : Nat) ∧ Below w.heap.size w wx ∧ wx.ownsRow w.heap.size 5 1 vb (4 * k) ((outB (st.words.take k)).map B))
  case atStart => exact ⟨0, by omega, rfl, rfl, Below.refl _ _, World.ownsRow_nil _ _ _ _⟩
  case round =>
    obtain ⟨k, hk, rfl, rfl, hbx, hown⟩ := hrel
    by_cases hlt : k < st.words.length
    · obtain ⟨adb, capb, hvb, _⟩ := slice_shape hown
      obtain ⟨gw, rfl, hgw, hcw⟩ : ∃ gw, ad = some ⟨gw, 0, none⟩ ∧ gw < w.heap.size ∧ ∀ j u, (st.words.map fun x => Value.int .u32 x)[j]? = some u → w.cell? ⟨gw, j, none⟩ = some u := by
        rcases unhide HAD with ⟨_, h0⟩ | h
        · omega
        · exact h
      have hcell := (hbx.cell (p := ⟨gw, k, none⟩) hgw).trans (hcw k (.int .u32 st.words[k]) (by simp [hlt]))
      have hxr := unhide HR _ (List.getElem_mem hlt)
      have HSN := hide (outB_snoc st.words k hlt)
      generalize st.words[k] = x at *
      subst hvb
      have HOWN := hide hown
      have HBX := hide hbx
      clear hown hbx hcw
      obtain ⟨hx0, hx1⟩ := hxr
      go_upto_region 5 with fail
      go_wp2_with (at_builtin; refine wpList_append_own _ rfl (.tmp 15) (.tmp 27) 61 rfl w.heap.size 5 iB (.int .u8 0) 1 1 Tryz.underlying61 (unhide HI).1 (unhide HI).2.1 (unhide HI).2.2.1 (unhide HI).2.2.2 rfl (by decide) _ (4 * k) ((outB (st.words.take k)).map B) rfl (owns_same (unhide HOWN) (fun j hj => Below.heap_alloc _ _ _ hj)) ⟨wr.heap.size, 0, none⟩ 4 4 [.int .u8 (x / 16777216), .int .u8 (x / 65536 % 256), .int .u8 (x / 256 % 256), .int .u8 (x % 256)] rfl rfl (new_cells wr [.int .u8 (x / 16777216), .int .u8 (x / 65536 % 256), .int .u8 (x / 256 % 256), .int .u8 (x % 256)] 5) ?c2 ?c3 ?c4 ?c5 ?_)
      case c2 => intro z hz; simp at hz; rcases hz with rfl | rfl | rfl | rfl <;> rfl
      case c3 => unfold maxLen; omega
      case c4 => omega
      case c5 => have := (unhide HBX).size; simp; omega
      intro v' w' n1 g1 _
      have HN1 := hide n1
      have HG1 := hide g1
      clear n1 g1
      go_wp2_with fail
      go_roundg (st.words.length - (k + 1))
      case measure => omega
      case rel =>
        refine ⟨k + 1, by omega, rfl, by go_num, ?_, ?_⟩
        · have hbb : Below w.heap.size w (wr.alloc (.cells #[.int .u8 (x / 16777216), .int .u8 (x / 65536 % 256), .int .u8 (x / 256 % 256), .int .u8 (x % 256)] 5)) := (unhide HBX).alloc (unhide HBX).size _
          exact hbb.grown (unhide HG1) hbb.size (fun j hj => ((unhide HOWN).lt j hj).1)
        · have e : 4 * (k + 1) = 4 * k + 4 := by omega
          rw [e, unhide HSN, List.map_append]
          have hb4 : (bytes4 x).map B = [.int .u8 (x / 16777216), .int .u8 (x / 65536 % 256), .int .u8 (x / 256 % 256), .int .u8 (x % 256)] := by
            have hB : ∀ n, B (byteI n) = .int .u8 (n % 256) := fun n => by show Value.int .u8 _ = _; rw [byteI_val]
            simp only [bytes4, List.map_cons, List.map_nil, hB]
            have : x / 16777216 % 256 = x / 16777216 := by omega
            rw [this]
          rw [hb4]
          exact unhide HN1
    · obtain rfl : k = st.words.length := by omega
      rw [List.take_length] at hown
      obtain ⟨adb, capb, hvb, hcb⟩ := slice_shape hown
      subst hvb
      have HBX := hide hbx
      have hlen := outB_len st.words
      have hcv : (convert 61 9 (.slice adb (4 * st.words.length) capb)).run Tryz.prog wr = .ok (S (outB st.words)) wr := by
        rcases hcb with ⟨rfl, h0⟩ | ⟨g, rfl, _, hg⟩
        · have hz : st.words = [] := List.eq_nil_of_length_eq_zero (by omega)
          have h4 : 4 * st.words.length = 0 := by omega
          rw [h4, hz]
          exact Lib.run_convert_nil_bytes wr _ _ 5 capb Tryz.underlying61 (by kernel_rfl) (by kernel_rfl)
        · rw [← hlen]
          exact run_convert_bytes_back wr _ _ 5 ⟨g, 0, none⟩ capb (outB st.words) Tryz.underlying61 (by kernel_rfl) (by kernel_rfl) (fun j hj => by rw [add_off]; exact hg j _ (by simp [hj]))
      clear hown hbx hcb hlen
      go_wp2_with fail
      go_ret
      exact ⟨rfl, unhide HBX⟩
end Go.Proofs.YtnbhpmncppohaaaGreatDoor.Mill
