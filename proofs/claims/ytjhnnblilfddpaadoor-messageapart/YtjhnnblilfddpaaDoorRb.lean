import Derived.Test.YtjhnnblilfddpaaDoorRa
namespace Go.Proofs.YtjhnnblilfddpaaDoor
set_option linter.unusedSimpArgs false
set_option linter.unusedVariables false
open Go.RowKit
def numTo (m : Int) : Nat → List Int
  | 0 => zs 8
  | k + 1 => (numTo m k).set (7 - k) (m / 2 ^ (8 * k) % 256)
set_option maxRecDepth 100000 in
theorem numTo_length (m : Int) (k : Nat) : (numTo m k).length = 8 := by
  induction k with
  | zero => rfl
  | succ k ih => simp [numTo, ih]
set_option maxRecDepth 100000 in
set_option maxHeartbeats 1000000 in
theorem num_any (m : Int) (w : World) : Calls Tryd.prog 43 #[.int .u64 m, .int .i64 8] w fun e w' => ∃ g, e = .returned (.slice (some ⟨g, 0, none⟩) 8 8) ∧ w.heap.size ≤ g ∧ w'.heap[g]? = some (.cells (vB (numTo m 8)) 5) ∧ Below w.heap.size w w' := by
  have hmk : ∀ w : World, (Instr.makeSlice 22 (.int .i64 8) (.int .i64 8)).run Tryd.prog w = .ok (.slice (some ⟨w.heap.size, 0, none⟩) 8 8) (w.alloc (.cells (vB (zs 8)) 5)) := fun w => makeB 8 (by omega) w
  go_enter Tryd.func43, Tryd.ntmps43
  go_wp2
  go_loopw [10] (fun i wr => ∃ k : Nat, k ≤ 8 ∧ i = .int .i64 k ∧ Below w.heap.size w wr ∧ wr.heap.size = w.heap.size + 1 ∧ wr.heap[w.heap.size]? = some (.cells (vB (numTo m k)) 5)) (fun i _ => 8 - (intOf i).toNat)
  case atStart => exact ⟨0, by omega, rfl, (Below.refl _ _).alloc (Nat.le_refl _) _, by simp, heap_alloc_new _ _⟩
  case round =>
    obtain ⟨k, hk, rfl, hbl, hsize, hb0⟩ := hrel
    have hnl := numTo_length m k
    by_cases hlt : k < 8
    · have hc := row_cell hb0 (vB_at (numTo m k) (7 - k) (by omega))
      have hfw : wr.frozen? ⟨w.heap.size, 7 - k, none⟩ = false := frozen_of_row _ _ _ _ _ hb0
      go_wp2
      go_roundw
      case rel =>
        refine ⟨k + 1, by omega, by go_num, hbl.setCell (by show w.heap.size ≤ w.heap.size; omega) _, by simpa using hsize, setB hb0⟩
      case measure => simp [intOf]; omega
    · have ek : k = 8 := by omega
      have hb0' : wr.heap[w.heap.size]? = some (.cells (vB (numTo m 8)) 5) := by rw [hb0, ek]
      clear ek hb0
      go_wp2
      go_ret
      exact ⟨w.heap.size, rfl, Nat.le_refl _, hb0', hbl⟩
end Go.Proofs.YtjhnnblilfddpaaDoor
