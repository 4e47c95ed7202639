import Derived.Test.YtlcenbhcegmnoaaDoorWe
namespace Go.Proofs.YtlcenbhcegmnoaaDoor
set_option linter.unusedSimpArgs false
set_option linter.unusedVariables false
open Go.RowKit
theorem setB {w : World} {g i : Nat} {l : List Int} {x : Int} {t : TypeId} (hg : w.heap[g]? = some (.cells (vB l) t)) : (w.setCell ⟨g, i, none⟩ (.int .u8 x)).heap[g]? = some (.cells (vB (l.set i x)) t) := by
  rw [heap_setCell_same _ _ _ _ _ _ hg, vB_set]
def outTo (ws : List Int) : Nat → List Int
  | 0 => zs 32
  | k + 1 => ((((outTo ws k).set (4 * k) (gi ws k / 16777216 % 256)).set (4 * k + 1) (gi ws k / 65536 % 256)).set (4 * k + 2) (gi ws k / 256 % 256)).set (4 * k + 3) (gi ws k % 256)
theorem outTo_length (ws : List Int) (k : Nat) : (outTo ws k).length = 32 := by
  induction k with
  | zero => rfl
  | succ k ih => simp [outTo, ih]
def outB (ws : List Int) : List Int := outTo ws 8
set_option maxRecDepth 100000 in
set_option maxHeartbeats 1000000 in
theorem bytes_any (ws : List Int) (hw : ws.length = 8) (w : World) :
    Calls Tryd.prog 48 #[.agg (vW ws)] w fun e w' => e = .returned (.agg (vB (outB ws))) ∧ Below w.heap.size w w' := by
  have hsw := vW_size ws
  go_enter Tryd.func48, Tryd.ntmps48
  go_wp2_with (first | (refine load35 rfl _ rfl _ rfl ws hw 34 (alloc3_at0 _ _ _ _) ?_))
  go_loopw [7] (fun i wr => ∃ k : Nat, k ≤ 8 ∧ i = .int .i64 k ∧ Below w.heap.size w wr ∧ wr.heap.size = w.heap.size + 3 ∧ wr.heap[w.heap.size + 1]? = some (.cells (vB (zs 32)) 24) ∧ wr.heap[w.heap.size + 1 + 1]? = some (.cells (vB (outTo ws k)) 24)) (fun i _ => 8 - (intOf i).toNat)
  case atStart =>
    exact ⟨0, by omega, rfl, (((Below.refl _ _).alloc (Nat.le_refl _) _).alloc (by simp) _).alloc (by simp; omega) _, by simp, alloc3_at1 _ _ _ _, alloc3_at2 _ _ _ _⟩
  case round =>
    obtain ⟨k, hk, rfl, hbl, hsize, hb1, hb2⟩ := hrel
    by_cases hlt : k < 8
    · have hix := index35 ws hw k hlt
      have hl := outTo_length ws k
      have c0 := row_cell hb2 (vB_at (outTo ws k) (4 * k) (by omega))
      have c1 := row_cell hb2 (vB_at (outTo ws k) (4 * k + 1) (by omega))
      have c2 := row_cell hb2 (vB_at (outTo ws k) (4 * k + 2) (by omega))
      have c3 := row_cell hb2 (vB_at (outTo ws k) (4 * k + 3) (by omega))
      have hfw : ∀ j, wr.frozen? ⟨w.heap.size + 1 + 1, j, none⟩ = false := fun j => frozen_of_row _ _ _ _ _ hb2
      go_wp2
      go_roundw
      case rel =>
        have hB : w.heap.size ≤ w.heap.size + 1 + 1 := by omega
        refine ⟨k + 1, by omega, by go_num, (((hbl.setCell hB _).setCell hB _).setCell hB _).setCell hB _, by simpa using hsize, ?_, setB (setB (setB (setB hb2)))⟩
        rw [heap_setCell_other _ _ _ _ (by simp), heap_setCell_other _ _ _ _ (by simp), heap_setCell_other _ _ _ _ (by simp), heap_setCell_other _ _ _ _ (by simp)]
        exact hb1
      case measure => simp [intOf]; omega
    · have ek : k = 8 := by omega
      have hb2' : wr.heap[w.heap.size + 1 + 1]? = some (.cells (vB (outB ws)) 24) := by rw [hb2, ek]; rfl
      clear ek hb2
      go_wp2_with (first | (refine load24 rfl _ rfl _ rfl (outB ws) (outTo_length ws 8) 24 hb2' ?_) | (refine store24 rfl _ _ rfl _ (outB ws) rfl rfl (outTo_length ws 8) 24 (zs 32) rfl hb1 ?_))
      exact bodyPost_ret (v := .agg (vB (outB ws))) (results_cell_row (p := 2) (ty := 24) Tryd.results48 _ _ (w.heap.size + 1) 24 _ (0, 0) _ rfl (setRow_same hb1) Tryd.underlying24 rfl (by rw [vB_size, outB, outTo_length]; kernel_rfl)) rfl ⟨rfl, below_setRow hbl (by omega) _⟩
end Go.Proofs.YtlcenbhcegmnoaaDoor
