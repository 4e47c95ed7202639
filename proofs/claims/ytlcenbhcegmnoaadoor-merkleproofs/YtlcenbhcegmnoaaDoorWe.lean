import Derived.Test.YtlcenbhcegmnoaaDoorWd
namespace Go.Proofs.YtlcenbhcegmnoaaDoor
set_option linter.unusedSimpArgs false
set_option linter.unusedVariables false
open Go.RowKit
/-- How long the padding behind n bytes is. -/
def padLen (n : Nat) : Nat := 9 + (64 - (n + 9) % 64) % 64
def padTo (n : Nat) : Nat → List Int
  | 0 => (zs (padLen n)).set 0 128
  | k + 1 => (padTo n k).set (padLen n - 1 - k) ((n : Int) * 8 / 2 ^ (8 * k) % 256)
theorem padTo_length (n k : Nat) : (padTo n k).length = padLen n := by
  induction k with
  | zero => simp [padTo, zs_length]
  | succ k ih => simp [padTo, ih]
def padL (n : Nat) : List Int := padTo n 8
set_option maxRecDepth 100000 in
set_option maxHeartbeats 1000000 in
theorem pad_any (n : Nat) (hn : n ≤ 1152921504606846976) (w : World) :
    Calls Tryd.prog 47 #[.int .i64 n] w fun e w' => ∃ g, e = .returned (.slice (some ⟨g, 0, none⟩) (padLen n) (padLen n)) ∧ w.heap.size ≤ g ∧ w'.heap[g]? = some (.cells (vB (padL n)) 5) ∧ Below w.heap.size w w' := by
  have h1 : (1 : Int) + -(((n : Int) + 1 + 8) % 64) % 64 + 8 = ((padLen n : Nat) : Int) := by unfold padLen; omega
  have h2 : 9 ≤ padLen n ∧ padLen n ≤ 72 := by unfold padLen; omega
  obtain ⟨h2, h3⟩ := h2
  have hmk := makeB (padLen n) (by omega)
  have hpl := padTo_length n
  generalize hm : padLen n = m at *
  have HM : Hid (padLen n = m) := hm
  clear hm
  have hz0 := vB_at (zs m) 0 (by rw [zs_length]; omega)
  go_enter Tryd.func47, Tryd.ntmps47
  go_wp2
  go_loopw [24] (fun i wr => ∃ k : Nat, k ≤ 8 ∧ i = .int .i64 k ∧ Below w.heap.size w wr ∧ wr.heap.size = w.heap.size + 1 ∧ wr.heap[w.heap.size]? = some (.cells (vB (padTo n k)) 5)) (fun i _ => 8 - (intOf i).toNat)
  case atStart =>
    refine ⟨0, by omega, rfl, (Below.refl _ _).alloc (Nat.le_refl _) _, by simp, ?_⟩
    rw [heap_alloc_new]
    rw [vB_set]; unfold padTo; rw [HM.out]
  case round =>
    obtain ⟨k, hk, rfl, hbl, hsize, hb0⟩ := hrel
    by_cases hlt : k < 8
    · have hc := row_cell hb0 (vB_at (padTo n k) (m - 1 - k) (by rw [hpl]; omega))
      have hfw : wr.frozen? ⟨w.heap.size, m - 1 - k, none⟩ = false := frozen_of_row _ _ _ _ _ hb0
      go_wp2
      go_roundw
      case rel =>
        refine ⟨k + 1, by omega, by go_num, hbl.setCell (by show w.heap.size ≤ w.heap.size; omega) _, by simpa using hsize, ?_⟩
        rw [heap_setCell_same _ _ _ _ _ _ hb0, vB_set]
        show _ = some (Obj.cells (vB ((padTo n k).set (padLen n - 1 - k) ((n : Int) * 8 / 2 ^ (8 * k) % 256))) 5 (0, 0))
        rw [HM.out]
      case measure => simp [intOf]; omega
    · have ek : k = 8 := by omega
      have hb0' : wr.heap[w.heap.size]? = some (.cells (vB (padL n)) 5) := by rw [hb0, ek]; rfl
      clear ek hb0
      go_wp2
      go_ret
      exact ⟨w.heap.size, rfl, Nat.le_refl _, hb0', hbl⟩
end Go.Proofs.YtlcenbhcegmnoaaDoor
