import Derived.Test.YtjhnnblilfddpaaDoorWx
import Derived.Deep.OwnRows
namespace Go.Proofs.YtjhnnblilfddpaaDoor
set_option linter.unusedSimpArgs false
set_option linter.unusedVariables false
open Go.RowKit
theorem index35 (ws : List Int) (hw : ws.length = 8) (k : Nat) (hk : k < 8) (w : World) : (Instr.index 34 (.agg (vW ws)) (.int .i64 k)).run Tryd.prog w = .ok (.int .u32 (gi ws k)) w := by
  have hs : (Tryd.prog.info? 33).map (·.size) = some 1 := by kernel_rfl
  have hq := vW_at ws k (by omega)
  have hagg : (isAgg 33).run Tryd.prog w = .ok false w := by
    unfold isAgg; rw [Sem.run_bind, run_underlying Tryd.underlying33 w]; rfl
  cases hi : Tryd.prog.info? 33 with
  | none => simp [hi] at hs
  | some i =>
    have hz : i.size = 1 := by simpa [hi] using hs
    have h8 : 0 ≤ (k : Int) ∧ (k : Int) < ((8 : Nat) : Int) := by omega
    simp [Instr.index, asIntOf, Sem.run_bind, run_underlying Tryd.underlying34 w, part, hagg, sizeOf, typeInfo, hi, hz, hq, hk]
theorem madeB (n : Nat) : madeCells #[.int .u8 0] n = vB (zs n) := by
  apply Array.ext_getElem?
  intro i
  simp [madeCells, vB, zs, List.getElem?_replicate]
  by_cases h : i < n
  · simp [h, Nat.mod_one]
  · simp [h]
theorem makeB (n : Nat) (h : n ≤ 281474976710656) (w : World) : (Instr.makeSlice 22 (.int .i64 n) (.int .i64 n)).run Tryd.prog w = .ok (.slice (some ⟨w.heap.size, 0, none⟩) n n) (w.alloc (.cells (vB (zs n)) 5)) := by
  rw [← madeB]
  exact run_make_row' 22 5 (.int .u8 0) 1 Tryd.underlying22 (by kernel_rfl) rfl .i64 .i64 n (by omega) (by omega) w
end Go.Proofs.YtjhnnblilfddpaaDoor
namespace Go.Proofs.YtjhnnblilfddpaaDoor
set_option linter.unusedSimpArgs false
set_option linter.unusedVariables false
open Go.RowKit
/-- How long the padding behind n bytes is. -/
def padLen (n : Nat) : Nat := 9 + (64 - (n + 9) % 64) % 64
def padTo (n : Nat) : Nat → List Int
  | 0 => (zs (padLen n)).set 0 128
  | k + 1 => (padTo n k).set (padLen n - 1 - k) ((n : Int) * 8 / 2 ^ (8 * k) % 256)
theorem padTo_length (n k : Nat) : (padTo n k).length = padLen n := by
  induction k with
  | zero => simp [padTo, zs_length]
  | succ k ih => simp [padTo, ih]
def padL (n : Nat) : List Int := padTo n 8
set_option maxRecDepth 100000 in
set_option maxHeartbeats 1000000 in
theorem pad_any (n : Nat) (hn : n ≤ 1152921504606846976) (w : World) :
    Calls Tryd.prog 47 #[.int .i64 n] w fun e w' => ∃ g, e = .returned (.slice (some ⟨g, 0, none⟩) (padLen n) (padLen n)) ∧ w.heap.size ≤ g ∧ w'.heap[g]? = some (.cells (vB (padL n)) 5) ∧ Below w.heap.size w w' := by
  have h1 : (1 : Int) + -(((n : Int) + 1 + 8) % 64) % 64 + 8 = ((padLen n : Nat) : Int) := by unfold padLen; omega
  have h2 : 9 ≤ padLen n ∧ padLen n ≤ 72 := by unfold padLen; omega
  obtain ⟨h2, h3⟩ := h2
  have hmk := makeB (padLen n) (by omega)
  have hpl := padTo_length n
  generalize hm : padLen n = m at *
  have HM : Hid (padLen n = m) := hm
  clear hm
  have hz0 := vB_at (zs m) 0 (by rw [zs_length]; omega)
  go_enter Tryd.func47, Tryd.ntmps47
  go_wp2
  go_loopw [24] (fun i wr => ∃ k : Nat, k ≤ 8 ∧ i = .int .i64 k ∧ Below w.heap.size w wr ∧ wr.heap.size = w.heap.size + 1 ∧ wr.heap[w.heap.size]? = some (.cells (vB (padTo n k)) 5)) (fun i _ => 8 - (intOf i).toNat)
  case atStart =>
    refine ⟨0, by omega, rfl, (Below.refl _ _).alloc (Nat.le_refl _) _, by simp, ?_⟩
    rw [heap_alloc_new]
    rw [vB_set]; unfold padTo; rw [HM.out]
  case round =>
    obtain ⟨k, hk, rfl, hbl, hsize, hb0⟩ := hrel
    by_cases hlt : k < 8
    · have hc := row_cell hb0 (vB_at (padTo n k) (m - 1 - k) (by rw [hpl]; omega))
      have hfw : wr.frozen? ⟨w.heap.size, m - 1 - k, none⟩ = false := frozen_of_row _ _ _ _ _ hb0
      go_wp2
      go_roundw
      case rel =>
        refine ⟨k + 1, by omega, by go_num, hbl.setCell (by show w.heap.size ≤ w.heap.size; omega) _, by simpa using hsize, ?_⟩
        rw [heap_setCell_same _ _ _ _ _ _ hb0, vB_set]
        show _ = some (Obj.cells (vB ((padTo n k).set (padLen n - 1 - k) ((n : Int) * 8 / 2 ^ (8 * k) % 256))) 5 (0, 0))
        rw [HM.out]
      case measure => simp [intOf]; omega
    · have ek : k = 8 := by omega
      have hb0' : wr.heap[w.heap.size]? = some (.cells (vB (padL n)) 5) := by rw [hb0, ek]; rfl
      clear ek hb0
      go_wp2
      go_ret
      exact ⟨w.heap.size, rfl, Nat.le_refl _, hb0', hbl⟩
end Go.Proofs.YtjhnnblilfddpaaDoor
namespace Go.Proofs.YtjhnnblilfddpaaDoor
set_option linter.unusedSimpArgs false
set_option linter.unusedVariables false
open Go.RowKit
theorem setB {w : World} {g i : Nat} {l : List Int} {x : Int} {t : TypeId} (hg : w.heap[g]? = some (.cells (vB l) t)) : (w.setCell ⟨g, i, none⟩ (.int .u8 x)).heap[g]? = some (.cells (vB (l.set i x)) t) := by
  rw [heap_setCell_same _ _ _ _ _ _ hg, vB_set]
def outTo (ws : List Int) : Nat → List Int
  | 0 => zs 32
  | k + 1 => ((((outTo ws k).set (4 * k) (gi ws k / 16777216 % 256)).set (4 * k + 1) (gi ws k / 65536 % 256)).set (4 * k + 2) (gi ws k / 256 % 256)).set (4 * k + 3) (gi ws k % 256)
theorem outTo_length (ws : List Int) (k : Nat) : (outTo ws k).length = 32 := by
  induction k with
  | zero => rfl
  | succ k ih => simp [outTo, ih]
def outB (ws : List Int) : List Int := outTo ws 8
set_option maxRecDepth 100000 in
set_option maxHeartbeats 1000000 in
theorem bytes_any (ws : List Int) (hw : ws.length = 8) (w : World) :
    Calls Tryd.prog 48 #[.agg (vW ws)] w fun e w' => e = .returned (.agg (vB (outB ws))) ∧ Below w.heap.size w w' := by
  have hsw := vW_size ws
  go_enter Tryd.func48, Tryd.ntmps48
  go_wp2_with (first | (refine load35 rfl _ rfl _ rfl ws hw 34 (alloc3_at0 _ _ _ _) ?_))
  go_loopw [7] (fun i wr => ∃ k : Nat, k ≤ 8 ∧ i = .int .i64 k ∧ Below w.heap.size w wr ∧ wr.heap.size = w.heap.size + 3 ∧ wr.heap[w.heap.size + 1]? = some (.cells (vB (zs 32)) 24) ∧ wr.heap[w.heap.size + 1 + 1]? = some (.cells (vB (outTo ws k)) 24)) (fun i _ => 8 - (intOf i).toNat)
  case atStart =>
    exact ⟨0, by omega, rfl, (((Below.refl _ _).alloc (Nat.le_refl _) _).alloc (by simp) _).alloc (by simp; omega) _, by simp, alloc3_at1 _ _ _ _, alloc3_at2 _ _ _ _⟩
  case round =>
    obtain ⟨k, hk, rfl, hbl, hsize, hb1, hb2⟩ := hrel
    by_cases hlt : k < 8
    · have hix := index35 ws hw k hlt
      have hl := outTo_length ws k
      have c0 := row_cell hb2 (vB_at (outTo ws k) (4 * k) (by omega))
      have c1 := row_cell hb2 (vB_at (outTo ws k) (4 * k + 1) (by omega))
      have c2 := row_cell hb2 (vB_at (outTo ws k) (4 * k + 2) (by omega))
      have c3 := row_cell hb2 (vB_at (outTo ws k) (4 * k + 3) (by omega))
      have hfw : ∀ j, wr.frozen? ⟨w.heap.size + 1 + 1, j, none⟩ = false := fun j => frozen_of_row _ _ _ _ _ hb2
      go_wp2
      go_roundw
      case rel =>
        have hB : w.heap.size ≤ w.heap.size + 1 + 1 := by omega
        refine ⟨k + 1, by omega, by go_num, (((hbl.setCell hB _).setCell hB _).setCell hB _).setCell hB _, by simpa using hsize, ?_, setB (setB (setB (setB hb2)))⟩
        rw [heap_setCell_other _ _ _ _ (by simp), heap_setCell_other _ _ _ _ (by simp), heap_setCell_other _ _ _ _ (by simp), heap_setCell_other _ _ _ _ (by simp)]
        exact hb1
      case measure => simp [intOf]; omega
    · have ek : k = 8 := by omega
      have hb2' : wr.heap[w.heap.size + 1 + 1]? = some (.cells (vB (outB ws)) 24) := by rw [hb2, ek]; rfl
      clear ek hb2
      go_wp2_with (first | (refine load24 rfl _ rfl _ rfl (outB ws) (outTo_length ws 8) 24 hb2' ?_) | (refine store24 rfl _ _ rfl _ (outB ws) rfl rfl (outTo_length ws 8) 24 (zs 32) rfl hb1 ?_))
      exact bodyPost_ret (v := .agg (vB (outB ws))) (results_cell_row (p := 2) (ty := 24) Tryd.results48 _ _ (w.heap.size + 1) 24 _ (0, 0) _ rfl (setRow_same hb1) Tryd.underlying24 rfl (by rw [vB_size, outB, outTo_length]; kernel_rfl)) rfl ⟨rfl, below_setRow hbl (by omega) _⟩
end Go.Proofs.YtjhnnblilfddpaaDoor
