import Derived.Test.YtnpjknnalekdpaaDoorAy
import Derived.Test.YtnpjknnalekdpaaDoorTy
import Derived.Deep.Matrix
namespace Go.Proofs.YtnpjknnalekdpaaDoor
set_option linter.unusedSimpArgs false
set_option linter.unusedVariables false
set_option maxRecDepth 100000
open Go.ChangeShapes Go.WideShapes Go.ChangeAt Go.RowKit
theorem cells87 : Tryd.prog.cellsOf 87 = 3 := by kernel_rfl
theorem cells22q : Tryd.prog.cellsOf 22 = 1 := by kernel_rfl
theorem cells5q : Tryd.prog.cellsOf 5 = 1 := by kernel_rfl
/-- A row of bytes that lies in a cell. -/
theorem part_cell {H : Type} {enc : TypeId × Value → H} {W : World} {fuel : Nat} {cs : List Value} {y : DataW H × List MemPlace} (h2 : 0 < W.heap.size) (hf : DataW.trod enc Tryd.prog W 0 (fun _ => true) true fuel 22 cs = some y) :
    ∃ v bs, cs = [v] ∧ PartAt W v bs ∧ Bytes bs := by
  rcases open_ints Tryd.underlying22 Tryd.underlying5 (by kernel_rfl) hf with ⟨hcs, _⟩ | ⟨a, len, cap, zs, hcs, _, hl, hm, hz, hx, hcell, hwz⟩
  · exact ⟨_, [], hcs, ⟨none, 0, 0, 0, rfl, Nat.le_refl _, by omega, fun h => by simp at h, fun j v hv => by simp [vB] at hv, by omega, fun _ => rfl⟩, by intro x hx; cases hx⟩
  · have hzl : zs.length = cap := by simpa using hz
    have hbound : cap ≤ 9223372036854775807 := by unfold maxLen at hm; omega
    have htl : (zs.take len).length = len := by simp; omega
    refine ⟨_, zs.take len, hcs, ?_, fun x hx => bounds_u8 (hwz x (List.mem_of_mem_take hx))⟩
    rcases Nat.eq_zero_or_pos len with h0 | h0
    · subst h0
      exact ⟨some a, 0, 0, cap, by simp, by simp, by omega, fun h => by simp at h, fun j v hv => by simp [vB] at hv, by omega, fun h => by cases h⟩
    · obtain ⟨blk, off, spot⟩ := a
      have hc0 := hcell 0 (by omega)
      have hspot : spot = none := by simpa [Addr.add] using World.cell?_spot hc0
      subst hspot
      refine ⟨some ⟨blk, off, none⟩, blk, off, cap, by rw [htl], by omega, by omega, fun _ => rfl, fun j v hv => ?_, ?_, fun h => by cases h⟩
      · have hj : j < len := by have := (List.getElem?_eq_some_iff.1 hv).1; rw [Array.length_toList, vB_size, htl] at this; exact this
        have hc := hcell j (by omega)
        rw [Addr.add_mid] at hc
        rw [hc]
        have e := vB_at (zs.take len) j (by omega)
        rw [Array.getElem?_toList, e] at hv
        injection hv with hv
        rw [← hv]
        unfold gi
        simp [hj]
      · have := block_lt_of_cell hc0
        simpa [Addr.add] using this
theorem dropped3 {α : Type} (cs : List α) (j k : Nat) (T R : List α) (h1 : (cs.drop j).take k = T) (h2 : cs.drop (j + k) = R) : cs.drop j = T ++ R := by
  rw [← List.take_append_drop k (cs.drop j), List.drop_drop, h1, h2]
theorem trod_piece {H : Type} {enc : TypeId × Value → H} {W : World} {fuel : Nat} {cs : List Value} {y : DataW H × List MemPlace} (h2 : 0 < W.heap.size) (h : DataW.trod enc Tryd.prog W 0 (fun _ => true) true fuel 87 cs = some y) :
    ∃ (p : Pc) (x z : Value), cs = [.int .u8 p.1, x, z] ∧ PartAt W x p.2.1 ∧ PartAt W z p.2.2 ∧ (0 ≤ p.1 ∧ p.1 ≤ 255) ∧ Bytes p.2.1 ∧ Bytes p.2.2 := by
  obtain ⟨xs, m, _, ex, hcl, hl, hf⟩ := DataW.trod_struct Tryd.underlying87 h
  rw [cells87] at hcl
  have hl3 : xs.length = 3 := hl
  have h0 : DataW.trod enc Tryd.prog W 0 (fun _ => true) true m 5 ((cs.drop 0).take (Tryd.prog.cellsOf 5)) = xs[0]? := hf 0 _ rfl
  have h1 : DataW.trod enc Tryd.prog W 0 (fun _ => true) true m 22 ((cs.drop 1).take (Tryd.prog.cellsOf 22)) = xs[1]? := hf 1 _ rfl
  have h3 : DataW.trod enc Tryd.prog W 0 (fun _ => true) true m 22 ((cs.drop 2).take (Tryd.prog.cellsOf 22)) = xs[2]? := hf 2 _ rfl
  rw [List.getElem?_eq_getElem (by omega)] at h0 h1 h3
  rw [cells5q] at h0; rw [cells22q] at h1 h3
  obtain ⟨t, e0, _, w0⟩ := DataW.trod_int Tryd.underlying5 h0
  obtain ⟨x, b, e1, p1, b1⟩ := part_cell h2 h1
  obtain ⟨z, j, e3, p3, b3⟩ := part_cell h2 h3
  have d3 : cs.drop (2 + 1) = [] := List.drop_eq_nil_of_le (by omega)
  have d0 := dropped3 cs 0 1 _ _ e0 (dropped3 cs 1 1 _ _ e1 (dropped3 cs 2 1 _ _ e3 d3))
  rw [List.drop_zero] at d0
  exact ⟨(t, b, j), x, z, d0, p1, p3, bounds_u8 w0, b1, b3⟩
/-- A slice of pieces that came in. -/
theorem open_pieces {H : Type} {enc : TypeId × Value → H} {W : World} {v : Value} {d : DataW H} {p : List MemPlace} (h2 : 0 < W.heap.size) (h : DataW.Trod enc Tryd.prog W 0 (fun _ => true) true 85 v d p) (av : Option Addr) (len cap : Nat) (hv : v = .slice av len cap) :
    ∃ ps, PiecesAt W v ps := by
  subst hv
  obtain ⟨fuel, hf⟩ := h
  rcases Deep.open_slice Tryd.underlying85 hf with ⟨hcs, _⟩ | ⟨a, l, c, m, n, D, Pl, hcs, _, hl, hmx, hm, hx, hE⟩
  · simp [Value.cells] at hcs
    obtain ⟨rfl, rfl, rfl⟩ := hcs
    exact ⟨[], none, 0, 0, 0, rfl, Nat.le_refl _, by omega, fun h => by simp at h, fun i x hx => by simp at hx, fun x hx => by simp at hx⟩
  · simp [Value.cells] at hcs
    obtain ⟨rfl, rfl, rfl⟩ := hcs
    simp only [if_true] at hm
    subst hm
    rw [cells87] at hE
    have hall : ∀ i, i < len → ∃ q : Pc × Value × Value, W.cells? 0 (a.add (i * 3)) 3 = some [.int .u8 q.1.1, q.2.1, q.2.2] ∧ PartAt W q.2.1 q.1.2.1 ∧ PartAt W q.2.2 q.1.2.2 ∧ (0 ≤ q.1.1 ∧ q.1.1 ≤ 255) ∧ Bytes q.1.2.1 ∧ Bytes q.1.2.2 := fun i hi => by
      obtain ⟨cs', hc, ht⟩ := hE i (by omega)
      obtain ⟨p, x, z, e, r⟩ := trod_piece h2 ht
      exact ⟨(p, x, z), by rw [hc, e], r⟩
    obtain ⟨q, hq⟩ := Deep.choose_lt hall
    have hps : ∀ (i : Nat) (p : Pc), ((List.range len).map fun r => (q r).1)[i]? = some p → i < len ∧ p = (q i).1 := fun i p h => by
      have hi : i < len := by have := (List.getElem?_eq_some_iff.1 h).1; simpa using this
      refine ⟨hi, ?_⟩
      simp [hi] at h
      exact h.symm
    have hmem : ∀ p ∈ ((List.range len).map fun r => (q r).1), (0 ≤ p.1 ∧ p.1 ≤ 255) ∧ Bytes p.2.1 ∧ Bytes p.2.2 := fun p hp => by
      obtain ⟨i, hi, e⟩ := List.getElem_of_mem hp
      obtain ⟨h1, rfl⟩ := hps i p (by rw [List.getElem?_eq_getElem hi, e])
      exact (hq i h1).2.2.2
    refine ⟨(List.range len).map fun r => (q r).1, ?_⟩
    rcases Nat.eq_zero_or_pos len with h0 | h0
    · subst h0
      exact ⟨some a, 0, 0, m, by simp, by simp, by unfold maxLen at hmx; omega, fun h => by simp at h, fun i x hx => by simp at hx, hmem⟩
    · obtain ⟨blk, off, spot⟩ := a
      have hcell : ∀ i, i < len → ∀ j y, ([.int .u8 (q i).1.1, (q i).2.1, (q i).2.2] : List Value)[j]? = some y → W.cell? ((⟨blk, off, spot⟩ : Addr).add (i * 3) |>.add j) = some y := fun i hi j y hy => by
        have hj : j < 3 := by have := (List.getElem?_eq_some_iff.1 hy).1; simpa using this
        have h1 := (World.cells?_some (hq i hi).1).2.2 j hj
        rw [h1]; exact hy
      have hc00 := hcell 0 h0 0 _ rfl
      have hspot : spot = none := by simpa [Addr.add] using World.cell?_spot hc00
      subst hspot
      have hblk : blk < W.heap.size := by
        rw [Addr.add_mid, Addr.add_mid] at hc00
        exact block_lt_of_cell hc00
      refine ⟨some ⟨blk, off, none⟩, blk, off, m, by simp, by simpa using hl, by unfold maxLen at hmx; omega, fun _ => rfl, fun i p hp => ?_, hmem⟩
      obtain ⟨hi, rfl⟩ := hps i p hp
      refine ⟨hblk, (q i).2.1, (q i).2.2, fun j y hy => ?_, (hq i hi).2.1, (hq i hi).2.2.1⟩
      have := hcell i hi j y hy
      rw [Addr.add_mid, Addr.add_mid] at this
      exact this
end Go.Proofs.YtnpjknnalekdpaaDoor
