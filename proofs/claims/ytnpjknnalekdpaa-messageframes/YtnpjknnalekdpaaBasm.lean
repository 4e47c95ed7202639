import Derived.Test.YtnpjknnalekdpaaLe
import Derived.ProofKit
import Derived.OpenShut
import Derived.ChangeOld
import Derived.Deep.DeepHandedRow
import Derived.SizedLaws
import Derived.DataReads
import Derived.ChangeArms
import Derived.Lib.LaidTab
namespace Go.Proofs.Ytnpjknnalekdpaa
set_option linter.unusedSimpArgs false
set_option linter.unusedVariables false
open Go.ChangeShapes Go.WideShapes Go.ChangeAt Go.RowKit
set_option maxRecDepth 100000 in
theorem own : ownKnob Try.prog.godebug = none := by kernel_rfl
set_option maxRecDepth 100000 in
theorem laidOut : laidOutB Try.prog = true := by kernel_rfl
set_option maxRecDepth 100000 in
theorem start_some : decide (0 < (begin Try.prog (fun _ _ => 0) default).world.heap.size) = true := by kernel_rfl
set_option maxRecDepth 100000 in
theorem globals_none : Try.prog.globals.size = 0 := by kernel_rfl
/-- The memory that the program starts with is not empty. -/
theorem heap_of {W : World} (h : W.ShapedOpen Try.prog) : 0 < W.heap.size := by
  obtain ⟨o, _, h1, _⟩ := h.2 0 (by rw [globals_none]; exact Nat.le_refl _) (of_decide_eq_true start_some)
  exact (Array.getElem?_eq_some_iff.1 h1).1
set_option maxRecDepth 100000 in
/-- A slice of bytes that came in: its bytes lie in memory; there are at most so many; each is one. -/
theorem open_part {H : Type} {enc : TypeId × Value → H} {W : World} {v : Value} {d : DataW H} {p : List MemPlace} (h2 : 0 < W.heap.size) (h : DataW.Trod enc Try.prog W 0 (fun _ => true) true 22 v d p) (av : Option Addr) (len cap : Nat) (hv : v = .slice av len cap)
    (hw : ∀ elems spare, d = .slice elems spare → (elems.length + spare.length) * Try.prog.bytesOf 5 ≤ reachBytes) :
    ∃ bs, PartAt W v bs ∧ bs.length ≤ 140737488351232 ∧ ∀ x ∈ bs, 0 ≤ x ∧ x ≤ 255 := by
  subst hv
  obtain ⟨fuel, hf⟩ := h
  rcases open_ints Try.underlying22 Try.underlying5 (by kernel_rfl) hf with ⟨hcs, _⟩ | ⟨a, l, c, zs, hcs, _, hl, hm, hz, hx, hcell, hwz⟩
  · simp [Value.cells] at hcs
    obtain ⟨rfl, rfl, rfl⟩ := hcs
    exact ⟨[], ⟨none, 0, 0, 0, rfl, Nat.le_refl _, by omega, fun h => by simp at h, fun j v hv => by simp [vB] at hv, by omega, fun _ => rfl⟩, by simp, by simp⟩
  · simp [Value.cells] at hcs
    obtain ⟨rfl, rfl, rfl⟩ := hcs
    have hzl : zs.length = cap := by simpa using hz
    have hd : d = .slice (lits .u8 (zs.take len)) (lits .u8 (zs.drop len)) := congrArg Prod.fst hx
    have hby : Try.prog.bytesOf 5 = 1 := by kernel_rfl
    have hbound : cap ≤ 140737488351232 := by
      have h1 := hw _ _ hd
      rw [hby] at h1
      have e1 : (lits (H := H) .u8 (zs.take len)).length = len := by simp [lits]; omega
      have e2 : (lits (H := H) .u8 (zs.drop len)).length = cap - len := by simp [lits]; omega
      rw [e1, e2] at h1
      unfold reachBytes at h1
      omega
    have htl : (zs.take len).length = len := by simp; omega
    refine ⟨zs.take len, ?_, by omega, fun x hx => bounds_u8 (hwz x (List.mem_of_mem_take hx))⟩
    rcases Nat.eq_zero_or_pos len with h0 | h0
    · subst h0
      exact ⟨some a, 0, 0, cap, by simp, by simp, by omega, fun h => by simp at h, fun j v hv => by simp [vB] at hv, by omega, fun h => by cases h⟩
    · obtain ⟨blk, off, spot⟩ := a
      have hc0 := hcell 0 (by omega)
      have hspot : spot = none := by simpa [Addr.add] using World.cell?_spot hc0
      subst hspot
      refine ⟨some ⟨blk, off, none⟩, blk, off, cap, by rw [htl], by omega, by omega, fun _ => rfl, fun j v hv => ?_, ?_, fun h => by cases h⟩
      · have hj : j < len := by have := (List.getElem?_eq_some_iff.1 hv).1; rw [Array.length_toList, vB_size, htl] at this; exact this
        have hc := hcell j (by omega)
        rw [Addr.add_mid] at hc
        rw [hc]
        have e := vB_at (zs.take len) j (by omega)
        rw [Array.getElem?_toList, e] at hv
        injection hv with hv
        rw [← hv]
        unfold gi
        simp [hj]
      · have := block_lt_of_cell hc0
        simpa [Addr.add] using this
end Go.Proofs.Ytnpjknnalekdpaa
