import Derived.Test.YtnhbjjjoocpedaaXb
import Derived.ProofKit
import Derived.OpenShut
import Derived.ChangeOld
import Derived.Deep.DeepHandedRow
import Derived.SizedLaws
import Derived.DataReads
import Derived.ChangeArms
import Derived.Lib.LaidTab
import Derived.Shelf.Vars
namespace Go.Proofs.Ytnhbjjjoocpedaa
set_option linter.unusedSimpArgs false
set_option linter.unusedVariables false
open Go.ChangeShapes Go.WideShapes Go.ChangeAt Go.RowKit
theorem own : ownKnob Try.prog.godebug = none := by kernel_rfl
theorem laidOut : laidOutB Try.prog = true := by kernel_rfl
theorem maxL_of {W : World} (h : W.ShapedOpen Try.prog) : MaxL W := by
  obtain ⟨m, hm⟩ := cell_of_shapedOpen_int (g := 0) (t := 3) (zero := #[.int .i64 0]) (k := .i64) h (of_decide_eq_true (by kernel_rfl)) (by kernel_rfl) (by kernel_rfl) (by kernel_rfl) (by kernel_rfl) Try.underlying3
  refine ⟨⟨m, hm⟩, ?_⟩
  rcases Nat.eq_zero_or_pos W.heap.size with h0 | h0
  · exfalso
    have e : W.heap[0]? = none := by rw [Array.getElem?_eq_none]; omega
    have hc : W.cell? ⟨0, 0, none⟩ = none := by simp [World.cell?, e]
    rw [hc] at hm; cases hm
  · exact h0
theorem cells24 : Try.prog.cellsOf 24 = 4 := by kernel_rfl
theorem cells22 : Try.prog.cellsOf 22 = 1 := by kernel_rfl
theorem open_set {H : Type} {enc : TypeId × Value → H} {W : World} {base : Nat} {v : Value} {d : DataW H} {p : List MemPlace} (hv : Value.okWide Try.prog W .any base 24 v) (h : DataW.Trod enc Try.prog W 0 (fun _ => true) true 24 v d p) :
    ∃ (s : S4) (x0 x1 x2 x3 : Int), v = .agg #[.int .u64 x0, .int .u64 x1, .int .u64 x2, .int .u64 x3] ∧ SV s x0 x1 x2 x3 := by
  obtain ⟨fuel, hf⟩ := h
  obtain ⟨xs, m, _, ex, hcl, hl, hel⟩ := DataW.trod_array Try.underlying24 hf
  rw [cells24] at hcl
  have hz : ∀ i, i < 4 → ∃ z : Int, v.cells.toList[i]? = some (.int .u64 z) ∧ 0 ≤ z ∧ z ≤ 18446744073709551615 := fun i hi => by
    have hE := hel i hi
    rw [cells22, Nat.mul_one, List.getElem?_eq_getElem (by omega)] at hE
    obtain ⟨z, e1, e2, e3⟩ := DataW.trod_int Try.underlying22 hE
    have h0 : ((v.cells.toList.drop i).take 1)[0]? = some (.int .u64 z) := by rw [e1]; rfl
    exact ⟨z, by simpa using h0, bounds_u64 e3⟩
  obtain ⟨z0, a0, b0, c0⟩ := hz 0 (by omega)
  obtain ⟨z1, a1, b1, c1⟩ := hz 1 (by omega)
  obtain ⟨z2, a2, b2, c2⟩ := hz 2 (by omega)
  obtain ⟨z3, a3, b3, c3⟩ := hz 3 (by omega)
  simp only [Value.okWide, Try.underlying24] at hv
  obtain ⟨cs, rfl, _⟩ := hv
  have hcs : cs.toList = [.int .u64 z0, .int .u64 z1, .int .u64 z2, .int .u64 z3] := by
    have e : (Value.agg cs).cells.toList = cs.toList := rfl
    rw [e] at hcl a0 a1 a2 a3
    match hq : cs.toList, hcl with
    | [y0, y1, y2, y3], _ =>
      rw [hq] at a0 a1 a2 a3
      simp at a0 a1 a2 a3
      rw [a0, a1, a2, a3]
  refine ⟨⟨BitVec.ofNat 64 z0.toNat, BitVec.ofNat 64 z1.toNat, BitVec.ofNat 64 z2.toNat, BitVec.ofNat 64 z3.toNat⟩, z0, z1, z2, z3, ?_, ?_⟩
  · congr 1
    apply Array.ext'
    rw [hcs]
  · refine ⟨?_, ?_, ?_, ?_⟩ <;> simp only [BitVec.toNat_ofNat] <;> omega
end Go.Proofs.Ytnhbjjjoocpedaa
