import Derived.Test.YtlcenbhcegmnoaaDoorWc
import Derived.Deep.OwnRows
namespace Go.Proofs.YtlcenbhcegmnoaaDoor
set_option linter.unusedSimpArgs false
set_option linter.unusedVariables false
open Go.RowKit
theorem index35 (ws : List Int) (hw : ws.length = 8) (k : Nat) (hk : k < 8) (w : World) : (Instr.index 34 (.agg (vW ws)) (.int .i64 k)).run Tryd.prog w = .ok (.int .u32 (gi ws k)) w := by
  have hs : (Tryd.prog.info? 33).map (·.size) = some 1 := by kernel_rfl
  have hq := vW_at ws k (by omega)
  have hagg : (isAgg 33).run Tryd.prog w = .ok false w := by
    unfold isAgg; rw [Sem.run_bind, run_underlying Tryd.underlying33 w]; rfl
  cases hi : Tryd.prog.info? 33 with
  | none => simp [hi] at hs
  | some i =>
    have hz : i.size = 1 := by simpa [hi] using hs
    have h8 : 0 ≤ (k : Int) ∧ (k : Int) < ((8 : Nat) : Int) := by omega
    simp [Instr.index, asIntOf, Sem.run_bind, run_underlying Tryd.underlying34 w, part, hagg, sizeOf, typeInfo, hi, hz, hq, hk]
theorem madeB (n : Nat) : madeCells #[.int .u8 0] n = vB (zs n) := by
  apply Array.ext_getElem?
  intro i
  simp [madeCells, vB, zs, List.getElem?_replicate]
  by_cases h : i < n
  · simp [h, Nat.mod_one]
  · simp [h]
theorem makeB (n : Nat) (h : n ≤ 281474976710656) (w : World) : (Instr.makeSlice 22 (.int .i64 n) (.int .i64 n)).run Tryd.prog w = .ok (.slice (some ⟨w.heap.size, 0, none⟩) n n) (w.alloc (.cells (vB (zs n)) 5)) := by
  rw [← madeB]
  exact run_make_row' 22 5 (.int .u8 0) 1 Tryd.underlying22 (by kernel_rfl) rfl .i64 .i64 n (by omega) (by omega) w
end Go.Proofs.YtlcenbhcegmnoaaDoor
