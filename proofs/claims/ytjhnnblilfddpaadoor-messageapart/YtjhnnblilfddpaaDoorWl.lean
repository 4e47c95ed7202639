import Derived.Test.YtjhnnblilfddpaaDoorWk
import Derived.Lib.SlBytesConst
namespace Go.Proofs.YtjhnnblilfddpaaDoor
set_option linter.unusedSimpArgs false
set_option linter.unusedVariables false
open Go.RowKit
theorem abc0 : gi (hashOf [97, 98, 99]) 0 = 186 := by decide +kernel
theorem abc31 : gi (hashOf [97, 98, 99]) 31 = 173 := by decide +kernel
theorem store24n {ops : Array Oper} {rest : List Oper} {o : Oper} {a : Act} {w0 : World} {Q : Exit → Act → World → Prop} (hgd : o.guard = none) (x y : Operand) (ho : o.op = .store 24 x y) (l : List Int) (hl : l.length = 32) (hx : a.eval x = .pointer (some ⟨w0.heap.size, 0, none⟩)) (hy : a.eval y = .agg (vB l))
    (h : ∀ w2 : World, w2.heap[w0.heap.size]? = some (.cells (vB l) 24) → Below w0.heap.size w0 w2 → w2.cell? ⟨w0.heap.size, 0, none⟩ = some (.int .u8 (gi l 0)) → w2.cell? ⟨w0.heap.size, 31, none⟩ = some (.int .u8 (gi l 31)) → wpList Tryd.prog ops Q rest (a.put o.dst undef) w2) : wpList Tryd.prog ops Q (o :: rest) a (w0.alloc (.cells (vB (zs 32)) 24)) := by
  refine store24 hgd x y ho w0.heap.size l hx hy hl 24 (zs 32) rfl (heap_alloc_new _ _) ?_
  rw [World.setRow_alloc_new]
  have f := heap_alloc_new w0 (.cells (vB l) 24)
  exact h _ f ((Below.refl _ _).alloc (Nat.le_refl _) _) (row_cell f (vB_at l 0 (by omega))) (row_cell f (vB_at l 31 (by omega)))
set_option maxRecDepth 100000 in
set_option maxHeartbeats 1000000 in
theorem awake_any (w : World) (hL : Laid w) : Calls Tryd.prog 14 #[] w fun e w' => e = .returned (.bool true) ∧ Below w.heap.size w w' := by
  have h2 := hL.two
  have kc := fun (w : World) (C : Array Value) (n c : Nat) => Lib.run_convert_bytes_const (P := Tryd.prog) w 22 5 C n c Tryd.underlying22 Tryd.underlying5
  go_enter Tryd.func14, Tryd.ntmps14
  go_wp2_with fail
  have hbw : Below w.heap.size w (w.alloc (Obj.cells #[Value.int .u8 97, Value.int .u8 98, Value.int .u8 99] 5 (3, 4))) := (Below.refl _ _).alloc (Nat.le_refl _) _
  have f0 := heap_alloc_new w (Obj.cells #[Value.int .u8 97, Value.int .u8 98, Value.int .u8 99] 5 (3, 4))
  have fs : (w.alloc (Obj.cells #[Value.int .u8 97, Value.int .u8 98, Value.int .u8 99] 5 (3, 4))).heap.size = w.heap.size + 1 := by simp
  refine (sum1_any (Value.slice (some ⟨w.heap.size, 0, none⟩) 3 3) [97, 98, 99] _ (hL.below hbw h2) ⟨some ⟨w.heap.size, 0, none⟩, w.heap.size, 0, 3, rfl, by decide, by decide, fun _ => rfl, ?_, by omega, fun h => by cases h⟩ (by decide)).mono ?_
  · intro j v hv
    rw [Nat.zero_add, cell_of_row _ _ j _ 5 (3, 4) f0]
    rw [show (#[Value.int .u8 97, Value.int .u8 98, Value.int .u8 99] : Array Value) = vB [97, 98, 99] from rfl]
    simpa using hv
  · rintro e w5 ⟨rfl, b5⟩
    have b05 : Below w.heap.size w w5 := hbw.trans (b5.mono (by omega))
    have s5 : w.heap.size + 1 ≤ w5.heap.size := by have := b5.size; omega
    clear b5 f0 fs hbw kc
    go_wp2_with (first | (refine store24n rfl _ _ rfl (hashOf [97, 98, 99]) (hashOf_length _) rfl rfl ?_; intro w6 f6 b6 c6 d6; rw [abc0] at c6; rw [abc31] at d6))
    go_ret
    exact ⟨rfl, b05.trans (b6.mono (by omega))⟩
end Go.Proofs.YtjhnnblilfddpaaDoor
