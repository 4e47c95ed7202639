import Derived.Test.YtffhjjgkoapioaaDoorRows
import Derived.Test.YtffhjjgkoapioaaDoorSpec
import Derived.WalkKit
import Derived.WalkSpells
import Derived.WalkLawsBesides
import Derived.BigRegion
import Derived.Deep.MidRow
import Derived.Deep.WholeRow
import Derived.Deep.Light
import Derived.KernelRfl
import Derived.BigQuiet
import Derived.Deep.QuietTactic
namespace Go.Proofs.YtffhjjgkoapioaaDoor
set_option linter.unusedSimpArgs false
set_option linter.unusedVariables false
open Go.RowKit
set_option maxHeartbeats 400000 in
theorem rot_any (x k : Int) (w : World) (hk : rotOk k = true) :
    Calls Tryd.prog 79 #[.int .u32 x, .int .i64 k] w fun e w' => e = .returned (.int .u32 (rotl k x)) ∧ w' = w := by
  have hk' := of_decide_eq_true hk
  obtain ⟨s, hs⟩ : ∃ s : Nat, rotBy k = 32 - (s : Int) := ⟨(32 - rotBy k).toNat, by omega⟩
  have a1 : 0 ≤ 32 - (s : Int) := by omega
  have a2 : 32 - (s : Int) ≤ 31 := by omega
  have hf : rotl k x = bits BinOp.or IntKind.u32 (x * 2 ^ (32 - s) % 4294967296) (x / 2 ^ (32 - (32 - s))) := by
    unfold rotl rotr; rw [show 32 - (rotBy k).toNat = s by omega, show 32 - (32 - s) = s by omega]
  have HF : Hid (rotl k x = bits BinOp.or IntKind.u32 (x * 2 ^ (32 - s) % 4294967296) (x / 2 ^ (32 - (32 - s)))) := hf
  have hb : bits BinOp.and IntKind.u64 (IntKind.u64.wrap k) 31 = 32 - (s : Int) := hs
  clear hf hk' hk hs
  go_enter Tryd.func79, Tryd.ntmps79
  go_wp2
  go_ret
  exact ⟨by rw [HF.out]; rfl, rfl⟩

theorem row_cell {w : World} {g j : Nat} {cs : Array Value} {t : TypeId} {v : Value} (hg : w.heap[g]? = some (.cells cs t)) (h : cs[j]? = some v) : w.cell? ⟨g, j, none⟩ = some v := by
  rw [cell_of_row w g j cs t (0, 0) hg, h]
theorem alloc3_at2 (w : World) (A B C : Obj) : (((w.alloc A).alloc B).alloc C).heap[w.heap.size + 1 + 1]? = some C := by
  have h := heap_alloc_new ((w.alloc A).alloc B) C
  have e : ((w.alloc A).alloc B).heap.size = w.heap.size + 1 + 1 := by simp
  rwa [e] at h
theorem alloc3_at1 (w : World) (A B C : Obj) : (((w.alloc A).alloc B).alloc C).heap[w.heap.size + 1]? = some B := by
  rw [Below.heap_alloc _ _ _ (by simp)]
  exact heap_alloc2_new w A B
theorem alloc3_at0 (w : World) (A B C : Obj) : (((w.alloc A).alloc B).alloc C).heap[w.heap.size]? = some A := by
  rw [Below.heap_alloc _ _ _ (by simp; omega)]
  exact heap_alloc2_old w A B
theorem vW_all (l : List Int) : (vW l).all (·.oneCell') = true := by
  apply all_oneCell_toArray; intro v hv; simp at hv; obtain ⟨x, _, rfl⟩ := hv; rfl
theorem vB_all (l : List Int) : (vB l).all (·.oneCell') = true := by
  apply all_oneCell_toArray; intro v hv; simp at hv; obtain ⟨x, _, rfl⟩ := hv; rfl
section
variable {ops : Array Oper} {rest : List Oper} {o : Oper} {a : Act} {w : World} {Q : Exit → Act → World → Prop}
/-- A whole row of words (type 72: 64 of them; 34: 8) or bytes (24: 32; 35: 64) out of its own block. -/
theorem load44 (hgd : o.guard = none) (x : Operand) (ho : o.op = .load 72 x) (g : Nat) (hx : a.eval x = .pointer (some ⟨g, 0, none⟩)) (l : List Int) (hl : l.length = 64) (t : TypeId) (hg : w.heap[g]? = some (.cells (vW l) t))
    (h : wpList Tryd.prog ops Q rest (a.put o.dst (.agg (vW l))) w) : wpList Tryd.prog ops Q (o :: rest) a w :=
  wpList_load_row hgd 72 x ho g hx t _ (0, 0) _ hg Tryd.underlying72 rfl (by rw [vW_size, hl]; kernel_rfl) h
theorem load35 (hgd : o.guard = none) (x : Operand) (ho : o.op = .load 34 x) (g : Nat) (hx : a.eval x = .pointer (some ⟨g, 0, none⟩)) (l : List Int) (hl : l.length = 8) (t : TypeId) (hg : w.heap[g]? = some (.cells (vW l) t))
    (h : wpList Tryd.prog ops Q rest (a.put o.dst (.agg (vW l))) w) : wpList Tryd.prog ops Q (o :: rest) a w :=
  wpList_load_row hgd 34 x ho g hx t _ (0, 0) _ hg Tryd.underlying34 rfl (by rw [vW_size, hl]; kernel_rfl) h
theorem load24 (hgd : o.guard = none) (x : Operand) (ho : o.op = .load 24 x) (g : Nat) (hx : a.eval x = .pointer (some ⟨g, 0, none⟩)) (l : List Int) (hl : l.length = 32) (t : TypeId) (hg : w.heap[g]? = some (.cells (vB l) t))
    (h : wpList Tryd.prog ops Q rest (a.put o.dst (.agg (vB l))) w) : wpList Tryd.prog ops Q (o :: rest) a w :=
  wpList_load_row hgd 24 x ho g hx t _ (0, 0) _ hg Tryd.underlying24 rfl (by rw [vB_size, hl]; kernel_rfl) h
theorem load36 (hgd : o.guard = none) (x : Operand) (ho : o.op = .load 35 x) (g : Nat) (hx : a.eval x = .pointer (some ⟨g, 0, none⟩)) (l : List Int) (hl : l.length = 64) (t : TypeId) (hg : w.heap[g]? = some (.cells (vB l) t))
    (h : wpList Tryd.prog ops Q rest (a.put o.dst (.agg (vB l))) w) : wpList Tryd.prog ops Q (o :: rest) a w :=
  wpList_load_row hgd 35 x ho g hx t _ (0, 0) _ hg Tryd.underlying35 rfl (by rw [vB_size, hl]; kernel_rfl) h
theorem store44 (hgd : o.guard = none) (x y : Operand) (ho : o.op = .store 72 x y) (g : Nat) (l : List Int) (hx : a.eval x = .pointer (some ⟨g, 0, none⟩)) (hy : a.eval y = .agg (vW l)) (hl : l.length = 64) (t : TypeId) (old : List Int) (hold : old.length = 64) (hg : w.heap[g]? = some (.cells (vW old) t))
    (h : wpList Tryd.prog ops Q rest (a.put o.dst undef) (w.setRow g (vW l))) : wpList Tryd.prog ops Q (o :: rest) a w :=
  wpList_store_row hgd 72 x y ho g _ hx hy t _ hg (by rw [vW_size, hl]; kernel_rfl) (by rw [vW_size, vW_size, hl, hold]) (vW_all l) h
theorem store35 (hgd : o.guard = none) (x y : Operand) (ho : o.op = .store 34 x y) (g : Nat) (l : List Int) (hx : a.eval x = .pointer (some ⟨g, 0, none⟩)) (hy : a.eval y = .agg (vW l)) (hl : l.length = 8) (t : TypeId) (old : List Int) (hold : old.length = 8) (hg : w.heap[g]? = some (.cells (vW old) t))
    (h : wpList Tryd.prog ops Q rest (a.put o.dst undef) (w.setRow g (vW l))) : wpList Tryd.prog ops Q (o :: rest) a w :=
  wpList_store_row hgd 34 x y ho g _ hx hy t _ hg (by rw [vW_size, hl]; kernel_rfl) (by rw [vW_size, vW_size, hl, hold]) (vW_all l) h
theorem store24 (hgd : o.guard = none) (x y : Operand) (ho : o.op = .store 24 x y) (g : Nat) (l : List Int) (hx : a.eval x = .pointer (some ⟨g, 0, none⟩)) (hy : a.eval y = .agg (vB l)) (hl : l.length = 32) (t : TypeId) (old : List Int) (hold : old.length = 32) (hg : w.heap[g]? = some (.cells (vB old) t))
    (h : wpList Tryd.prog ops Q rest (a.put o.dst undef) (w.setRow g (vB l))) : wpList Tryd.prog ops Q (o :: rest) a w :=
  wpList_store_row hgd 24 x y ho g _ hx hy t _ hg (by rw [vB_size, hl]; kernel_rfl) (by rw [vB_size, vB_size, hl, hold]) (vB_all l) h
end
theorem setRow_same {w : World} {g : Nat} {cs cs' : Array Value} {t : TypeId} (hg : w.heap[g]? = some (.cells cs t)) : (w.setRow g cs').heap[g]? = some (.cells cs' t) := setRow_heap w g cs cs' t (0, 0) hg
theorem setRow_far (w : World) (g k : Nat) (cs : Array Value) (h : k ≠ g) : (w.setRow g cs).heap[k]? = w.heap[k]? := setRow_other w g k cs h
theorem below_setRow {B : Nat} {a w : World} (h : Below B a w) {g : Nat} (hp : B ≤ g) (cs : Array Value) : Below B a (w.setRow g cs) :=
  h.trans ⟨rfl, rfl, rfl, by simp, fun k hk => setRow_far _ _ _ _ (by omega)⟩
end Go.Proofs.YtffhjjgkoapioaaDoor
