import Derived.Test.YtjhnnblilfddpaaDoorFb
import Derived.Laws.CopyRow
namespace Go.Proofs.YtjhnnblilfddpaaDoor
set_option linter.unusedSimpArgs false
set_option linter.unusedVariables false
open Go.RowKit
theorem size5d : (Tryd.prog.info? 5).map (·.size) = some 1 := by kernel_rfl
theorem copy4 (W : World) (B1 B2 : Nat) (H : List Int) (hH : H.length = 32) (hg1 : W.heap[B1]? = some (.cells (vB H) 24)) (hg2 : W.heap[B2]? = some (.cells (vB (zs 4)) 90)) :
    (Builtin.copy_ #[22, 22] 3 #[.slice (some ⟨B2, 0, none⟩) 4 4, .slice (some ⟨B1, 0, none⟩) 32 32]).run Tryd.prog W = .ok (.int .i64 4) (W.setRow B2 (vB (H.take 4))) := by
  have hl : ((vB (H.take 4)).toList).length = 4 := by rw [Array.length_toList, vB_size, List.length_take, hH]; rfl
  rw [run_copy_row Tryd.prog W 22 22 3 5 B2 0 4 4 ⟨B1, 0, none⟩ 32 32 (vB (zs 4)) 90 (vB (H.take 4)).toList Tryd.underlying22 size5d hg2 (by rw [hl]; rfl)
    (fun j u hu => by
      rw [Addr.add_mid, Nat.zero_add, cell_of_row W B1 j _ 24 (0, 0) hg1]
      rw [Array.getElem?_toList] at hu
      simp [vB, List.getElem?_take] at hu ⊢
      exact hu.2) (by rw [hl, vB_size, zs_length]; omega) (fun u hu => by unfold vB at hu; rw [List.toList_toArray] at hu; obtain ⟨y, _, rfl⟩ := List.mem_map.1 hu; rfl)]
  rw [hl, List.take_zero, List.nil_append, List.drop_eq_nil_of_le (by simp [vB, zs]), List.append_nil]
  rfl
theorem four (H : List Int) (hH : H.length = 32) : ∃ a b c d, H.take 4 = [a, b, c, d] := by
  match H, hH with
  | a :: b :: c :: d :: r, _ => exact ⟨a, b, c, d, rfl⟩
section
variable {ops : Array Oper} {rest : List Oper} {o : Oper} {a : Act} {w : World} {Q : Exit → Act → World → Prop}
theorem store96 (hgd : o.guard = none) (x y : Operand) (ho : o.op = .store 90 x y) (g : Nat) (l : List Int) (hx : a.eval x = .pointer (some ⟨g, 0, none⟩)) (hy : a.eval y = .agg (vB l)) (hl : l.length = 4) (old : List Int) (hold : old.length = 4) (hg : w.heap[g]? = some (.cells (vB old) 90))
    (h : wpList Tryd.prog ops Q rest (a.put o.dst undef) (w.setRow g (vB l))) : wpList Tryd.prog ops Q (o :: rest) a w :=
  wpList_store_row hgd 90 x y ho g _ hx hy 90 _ hg (by rw [vB_size, hl]; kernel_rfl) (by rw [vB_size, vB_size, hl, hold]) (vB_all l) h
theorem load96 (hgd : o.guard = none) (x : Operand) (ho : o.op = .load 90 x) (g : Nat) (hx : a.eval x = .pointer (some ⟨g, 0, none⟩)) (l : List Int) (hl : l.length = 4) (hg : w.heap[g]? = some (.cells (vB l) 90))
    (h : wpList Tryd.prog ops Q rest (a.put o.dst (.agg (vB l))) w) : wpList Tryd.prog ops Q (o :: rest) a w :=
  wpList_load_row hgd 90 x ho g hx 90 _ (0, 0) _ hg Tryd.underlying90 rfl (by rw [vB_size, hl]; kernel_rfl) h
end
set_option maxHeartbeats 1000000 in
set_option maxRecDepth 100000 in
theorem sumOf_any (x y : Value) (a b : List Int) (w : World) (hL : Laid w) (ha : PartAt w x a) (hb : PartAt w y b) (hn : a.length + b.length ≤ 1000000) :
    Calls Tryd.prog 51 #[x, y] w fun e w' => e = .returned (.agg (vB ((hashOf (a ++ b)).take 4))) ∧ Below w.heap.size w w' := by
  have h2 := hL.two
  have b1 : Below w.heap.size w (w.alloc (.cells (vB (zs 4)) 90)) := (Below.refl _ _).alloc (Nat.le_refl _) _
  have OF : Hid (Calls Tryd.prog 17 #[.slice (some ⟨w.heap.size + 1, 0, none⟩) 2 2] ((w.alloc (.cells (vB (zs 4)) 90)).alloc (Obj.cells #[x, y] 22)) fun e w' => e = .returned (.agg (vB (hashOf (a ++ b)))) ∧ Below (w.heap.size + 1) (w.alloc (.cells (vB (zs 4)) 90)) w') := by
    have q := of_two x y a b (w.alloc (.cells (vB (zs 4)) 90)) (hL.below b1 h2) (ha.below b1) (hb.below b1) (by omega)
    rw [show (w.alloc (.cells (vB (zs 4)) 90)).heap.size = w.heap.size + 1 by simp] at q
    exact q
  have hl := hashOf_length (a ++ b)
  obtain ⟨c0, c1, c2, c3, h4⟩ := four _ hl
  generalize hashOf (a ++ b) = H at *
  have H4 : Hid (H.take 4 = [c0, c1, c2, c3]) := h4
  have B1 : Hid (Below w.heap.size w (w.alloc (.cells (vB (zs 4)) 90))) := b1
  clear h4 b1
  obtain ⟨avx, bx, ox, cpx, rfl, _⟩ := ha
  obtain ⟨avy, by', oy, cpy, rfl, _⟩ := hb
  go_enter Tryd.func51, Tryd.ntmps51
  go_wp2_with fail
  refine OF.out.mono ?_
  rintro e w3 ⟨rfl, b3⟩
  have k3 : w3.heap[w.heap.size]? = some (.cells (vB (zs 4)) 90) := by rw [b3.block _ (by omega)]; exact heap_alloc_new _ _
  have K3 : Hid (w3.heap[w.heap.size]? = some (.cells (vB (zs 4)) 90)) := k3
  clear k3 OF
  go_wp2_with (first | (refine store24n rfl _ _ rfl H hl rfl rfl ?_; intro w4 f1 f2 _ _; have F1 : Hid (w4.heap[w3.heap.size]? = some (.cells (vB H) 24)) := f1; clear f1))
  have s3 : w.heap.size < w3.heap.size := (Array.getElem?_eq_some_iff.1 K3.out).1
  have s4 : w3.heap.size < w4.heap.size := (Array.getElem?_eq_some_iff.1 F1.out).1
  have hcp : (Builtin.copy_ #[22, 22] 3 #[.slice (some ⟨w4.heap.size, 0, none⟩) 4 4, .slice (some ⟨w3.heap.size, 0, none⟩) 32 32]).run Tryd.prog (w4.alloc (Obj.cells #[.int .u8 0, .int .u8 0, .int .u8 0, .int .u8 0] 90)).drew = .ok (.int .i64 4) ((w4.alloc (Obj.cells #[.int .u8 0, .int .u8 0, .int .u8 0, .int .u8 0] 90)).drew.setRow w4.heap.size #[.int .u8 c0, .int .u8 c1, .int .u8 c2, .int .u8 c3]) := by
    have q := copy4 ((w4.alloc (.cells (vB (zs 4)) 90)).drew) w3.heap.size w4.heap.size H hl (by rw [show (w4.alloc (.cells (vB (zs 4)) 90)).drew.heap = (w4.alloc (.cells (vB (zs 4)) 90)).heap from rfl, Below.heap_alloc _ _ _ s4]; exact F1.out) (heap_alloc_new _ _)
    rw [H4.out] at q
    exact q
  go_region
  have b4 : Below w.heap.size w w4 := B1.out.trans ((b3.trans (f2.mono (by have := b3.size; simpa using this))).mono (by omega))
  have b5 : Below w.heap.size w ((w4.alloc (Obj.cells #[.int .u8 0, .int .u8 0, .int .u8 0, .int .u8 0] 90)).drew.setRow w4.heap.size #[.int .u8 c0, .int .u8 c1, .int .u8 c2, .int .u8 c3]) := below_setRow ((b4.alloc b4.size _).drew) b4.size _
  have k5 : ((w4.alloc (Obj.cells #[.int .u8 0, .int .u8 0, .int .u8 0, .int .u8 0] 90)).drew.setRow w4.heap.size #[.int .u8 c0, .int .u8 c1, .int .u8 c2, .int .u8 c3]).heap[w4.heap.size]? = some (.cells #[.int .u8 c0, .int .u8 c1, .int .u8 c2, .int .u8 c3] 90) := setRow_same (w := (w4.alloc (Obj.cells #[.int .u8 0, .int .u8 0, .int .u8 0, .int .u8 0] 90)).drew) (heap_alloc_new _ _)
  have k6 : ((w4.alloc (Obj.cells #[.int .u8 0, .int .u8 0, .int .u8 0, .int .u8 0] 90)).drew.setRow w4.heap.size #[.int .u8 c0, .int .u8 c1, .int .u8 c2, .int .u8 c3]).heap[w.heap.size]? = some (.cells #[.int .u8 0, .int .u8 0, .int .u8 0, .int .u8 0] 90) := by
    rw [setRow_far _ _ _ _ (by omega)]
    show (w4.alloc _).heap[w.heap.size]? = _
    rw [Below.heap_alloc _ _ _ (by omega), f2.block _ s3]; exact K3.out
  generalize ((w4.alloc (Obj.cells #[.int .u8 0, .int .u8 0, .int .u8 0, .int .u8 0] 90)).drew.setRow w4.heap.size #[.int .u8 c0, .int .u8 c1, .int .u8 c2, .int .u8 c3]) = w5 at *
  have K5 : Hid (w5.heap[w4.heap.size]? = some (.cells (vB [c0, c1, c2, c3]) 90)) := k5
  have K6 : Hid (w5.heap[w.heap.size]? = some (.cells (vB (zs 4)) 90)) := k6
  have B5 : Hid (Below w.heap.size w w5) := b5
  clear hcp k5 k6 b5 b4 b3 f2
  go_wp2_with (first | (refine load96 rfl _ rfl w4.heap.size rfl [c0, c1, c2, c3] rfl K5.out ?_) | (refine store96 rfl _ _ rfl w.heap.size [c0, c1, c2, c3] rfl rfl rfl (zs 4) rfl K6.out ?_))
  rw [H4.out]
  exact bodyPost_ret (v := .agg (vB [c0, c1, c2, c3])) (results_cell_row (p := 4) (ty := 90) Tryd.results51 _ _ w.heap.size 90 _ (0, 0) _ rfl (setRow_same K6.out) Tryd.underlying90 rfl (by kernel_rfl)) rfl ⟨rfl, below_setRow B5.out (Nat.le_refl _) _⟩
end Go.Proofs.YtjhnnblilfddpaaDoor
