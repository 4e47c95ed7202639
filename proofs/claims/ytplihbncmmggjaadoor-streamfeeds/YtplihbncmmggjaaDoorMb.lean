import Derived.Test.YtplihbncmmggjaaDoorAy
import Derived.Deep.RegionHeld3
import Derived.Deep.DrawnRows
namespace Go.Proofs.YtplihbncmmggjaaDoor
set_option linter.unusedSimpArgs false
set_option linter.unusedVariables false
open Go.RowKit
attribute [local go_sem ↓] Go.wp_at_zero Go.wp_at_succ
/-- What lies in memory while Node's one region is carried out: both hashes, the answer's place, and all that was there. -/
def NodeIn (w : World) (a b : List Int) (w' : World) : Prop :=
  Below w.heap.size w w' ∧ w.heap.size + 3 ≤ w'.heap.size ∧ w'.heap[w.heap.size]? = some (.cells (vB a) 24) ∧ w'.heap[w.heap.size + 1]? = some (.cells (vB b) 24) ∧ ∃ c : List Int, c.length = 32 ∧ w'.heap[w.heap.size + 2]? = some (.cells (vB c) 24)
set_option maxRecDepth 100000 in
theorem NodeIn.alloc {w w' : World} {a b : List Int} (h : NodeIn w a b w') (o : Obj) : NodeIn w a b (w'.alloc o) := by
  obtain ⟨h1, h2, h3, h4, c, hc, h5⟩ := h
  refine ⟨h1.alloc h1.size _, by simp; omega, ?_, ?_, c, hc, ?_⟩ <;> rw [Below.heap_alloc _ _ _ (by omega)] <;> assumption
set_option maxRecDepth 100000 in
theorem NodeIn.drew {w w' : World} {a b : List Int} (h : NodeIn w a b w') : NodeIn w a b w'.drew := ⟨⟨h.1.os, h.1.tape, h.1.output, h.1.size, h.1.block⟩, h.2.1, h.2.2.1, h.2.2.2.1, h.2.2.2.2⟩
set_option maxRecDepth 100000 in
theorem NodeIn.below {w w' w'' : World} {a b : List Int} (h : NodeIn w a b w') (k : Below w'.heap.size w' w'') : NodeIn w a b w'' := by
  obtain ⟨h1, h2, h3, h4, c, hc, h5⟩ := h
  have := k.size
  refine ⟨h1.trans (k.mono (by omega)), by omega, ?_, ?_, c, hc, ?_⟩ <;> rw [k.block _ (by omega)] <;> assumption
set_option maxRecDepth 100000 in
theorem below_setCells {B : Nat} {a w : World} (h : Below B a w) {g o : Nat} (hg : B ≤ g) (vs : List Value) : Below B a (w.setCells g o vs) := by
  obtain ⟨e1, e2, e3⟩ := setCells_os g vs o w
  exact h.trans ⟨e1, e2, e3, by rw [setCells_size]; exact Nat.le_refl _, fun k hk => setCells_far _ _ _ _ _ (by omega)⟩
set_option maxRecDepth 100000 in
theorem setCells_whole {w : World} {g : Nat} {c l : List Int} {t : TypeId} (hg : w.heap[g]? = some (.cells (vB c) t)) (h : l.length = c.length) : (w.setCells g 0 (vB l).toList).heap[g]? = some (.cells (vB l) t) := by
  rw [setCells_block g t _ 0 w _ hg (by rw [Array.length_toList, vB_size, vB_size]; omega)]
  congr 2
  apply Array.ext'
  simp [vB, h]
set_option maxRecDepth 100000 in
theorem NodeIn.store {w w' : World} {a b : List Int} (h : NodeIn w a b w') (l : List Int) (hl : l.length = 32) : NodeIn w a b (w'.setCells (w.heap.size + 2) 0 (vB l).toList) := by
  obtain ⟨h1, h2, h3, h4, c, hc, h5⟩ := h
  refine ⟨below_setCells h1 (by omega) _, by rw [setCells_size]; exact h2, ?_, ?_, l, hl, setCells_whole h5 (by omega)⟩ <;> rw [setCells_far _ _ _ _ _ (by omega)] <;> assumption
set_option maxRecDepth 100000 in
theorem there_of_block {w : World} {g n : Nat} {cs : Array Value} {t : TypeId} (hg : w.heap[g]? = some (.cells cs t)) (h : n ≤ cs.size) : w.there g 0 n := fun j hj => by
  rw [Nat.zero_add]
  exact ⟨by rw [cell_of_row w g j cs t (0, 0) hg]; simp; omega, frozen_of_row _ _ _ _ _ hg⟩
set_option maxRecDepth 100000 in
theorem NodeIn.st {w w' : World} {a b : List Int} (h : NodeIn w a b w') : NodeIn w a b w' ∧ w'.there (w.heap.size + 1 + 1) 0 32 := ⟨h, by obtain ⟨_, _, _, _, c, hc, h5⟩ := h; exact there_of_block h5 (by rw [vB_size]; omega)⟩
set_option maxRecDepth 100000 in
theorem PartAt.alloc {w : World} {v : Value} {bs : List Int} (h : PartAt w v bs) (o : Obj) : PartAt (w.alloc o) v bs := h.below ((Below.refl _ _).alloc (Nat.le_refl _) _)
set_option maxRecDepth 100000 in
theorem PartAt.drew {w : World} {v : Value} {bs : List Int} (h : PartAt w v bs) : PartAt w.drew v bs := h.below ⟨rfl, rfl, rfl, Nat.le_refl _, fun _ _ => rfl⟩
set_option maxRecDepth 100000 in
theorem Laid.drew {w : World} (h : Laid w) : Laid w.drew := ⟨fun i hi => h.start i hi, fun i hi => h.round i hi⟩
end Go.Proofs.YtplihbncmmggjaaDoor
