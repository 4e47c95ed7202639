import Derived.Test.YtplihbncmmggjaaDoorAy
import Derived.Deep.RegionHeld3
import Derived.Deep.DrawnRows
namespace Go.Proofs.YtplihbncmmggjaaDoor
set_option linter.unusedSimpArgs false
set_option linter.unusedVariables false
open Go.RowKit
attribute [local go_sem ↓] Go.wp_at_zero Go.wp_at_succ
def leafH (c : List Int) : List Int := hashOf (0 :: c)
def nodeH (a b : List Int) : List Int := hashOf (1 :: (a ++ b))
set_option maxRecDepth 100000 in
theorem leafH_length (c : List Int) : (leafH c).length = 32 := hashOf_length _
set_option maxRecDepth 100000 in
theorem nodeH_length (a b : List Int) : (nodeH a b).length = 32 := hashOf_length _
/-- What lies in memory while Node's one region is carried out: both hashes, the answer's place, and all that was there. -/
def NodeIn (w : World) (a b : List Int) (w' : World) : Prop :=
  Below w.heap.size w w' ∧ w.heap.size + 3 ≤ w'.heap.size ∧ w'.heap[w.heap.size]? = some (.cells (vB a) 24) ∧ w'.heap[w.heap.size + 1]? = some (.cells (vB b) 24) ∧ ∃ c : List Int, c.length = 32 ∧ w'.heap[w.heap.size + 2]? = some (.cells (vB c) 24)
set_option maxRecDepth 100000 in
theorem NodeIn.alloc {w w' : World} {a b : List Int} (h : NodeIn w a b w') (o : Obj) : NodeIn w a b (w'.alloc o) := by
  obtain ⟨h1, h2, h3, h4, c, hc, h5⟩ := h
  refine ⟨h1.alloc h1.size _, by simp; omega, ?_, ?_, c, hc, ?_⟩ <;> rw [Below.heap_alloc _ _ _ (by omega)] <;> assumption
set_option maxRecDepth 100000 in
theorem NodeIn.drew {w w' : World} {a b : List Int} (h : NodeIn w a b w') : NodeIn w a b w'.drew := ⟨⟨h.1.os, h.1.tape, h.1.output, h.1.size, h.1.block⟩, h.2.1, h.2.2.1, h.2.2.2.1, h.2.2.2.2⟩
set_option maxRecDepth 100000 in
theorem NodeIn.below {w w' w'' : World} {a b : List Int} (h : NodeIn w a b w') (k : Below w'.heap.size w' w'') : NodeIn w a b w'' := by
  obtain ⟨h1, h2, h3, h4, c, hc, h5⟩ := h
  have := k.size
  refine ⟨h1.trans (k.mono (by omega)), by omega, ?_, ?_, c, hc, ?_⟩ <;> rw [k.block _ (by omega)] <;> assumption
set_option maxRecDepth 100000 in
theorem below_setCells {B : Nat} {a w : World} (h : Below B a w) {g o : Nat} (hg : B ≤ g) (vs : List Value) : Below B a (w.setCells g o vs) := by
  obtain ⟨e1, e2, e3⟩ := setCells_os g vs o w
  exact h.trans ⟨e1, e2, e3, by rw [setCells_size]; exact Nat.le_refl _, fun k hk => setCells_far _ _ _ _ _ (by omega)⟩
set_option maxRecDepth 100000 in
theorem setCells_whole {w : World} {g : Nat} {c l : List Int} {t : TypeId} (hg : w.heap[g]? = some (.cells (vB c) t)) (h : l.length = c.length) : (w.setCells g 0 (vB l).toList).heap[g]? = some (.cells (vB l) t) := by
  rw [setCells_block g t _ 0 w _ hg (by rw [Array.length_toList, vB_size, vB_size]; omega)]
  congr 2
  apply Array.ext'
  simp [vB, h]
set_option maxRecDepth 100000 in
theorem NodeIn.store {w w' : World} {a b : List Int} (h : NodeIn w a b w') (l : List Int) (hl : l.length = 32) : NodeIn w a b (w'.setCells (w.heap.size + 2) 0 (vB l).toList) := by
  obtain ⟨h1, h2, h3, h4, c, hc, h5⟩ := h
  refine ⟨below_setCells h1 (by omega) _, by rw [setCells_size]; exact h2, ?_, ?_, l, hl, setCells_whole h5 (by omega)⟩ <;> rw [setCells_far _ _ _ _ _ (by omega)] <;> assumption
set_option maxRecDepth 100000 in
theorem there_of_block {w : World} {g n : Nat} {cs : Array Value} {t : TypeId} (hg : w.heap[g]? = some (.cells cs t)) (h : n ≤ cs.size) : w.there g 0 n := fun j hj => by
  rw [Nat.zero_add]
  exact ⟨by rw [cell_of_row w g j cs t (0, 0) hg]; simp; omega, frozen_of_row _ _ _ _ _ hg⟩
/-- The same, with the answer's place said as the walk asks for it. -/
def NodeSt (w : World) (a b : List Int) (w' : World) : Prop := NodeIn w a b w' ∧ w'.there (w.heap.size + 1 + 1) 0 32
set_option maxRecDepth 100000 in
theorem NodeIn.st {w w' : World} {a b : List Int} (h : NodeIn w a b w') : NodeIn w a b w' ∧ w'.there (w.heap.size + 1 + 1) 0 32 := ⟨h, by obtain ⟨_, _, _, _, c, hc, h5⟩ := h; exact there_of_block h5 (by rw [vB_size]; omega)⟩
set_option maxRecDepth 100000 in
theorem part_row {w : World} {g : Nat} {l : List Int} {t : TypeId} (hg : w.heap[g]? = some (.cells (vB l) t)) (hl : l.length = 32) : PartAt w (.slice (some ⟨g, 0, none⟩) 32 32) l :=
  ⟨some ⟨g, 0, none⟩, g, 0, 32, by rw [hl], by omega, by omega, fun _ => rfl, range_of_block hg, (Array.getElem?_eq_some_iff.1 hg).1, fun h => by cases h⟩
set_option maxRecDepth 100000 in
theorem PartAt.alloc {w : World} {v : Value} {bs : List Int} (h : PartAt w v bs) (o : Obj) : PartAt (w.alloc o) v bs := h.below ((Below.refl _ _).alloc (Nat.le_refl _) _)
set_option maxRecDepth 100000 in
theorem PartAt.drew {w : World} {v : Value} {bs : List Int} (h : PartAt w v bs) : PartAt w.drew v bs := h.below ⟨rfl, rfl, rfl, Nat.le_refl _, fun _ _ => rfl⟩
set_option maxRecDepth 100000 in
theorem Laid.drew {w : World} (h : Laid w) : Laid w.drew := ⟨fun i hi => h.start i hi, fun i hi => h.round i hi⟩
set_option maxRecDepth 100000 in
theorem range_three {w : World} {x y z : Value} {t : TypeId} : (w.alloc (Obj.cells #[x, y, z] t)).drew.rangeAt w.heap.size 0 [x, y, z] := fun j v hv => by
  rw [Nat.zero_add]
  show (w.alloc (Obj.cells #[x, y, z] t)).cell? _ = _
  rw [cell_of_row _ _ j _ t (0, 0) (heap_alloc_new _ _)]; simpa using hv
set_option maxRecDepth 100000 in
theorem three_parts {w : World} {x y z : Value} {a b c : List Int} (ha : PartAt w x a) (hb : PartAt w y b) (hc : PartAt w z c) : ∀ (i : Nat) (v : Value) (l : List Int), [x, y, z][i]? = some v → [a, b, c][i]? = some l → PartAt w v l := fun i v l h1 h2 => by
  match i, h1, h2 with
  | 0, h1, h2 => simp at h1 h2; subst h1 h2; exact ha
  | 1, h1, h2 => simp at h1 h2; subst h1 h2; exact hb
  | 2, h1, h2 => simp at h1 h2; subst h1 h2; exact hc
  | n + 3, h1, h2 => simp at h1
set_option maxRecDepth 100000 in
theorem node_call {w W : World} {a b : List Int} (ha : a.length = 32) (hb : b.length = 32) (hL : Laid w) (hN : NodeIn w a b W) :
    Calls Tryd.prog 22 #[.slice (some ⟨W.heap.size + 1, 0, none⟩) 3 3] ((W.alloc (Obj.cells #[Value.int .u8 1] 5)).alloc (Obj.cells #[.slice (some ⟨W.heap.size, 0, none⟩) 1 1, .slice (some ⟨w.heap.size, 0, none⟩) 32 32, .slice (some ⟨w.heap.size + 1, 0, none⟩) 32 32] 22)).drew
      fun e w' => e = .returned (.agg (vB (nodeH a b))) ∧ NodeIn w a b w' := by
  have h2 := hL.two
  have hs := hN.2.1
  have hLW : Laid W := hL.below hN.1 h2
  have hp0 : PartAt (W.alloc (Obj.cells #[Value.int .u8 1] 5)) (.slice (some ⟨W.heap.size, 0, none⟩) 1 1) [1] := part_new W [1] (by simp)
  have hp1 : PartAt W (.slice (some ⟨w.heap.size, 0, none⟩) 32 32) a := part_row hN.2.2.1 ha
  have hp2 : PartAt W (.slice (some ⟨w.heap.size + 1, 0, none⟩) 32 32) b := part_row hN.2.2.2.1 hb
  have e : (W.alloc (Obj.cells #[Value.int .u8 1] 5)).heap.size = W.heap.size + 1 := by simp
  rw [← e]
  generalize hW1 : W.alloc (Obj.cells #[Value.int .u8 1] 5) = W1 at *
  have hN1 : NodeIn w a b W1 := by rw [← hW1]; exact hN.alloc _
  have hL1 : Laid W1 := hL.below hN1.1 h2
  have k1 : PartAt W1 (.slice (some ⟨w.heap.size, 0, none⟩) 32 32) a := by rw [← hW1]; exact hp1.alloc _
  have k2 : PartAt W1 (.slice (some ⟨w.heap.size + 1, 0, none⟩) 32 32) b := by rw [← hW1]; exact hp2.alloc _
  have hN2 := (hN1.alloc (Obj.cells #[.slice (some ⟨W.heap.size, 0, none⟩) 1 1, .slice (some ⟨w.heap.size, 0, none⟩) 32 32, .slice (some ⟨w.heap.size + 1, 0, none⟩) 32 32] 22)).drew
  refine (of_any W1.heap.size 0 3 3 [_, _, _] [[1], a, b] rfl rfl _ (hL.below hN2.1 h2) range_three (by simp) (three_parts (hp0.alloc _).drew (k1.alloc _).drew (k2.alloc _).drew) (by simp; omega) (by omega)).mono ?_
  rintro e w5 ⟨rfl, b5⟩
  exact ⟨by simp [nodeH], hN2.below b5⟩
end Go.Proofs.YtplihbncmmggjaaDoor
