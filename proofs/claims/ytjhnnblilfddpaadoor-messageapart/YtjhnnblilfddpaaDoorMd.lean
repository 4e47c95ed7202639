import Derived.Test.YtjhnnblilfddpaaDoorMc
namespace Go.Proofs.YtjhnnblilfddpaaDoor
set_option linter.unusedSimpArgs false
set_option linter.unusedVariables false
open Go.RowKit
attribute [local go_sem ↓] Go.wp_at_zero Go.wp_at_succ
/-- All of them are bytes. -/
def Bytes (l : List Int) : Prop := ∀ x ∈ l, 0 ≤ x ∧ x ≤ 255
set_option maxRecDepth 100000 in
theorem Bytes.cons {x : Int} {l : List Int} (h : 0 ≤ x ∧ x ≤ 255) (hl : Bytes l) : Bytes (x :: l) := fun y hy => by
  rcases List.mem_cons.1 hy with rfl | h'
  · exact h
  · exact hl y h'
set_option maxRecDepth 100000 in
theorem Bytes.append {a b : List Int} (ha : Bytes a) (hb : Bytes b) : Bytes (a ++ b) := fun y hy => by
  rcases List.mem_append.1 hy with h | h
  · exact ha y h
  · exact hb y h
set_option maxRecDepth 100000 in
theorem Bytes.set {l : List Int} (h : Bytes l) (i : Nat) {x : Int} (hx : 0 ≤ x ∧ x ≤ 255) : Bytes (l.set i x) := fun y hy => by
  rcases List.mem_or_eq_of_mem_set hy with h' | h'
  · exact h y h'
  · subst h'; exact hx
set_option maxRecDepth 100000 in
theorem outTo_bytes (ws : List Int) (k : Nat) : Bytes (outTo ws k) := by
  induction k with
  | zero => intro x hx; simp [outTo, zs] at hx; omega
  | succ k ih => exact Bytes.set (Bytes.set (Bytes.set (Bytes.set ih _ (by omega)) _ (by omega)) _ (by omega)) _ (by omega)
set_option maxRecDepth 100000 in
theorem hashOf_bytes (l : List Int) : Bytes (hashOf l) := by unfold hashOf outB; exact outTo_bytes _ 8
set_option maxRecDepth 100000 in
theorem rnode_call {w W : World} {a b : List Int} (ha : a.length = 32) (hb : b.length = 32) (hN : NodeIn w a b W) :
    Calls Tryd.prog 16 #[.slice (some ⟨W.heap.size + 1, 0, none⟩) 3 3] ((W.alloc (Obj.cells #[Value.int .u8 1] 5)).alloc (Obj.cells #[.slice (some ⟨W.heap.size, 0, none⟩) 1 1, .slice (some ⟨w.heap.size, 0, none⟩) 32 32, .slice (some ⟨w.heap.size + 1, 0, none⟩) 32 32] 22)).drew
      fun e w' => ∃ x, e = .returned x ∧ PartAt w' x (1 :: (a ++ b)) ∧ NodeIn w a b w' := by
  have hs := hN.2.1
  have hp0 : PartAt (W.alloc (Obj.cells #[Value.int .u8 1] 5)) (.slice (some ⟨W.heap.size, 0, none⟩) 1 1) [1] := part_new W [1] (by simp)
  have hp1 : PartAt W (.slice (some ⟨w.heap.size, 0, none⟩) 32 32) a := part_row hN.2.2.1 ha
  have hp2 : PartAt W (.slice (some ⟨w.heap.size + 1, 0, none⟩) 32 32) b := part_row hN.2.2.2.1 hb
  have e : (W.alloc (Obj.cells #[Value.int .u8 1] 5)).heap.size = W.heap.size + 1 := by simp
  rw [← e]
  generalize hW1 : W.alloc (Obj.cells #[Value.int .u8 1] 5) = W1 at *
  have hN1 : NodeIn w a b W1 := by rw [← hW1]; exact hN.alloc _
  have k1 : PartAt W1 (.slice (some ⟨w.heap.size, 0, none⟩) 32 32) a := by rw [← hW1]; exact hp1.alloc _
  have k2 : PartAt W1 (.slice (some ⟨w.heap.size + 1, 0, none⟩) 32 32) b := by rw [← hW1]; exact hp2.alloc _
  have hN2 := (hN1.alloc (Obj.cells #[.slice (some ⟨W.heap.size, 0, none⟩) 1 1, .slice (some ⟨w.heap.size, 0, none⟩) 32 32, .slice (some ⟨w.heap.size + 1, 0, none⟩) 32 32] 22)).drew
  have hz := hN2.2.1
  refine (join_any W1.heap.size 0 3 3 [_, _, _] [[1], a, b] rfl rfl _ (by omega) range_three (by simp) (three_parts (hp0.alloc _).drew (k1.alloc _).drew (k2.alloc _).drew) (by simp; omega) (by omega)).mono ?_
  rintro e w5 ⟨x, rfl, o5, b5⟩
  have hN5 := hN2.below b5
  exact ⟨x, rfl, by simpa using o5.partG (by have := hN5.2.1; omega), hN5⟩
end Go.Proofs.YtjhnnblilfddpaaDoor
