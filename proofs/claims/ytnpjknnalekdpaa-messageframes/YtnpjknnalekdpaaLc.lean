import Derived.Test.YtnpjknnalekdpaaLb
namespace Go.Proofs.Ytnpjknnalekdpaa
set_option linter.unusedSimpArgs false
set_option linter.unusedVariables false
open Go.RowKit
set_option maxHeartbeats 1000000 in
set_option maxRecDepth 100000 in
theorem rof_no (t : Int) (ht : 0 ≤ t ∧ t ≤ 255) (av : Option Addr) (n cp : Nat) (b : List Int) (hbn : b.length = n) (hno : 6 < t ∨ n < 6) (w : World) : Calls Try.prog 6 #[.agg #[.int .u8 t, .slice av n cp]] w fun e w' => e = .returned (.tuple #[.agg (mC (rofM t b)).toArray, .int .i64 (rofC t b)]) ∧ Below w.heap.size w w' := by
  obtain ⟨w1, hw1⟩ : ∃ w1, w1 = (w.alloc (.cells #[.int .u8 t, .slice av n cp] 40)).alloc (.cells zcel37 37) := ⟨_, rfl⟩
  have k1 : Below w.heap.size w (w.alloc (.cells #[.int .u8 t, .slice av n cp] 40)) := (Below.refl _ _).alloc (Nat.le_refl _) _
  have k2 : Below w.heap.size w w1 := by rw [hw1]; exact k1.alloc k1.size _
  have g0 : w1.heap[w.heap.size]? = some (.cells #[.int .u8 t, .slice av n cp] 40) := by rw [hw1, Below.heap_alloc _ _ _ (by simp)]; exact heap_alloc_new _ _
  have g1 : BoxM 37 w1 (w.heap.size + 1) msg0 := by
    unfold BoxM
    have := heap_alloc_new (w.alloc (.cells #[.int .u8 t, .slice av n cp] 40)) (.cells zcel37 37)
    rw [show (w.alloc (.cells #[.int .u8 t, .slice av n cp] 40)).heap.size = w.heap.size + 1 by simp] at this
    rw [hw1, this, zero65]
  have c0 := row_cell (j := 0) g0 rfl
  have c1 := row_cell (j := 1) g0 rfl
  have G1 : Hid (BoxM 37 w1 (w.heap.size + 1) msg0) := g1
  have HR : Hid (rofM t b = msg0 ∧ rofC t b = 2) := by unfold Hid rofM rofC; rw [if_neg (by rw [hbn]; omega), if_neg (by rw [hbn]; omega)]; exact ⟨rfl, rfl⟩
  have HX : Hid (BoxM 37 (w1.setRow (w.heap.size + 1) (mC msg0).toArray) (w.heap.size + 1) msg0 ∧ Below w.heap.size w (w1.setRow (w.heap.size + 1) (mC msg0).toArray)) := ⟨setRow_same g1, below_setRow k2 (by omega) _⟩
  rw [hw1] at c0 c1 G1 HX
  clear hbn k1 k2 g0 g1 hw1
  by_cases h6 : 6 < t
  · have d1 : decide ((6 : Int) < t) = true := decide_eq_true h6
    go_enter Try.func6, Try.ntmps6
    go_wp2_with (first | (refine storeZ65 rfl _ _ rfl (w.heap.size + 1) rfl msg0 rfl msg0_ok G1.out ?_))
    exact end65 Try.results6 msg0_ok rfl rfl HX.out.1 ⟨by rw [HR.out.1, HR.out.2]; rfl, HX.out.2⟩
  · have d1 : decide ((6 : Int) < t) = false := decide_eq_false h6
    have d2 : decide ((n : Int) < 6) = true := decide_eq_true (by omega)
    go_enter Try.func6, Try.ntmps6
    go_wp2_with (first | (refine storeZ65 rfl _ _ rfl (w.heap.size + 1) rfl msg0 rfl msg0_ok G1.out ?_))
    exact end65 Try.results6 msg0_ok rfl rfl HX.out.1 ⟨by rw [HR.out.1, HR.out.2]; rfl, HX.out.2⟩
theorem rof_any78 (t : Int) (ht : 0 ≤ t ∧ t ≤ 255) (v : Value) (b : List Int) (hb : Bytes b) (hl : b.length ≤ 1000) (w : World) (h0 : 0 < w.heap.size) (hp : PartAt w v b) : Calls Try.prog 6 #[.agg #[.int .u8 t, v]] w fun e w' => e = .returned (.tuple #[.agg (mC (ofR t b)).toArray, .int .i64 (ofC t b)]) ∧ Below w.heap.size w w' := by
  obtain ⟨e1, e2⟩ := rof_eq t ht b hb (by omega)
  rw [← e1, ← e2]
  obtain ⟨av, bb, oo, cp, rfl, h1, h2, h3, h4, h5, h6⟩ := hp
  by_cases hno : 6 < t ∨ b.length < 6
  · exact rof_no t ht av b.length cp b rfl hno w
  · have hav := h3 (by omega)
    subst hav
    exact rof_main t (by omega) bb oo b.length cp b rfl (by omega) hl hb w h0 h4 h5 h1 h2
end Go.Proofs.Ytnpjknnalekdpaa
