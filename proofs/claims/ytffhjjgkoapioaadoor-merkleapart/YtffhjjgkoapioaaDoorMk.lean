import Derived.Test.YtffhjjgkoapioaaDoorMj
namespace Go.Proofs.YtffhjjgkoapioaaDoor
set_option linter.unusedSimpArgs false
set_option linter.unusedVariables false
open Go.RowKit
set_option maxRecDepth 100000 in
theorem depth32 : depthI 3 2 = 1 := by decide +kernel
set_option maxRecDepth 100000 in
set_option maxHeartbeats 1000000 in
theorem awake2_any (w : World) : Calls Tryd.prog 27 #[] w fun e w' => e = .returned (.bool true) ∧ Below w.heap.size w w' := by
  have hmk : (Instr.makeSlice 22 (.int .i64 33) (.int .i64 33)).run Tryd.prog w = .ok (.slice (some ⟨w.heap.size, 0, none⟩) 33 33) (w.alloc (.cells (vB (zs 33)) 5)) := makeB 33 (by omega) w
  have C1 : Hid (Calls Tryd.prog 28 #[.slice (some ⟨w.heap.size, 0, none⟩) 33 33] (w.alloc (.cells (vB (zs 33)) 5)) fun e w' => ∃ av cp, e = .returned (.slice av 2 cp) ∧ Below w.heap.size w w') := by
    have hp := part_new w (zs 33) (by rw [zs_length]; omega)
    rw [zs_length] at hp
    refine (chunks_any _ (zs 33) _ hp (by rw [zs_length]; omega)).mono ?_
    rintro e w' ⟨v, rfl, ⟨av, b, o, cp, vs, rfl, _⟩, hb⟩
    refine ⟨av, cp, by rw [chunksL_length, zs_length], ((Below.refl _ _).alloc (Nat.le_refl _) _).trans (hb.mono (by simp))⟩
  have C2 : Hid (∀ w' : World, Calls Tryd.prog 40 #[.int .i64 3, .int .i64 2] w' fun e w'' => e = .returned (.int .i64 1) ∧ w'' = w') := fun w' => by
    have := depth_any 3 2 w'
    rwa [depth32] at this
  go_enter Tryd.func27, Tryd.ntmps27
  go_wp2_with (first | (go_at_call 28; refine C1.out.mono ?_; rintro e w1 ⟨av, cp, rfl, b1⟩) | (go_at_call 40; refine (C2.out _).mono ?_; rintro e w2 ⟨rfl, hw2⟩; have hw3 := hw2.symm; clear hw2; subst hw3))
  go_ret
  exact ⟨rfl, b1⟩
end Go.Proofs.YtffhjjgkoapioaaDoor
