import Derived.Test.YtnpjknnalekdpaaGj
namespace Go.Proofs.Ytnpjknnalekdpaa
set_option linter.unusedSimpArgs false
set_option linter.unusedVariables false
open Go.RowKit
def msgA : Msg := ⟨4, 1, 0, 1, 0, ⟨#[]⟩, false, false, zs 32, false, 0, zs 32, zs 32, false⟩
theorem msgA_ok : msgA.Ok := ⟨by simp [msgA], by simp [msgA], by simp [msgA], by simp [msgA], by simp [msgA], by simp [msgA], (by show (0 : Nat) ≤ _; omega), by simp [msgA, zs], by simp [msgA, zs], by simp [msgA, zs], zs_bytes _, zs_bytes _, zs_bytes _⟩
theorem msgA_form : formB msgA = true := by
  have e : eqM msgA (ofKind msgA) = true := (eqM_iff _ _).2 rfl
  unfold formB
  rw [e]; rfl
theorem msg0_form : formB msg0 = false := rfl
theorem ceA : (((zcel32.setIfInBounds 0 (Value.int IntKind.i64 4)).setIfInBounds 1 (Value.int IntKind.i64 1)).setIfInBounds 3 (Value.int IntKind.u64 1)) = (mC msgA).toArray := by
  rw [zero68, List.setIfInBounds_toArray, List.setIfInBounds_toArray, List.setIfInBounds_toArray]; rfl
set_option maxHeartbeats 1000000 in
set_option maxRecDepth 100000 in
theorem awake5_any (w : World) : Calls Try.prog 4 #[] w fun e w' => e = .returned (.bool true) ∧ Below w.heap.size w w' := by
  have F1 : Hid (Calls Try.prog 7 #[.agg (((zcel32.setIfInBounds 0 (Value.int IntKind.i64 4)).setIfInBounds 1 (Value.int IntKind.i64 1)).setIfInBounds 3 (Value.int IntKind.u64 1))] w fun e w' => e = .returned (.bool true) ∧ Below w.heap.size w w') := by
    unfold Hid; rw [ceA]
    have q := formed_any msgA msgA_ok w
    rw [msgA_form] at q
    exact q
  have F2 : Hid (∀ W, Below w.heap.size w W → Calls Try.prog 7 #[.agg zcel32] W fun e w' => e = .returned (.bool false) ∧ Below w.heap.size w w') := fun W b => by
    rw [zero68]
    have q := formed_any msg0 msg0_ok W
    rw [msg0_form] at q
    exact q.mono fun e w' ⟨r1, r2⟩ => ⟨r1, b.trans (r2.mono b.size)⟩
  go_enter Try.func4, Try.ntmps4
  go_wp2_with fail
  refine F1.out.mono ?_
  rintro e w1 ⟨rfl, b1⟩
  have F3 : Hid (Calls Try.prog 7 #[.agg zcel32] w1 fun e w' => e = .returned (.bool false) ∧ Below w.heap.size w w') := F2.out w1 b1
  clear F1 F2 b1
  go_wp2_with fail
  refine F3.out.mono ?_
  rintro e w2 ⟨rfl, b2⟩
  go_wp2
  go_ret
  exact ⟨rfl, b2⟩
end Go.Proofs.Ytnpjknnalekdpaa
