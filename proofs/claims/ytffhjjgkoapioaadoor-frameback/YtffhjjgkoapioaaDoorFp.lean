import Derived.Test.YtffhjjgkoapioaaDoorFy
namespace Go.Proofs.YtffhjjgkoapioaaDoor
set_option linter.unusedSimpArgs false
set_option linter.unusedVariables false
open Go.RowKit
set_option maxHeartbeats 1000000 in
set_option maxRecDepth 100000 in
theorem back_out (t at' : Int) (a1 a2 : Option Addr) (n1 c1 n2 c2 : Nat) (h63a : n1 ≤ 4611686018427387904) (h63b : n2 ≤ 4611686018427387904) (w : World) (hL : Laid w) (h : 1000 < n1 ∨ 1000 < n2 ∨ t = 0) : Calls Tryd.prog 15 #[.int .u8 t, .slice a1 n1 c1, .slice a2 n2 c2, .int .u64 at'] w fun e w' => e = .returned (.bool true) ∧ Below w.heap.size w w' := by
  have h2 := hL.two
  have AW : Hid (∀ W, Below w.heap.size w W → Calls Tryd.prog 45 #[] W fun e w' => e = .returned (.bool true) ∧ Below w.heap.size w w') := fun W q =>
    (awake4_any W (hL.below q h2)).mono fun e w' ⟨r1, r2⟩ => ⟨r1, q.trans (r2.mono q.size)⟩
  have B0 := Below.refl w.heap.size w
  by_cases g1 : 1000 < n1
  · have g1i : (1000 : Int) < (n1 : Int) := by omega
    clear h
    go_enter Tryd.func15, Tryd.ntmps15
    go_wp2_with (first | (go_at_call 45; first | (refine (AW.out _ B0).mono ?_; rintro e w1 ⟨rfl, b1⟩; clear B0) | (refine (AW.out _ b1).mono ?_; rintro e w2 ⟨rfl, b2⟩)))
    go_ret
    exact ⟨rfl, b2⟩
  have g1i : ¬ (1000 : Int) < (n1 : Int) := by omega
  by_cases g2 : 1000 < n2
  · have g2i : (1000 : Int) < (n2 : Int) := by omega
    clear h
    go_enter Tryd.func15, Tryd.ntmps15
    go_wp2_with (first | (go_at_call 45; first | (refine (AW.out _ B0).mono ?_; rintro e w1 ⟨rfl, b1⟩; clear B0) | (refine (AW.out _ b1).mono ?_; rintro e w2 ⟨rfl, b2⟩)))
    go_ret
    exact ⟨rfl, b2⟩
  have g2i : ¬ (1000 : Int) < (n2 : Int) := by omega
  have g3 : t = 0 := by omega
  subst g3
  clear h
  go_enter Tryd.func15, Tryd.ntmps15
  go_wp2_with (first | (go_at_call 45; first | (refine (AW.out _ B0).mono ?_; rintro e w1 ⟨rfl, b1⟩; clear B0) | (refine (AW.out _ b1).mono ?_; rintro e w2 ⟨rfl, b2⟩)))
  go_ret
  exact ⟨rfl, b2⟩
end Go.Proofs.YtffhjjgkoapioaaDoor
