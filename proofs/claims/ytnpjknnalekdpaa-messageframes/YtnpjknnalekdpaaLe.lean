import Derived.Test.YtnpjknnalekdpaaLc
import Derived.Test.YtnpjknnalekdpaaJh
namespace Go.Proofs.Ytnpjknnalekdpaa
set_option linter.unusedSimpArgs false
set_option linter.unusedVariables false
open Go.RowKit
set_option maxHeartbeats 1000000 in
set_option maxRecDepth 100000 in
theorem mframes_long (t : Int) (av : Option Addr) (n cp : Nat) (hn : 1000 < n) (w : World) : Calls Try.prog 3 #[.int .u8 t, .slice av n cp] w fun e w' => e = .returned (.bool true) ∧ Below w.heap.size w w' := by
  have AW : Hid (∀ W, Below w.heap.size w W → Calls Try.prog 4 #[] W fun e w' => e = .returned (.bool true) ∧ Below w.heap.size w w') := fun W q => (awake5_any W).mono fun e w' ⟨r1, r2⟩ => ⟨r1, q.trans (r2.mono q.size)⟩
  have d1 : decide ((1000 : Int) < (n : Int)) = true := decide_eq_true (by omega)
  clear hn
  go_enter Try.func3, Try.ntmps3
  go_wp2_with fail
  refine (AW.out _ (Below.refl _ _)).mono ?_
  rintro e w2 ⟨rfl, b2⟩
  go_wp2_with fail
  refine (AW.out _ b2).mono ?_
  rintro e w3 ⟨rfl, b3⟩
  go_wp2
  go_ret
  exact ⟨rfl, b3⟩
set_option maxHeartbeats 2000000 in
set_option maxRecDepth 100000 in
theorem mframes_do (t : Int) (ht : 0 ≤ t ∧ t ≤ 255) (av : Option Addr) (n cp : Nat) (b : List Int) (hbn : b.length = n) (hb : Bytes b) (hn : n ≤ 1000) (w : World) (h0 : 0 < w.heap.size) (hp : PartAt w (.slice av n cp) b) : Calls Try.prog 3 #[.int .u8 t, .slice av n cp] w fun e w' => e = .returned (.bool true) ∧ Below w.heap.size w w' := by
  have AW : Hid (∀ W, Below w.heap.size w W → Calls Try.prog 4 #[] W fun e w' => e = .returned (.bool true) ∧ Below w.heap.size w w') := fun W q => (awake5_any W).mono fun e w' ⟨r1, r2⟩ => ⟨r1, q.trans (r2.mono q.size)⟩
  have O1 : Hid (∀ W, Below w.heap.size w W → Calls Try.prog 5 #[.agg #[.int .u8 t, .slice av n cp]] W fun e w' => e = .returned (.tuple #[.agg (mC (ofR t b)).toArray, .int .i64 (ofC t b)]) ∧ Below w.heap.size w w') := fun W q => (of_any77 t ht _ b hb (by omega) W (hp.below q)).mono fun e w' ⟨r1, r2⟩ => ⟨r1, q.trans (r2.mono q.size)⟩
  have O2 : Hid (∀ W, Below w.heap.size w W → Calls Try.prog 6 #[.agg #[.int .u8 t, .slice av n cp]] W fun e w' => e = .returned (.tuple #[.agg (mC (ofR t b)).toArray, .int .i64 (ofC t b)]) ∧ Below W.heap.size W w') := fun W q => rof_any78 t ht _ b hb (by omega) W (by have := q.size; omega) (hp.below q)
  have OK : Hid ((ofR t b).Ok) := ofR_ok t ht b hb
  have EQ : Hid (∀ W, (Op.equalIn 10000 37 (.agg (mC (ofR t b)).toArray) (.agg (mC (ofR t b)).toArray)).run Try.prog W = .ok true W) := fun W => eq65_self _ OK.out W
  have d1 : decide ((1000 : Int) < (n : Int)) = false := decide_eq_false (by omega)
  clear ht hbn hb hn h0 hp
  generalize ofR t b = M at *
  generalize ofC t b = c at *
  go_enter Try.func3, Try.ntmps3
  go_wp2_with fail
  refine (AW.out _ (Below.refl _ _)).mono ?_
  rintro e w2 ⟨rfl, b2⟩
  go_wp2_with fail
  refine (O1.out _ b2).mono ?_
  rintro e w3 ⟨rfl, b3⟩
  have Y3 : Hid (BoxM 32 (w3.alloc (.cells zcel32 32)) w3.heap.size msg0) := by unfold Hid BoxM; rw [heap_alloc_new, zero68]
  have Z3 : Hid (∀ W, W = (w3.alloc (.cells zcel32 32)).setRow w3.heap.size (mC M).toArray → Below w.heap.size w W ∧ BoxM 32 W w3.heap.size M) := fun W hW => by
    subst hW
    exact ⟨below_setRow (b3.alloc b3.size _) b3.size _, setRow_same Y3.out⟩
  clear b2 b3 AW O1
  go_wp2_with (first | (refine storeM68 rfl _ _ rfl w3.heap.size rfl M msg0 rfl OK.out msg0_ok Y3.out ?_; (obtain ⟨w4, hw4⟩ : ∃ W, W = (w3.alloc (.cells zcel32 32)).setRow w3.heap.size (mC M).toArray := ⟨_, rfl⟩); rw [← hw4]; obtain ⟨q1, q3⟩ := Z3.out w4 hw4; have B4 : Hid (Below w.heap.size w w4) := q1; have X4 : Hid (BoxM 32 w4 w3.heap.size M) := q3; clear q1 q3 Z3 hw4 Y3))
  refine (O2.out _ B4.out).mono ?_
  rintro e w5 ⟨rfl, b5⟩
  have X5 : Hid (BoxM 32 w5 w3.heap.size M) := X4.out.below b5
  have B5 : Hid (Below w.heap.size w w5) := B4.out.trans (b5.mono B4.out.size)
  have Y5 : Hid (BoxM 37 (w5.alloc (.cells zcel37 37)) w5.heap.size msg0) := by unfold Hid BoxM; rw [heap_alloc_new, zero65]
  have Z5 : Hid (∀ W, W = (w5.alloc (.cells zcel37 37)).setRow w5.heap.size (mC M).toArray → Below w.heap.size w W ∧ BoxM 37 W w5.heap.size M ∧ BoxM 32 W w3.heap.size M) := fun W hW => by
    subst hW
    refine ⟨below_setRow (B5.out.alloc B5.out.size _) B5.out.size _, setRow_same Y5.out, ?_⟩
    have hlt := X5.out.lt
    unfold BoxM; rw [setRow_far _ _ _ _ (by omega), Below.heap_alloc _ _ _ hlt]; exact X5.out
  clear b5 O2 X4 B4
  go_wp2_with (first | (refine storeM65 rfl _ _ rfl w5.heap.size rfl M msg0 rfl OK.out msg0_ok Y5.out ?_; (obtain ⟨w6, hw6⟩ : ∃ W, W = (w5.alloc (.cells zcel37 37)).setRow w5.heap.size (mC M).toArray := ⟨_, rfl⟩); rw [← hw6]; obtain ⟨q1, q2, q3⟩ := Z5.out w6 hw6; have B6 : Hid (Below w.heap.size w w6) := q1; have X6 : Hid (BoxM 37 w6 w5.heap.size M) := q2; have V6 : Hid (BoxM 32 w6 w3.heap.size M) := q3; clear q1 q2 q3 Z5 hw6 Y5) | (refine loadM68 rfl _ rfl w3.heap.size rfl M OK.out V6.out ?_) | (refine loadM65 rfl _ rfl w5.heap.size rfl M OK.out X6.out ?_) | (refine valList rfl (.bool true) (run_eql 37 guard65 _ _ _ _ _ rfl _ _ rfl rfl _ _ (EQ.out _)) ?_))
  go_ret
  exact ⟨by first | rfl | simp, B6.out⟩
theorem messageFrames_walk (t : Int) (ht : 0 ≤ t ∧ t ≤ 255) (v : Value) (b : List Int) (hb : Bytes b) (w : World) (hp : PartAt w v b) : Calls Try.prog 3 #[.int .u8 t, v] w fun e w' => e = .returned (.bool true) ∧ Below w.heap.size w w' := by
  obtain ⟨av, bb, oo, cp, hv, h1, h2, h3, h4, h5, h6⟩ := id hp
  subst hv
  by_cases hn : 1000 < b.length
  · exact mframes_long t av b.length cp hn w
  · exact mframes_do t ht av b.length cp b rfl hb (by omega) w (by omega) hp
end Go.Proofs.Ytnpjknnalekdpaa
