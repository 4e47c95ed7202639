import Derived.Test.YtjhnnblilfddpaaDoorGv
import Derived.Test.YtjhnnblilfddpaaDoorGx
namespace Go.Proofs.YtjhnnblilfddpaaDoor
set_option linter.unusedSimpArgs false
set_option linter.unusedVariables false
open Go.RowKit
set_option maxHeartbeats 1000000 in
set_option maxRecDepth 100000 in
theorem apart5_a (a b : Msg) (ha : a.Ok) (hb : b.Ok) (fa : decide ((a.s.size : Int) ≤ 2000) = false) (w : World) (hL : Laid w) : Calls Tryd.prog 13 #[.agg (mC a).toArray, .agg (mC b).toArray] w fun e w' => e = .returned (.bool true) ∧ Below w.heap.size w w' := by
  have h2 := hL.two
  have k1 : Below w.heap.size w (w.alloc (.cells (mC a).toArray 65)) := (Below.refl _ _).alloc (Nat.le_refl _) _
  have k2 : Below w.heap.size w ((w.alloc (.cells (mC a).toArray 65)).alloc (.cells (mC b).toArray 65)) := k1.alloc k1.size _
  have x1 : BoxM 65 ((w.alloc (.cells (mC a).toArray 65)).alloc (.cells (mC b).toArray 65)) w.heap.size a := by unfold BoxM; rw [Below.heap_alloc _ _ _ (by simp)]; exact heap_alloc_new _ _
  have x2 : BoxM 65 ((w.alloc (.cells (mC a).toArray 65)).alloc (.cells (mC b).toArray 65)) (w.heap.size + 1) b := by
    unfold BoxM
    have := heap_alloc_new (w.alloc (.cells (mC a).toArray 65)) (.cells (mC b).toArray 65)
    rw [show (w.alloc (.cells (mC a).toArray 65)).heap.size = w.heap.size + 1 by simp] at this
    exact this
  obtain ⟨W2, hW2⟩ : ∃ W, W = (w.alloc (.cells (mC a).toArray 65)).alloc (.cells (mC b).toArray 65) := ⟨_, rfl⟩
  rw [← hW2] at k2 x1 x2
  have HW2 : Hid (W2 = (w.alloc (.cells (mC a).toArray 65)).alloc (.cells (mC b).toArray 65)) := hW2
  have BA : Hid (∀ W, Below W2.heap.size W2 W → BoxM 65 W w.heap.size a) := fun W q => x1.below q
  have BB : Hid (∀ W, Below W2.heap.size W2 W → BoxM 65 W (w.heap.size + 1) b) := fun W q => x2.below q
  have BW : Hid (∀ W, Below W2.heap.size W2 W → Below w.heap.size w W) := fun W q => k2.trans (q.mono k2.size)
  have AW : Hid (∀ W, Below W2.heap.size W2 W → Calls Tryd.prog 32 #[] W fun e w' => e = .returned (.bool true) ∧ Below W2.heap.size W2 w') := fun W q => (awake5_any W).mono fun e w' ⟨r1, r2⟩ => ⟨r1, q.trans (r2.mono q.size)⟩
  have HMA : Hid (a.Ok) := ha
  have HMB : Hid (b.Ok) := hb
  have FA : Hid (∀ W, Below W2.heap.size W2 W → Calls Tryd.prog 33 #[.agg (mC a).toArray] W fun e w' => e = .returned (.bool false) ∧ Below W2.heap.size W2 w') := fun W q => by
    have r := few5_any a ha W
    rw [fa] at r
    exact r.mono fun e w' ⟨r1, r2⟩ => ⟨r1, q.trans (r2.mono q.size)⟩
  clear fa
  have b0 : Below W2.heap.size W2 W2 := Below.refl _ _
  clear k1 k2 x1 x2 hW2 ha hb hL h2
  go_enter Tryd.func13, Tryd.ntmps13
  go_wp2_with fail
  rw [← HW2.out]
  refine (AW.out _ b0).mono ?_
  rintro e w3 ⟨rfl, b3⟩
  have B3 : Hid (Below W2.heap.size W2 w3) := b3
  clear b3 b0 HW2
  go_wp2_with (first | (refine loadM65g rfl _ rfl w.heap.size rfl a HMA.out (BA.out _ B3.out) ?_))
  refine (FA.out w3 B3.out).mono ?_
  rintro e w4 ⟨rfl, b4⟩
  have B4 : Hid (Below W2.heap.size W2 w4) := b4
  clear b4 FA
  go_wp2_with fail
  refine (AW.out _ B4.out).mono ?_
  rintro e w9 ⟨rfl, b9⟩
  go_wp2
  go_ret
  exact ⟨rfl, BW.out _ b9⟩
set_option maxHeartbeats 1000000 in
set_option maxRecDepth 100000 in
theorem apart5_b (a b : Msg) (ha : a.Ok) (hb : b.Ok) (fa : decide ((a.s.size : Int) ≤ 2000) = true) (fb : decide ((b.s.size : Int) ≤ 2000) = false) (w : World) (hL : Laid w) : Calls Tryd.prog 13 #[.agg (mC a).toArray, .agg (mC b).toArray] w fun e w' => e = .returned (.bool true) ∧ Below w.heap.size w w' := by
  have h2 := hL.two
  have k1 : Below w.heap.size w (w.alloc (.cells (mC a).toArray 65)) := (Below.refl _ _).alloc (Nat.le_refl _) _
  have k2 : Below w.heap.size w ((w.alloc (.cells (mC a).toArray 65)).alloc (.cells (mC b).toArray 65)) := k1.alloc k1.size _
  have x1 : BoxM 65 ((w.alloc (.cells (mC a).toArray 65)).alloc (.cells (mC b).toArray 65)) w.heap.size a := by unfold BoxM; rw [Below.heap_alloc _ _ _ (by simp)]; exact heap_alloc_new _ _
  have x2 : BoxM 65 ((w.alloc (.cells (mC a).toArray 65)).alloc (.cells (mC b).toArray 65)) (w.heap.size + 1) b := by
    unfold BoxM
    have := heap_alloc_new (w.alloc (.cells (mC a).toArray 65)) (.cells (mC b).toArray 65)
    rw [show (w.alloc (.cells (mC a).toArray 65)).heap.size = w.heap.size + 1 by simp] at this
    exact this
  obtain ⟨W2, hW2⟩ : ∃ W, W = (w.alloc (.cells (mC a).toArray 65)).alloc (.cells (mC b).toArray 65) := ⟨_, rfl⟩
  rw [← hW2] at k2 x1 x2
  have HW2 : Hid (W2 = (w.alloc (.cells (mC a).toArray 65)).alloc (.cells (mC b).toArray 65)) := hW2
  have BA : Hid (∀ W, Below W2.heap.size W2 W → BoxM 65 W w.heap.size a) := fun W q => x1.below q
  have BB : Hid (∀ W, Below W2.heap.size W2 W → BoxM 65 W (w.heap.size + 1) b) := fun W q => x2.below q
  have BW : Hid (∀ W, Below W2.heap.size W2 W → Below w.heap.size w W) := fun W q => k2.trans (q.mono k2.size)
  have AW : Hid (∀ W, Below W2.heap.size W2 W → Calls Tryd.prog 32 #[] W fun e w' => e = .returned (.bool true) ∧ Below W2.heap.size W2 w') := fun W q => (awake5_any W).mono fun e w' ⟨r1, r2⟩ => ⟨r1, q.trans (r2.mono q.size)⟩
  have HMA : Hid (a.Ok) := ha
  have HMB : Hid (b.Ok) := hb
  have FA : Hid (∀ W, Below W2.heap.size W2 W → Calls Tryd.prog 33 #[.agg (mC a).toArray] W fun e w' => e = .returned (.bool true) ∧ Below W2.heap.size W2 w') := fun W q => by
    have r := few5_any a ha W
    rw [fa] at r
    exact r.mono fun e w' ⟨r1, r2⟩ => ⟨r1, q.trans (r2.mono q.size)⟩
  have FB : Hid (∀ W, Below W2.heap.size W2 W → Calls Tryd.prog 33 #[.agg (mC b).toArray] W fun e w' => e = .returned (.bool false) ∧ Below W2.heap.size W2 w') := fun W q => by
    have r := few5_any b hb W
    rw [fb] at r
    exact r.mono fun e w' ⟨r1, r2⟩ => ⟨r1, q.trans (r2.mono q.size)⟩
  clear fa fb
  have b0 : Below W2.heap.size W2 W2 := Below.refl _ _
  clear k1 k2 x1 x2 hW2 ha hb hL h2
  go_enter Tryd.func13, Tryd.ntmps13
  go_wp2_with fail
  rw [← HW2.out]
  refine (AW.out _ b0).mono ?_
  rintro e w3 ⟨rfl, b3⟩
  have B3 : Hid (Below W2.heap.size W2 w3) := b3
  clear b3 b0 HW2
  go_wp2_with (first | (refine loadM65g rfl _ rfl w.heap.size rfl a HMA.out (BA.out _ B3.out) ?_))
  refine (FA.out w3 B3.out).mono ?_
  rintro e w4 ⟨rfl, b4⟩
  have B4 : Hid (Below W2.heap.size W2 w4) := b4
  clear b4 FA
  go_wp2_with (first | (refine loadM65g rfl _ rfl (w.heap.size + 1) rfl b HMB.out (BB.out _ B4.out) ?_))
  refine (FB.out w4 B4.out).mono ?_
  rintro e w5 ⟨rfl, b5⟩
  have B5 : Hid (Below W2.heap.size W2 w5) := b5
  clear b5 FB
  go_wp2_with fail
  refine (AW.out _ B5.out).mono ?_
  rintro e w9 ⟨rfl, b9⟩
  go_wp2
  go_ret
  exact ⟨rfl, BW.out _ b9⟩
set_option maxHeartbeats 1000000 in
set_option maxRecDepth 100000 in
theorem apart5_c0 (a b : Msg) (ha : a.Ok) (hb : b.Ok) (fa : decide ((a.s.size : Int) ≤ 2000) = true) (fb : decide ((b.s.size : Int) ≤ 2000) = true) (ga : formB a = false) (gb : formB b = false) (w : World) (hL : Laid w) : Calls Tryd.prog 13 #[.agg (mC a).toArray, .agg (mC b).toArray] w fun e w' => e = .returned (.bool true) ∧ Below w.heap.size w w' := by
  have h2 := hL.two
  have k1 : Below w.heap.size w (w.alloc (.cells (mC a).toArray 65)) := (Below.refl _ _).alloc (Nat.le_refl _) _
  have k2 : Below w.heap.size w ((w.alloc (.cells (mC a).toArray 65)).alloc (.cells (mC b).toArray 65)) := k1.alloc k1.size _
  have x1 : BoxM 65 ((w.alloc (.cells (mC a).toArray 65)).alloc (.cells (mC b).toArray 65)) w.heap.size a := by unfold BoxM; rw [Below.heap_alloc _ _ _ (by simp)]; exact heap_alloc_new _ _
  have x2 : BoxM 65 ((w.alloc (.cells (mC a).toArray 65)).alloc (.cells (mC b).toArray 65)) (w.heap.size + 1) b := by
    unfold BoxM
    have := heap_alloc_new (w.alloc (.cells (mC a).toArray 65)) (.cells (mC b).toArray 65)
    rw [show (w.alloc (.cells (mC a).toArray 65)).heap.size = w.heap.size + 1 by simp] at this
    exact this
  obtain ⟨W2, hW2⟩ : ∃ W, W = (w.alloc (.cells (mC a).toArray 65)).alloc (.cells (mC b).toArray 65) := ⟨_, rfl⟩
  rw [← hW2] at k2 x1 x2
  have HW2 : Hid (W2 = (w.alloc (.cells (mC a).toArray 65)).alloc (.cells (mC b).toArray 65)) := hW2
  have BA : Hid (∀ W, Below W2.heap.size W2 W → BoxM 65 W w.heap.size a) := fun W q => x1.below q
  have BB : Hid (∀ W, Below W2.heap.size W2 W → BoxM 65 W (w.heap.size + 1) b) := fun W q => x2.below q
  have BW : Hid (∀ W, Below W2.heap.size W2 W → Below w.heap.size w W) := fun W q => k2.trans (q.mono k2.size)
  have AW : Hid (∀ W, Below W2.heap.size W2 W → Calls Tryd.prog 32 #[] W fun e w' => e = .returned (.bool true) ∧ Below W2.heap.size W2 w') := fun W q => (awake5_any W).mono fun e w' ⟨r1, r2⟩ => ⟨r1, q.trans (r2.mono q.size)⟩
  have HMA : Hid (a.Ok) := ha
  have HMB : Hid (b.Ok) := hb
  have FA : Hid (∀ W, Below W2.heap.size W2 W → Calls Tryd.prog 33 #[.agg (mC a).toArray] W fun e w' => e = .returned (.bool true) ∧ Below W2.heap.size W2 w') := fun W q => by
    have r := few5_any a ha W
    rw [fa] at r
    exact r.mono fun e w' ⟨r1, r2⟩ => ⟨r1, q.trans (r2.mono q.size)⟩
  have FB : Hid (∀ W, Below W2.heap.size W2 W → Calls Tryd.prog 33 #[.agg (mC b).toArray] W fun e w' => e = .returned (.bool true) ∧ Below W2.heap.size W2 w') := fun W q => by
    have r := few5_any b hb W
    rw [fb] at r
    exact r.mono fun e w' ⟨r1, r2⟩ => ⟨r1, q.trans (r2.mono q.size)⟩
  have EA : Hid (∀ W, Below W2.heap.size W2 W → Calls Tryd.prog 34 #[.agg (mC a).toArray] W fun e w' => ∃ av L cp, e = .returned (.tuple #[.slice av L cp, .int .i64 1]) ∧ PartAt w' (.slice av L cp) ([]) ∧ Below W.heap.size W w' ∧ Below W2.heap.size W2 w') := fun W q => by
    refine (mencode_no a ha ga W).mono ?_
    rintro e w' ⟨r1, r3⟩
    exact ⟨none, 0, 0, r1, part_none w' (by have := r3.size; have := q.size; have := k2.size; omega), r3, q.trans (r3.mono q.size)⟩
  have EB : Hid (∀ W, Below W2.heap.size W2 W → Calls Tryd.prog 34 #[.agg (mC b).toArray] W fun e w' => ∃ av L cp, e = .returned (.tuple #[.slice av L cp, .int .i64 1]) ∧ PartAt w' (.slice av L cp) ([]) ∧ Below W.heap.size W w' ∧ Below W2.heap.size W2 w') := fun W q => by
    refine (mencode_no b hb gb W).mono ?_
    rintro e w' ⟨r1, r3⟩
    exact ⟨none, 0, 0, r1, part_none w' (by have := r3.size; have := q.size; have := k2.size; omega), r3, q.trans (r3.mono q.size)⟩
  clear fa fb ga gb
  have b0 : Below W2.heap.size W2 W2 := Below.refl _ _
  clear k1 k2 x1 x2 hW2 ha hb hL h2
  go_enter Tryd.func13, Tryd.ntmps13
  go_wp2_with fail
  rw [← HW2.out]
  refine (AW.out _ b0).mono ?_
  rintro e w3 ⟨rfl, b3⟩
  have B3 : Hid (Below W2.heap.size W2 w3) := b3
  clear b3 b0 HW2
  go_wp2_with (first | (refine loadM65g rfl _ rfl w.heap.size rfl a HMA.out (BA.out _ B3.out) ?_))
  refine (FA.out w3 B3.out).mono ?_
  rintro e w4 ⟨rfl, b4⟩
  have B4 : Hid (Below W2.heap.size W2 w4) := b4
  clear b4 FA
  go_wp2_with (first | (refine loadM65g rfl _ rfl (w.heap.size + 1) rfl b HMB.out (BB.out _ B4.out) ?_))
  refine (FB.out w4 B4.out).mono ?_
  rintro e w5 ⟨rfl, b5⟩
  have B5 : Hid (Below W2.heap.size W2 w5) := b5
  clear b5 FB
  go_wp2_with (first | (refine loadM65 rfl _ rfl w.heap.size rfl a HMA.out (BA.out _ B5.out) ?_))
  refine (EA.out w5 B5.out).mono ?_
  rintro e w6 ⟨av6, l6, c6, rfl, p6, _, b6⟩
  have P6 : Hid (PartAt w6 (.slice av6 l6 c6) ([])) := p6
  have B6 : Hid (Below W2.heap.size W2 w6) := b6
  clear p6 b6 EA
  go_wp2_with (first | (refine loadM65 rfl _ rfl (w.heap.size + 1) rfl b HMB.out (BB.out _ B6.out) ?_))
  refine (EB.out w6 B6.out).mono ?_
  rintro e w7 ⟨av7, l7, c7, rfl, p7, b67, b7⟩
  have P6' : Hid (PartAt w7 (.slice av6 l6 c6) ([])) := P6.out.below b67
  have P7 : Hid (PartAt w7 (.slice av7 l7 c7) ([])) := p7
  have B7 : Hid (Below W2.heap.size W2 w7) := b7
  have BD : Hid (Below w7.heap.size w7 w7.drew) := (Below.refl _ _).drew
  clear p7 b67 b7 EB P6
  go_wp2_with fail
  refine wp_region_noPanic ?_
  refine wp_region_held_drew (S := fun w' => Below w7.heap.size w7 w') (by kernel_rfl) (BD.out) (fun hHeld => ?_)
  try simp only [Act.put, List.setIfInBounds_toArray, List.set_cons_zero, List.set_cons_succ]
  refine wpAnyH_take (i := 0) (oi := { dst := some 32, op := Go.Op.move (Go.Operand.tmp 6), type := 42, pos := "law.go:89", after := #[], guard := none }) (v := ?_) rfl (by kernel_rfl) (by kernel_rfl) (by kernel_rfl) (fun _ _ _ h => h) (Or.inl ⟨by rfl, ?_⟩) hHeld ?_
  rotate_left 1
  · (intro wq hSq; (try dsimp only at hSq); go_simp; first | done | with_reducible rfl)
  try simp only [Act.put, List.setIfInBounds_toArray, List.set_cons_zero, List.set_cons_succ]
  refine wpAnyH_take (i := 1) (oi := { dst := some 33, op := Go.Op.binOp Go.BinOp.neq 42 (Go.Operand.tmp 32) (Go.Operand.const (Go.Value.int Go.IntKind.i64 0)) 42, type := 4, pos := "law.go:89", after := #[{ on := 0, ground := Go.Ground.data }], guard := none }) (v := ?_) rfl (by kernel_rfl) (by kernel_rfl) (by kernel_rfl) (fun _ _ _ h => h) (Or.inl ⟨by rfl, ?_⟩) hHeld ?_
  rotate_left 1
  · (intro wq hSq; (try dsimp only at hSq); go_simp; first | done | with_reducible rfl)
  try simp only [Act.put, List.setIfInBounds_toArray, List.set_cons_zero, List.set_cons_succ]
  refine wpAnyH_take (i := 2) (oi := { dst := some 34, op := Go.Op.move (Go.Operand.tmp 33), type := 4, pos := "law.go:89", after := #[{ on := 1, ground := Go.Ground.data }], guard := none }) (v := ?_) rfl (by kernel_rfl) (by kernel_rfl) (by kernel_rfl) (fun _ _ _ h => h) (Or.inl ⟨by rfl, ?_⟩) hHeld ?_
  rotate_left 1
  · (intro wq hSq; (try dsimp only at hSq); go_simp; first | done | with_reducible rfl)
  try simp only [Act.put, List.setIfInBounds_toArray, List.set_cons_zero, List.set_cons_succ]
  refine wpAnyH_take (i := 3) (oi := { dst := some 35, op := Go.Op.move (Go.Operand.tmp 8), type := 42, pos := "law.go:89", after := #[{ on := 2, ground := Go.Ground.guard }], guard := some (2, false) }) (v := undef) rfl (by kernel_rfl) (by kernel_rfl) (by kernel_rfl) (fun _ _ _ h => h) (Or.inr ⟨by rfl, rfl⟩) hHeld ?_
  try simp only [Act.put, List.setIfInBounds_toArray, List.set_cons_zero, List.set_cons_succ]
  refine wpAnyH_take (i := 4) (oi := { dst := some 36, op := Go.Op.binOp Go.BinOp.neq 42 (Go.Operand.tmp 35) (Go.Operand.const (Go.Value.int Go.IntKind.i64 0)) 42, type := 4, pos := "law.go:89", after := #[{ on := 3, ground := Go.Ground.data }, { on := 2, ground := Go.Ground.guard }], guard := some (2, false) }) (v := undef) rfl (by kernel_rfl) (by kernel_rfl) (by kernel_rfl) (fun _ _ _ h => h) (Or.inr ⟨by rfl, rfl⟩) hHeld ?_
  try simp only [Act.put, List.setIfInBounds_toArray, List.set_cons_zero, List.set_cons_succ]
  refine wpAnyH_take (i := 5) (oi := { dst := some 37, op := Go.Op.pick (Go.Operand.tmp 34) (Go.Operand.const (Go.Value.bool true)) (Go.Operand.tmp 36), type := 4, pos := "law.go:89", after := #[{ on := 2, ground := Go.Ground.data }, { on := 4, ground := Go.Ground.data }], guard := none }) (v := ?_) rfl (by kernel_rfl) (by kernel_rfl) (by kernel_rfl) (fun _ _ _ h => h) (Or.inl ⟨by rfl, ?_⟩) hHeld ?_
  rotate_left 1
  · (intro wq hSq; (try dsimp only at hSq); go_simp; first | done | with_reducible rfl)
  try simp only [Act.put, List.setIfInBounds_toArray, List.set_cons_zero, List.set_cons_succ]
  refine wpAnyH_take (i := 6) (oi := { dst := some 38, op := Go.Op.move (Go.Operand.tmp 37), type := 4, pos := "law.go:89", after := #[{ on := 5, ground := Go.Ground.data }, { on := 2, ground := Go.Ground.chain }], guard := none }) (v := ?_) rfl (by kernel_rfl) (by kernel_rfl) (by kernel_rfl) (fun _ _ _ h => h) (Or.inl ⟨by rfl, ?_⟩) hHeld ?_
  rotate_left 1
  · (intro wq hSq; (try dsimp only at hSq); go_simp; first | done | with_reducible rfl)
  try simp only [Act.put, List.setIfInBounds_toArray, List.set_cons_zero, List.set_cons_succ]
  refine wpAnyH_take (i := 7) (oi := { dst := some 39, op := Go.Op.move (Go.Operand.tmp 5), type := 22, pos := "law.go:89", after := #[{ on := 6, ground := Go.Ground.guard }], guard := some (6, false) }) (v := undef) rfl (by kernel_rfl) (by kernel_rfl) (by kernel_rfl) (fun _ _ _ h => h) (Or.inr ⟨by rfl, rfl⟩) hHeld ?_
  try simp only [Act.put, List.setIfInBounds_toArray, List.set_cons_zero, List.set_cons_succ]
  refine wpAnyH_take (i := 8) (oi := { dst := some 40, op := Go.Op.convert 22 9 (Go.Operand.tmp 39), type := 9, pos := "law.go:89", after := #[{ on := 7, ground := Go.Ground.data }, { on := 6, ground := Go.Ground.guard }], guard := some (6, false) }) (v := undef) rfl (by kernel_rfl) (by kernel_rfl) (by kernel_rfl) (fun _ _ _ h => h) (Or.inr ⟨by rfl, rfl⟩) hHeld ?_
  try simp only [Act.put, List.setIfInBounds_toArray, List.set_cons_zero, List.set_cons_succ]
  refine wpAnyH_take (i := 9) (oi := { dst := some 41, op := Go.Op.move (Go.Operand.tmp 7), type := 22, pos := "law.go:89", after := #[{ on := 6, ground := Go.Ground.guard }], guard := some (6, false) }) (v := undef) rfl (by kernel_rfl) (by kernel_rfl) (by kernel_rfl) (fun _ _ _ h => h) (Or.inr ⟨by rfl, rfl⟩) hHeld ?_
  try simp only [Act.put, List.setIfInBounds_toArray, List.set_cons_zero, List.set_cons_succ]
  refine wpAnyH_take (i := 10) (oi := { dst := some 42, op := Go.Op.convert 22 9 (Go.Operand.tmp 41), type := 9, pos := "law.go:89", after := #[{ on := 9, ground := Go.Ground.data }, { on := 6, ground := Go.Ground.guard }], guard := some (6, false) }) (v := undef) rfl (by kernel_rfl) (by kernel_rfl) (by kernel_rfl) (fun _ _ _ h => h) (Or.inr ⟨by rfl, rfl⟩) hHeld ?_
  try simp only [Act.put, List.setIfInBounds_toArray, List.set_cons_zero, List.set_cons_succ]
  refine wpAnyH_take (i := 11) (oi := { dst := some 43, op := Go.Op.binOp Go.BinOp.eql 9 (Go.Operand.tmp 40) (Go.Operand.tmp 42) 9, type := 4, pos := "law.go:89", after := #[{ on := 8, ground := Go.Ground.data }, { on := 10, ground := Go.Ground.data }, { on := 6, ground := Go.Ground.guard }], guard := some (6, false) }) (v := undef) rfl (by kernel_rfl) (by kernel_rfl) (by kernel_rfl) (fun _ _ _ h => h) (Or.inr ⟨by rfl, rfl⟩) hHeld ?_
  try simp only [Act.put, List.setIfInBounds_toArray, List.set_cons_zero, List.set_cons_succ]
  refine wpAnyH_take (i := 12) (oi := { dst := some 44, op := Go.Op.load 65 (Go.Operand.tmp 2), type := 65, pos := "law.go:89", after := #[{ on := 6, ground := Go.Ground.guard }], guard := some (6, false) }) (v := undef) rfl (by kernel_rfl) (by kernel_rfl) (by kernel_rfl) (fun _ _ _ h => h) (Or.inr ⟨by rfl, rfl⟩) hHeld ?_
  try simp only [Act.put, List.setIfInBounds_toArray, List.set_cons_zero, List.set_cons_succ]
  refine wpAnyH_take (i := 13) (oi := { dst := some 45, op := Go.Op.load 65 (Go.Operand.tmp 3), type := 65, pos := "law.go:89", after := #[{ on := 6, ground := Go.Ground.guard }], guard := some (6, false) }) (v := undef) rfl (by kernel_rfl) (by kernel_rfl) (by kernel_rfl) (fun _ _ _ h => h) (Or.inr ⟨by rfl, rfl⟩) hHeld ?_
  try simp only [Act.put, List.setIfInBounds_toArray, List.set_cons_zero, List.set_cons_succ]
  refine wpAnyH_take (i := 14) (oi := { dst := some 46, op := Go.Op.binOp Go.BinOp.eql 65 (Go.Operand.tmp 44) (Go.Operand.tmp 45) 65, type := 4, pos := "law.go:89", after := #[{ on := 12, ground := Go.Ground.data }, { on := 13, ground := Go.Ground.data }, { on := 6, ground := Go.Ground.guard }], guard := some (6, false) }) (v := undef) rfl (by kernel_rfl) (by kernel_rfl) (by kernel_rfl) (fun _ _ _ h => h) (Or.inr ⟨by rfl, rfl⟩) hHeld ?_
  try simp only [Act.put, List.setIfInBounds_toArray, List.set_cons_zero, List.set_cons_succ]
  refine wpAnyH_take (i := 15) (oi := { dst := some 47, op := Go.Op.binOp Go.BinOp.eql 4 (Go.Operand.tmp 43) (Go.Operand.tmp 46) 4, type := 4, pos := "law.go:89", after := #[{ on := 11, ground := Go.Ground.data }, { on := 14, ground := Go.Ground.data }, { on := 6, ground := Go.Ground.guard }], guard := some (6, false) }) (v := undef) rfl (by kernel_rfl) (by kernel_rfl) (by kernel_rfl) (fun _ _ _ h => h) (Or.inr ⟨by rfl, rfl⟩) hHeld ?_
  try simp only [Act.put, List.setIfInBounds_toArray, List.set_cons_zero, List.set_cons_succ]
  refine wpAnyH_take (i := 16) (oi := { dst := some 48, op := Go.Op.pick (Go.Operand.tmp 38) (Go.Operand.const (Go.Value.bool true)) (Go.Operand.tmp 47), type := 4, pos := "law.go:89", after := #[{ on := 6, ground := Go.Ground.data }, { on := 15, ground := Go.Ground.data }], guard := none }) (v := ?_) rfl (by kernel_rfl) (by kernel_rfl) (by kernel_rfl) (fun _ _ _ h => h) (Or.inl ⟨by rfl, ?_⟩) hHeld ?_
  rotate_left 1
  · (intro wq hSq; (try dsimp only at hSq); go_simp; first | done | with_reducible rfl)
  try simp only [Act.put, List.setIfInBounds_toArray, List.set_cons_zero, List.set_cons_succ]
  refine wpAnyH_take (i := 17) (oi := { dst := some 4, op := Go.Op.assign (Go.Operand.tmp 48), type := 4, pos := "law.go:89", after := #[{ on := 16, ground := Go.Ground.data }, { on := 6, ground := Go.Ground.chain }, { on := 0, ground := Go.Ground.phase }, { on := 1, ground := Go.Ground.phase }, { on := 2, ground := Go.Ground.phase }, { on := 3, ground := Go.Ground.phase }, { on := 4, ground := Go.Ground.phase }, { on := 5, ground := Go.Ground.phase }, { on := 6, ground := Go.Ground.phase }, { on := 7, ground := Go.Ground.phase }, { on := 8, ground := Go.Ground.phase }, { on := 9, ground := Go.Ground.phase }, { on := 10, ground := Go.Ground.phase }, { on := 11, ground := Go.Ground.phase }, { on := 12, ground := Go.Ground.phase }, { on := 13, ground := Go.Ground.phase }, { on := 14, ground := Go.Ground.phase }, { on := 15, ground := Go.Ground.phase }, { on := 16, ground := Go.Ground.phase }], guard := none }) (v := ?_) rfl (by kernel_rfl) (by kernel_rfl) (by kernel_rfl) (fun _ _ _ h => h) (Or.inl ⟨by rfl, ?_⟩) hHeld ?_
  rotate_left 1
  · (intro wq hSq; (try dsimp only at hSq); go_simp; first | done | with_reducible rfl)
  try simp only [Act.put, List.setIfInBounds_toArray, List.set_cons_zero, List.set_cons_succ]
  refine wpAnyH_done (by kernel_rfl) ?_ _
  refine NoPanic.normal ?_
  go_wp2
  go_ret
  exact ⟨rfl, BW.out _ (B7.out.trans (BD.out.mono B7.out.size))⟩
set_option maxHeartbeats 1000000 in
set_option maxRecDepth 100000 in
theorem apart5_c1 (a b : Msg) (ha : a.Ok) (hb : b.Ok) (fa : decide ((a.s.size : Int) ≤ 2000) = true) (fb : decide ((b.s.size : Int) ≤ 2000) = true) (ga : formB a = false) (gb : formB b = true) (w : World) (hL : Laid w) : Calls Tryd.prog 13 #[.agg (mC a).toArray, .agg (mC b).toArray] w fun e w' => e = .returned (.bool true) ∧ Below w.heap.size w w' := by
  have h2 := hL.two
  have k1 : Below w.heap.size w (w.alloc (.cells (mC a).toArray 65)) := (Below.refl _ _).alloc (Nat.le_refl _) _
  have k2 : Below w.heap.size w ((w.alloc (.cells (mC a).toArray 65)).alloc (.cells (mC b).toArray 65)) := k1.alloc k1.size _
  have x1 : BoxM 65 ((w.alloc (.cells (mC a).toArray 65)).alloc (.cells (mC b).toArray 65)) w.heap.size a := by unfold BoxM; rw [Below.heap_alloc _ _ _ (by simp)]; exact heap_alloc_new _ _
  have x2 : BoxM 65 ((w.alloc (.cells (mC a).toArray 65)).alloc (.cells (mC b).toArray 65)) (w.heap.size + 1) b := by
    unfold BoxM
    have := heap_alloc_new (w.alloc (.cells (mC a).toArray 65)) (.cells (mC b).toArray 65)
    rw [show (w.alloc (.cells (mC a).toArray 65)).heap.size = w.heap.size + 1 by simp] at this
    exact this
  obtain ⟨W2, hW2⟩ : ∃ W, W = (w.alloc (.cells (mC a).toArray 65)).alloc (.cells (mC b).toArray 65) := ⟨_, rfl⟩
  rw [← hW2] at k2 x1 x2
  have HW2 : Hid (W2 = (w.alloc (.cells (mC a).toArray 65)).alloc (.cells (mC b).toArray 65)) := hW2
  have BA : Hid (∀ W, Below W2.heap.size W2 W → BoxM 65 W w.heap.size a) := fun W q => x1.below q
  have BB : Hid (∀ W, Below W2.heap.size W2 W → BoxM 65 W (w.heap.size + 1) b) := fun W q => x2.below q
  have BW : Hid (∀ W, Below W2.heap.size W2 W → Below w.heap.size w W) := fun W q => k2.trans (q.mono k2.size)
  have AW : Hid (∀ W, Below W2.heap.size W2 W → Calls Tryd.prog 32 #[] W fun e w' => e = .returned (.bool true) ∧ Below W2.heap.size W2 w') := fun W q => (awake5_any W).mono fun e w' ⟨r1, r2⟩ => ⟨r1, q.trans (r2.mono q.size)⟩
  have HMA : Hid (a.Ok) := ha
  have HMB : Hid (b.Ok) := hb
  have FA : Hid (∀ W, Below W2.heap.size W2 W → Calls Tryd.prog 33 #[.agg (mC a).toArray] W fun e w' => e = .returned (.bool true) ∧ Below W2.heap.size W2 w') := fun W q => by
    have r := few5_any a ha W
    rw [fa] at r
    exact r.mono fun e w' ⟨r1, r2⟩ => ⟨r1, q.trans (r2.mono q.size)⟩
  have FB : Hid (∀ W, Below W2.heap.size W2 W → Calls Tryd.prog 33 #[.agg (mC b).toArray] W fun e w' => e = .returned (.bool true) ∧ Below W2.heap.size W2 w') := fun W q => by
    have r := few5_any b hb W
    rw [fb] at r
    exact r.mono fun e w' ⟨r1, r2⟩ => ⟨r1, q.trans (r2.mono q.size)⟩
  have EA : Hid (∀ W, Below W2.heap.size W2 W → Calls Tryd.prog 34 #[.agg (mC a).toArray] W fun e w' => ∃ av L cp, e = .returned (.tuple #[.slice av L cp, .int .i64 1]) ∧ PartAt w' (.slice av L cp) ([]) ∧ Below W.heap.size W w' ∧ Below W2.heap.size W2 w') := fun W q => by
    refine (mencode_no a ha ga W).mono ?_
    rintro e w' ⟨r1, r3⟩
    exact ⟨none, 0, 0, r1, part_none w' (by have := r3.size; have := q.size; have := k2.size; omega), r3, q.trans (r3.mono q.size)⟩
  have EB : Hid (∀ W, Below W2.heap.size W2 W → Calls Tryd.prog 34 #[.agg (mC b).toArray] W fun e w' => ∃ av L cp, e = .returned (.tuple #[.slice av L cp, .int .i64 0]) ∧ PartAt w' (.slice av L cp) (encB b.kind (bodyB b)) ∧ Below W.heap.size W w' ∧ Below W2.heap.size W2 w') := fun W q => by
    refine (mencode_yes b hb gb W (hL.below (k2.trans (q.mono k2.size)) h2)).mono ?_
    rintro e w' ⟨u, r1, r2, r3⟩
    have r2' := r2
    obtain ⟨av, b', o', cp, rfl, _⟩ := r2'
    exact ⟨av, _, cp, r1, r2, r3, q.trans (r3.mono q.size)⟩
  clear fa fb ga gb
  have b0 : Below W2.heap.size W2 W2 := Below.refl _ _
  clear k1 k2 x1 x2 hW2 ha hb hL h2
  go_enter Tryd.func13, Tryd.ntmps13
  go_wp2_with fail
  rw [← HW2.out]
  refine (AW.out _ b0).mono ?_
  rintro e w3 ⟨rfl, b3⟩
  have B3 : Hid (Below W2.heap.size W2 w3) := b3
  clear b3 b0 HW2
  go_wp2_with (first | (refine loadM65g rfl _ rfl w.heap.size rfl a HMA.out (BA.out _ B3.out) ?_))
  refine (FA.out w3 B3.out).mono ?_
  rintro e w4 ⟨rfl, b4⟩
  have B4 : Hid (Below W2.heap.size W2 w4) := b4
  clear b4 FA
  go_wp2_with (first | (refine loadM65g rfl _ rfl (w.heap.size + 1) rfl b HMB.out (BB.out _ B4.out) ?_))
  refine (FB.out w4 B4.out).mono ?_
  rintro e w5 ⟨rfl, b5⟩
  have B5 : Hid (Below W2.heap.size W2 w5) := b5
  clear b5 FB
  go_wp2_with (first | (refine loadM65 rfl _ rfl w.heap.size rfl a HMA.out (BA.out _ B5.out) ?_))
  refine (EA.out w5 B5.out).mono ?_
  rintro e w6 ⟨av6, l6, c6, rfl, p6, _, b6⟩
  have P6 : Hid (PartAt w6 (.slice av6 l6 c6) ([])) := p6
  have B6 : Hid (Below W2.heap.size W2 w6) := b6
  clear p6 b6 EA
  go_wp2_with (first | (refine loadM65 rfl _ rfl (w.heap.size + 1) rfl b HMB.out (BB.out _ B6.out) ?_))
  refine (EB.out w6 B6.out).mono ?_
  rintro e w7 ⟨av7, l7, c7, rfl, p7, b67, b7⟩
  have P6' : Hid (PartAt w7 (.slice av6 l6 c6) ([])) := P6.out.below b67
  have P7 : Hid (PartAt w7 (.slice av7 l7 c7) (encB b.kind (bodyB b))) := p7
  have B7 : Hid (Below W2.heap.size W2 w7) := b7
  have BD : Hid (Below w7.heap.size w7 w7.drew) := (Below.refl _ _).drew
  clear p7 b67 b7 EB P6
  go_wp2_with fail
  refine wp_region_noPanic ?_
  refine wp_region_held_drew (S := fun w' => Below w7.heap.size w7 w') (by kernel_rfl) (BD.out) (fun hHeld => ?_)
  try simp only [Act.put, List.setIfInBounds_toArray, List.set_cons_zero, List.set_cons_succ]
  refine wpAnyH_take (i := 0) (oi := { dst := some 32, op := Go.Op.move (Go.Operand.tmp 6), type := 42, pos := "law.go:89", after := #[], guard := none }) (v := ?_) rfl (by kernel_rfl) (by kernel_rfl) (by kernel_rfl) (fun _ _ _ h => h) (Or.inl ⟨by rfl, ?_⟩) hHeld ?_
  rotate_left 1
  · (intro wq hSq; (try dsimp only at hSq); go_simp; first | done | with_reducible rfl)
  try simp only [Act.put, List.setIfInBounds_toArray, List.set_cons_zero, List.set_cons_succ]
  refine wpAnyH_take (i := 1) (oi := { dst := some 33, op := Go.Op.binOp Go.BinOp.neq 42 (Go.Operand.tmp 32) (Go.Operand.const (Go.Value.int Go.IntKind.i64 0)) 42, type := 4, pos := "law.go:89", after := #[{ on := 0, ground := Go.Ground.data }], guard := none }) (v := ?_) rfl (by kernel_rfl) (by kernel_rfl) (by kernel_rfl) (fun _ _ _ h => h) (Or.inl ⟨by rfl, ?_⟩) hHeld ?_
  rotate_left 1
  · (intro wq hSq; (try dsimp only at hSq); go_simp; first | done | with_reducible rfl)
  try simp only [Act.put, List.setIfInBounds_toArray, List.set_cons_zero, List.set_cons_succ]
  refine wpAnyH_take (i := 2) (oi := { dst := some 34, op := Go.Op.move (Go.Operand.tmp 33), type := 4, pos := "law.go:89", after := #[{ on := 1, ground := Go.Ground.data }], guard := none }) (v := ?_) rfl (by kernel_rfl) (by kernel_rfl) (by kernel_rfl) (fun _ _ _ h => h) (Or.inl ⟨by rfl, ?_⟩) hHeld ?_
  rotate_left 1
  · (intro wq hSq; (try dsimp only at hSq); go_simp; first | done | with_reducible rfl)
  try simp only [Act.put, List.setIfInBounds_toArray, List.set_cons_zero, List.set_cons_succ]
  refine wpAnyH_take (i := 3) (oi := { dst := some 35, op := Go.Op.move (Go.Operand.tmp 8), type := 42, pos := "law.go:89", after := #[{ on := 2, ground := Go.Ground.guard }], guard := some (2, false) }) (v := undef) rfl (by kernel_rfl) (by kernel_rfl) (by kernel_rfl) (fun _ _ _ h => h) (Or.inr ⟨by rfl, rfl⟩) hHeld ?_
  try simp only [Act.put, List.setIfInBounds_toArray, List.set_cons_zero, List.set_cons_succ]
  refine wpAnyH_take (i := 4) (oi := { dst := some 36, op := Go.Op.binOp Go.BinOp.neq 42 (Go.Operand.tmp 35) (Go.Operand.const (Go.Value.int Go.IntKind.i64 0)) 42, type := 4, pos := "law.go:89", after := #[{ on := 3, ground := Go.Ground.data }, { on := 2, ground := Go.Ground.guard }], guard := some (2, false) }) (v := undef) rfl (by kernel_rfl) (by kernel_rfl) (by kernel_rfl) (fun _ _ _ h => h) (Or.inr ⟨by rfl, rfl⟩) hHeld ?_
  try simp only [Act.put, List.setIfInBounds_toArray, List.set_cons_zero, List.set_cons_succ]
  refine wpAnyH_take (i := 5) (oi := { dst := some 37, op := Go.Op.pick (Go.Operand.tmp 34) (Go.Operand.const (Go.Value.bool true)) (Go.Operand.tmp 36), type := 4, pos := "law.go:89", after := #[{ on := 2, ground := Go.Ground.data }, { on := 4, ground := Go.Ground.data }], guard := none }) (v := ?_) rfl (by kernel_rfl) (by kernel_rfl) (by kernel_rfl) (fun _ _ _ h => h) (Or.inl ⟨by rfl, ?_⟩) hHeld ?_
  rotate_left 1
  · (intro wq hSq; (try dsimp only at hSq); go_simp; first | done | with_reducible rfl)
  try simp only [Act.put, List.setIfInBounds_toArray, List.set_cons_zero, List.set_cons_succ]
  refine wpAnyH_take (i := 6) (oi := { dst := some 38, op := Go.Op.move (Go.Operand.tmp 37), type := 4, pos := "law.go:89", after := #[{ on := 5, ground := Go.Ground.data }, { on := 2, ground := Go.Ground.chain }], guard := none }) (v := ?_) rfl (by kernel_rfl) (by kernel_rfl) (by kernel_rfl) (fun _ _ _ h => h) (Or.inl ⟨by rfl, ?_⟩) hHeld ?_
  rotate_left 1
  · (intro wq hSq; (try dsimp only at hSq); go_simp; first | done | with_reducible rfl)
  try simp only [Act.put, List.setIfInBounds_toArray, List.set_cons_zero, List.set_cons_succ]
  refine wpAnyH_take (i := 7) (oi := { dst := some 39, op := Go.Op.move (Go.Operand.tmp 5), type := 22, pos := "law.go:89", after := #[{ on := 6, ground := Go.Ground.guard }], guard := some (6, false) }) (v := undef) rfl (by kernel_rfl) (by kernel_rfl) (by kernel_rfl) (fun _ _ _ h => h) (Or.inr ⟨by rfl, rfl⟩) hHeld ?_
  try simp only [Act.put, List.setIfInBounds_toArray, List.set_cons_zero, List.set_cons_succ]
  refine wpAnyH_take (i := 8) (oi := { dst := some 40, op := Go.Op.convert 22 9 (Go.Operand.tmp 39), type := 9, pos := "law.go:89", after := #[{ on := 7, ground := Go.Ground.data }, { on := 6, ground := Go.Ground.guard }], guard := some (6, false) }) (v := undef) rfl (by kernel_rfl) (by kernel_rfl) (by kernel_rfl) (fun _ _ _ h => h) (Or.inr ⟨by rfl, rfl⟩) hHeld ?_
  try simp only [Act.put, List.setIfInBounds_toArray, List.set_cons_zero, List.set_cons_succ]
  refine wpAnyH_take (i := 9) (oi := { dst := some 41, op := Go.Op.move (Go.Operand.tmp 7), type := 22, pos := "law.go:89", after := #[{ on := 6, ground := Go.Ground.guard }], guard := some (6, false) }) (v := undef) rfl (by kernel_rfl) (by kernel_rfl) (by kernel_rfl) (fun _ _ _ h => h) (Or.inr ⟨by rfl, rfl⟩) hHeld ?_
  try simp only [Act.put, List.setIfInBounds_toArray, List.set_cons_zero, List.set_cons_succ]
  refine wpAnyH_take (i := 10) (oi := { dst := some 42, op := Go.Op.convert 22 9 (Go.Operand.tmp 41), type := 9, pos := "law.go:89", after := #[{ on := 9, ground := Go.Ground.data }, { on := 6, ground := Go.Ground.guard }], guard := some (6, false) }) (v := undef) rfl (by kernel_rfl) (by kernel_rfl) (by kernel_rfl) (fun _ _ _ h => h) (Or.inr ⟨by rfl, rfl⟩) hHeld ?_
  try simp only [Act.put, List.setIfInBounds_toArray, List.set_cons_zero, List.set_cons_succ]
  refine wpAnyH_take (i := 11) (oi := { dst := some 43, op := Go.Op.binOp Go.BinOp.eql 9 (Go.Operand.tmp 40) (Go.Operand.tmp 42) 9, type := 4, pos := "law.go:89", after := #[{ on := 8, ground := Go.Ground.data }, { on := 10, ground := Go.Ground.data }, { on := 6, ground := Go.Ground.guard }], guard := some (6, false) }) (v := undef) rfl (by kernel_rfl) (by kernel_rfl) (by kernel_rfl) (fun _ _ _ h => h) (Or.inr ⟨by rfl, rfl⟩) hHeld ?_
  try simp only [Act.put, List.setIfInBounds_toArray, List.set_cons_zero, List.set_cons_succ]
  refine wpAnyH_take (i := 12) (oi := { dst := some 44, op := Go.Op.load 65 (Go.Operand.tmp 2), type := 65, pos := "law.go:89", after := #[{ on := 6, ground := Go.Ground.guard }], guard := some (6, false) }) (v := undef) rfl (by kernel_rfl) (by kernel_rfl) (by kernel_rfl) (fun _ _ _ h => h) (Or.inr ⟨by rfl, rfl⟩) hHeld ?_
  try simp only [Act.put, List.setIfInBounds_toArray, List.set_cons_zero, List.set_cons_succ]
  refine wpAnyH_take (i := 13) (oi := { dst := some 45, op := Go.Op.load 65 (Go.Operand.tmp 3), type := 65, pos := "law.go:89", after := #[{ on := 6, ground := Go.Ground.guard }], guard := some (6, false) }) (v := undef) rfl (by kernel_rfl) (by kernel_rfl) (by kernel_rfl) (fun _ _ _ h => h) (Or.inr ⟨by rfl, rfl⟩) hHeld ?_
  try simp only [Act.put, List.setIfInBounds_toArray, List.set_cons_zero, List.set_cons_succ]
  refine wpAnyH_take (i := 14) (oi := { dst := some 46, op := Go.Op.binOp Go.BinOp.eql 65 (Go.Operand.tmp 44) (Go.Operand.tmp 45) 65, type := 4, pos := "law.go:89", after := #[{ on := 12, ground := Go.Ground.data }, { on := 13, ground := Go.Ground.data }, { on := 6, ground := Go.Ground.guard }], guard := some (6, false) }) (v := undef) rfl (by kernel_rfl) (by kernel_rfl) (by kernel_rfl) (fun _ _ _ h => h) (Or.inr ⟨by rfl, rfl⟩) hHeld ?_
  try simp only [Act.put, List.setIfInBounds_toArray, List.set_cons_zero, List.set_cons_succ]
  refine wpAnyH_take (i := 15) (oi := { dst := some 47, op := Go.Op.binOp Go.BinOp.eql 4 (Go.Operand.tmp 43) (Go.Operand.tmp 46) 4, type := 4, pos := "law.go:89", after := #[{ on := 11, ground := Go.Ground.data }, { on := 14, ground := Go.Ground.data }, { on := 6, ground := Go.Ground.guard }], guard := some (6, false) }) (v := undef) rfl (by kernel_rfl) (by kernel_rfl) (by kernel_rfl) (fun _ _ _ h => h) (Or.inr ⟨by rfl, rfl⟩) hHeld ?_
  try simp only [Act.put, List.setIfInBounds_toArray, List.set_cons_zero, List.set_cons_succ]
  refine wpAnyH_take (i := 16) (oi := { dst := some 48, op := Go.Op.pick (Go.Operand.tmp 38) (Go.Operand.const (Go.Value.bool true)) (Go.Operand.tmp 47), type := 4, pos := "law.go:89", after := #[{ on := 6, ground := Go.Ground.data }, { on := 15, ground := Go.Ground.data }], guard := none }) (v := ?_) rfl (by kernel_rfl) (by kernel_rfl) (by kernel_rfl) (fun _ _ _ h => h) (Or.inl ⟨by rfl, ?_⟩) hHeld ?_
  rotate_left 1
  · (intro wq hSq; (try dsimp only at hSq); go_simp; first | done | with_reducible rfl)
  try simp only [Act.put, List.setIfInBounds_toArray, List.set_cons_zero, List.set_cons_succ]
  refine wpAnyH_take (i := 17) (oi := { dst := some 4, op := Go.Op.assign (Go.Operand.tmp 48), type := 4, pos := "law.go:89", after := #[{ on := 16, ground := Go.Ground.data }, { on := 6, ground := Go.Ground.chain }, { on := 0, ground := Go.Ground.phase }, { on := 1, ground := Go.Ground.phase }, { on := 2, ground := Go.Ground.phase }, { on := 3, ground := Go.Ground.phase }, { on := 4, ground := Go.Ground.phase }, { on := 5, ground := Go.Ground.phase }, { on := 6, ground := Go.Ground.phase }, { on := 7, ground := Go.Ground.phase }, { on := 8, ground := Go.Ground.phase }, { on := 9, ground := Go.Ground.phase }, { on := 10, ground := Go.Ground.phase }, { on := 11, ground := Go.Ground.phase }, { on := 12, ground := Go.Ground.phase }, { on := 13, ground := Go.Ground.phase }, { on := 14, ground := Go.Ground.phase }, { on := 15, ground := Go.Ground.phase }, { on := 16, ground := Go.Ground.phase }], guard := none }) (v := ?_) rfl (by kernel_rfl) (by kernel_rfl) (by kernel_rfl) (fun _ _ _ h => h) (Or.inl ⟨by rfl, ?_⟩) hHeld ?_
  rotate_left 1
  · (intro wq hSq; (try dsimp only at hSq); go_simp; first | done | with_reducible rfl)
  try simp only [Act.put, List.setIfInBounds_toArray, List.set_cons_zero, List.set_cons_succ]
  refine wpAnyH_done (by kernel_rfl) ?_ _
  refine NoPanic.normal ?_
  go_wp2
  go_ret
  exact ⟨rfl, BW.out _ (B7.out.trans (BD.out.mono B7.out.size))⟩
set_option maxHeartbeats 1000000 in
set_option maxRecDepth 100000 in
theorem apart5_d (a b : Msg) (ha : a.Ok) (hb : b.Ok) (fa : decide ((a.s.size : Int) ≤ 2000) = true) (fb : decide ((b.s.size : Int) ≤ 2000) = true) (ga : formB a = true) (gb : formB b = false) (w : World) (hL : Laid w) : Calls Tryd.prog 13 #[.agg (mC a).toArray, .agg (mC b).toArray] w fun e w' => e = .returned (.bool true) ∧ Below w.heap.size w w' := by
  have h2 := hL.two
  have k1 : Below w.heap.size w (w.alloc (.cells (mC a).toArray 65)) := (Below.refl _ _).alloc (Nat.le_refl _) _
  have k2 : Below w.heap.size w ((w.alloc (.cells (mC a).toArray 65)).alloc (.cells (mC b).toArray 65)) := k1.alloc k1.size _
  have x1 : BoxM 65 ((w.alloc (.cells (mC a).toArray 65)).alloc (.cells (mC b).toArray 65)) w.heap.size a := by unfold BoxM; rw [Below.heap_alloc _ _ _ (by simp)]; exact heap_alloc_new _ _
  have x2 : BoxM 65 ((w.alloc (.cells (mC a).toArray 65)).alloc (.cells (mC b).toArray 65)) (w.heap.size + 1) b := by
    unfold BoxM
    have := heap_alloc_new (w.alloc (.cells (mC a).toArray 65)) (.cells (mC b).toArray 65)
    rw [show (w.alloc (.cells (mC a).toArray 65)).heap.size = w.heap.size + 1 by simp] at this
    exact this
  obtain ⟨W2, hW2⟩ : ∃ W, W = (w.alloc (.cells (mC a).toArray 65)).alloc (.cells (mC b).toArray 65) := ⟨_, rfl⟩
  rw [← hW2] at k2 x1 x2
  have HW2 : Hid (W2 = (w.alloc (.cells (mC a).toArray 65)).alloc (.cells (mC b).toArray 65)) := hW2
  have BA : Hid (∀ W, Below W2.heap.size W2 W → BoxM 65 W w.heap.size a) := fun W q => x1.below q
  have BB : Hid (∀ W, Below W2.heap.size W2 W → BoxM 65 W (w.heap.size + 1) b) := fun W q => x2.below q
  have BW : Hid (∀ W, Below W2.heap.size W2 W → Below w.heap.size w W) := fun W q => k2.trans (q.mono k2.size)
  have AW : Hid (∀ W, Below W2.heap.size W2 W → Calls Tryd.prog 32 #[] W fun e w' => e = .returned (.bool true) ∧ Below W2.heap.size W2 w') := fun W q => (awake5_any W).mono fun e w' ⟨r1, r2⟩ => ⟨r1, q.trans (r2.mono q.size)⟩
  have HMA : Hid (a.Ok) := ha
  have HMB : Hid (b.Ok) := hb
  have FA : Hid (∀ W, Below W2.heap.size W2 W → Calls Tryd.prog 33 #[.agg (mC a).toArray] W fun e w' => e = .returned (.bool true) ∧ Below W2.heap.size W2 w') := fun W q => by
    have r := few5_any a ha W
    rw [fa] at r
    exact r.mono fun e w' ⟨r1, r2⟩ => ⟨r1, q.trans (r2.mono q.size)⟩
  have FB : Hid (∀ W, Below W2.heap.size W2 W → Calls Tryd.prog 33 #[.agg (mC b).toArray] W fun e w' => e = .returned (.bool true) ∧ Below W2.heap.size W2 w') := fun W q => by
    have r := few5_any b hb W
    rw [fb] at r
    exact r.mono fun e w' ⟨r1, r2⟩ => ⟨r1, q.trans (r2.mono q.size)⟩
  have EA : Hid (∀ W, Below W2.heap.size W2 W → Calls Tryd.prog 34 #[.agg (mC a).toArray] W fun e w' => ∃ av L cp, e = .returned (.tuple #[.slice av L cp, .int .i64 0]) ∧ PartAt w' (.slice av L cp) (encB a.kind (bodyB a)) ∧ Below W.heap.size W w' ∧ Below W2.heap.size W2 w') := fun W q => by
    refine (mencode_yes a ha ga W (hL.below (k2.trans (q.mono k2.size)) h2)).mono ?_
    rintro e w' ⟨u, r1, r2, r3⟩
    have r2' := r2
    obtain ⟨av, b', o', cp, rfl, _⟩ := r2'
    exact ⟨av, _, cp, r1, r2, r3, q.trans (r3.mono q.size)⟩
  have EB : Hid (∀ W, Below W2.heap.size W2 W → Calls Tryd.prog 34 #[.agg (mC b).toArray] W fun e w' => ∃ av L cp, e = .returned (.tuple #[.slice av L cp, .int .i64 1]) ∧ PartAt w' (.slice av L cp) ([]) ∧ Below W.heap.size W w' ∧ Below W2.heap.size W2 w') := fun W q => by
    refine (mencode_no b hb gb W).mono ?_
    rintro e w' ⟨r1, r3⟩
    exact ⟨none, 0, 0, r1, part_none w' (by have := r3.size; have := q.size; have := k2.size; omega), r3, q.trans (r3.mono q.size)⟩
  clear fa fb ga gb
  have b0 : Below W2.heap.size W2 W2 := Below.refl _ _
  clear k1 k2 x1 x2 hW2 ha hb hL h2
  go_enter Tryd.func13, Tryd.ntmps13
  go_wp2_with fail
  rw [← HW2.out]
  refine (AW.out _ b0).mono ?_
  rintro e w3 ⟨rfl, b3⟩
  have B3 : Hid (Below W2.heap.size W2 w3) := b3
  clear b3 b0 HW2
  go_wp2_with (first | (refine loadM65g rfl _ rfl w.heap.size rfl a HMA.out (BA.out _ B3.out) ?_))
  refine (FA.out w3 B3.out).mono ?_
  rintro e w4 ⟨rfl, b4⟩
  have B4 : Hid (Below W2.heap.size W2 w4) := b4
  clear b4 FA
  go_wp2_with (first | (refine loadM65g rfl _ rfl (w.heap.size + 1) rfl b HMB.out (BB.out _ B4.out) ?_))
  refine (FB.out w4 B4.out).mono ?_
  rintro e w5 ⟨rfl, b5⟩
  have B5 : Hid (Below W2.heap.size W2 w5) := b5
  clear b5 FB
  go_wp2_with (first | (refine loadM65 rfl _ rfl w.heap.size rfl a HMA.out (BA.out _ B5.out) ?_))
  refine (EA.out w5 B5.out).mono ?_
  rintro e w6 ⟨av6, l6, c6, rfl, p6, _, b6⟩
  have P6 : Hid (PartAt w6 (.slice av6 l6 c6) (encB a.kind (bodyB a))) := p6
  have B6 : Hid (Below W2.heap.size W2 w6) := b6
  clear p6 b6 EA
  go_wp2_with (first | (refine loadM65 rfl _ rfl (w.heap.size + 1) rfl b HMB.out (BB.out _ B6.out) ?_))
  refine (EB.out w6 B6.out).mono ?_
  rintro e w7 ⟨av7, l7, c7, rfl, p7, b67, b7⟩
  have P6' : Hid (PartAt w7 (.slice av6 l6 c6) (encB a.kind (bodyB a))) := P6.out.below b67
  have P7 : Hid (PartAt w7 (.slice av7 l7 c7) ([])) := p7
  have B7 : Hid (Below W2.heap.size W2 w7) := b7
  have BD : Hid (Below w7.heap.size w7 w7.drew) := (Below.refl _ _).drew
  clear p7 b67 b7 EB P6
  go_wp2_with fail
  refine wp_region_noPanic ?_
  refine wp_region_held_drew (S := fun w' => Below w7.heap.size w7 w') (by kernel_rfl) (BD.out) (fun hHeld => ?_)
  try simp only [Act.put, List.setIfInBounds_toArray, List.set_cons_zero, List.set_cons_succ]
  refine wpAnyH_take (i := 0) (oi := { dst := some 32, op := Go.Op.move (Go.Operand.tmp 6), type := 42, pos := "law.go:89", after := #[], guard := none }) (v := ?_) rfl (by kernel_rfl) (by kernel_rfl) (by kernel_rfl) (fun _ _ _ h => h) (Or.inl ⟨by rfl, ?_⟩) hHeld ?_
  rotate_left 1
  · (intro wq hSq; (try dsimp only at hSq); go_simp; first | done | with_reducible rfl)
  try simp only [Act.put, List.setIfInBounds_toArray, List.set_cons_zero, List.set_cons_succ]
  refine wpAnyH_take (i := 1) (oi := { dst := some 33, op := Go.Op.binOp Go.BinOp.neq 42 (Go.Operand.tmp 32) (Go.Operand.const (Go.Value.int Go.IntKind.i64 0)) 42, type := 4, pos := "law.go:89", after := #[{ on := 0, ground := Go.Ground.data }], guard := none }) (v := ?_) rfl (by kernel_rfl) (by kernel_rfl) (by kernel_rfl) (fun _ _ _ h => h) (Or.inl ⟨by rfl, ?_⟩) hHeld ?_
  rotate_left 1
  · (intro wq hSq; (try dsimp only at hSq); go_simp; first | done | with_reducible rfl)
  try simp only [Act.put, List.setIfInBounds_toArray, List.set_cons_zero, List.set_cons_succ]
  refine wpAnyH_take (i := 2) (oi := { dst := some 34, op := Go.Op.move (Go.Operand.tmp 33), type := 4, pos := "law.go:89", after := #[{ on := 1, ground := Go.Ground.data }], guard := none }) (v := ?_) rfl (by kernel_rfl) (by kernel_rfl) (by kernel_rfl) (fun _ _ _ h => h) (Or.inl ⟨by rfl, ?_⟩) hHeld ?_
  rotate_left 1
  · (intro wq hSq; (try dsimp only at hSq); go_simp; first | done | with_reducible rfl)
  try simp only [Act.put, List.setIfInBounds_toArray, List.set_cons_zero, List.set_cons_succ]
  refine wpAnyH_take (i := 3) (oi := { dst := some 35, op := Go.Op.move (Go.Operand.tmp 8), type := 42, pos := "law.go:89", after := #[{ on := 2, ground := Go.Ground.guard }], guard := some (2, false) }) (v := ?_) rfl (by kernel_rfl) (by kernel_rfl) (by kernel_rfl) (fun _ _ _ h => h) (Or.inl ⟨by rfl, ?_⟩) hHeld ?_
  rotate_left 1
  · (intro wq hSq; (try dsimp only at hSq); go_simp; first | done | with_reducible rfl)
  try simp only [Act.put, List.setIfInBounds_toArray, List.set_cons_zero, List.set_cons_succ]
  refine wpAnyH_take (i := 4) (oi := { dst := some 36, op := Go.Op.binOp Go.BinOp.neq 42 (Go.Operand.tmp 35) (Go.Operand.const (Go.Value.int Go.IntKind.i64 0)) 42, type := 4, pos := "law.go:89", after := #[{ on := 3, ground := Go.Ground.data }, { on := 2, ground := Go.Ground.guard }], guard := some (2, false) }) (v := ?_) rfl (by kernel_rfl) (by kernel_rfl) (by kernel_rfl) (fun _ _ _ h => h) (Or.inl ⟨by rfl, ?_⟩) hHeld ?_
  rotate_left 1
  · (intro wq hSq; (try dsimp only at hSq); go_simp; first | done | with_reducible rfl)
  try simp only [Act.put, List.setIfInBounds_toArray, List.set_cons_zero, List.set_cons_succ]
  refine wpAnyH_take (i := 5) (oi := { dst := some 37, op := Go.Op.pick (Go.Operand.tmp 34) (Go.Operand.const (Go.Value.bool true)) (Go.Operand.tmp 36), type := 4, pos := "law.go:89", after := #[{ on := 2, ground := Go.Ground.data }, { on := 4, ground := Go.Ground.data }], guard := none }) (v := ?_) rfl (by kernel_rfl) (by kernel_rfl) (by kernel_rfl) (fun _ _ _ h => h) (Or.inl ⟨by rfl, ?_⟩) hHeld ?_
  rotate_left 1
  · (intro wq hSq; (try dsimp only at hSq); go_simp; first | done | with_reducible rfl)
  try simp only [Act.put, List.setIfInBounds_toArray, List.set_cons_zero, List.set_cons_succ]
  refine wpAnyH_take (i := 6) (oi := { dst := some 38, op := Go.Op.move (Go.Operand.tmp 37), type := 4, pos := "law.go:89", after := #[{ on := 5, ground := Go.Ground.data }, { on := 2, ground := Go.Ground.chain }], guard := none }) (v := ?_) rfl (by kernel_rfl) (by kernel_rfl) (by kernel_rfl) (fun _ _ _ h => h) (Or.inl ⟨by rfl, ?_⟩) hHeld ?_
  rotate_left 1
  · (intro wq hSq; (try dsimp only at hSq); go_simp; first | done | with_reducible rfl)
  try simp only [Act.put, List.setIfInBounds_toArray, List.set_cons_zero, List.set_cons_succ]
  refine wpAnyH_take (i := 7) (oi := { dst := some 39, op := Go.Op.move (Go.Operand.tmp 5), type := 22, pos := "law.go:89", after := #[{ on := 6, ground := Go.Ground.guard }], guard := some (6, false) }) (v := undef) rfl (by kernel_rfl) (by kernel_rfl) (by kernel_rfl) (fun _ _ _ h => h) (Or.inr ⟨by rfl, rfl⟩) hHeld ?_
  try simp only [Act.put, List.setIfInBounds_toArray, List.set_cons_zero, List.set_cons_succ]
  refine wpAnyH_take (i := 8) (oi := { dst := some 40, op := Go.Op.convert 22 9 (Go.Operand.tmp 39), type := 9, pos := "law.go:89", after := #[{ on := 7, ground := Go.Ground.data }, { on := 6, ground := Go.Ground.guard }], guard := some (6, false) }) (v := undef) rfl (by kernel_rfl) (by kernel_rfl) (by kernel_rfl) (fun _ _ _ h => h) (Or.inr ⟨by rfl, rfl⟩) hHeld ?_
  try simp only [Act.put, List.setIfInBounds_toArray, List.set_cons_zero, List.set_cons_succ]
  refine wpAnyH_take (i := 9) (oi := { dst := some 41, op := Go.Op.move (Go.Operand.tmp 7), type := 22, pos := "law.go:89", after := #[{ on := 6, ground := Go.Ground.guard }], guard := some (6, false) }) (v := undef) rfl (by kernel_rfl) (by kernel_rfl) (by kernel_rfl) (fun _ _ _ h => h) (Or.inr ⟨by rfl, rfl⟩) hHeld ?_
  try simp only [Act.put, List.setIfInBounds_toArray, List.set_cons_zero, List.set_cons_succ]
  refine wpAnyH_take (i := 10) (oi := { dst := some 42, op := Go.Op.convert 22 9 (Go.Operand.tmp 41), type := 9, pos := "law.go:89", after := #[{ on := 9, ground := Go.Ground.data }, { on := 6, ground := Go.Ground.guard }], guard := some (6, false) }) (v := undef) rfl (by kernel_rfl) (by kernel_rfl) (by kernel_rfl) (fun _ _ _ h => h) (Or.inr ⟨by rfl, rfl⟩) hHeld ?_
  try simp only [Act.put, List.setIfInBounds_toArray, List.set_cons_zero, List.set_cons_succ]
  refine wpAnyH_take (i := 11) (oi := { dst := some 43, op := Go.Op.binOp Go.BinOp.eql 9 (Go.Operand.tmp 40) (Go.Operand.tmp 42) 9, type := 4, pos := "law.go:89", after := #[{ on := 8, ground := Go.Ground.data }, { on := 10, ground := Go.Ground.data }, { on := 6, ground := Go.Ground.guard }], guard := some (6, false) }) (v := undef) rfl (by kernel_rfl) (by kernel_rfl) (by kernel_rfl) (fun _ _ _ h => h) (Or.inr ⟨by rfl, rfl⟩) hHeld ?_
  try simp only [Act.put, List.setIfInBounds_toArray, List.set_cons_zero, List.set_cons_succ]
  refine wpAnyH_take (i := 12) (oi := { dst := some 44, op := Go.Op.load 65 (Go.Operand.tmp 2), type := 65, pos := "law.go:89", after := #[{ on := 6, ground := Go.Ground.guard }], guard := some (6, false) }) (v := undef) rfl (by kernel_rfl) (by kernel_rfl) (by kernel_rfl) (fun _ _ _ h => h) (Or.inr ⟨by rfl, rfl⟩) hHeld ?_
  try simp only [Act.put, List.setIfInBounds_toArray, List.set_cons_zero, List.set_cons_succ]
  refine wpAnyH_take (i := 13) (oi := { dst := some 45, op := Go.Op.load 65 (Go.Operand.tmp 3), type := 65, pos := "law.go:89", after := #[{ on := 6, ground := Go.Ground.guard }], guard := some (6, false) }) (v := undef) rfl (by kernel_rfl) (by kernel_rfl) (by kernel_rfl) (fun _ _ _ h => h) (Or.inr ⟨by rfl, rfl⟩) hHeld ?_
  try simp only [Act.put, List.setIfInBounds_toArray, List.set_cons_zero, List.set_cons_succ]
  refine wpAnyH_take (i := 14) (oi := { dst := some 46, op := Go.Op.binOp Go.BinOp.eql 65 (Go.Operand.tmp 44) (Go.Operand.tmp 45) 65, type := 4, pos := "law.go:89", after := #[{ on := 12, ground := Go.Ground.data }, { on := 13, ground := Go.Ground.data }, { on := 6, ground := Go.Ground.guard }], guard := some (6, false) }) (v := undef) rfl (by kernel_rfl) (by kernel_rfl) (by kernel_rfl) (fun _ _ _ h => h) (Or.inr ⟨by rfl, rfl⟩) hHeld ?_
  try simp only [Act.put, List.setIfInBounds_toArray, List.set_cons_zero, List.set_cons_succ]
  refine wpAnyH_take (i := 15) (oi := { dst := some 47, op := Go.Op.binOp Go.BinOp.eql 4 (Go.Operand.tmp 43) (Go.Operand.tmp 46) 4, type := 4, pos := "law.go:89", after := #[{ on := 11, ground := Go.Ground.data }, { on := 14, ground := Go.Ground.data }, { on := 6, ground := Go.Ground.guard }], guard := some (6, false) }) (v := undef) rfl (by kernel_rfl) (by kernel_rfl) (by kernel_rfl) (fun _ _ _ h => h) (Or.inr ⟨by rfl, rfl⟩) hHeld ?_
  try simp only [Act.put, List.setIfInBounds_toArray, List.set_cons_zero, List.set_cons_succ]
  refine wpAnyH_take (i := 16) (oi := { dst := some 48, op := Go.Op.pick (Go.Operand.tmp 38) (Go.Operand.const (Go.Value.bool true)) (Go.Operand.tmp 47), type := 4, pos := "law.go:89", after := #[{ on := 6, ground := Go.Ground.data }, { on := 15, ground := Go.Ground.data }], guard := none }) (v := ?_) rfl (by kernel_rfl) (by kernel_rfl) (by kernel_rfl) (fun _ _ _ h => h) (Or.inl ⟨by rfl, ?_⟩) hHeld ?_
  rotate_left 1
  · (intro wq hSq; (try dsimp only at hSq); go_simp; first | done | with_reducible rfl)
  try simp only [Act.put, List.setIfInBounds_toArray, List.set_cons_zero, List.set_cons_succ]
  refine wpAnyH_take (i := 17) (oi := { dst := some 4, op := Go.Op.assign (Go.Operand.tmp 48), type := 4, pos := "law.go:89", after := #[{ on := 16, ground := Go.Ground.data }, { on := 6, ground := Go.Ground.chain }, { on := 0, ground := Go.Ground.phase }, { on := 1, ground := Go.Ground.phase }, { on := 2, ground := Go.Ground.phase }, { on := 3, ground := Go.Ground.phase }, { on := 4, ground := Go.Ground.phase }, { on := 5, ground := Go.Ground.phase }, { on := 6, ground := Go.Ground.phase }, { on := 7, ground := Go.Ground.phase }, { on := 8, ground := Go.Ground.phase }, { on := 9, ground := Go.Ground.phase }, { on := 10, ground := Go.Ground.phase }, { on := 11, ground := Go.Ground.phase }, { on := 12, ground := Go.Ground.phase }, { on := 13, ground := Go.Ground.phase }, { on := 14, ground := Go.Ground.phase }, { on := 15, ground := Go.Ground.phase }, { on := 16, ground := Go.Ground.phase }], guard := none }) (v := ?_) rfl (by kernel_rfl) (by kernel_rfl) (by kernel_rfl) (fun _ _ _ h => h) (Or.inl ⟨by rfl, ?_⟩) hHeld ?_
  rotate_left 1
  · (intro wq hSq; (try dsimp only at hSq); go_simp; first | done | with_reducible rfl)
  try simp only [Act.put, List.setIfInBounds_toArray, List.set_cons_zero, List.set_cons_succ]
  refine wpAnyH_done (by kernel_rfl) ?_ _
  refine NoPanic.normal ?_
  go_wp2
  go_ret
  exact ⟨rfl, BW.out _ (B7.out.trans (BD.out.mono B7.out.size))⟩
set_option maxHeartbeats 1000000 in
set_option maxRecDepth 100000 in
theorem apart5_e (a b : Msg) (ha : a.Ok) (hb : b.Ok) (fa : decide ((a.s.size : Int) ≤ 2000) = true) (fb : decide ((b.s.size : Int) ≤ 2000) = true) (ga : formB a = true) (gb : formB b = true) (w : World) (hL : Laid w) : Calls Tryd.prog 13 #[.agg (mC a).toArray, .agg (mC b).toArray] w fun e w' => e = .returned (.bool true) ∧ Below w.heap.size w w' := by
  have h2 := hL.two
  have k1 : Below w.heap.size w (w.alloc (.cells (mC a).toArray 65)) := (Below.refl _ _).alloc (Nat.le_refl _) _
  have k2 : Below w.heap.size w ((w.alloc (.cells (mC a).toArray 65)).alloc (.cells (mC b).toArray 65)) := k1.alloc k1.size _
  have x1 : BoxM 65 ((w.alloc (.cells (mC a).toArray 65)).alloc (.cells (mC b).toArray 65)) w.heap.size a := by unfold BoxM; rw [Below.heap_alloc _ _ _ (by simp)]; exact heap_alloc_new _ _
  have x2 : BoxM 65 ((w.alloc (.cells (mC a).toArray 65)).alloc (.cells (mC b).toArray 65)) (w.heap.size + 1) b := by
    unfold BoxM
    have := heap_alloc_new (w.alloc (.cells (mC a).toArray 65)) (.cells (mC b).toArray 65)
    rw [show (w.alloc (.cells (mC a).toArray 65)).heap.size = w.heap.size + 1 by simp] at this
    exact this
  obtain ⟨W2, hW2⟩ : ∃ W, W = (w.alloc (.cells (mC a).toArray 65)).alloc (.cells (mC b).toArray 65) := ⟨_, rfl⟩
  rw [← hW2] at k2 x1 x2
  have HW2 : Hid (W2 = (w.alloc (.cells (mC a).toArray 65)).alloc (.cells (mC b).toArray 65)) := hW2
  have BA : Hid (∀ W, Below W2.heap.size W2 W → BoxM 65 W w.heap.size a) := fun W q => x1.below q
  have BB : Hid (∀ W, Below W2.heap.size W2 W → BoxM 65 W (w.heap.size + 1) b) := fun W q => x2.below q
  have BW : Hid (∀ W, Below W2.heap.size W2 W → Below w.heap.size w W) := fun W q => k2.trans (q.mono k2.size)
  have AW : Hid (∀ W, Below W2.heap.size W2 W → Calls Tryd.prog 32 #[] W fun e w' => e = .returned (.bool true) ∧ Below W2.heap.size W2 w') := fun W q => (awake5_any W).mono fun e w' ⟨r1, r2⟩ => ⟨r1, q.trans (r2.mono q.size)⟩
  have HMA : Hid (a.Ok) := ha
  have HMB : Hid (b.Ok) := hb
  have FA : Hid (∀ W, Below W2.heap.size W2 W → Calls Tryd.prog 33 #[.agg (mC a).toArray] W fun e w' => e = .returned (.bool true) ∧ Below W2.heap.size W2 w') := fun W q => by
    have r := few5_any a ha W
    rw [fa] at r
    exact r.mono fun e w' ⟨r1, r2⟩ => ⟨r1, q.trans (r2.mono q.size)⟩
  have FB : Hid (∀ W, Below W2.heap.size W2 W → Calls Tryd.prog 33 #[.agg (mC b).toArray] W fun e w' => e = .returned (.bool true) ∧ Below W2.heap.size W2 w') := fun W q => by
    have r := few5_any b hb W
    rw [fb] at r
    exact r.mono fun e w' ⟨r1, r2⟩ => ⟨r1, q.trans (r2.mono q.size)⟩
  have EA : Hid (∀ W, Below W2.heap.size W2 W → Calls Tryd.prog 34 #[.agg (mC a).toArray] W fun e w' => ∃ av L cp, e = .returned (.tuple #[.slice av L cp, .int .i64 0]) ∧ PartAt w' (.slice av L cp) (encB a.kind (bodyB a)) ∧ Below W.heap.size W w' ∧ Below W2.heap.size W2 w') := fun W q => by
    refine (mencode_yes a ha ga W (hL.below (k2.trans (q.mono k2.size)) h2)).mono ?_
    rintro e w' ⟨u, r1, r2, r3⟩
    have r2' := r2
    obtain ⟨av, b', o', cp, rfl, _⟩ := r2'
    exact ⟨av, _, cp, r1, r2, r3, q.trans (r3.mono q.size)⟩
  have EB : Hid (∀ W, Below W2.heap.size W2 W → Calls Tryd.prog 34 #[.agg (mC b).toArray] W fun e w' => ∃ av L cp, e = .returned (.tuple #[.slice av L cp, .int .i64 0]) ∧ PartAt w' (.slice av L cp) (encB b.kind (bodyB b)) ∧ Below W.heap.size W w' ∧ Below W2.heap.size W2 w') := fun W q => by
    refine (mencode_yes b hb gb W (hL.below (k2.trans (q.mono k2.size)) h2)).mono ?_
    rintro e w' ⟨u, r1, r2, r3⟩
    have r2' := r2
    obtain ⟨av, b', o', cp, rfl, _⟩ := r2'
    exact ⟨av, _, cp, r1, r2, r3, q.trans (r3.mono q.size)⟩
  have HE : Hid (((strOfNums (encB a.kind (bodyB a))).toList == (strOfNums (encB b.kind (bodyB b))).toList) = eqM a b) := enc_eq a b ha hb ga gb
  have EQ : Hid (∀ W, (Op.equalIn 10000 65 (.agg (mC a).toArray) (.agg (mC b).toArray)).run Tryd.prog W = .ok (eqM a b) W) := fun W => eq65_any 9996 a b ha hb W
  generalize encB a.kind (bodyB a) = LA at *
  generalize encB b.kind (bodyB b) = LB at *
  generalize eqM a b = q at *
  clear fa fb ga gb
  have b0 : Below W2.heap.size W2 W2 := Below.refl _ _
  clear k1 k2 x1 x2 hW2 ha hb hL h2
  go_enter Tryd.func13, Tryd.ntmps13
  go_wp2_with fail
  rw [← HW2.out]
  refine (AW.out _ b0).mono ?_
  rintro e w3 ⟨rfl, b3⟩
  have B3 : Hid (Below W2.heap.size W2 w3) := b3
  clear b3 b0 HW2
  go_wp2_with (first | (refine loadM65g rfl _ rfl w.heap.size rfl a HMA.out (BA.out _ B3.out) ?_))
  refine (FA.out w3 B3.out).mono ?_
  rintro e w4 ⟨rfl, b4⟩
  have B4 : Hid (Below W2.heap.size W2 w4) := b4
  clear b4 FA
  go_wp2_with (first | (refine loadM65g rfl _ rfl (w.heap.size + 1) rfl b HMB.out (BB.out _ B4.out) ?_))
  refine (FB.out w4 B4.out).mono ?_
  rintro e w5 ⟨rfl, b5⟩
  have B5 : Hid (Below W2.heap.size W2 w5) := b5
  clear b5 FB
  go_wp2_with (first | (refine loadM65 rfl _ rfl w.heap.size rfl a HMA.out (BA.out _ B5.out) ?_))
  refine (EA.out w5 B5.out).mono ?_
  rintro e w6 ⟨av6, l6, c6, rfl, p6, _, b6⟩
  have P6 : Hid (PartAt w6 (.slice av6 l6 c6) (LA)) := p6
  have B6 : Hid (Below W2.heap.size W2 w6) := b6
  clear p6 b6 EA
  go_wp2_with (first | (refine loadM65 rfl _ rfl (w.heap.size + 1) rfl b HMB.out (BB.out _ B6.out) ?_))
  refine (EB.out w6 B6.out).mono ?_
  rintro e w7 ⟨av7, l7, c7, rfl, p7, b67, b7⟩
  have P6' : Hid (PartAt w7 (.slice av6 l6 c6) (LA)) := P6.out.below b67
  have P7 : Hid (PartAt w7 (.slice av7 l7 c7) (LB)) := p7
  have B7 : Hid (Below W2.heap.size W2 w7) := b7
  have BD : Hid (Below w7.heap.size w7 w7.drew) := (Below.refl _ _).drew
  clear p7 b67 b7 EB P6
  go_wp2_with fail
  refine wp_region_noPanic ?_
  refine wp_region_held_drew (S := fun w' => Below w7.heap.size w7 w') (by kernel_rfl) (BD.out) (fun hHeld => ?_)
  try simp only [Act.put, List.setIfInBounds_toArray, List.set_cons_zero, List.set_cons_succ]
  refine wpAnyH_take (i := 0) (oi := { dst := some 32, op := Go.Op.move (Go.Operand.tmp 6), type := 42, pos := "law.go:89", after := #[], guard := none }) (v := ?_) rfl (by kernel_rfl) (by kernel_rfl) (by kernel_rfl) (fun _ _ _ h => h) (Or.inl ⟨by rfl, ?_⟩) hHeld ?_
  rotate_left 1
  · (intro wq hSq; (try dsimp only at hSq); go_simp; first | done | with_reducible rfl)
  try simp only [Act.put, List.setIfInBounds_toArray, List.set_cons_zero, List.set_cons_succ]
  refine wpAnyH_take (i := 1) (oi := { dst := some 33, op := Go.Op.binOp Go.BinOp.neq 42 (Go.Operand.tmp 32) (Go.Operand.const (Go.Value.int Go.IntKind.i64 0)) 42, type := 4, pos := "law.go:89", after := #[{ on := 0, ground := Go.Ground.data }], guard := none }) (v := ?_) rfl (by kernel_rfl) (by kernel_rfl) (by kernel_rfl) (fun _ _ _ h => h) (Or.inl ⟨by rfl, ?_⟩) hHeld ?_
  rotate_left 1
  · (intro wq hSq; (try dsimp only at hSq); go_simp; first | done | with_reducible rfl)
  try simp only [Act.put, List.setIfInBounds_toArray, List.set_cons_zero, List.set_cons_succ]
  refine wpAnyH_take (i := 2) (oi := { dst := some 34, op := Go.Op.move (Go.Operand.tmp 33), type := 4, pos := "law.go:89", after := #[{ on := 1, ground := Go.Ground.data }], guard := none }) (v := ?_) rfl (by kernel_rfl) (by kernel_rfl) (by kernel_rfl) (fun _ _ _ h => h) (Or.inl ⟨by rfl, ?_⟩) hHeld ?_
  rotate_left 1
  · (intro wq hSq; (try dsimp only at hSq); go_simp; first | done | with_reducible rfl)
  try simp only [Act.put, List.setIfInBounds_toArray, List.set_cons_zero, List.set_cons_succ]
  refine wpAnyH_take (i := 3) (oi := { dst := some 35, op := Go.Op.move (Go.Operand.tmp 8), type := 42, pos := "law.go:89", after := #[{ on := 2, ground := Go.Ground.guard }], guard := some (2, false) }) (v := ?_) rfl (by kernel_rfl) (by kernel_rfl) (by kernel_rfl) (fun _ _ _ h => h) (Or.inl ⟨by rfl, ?_⟩) hHeld ?_
  rotate_left 1
  · (intro wq hSq; (try dsimp only at hSq); go_simp; first | done | with_reducible rfl)
  try simp only [Act.put, List.setIfInBounds_toArray, List.set_cons_zero, List.set_cons_succ]
  refine wpAnyH_take (i := 4) (oi := { dst := some 36, op := Go.Op.binOp Go.BinOp.neq 42 (Go.Operand.tmp 35) (Go.Operand.const (Go.Value.int Go.IntKind.i64 0)) 42, type := 4, pos := "law.go:89", after := #[{ on := 3, ground := Go.Ground.data }, { on := 2, ground := Go.Ground.guard }], guard := some (2, false) }) (v := ?_) rfl (by kernel_rfl) (by kernel_rfl) (by kernel_rfl) (fun _ _ _ h => h) (Or.inl ⟨by rfl, ?_⟩) hHeld ?_
  rotate_left 1
  · (intro wq hSq; (try dsimp only at hSq); go_simp; first | done | with_reducible rfl)
  try simp only [Act.put, List.setIfInBounds_toArray, List.set_cons_zero, List.set_cons_succ]
  refine wpAnyH_take (i := 5) (oi := { dst := some 37, op := Go.Op.pick (Go.Operand.tmp 34) (Go.Operand.const (Go.Value.bool true)) (Go.Operand.tmp 36), type := 4, pos := "law.go:89", after := #[{ on := 2, ground := Go.Ground.data }, { on := 4, ground := Go.Ground.data }], guard := none }) (v := ?_) rfl (by kernel_rfl) (by kernel_rfl) (by kernel_rfl) (fun _ _ _ h => h) (Or.inl ⟨by rfl, ?_⟩) hHeld ?_
  rotate_left 1
  · (intro wq hSq; (try dsimp only at hSq); go_simp; first | done | with_reducible rfl)
  try simp only [Act.put, List.setIfInBounds_toArray, List.set_cons_zero, List.set_cons_succ]
  refine wpAnyH_take (i := 6) (oi := { dst := some 38, op := Go.Op.move (Go.Operand.tmp 37), type := 4, pos := "law.go:89", after := #[{ on := 5, ground := Go.Ground.data }, { on := 2, ground := Go.Ground.chain }], guard := none }) (v := ?_) rfl (by kernel_rfl) (by kernel_rfl) (by kernel_rfl) (fun _ _ _ h => h) (Or.inl ⟨by rfl, ?_⟩) hHeld ?_
  rotate_left 1
  · (intro wq hSq; (try dsimp only at hSq); go_simp; first | done | with_reducible rfl)
  try simp only [Act.put, List.setIfInBounds_toArray, List.set_cons_zero, List.set_cons_succ]
  refine wpAnyH_take (i := 7) (oi := { dst := some 39, op := Go.Op.move (Go.Operand.tmp 5), type := 22, pos := "law.go:89", after := #[{ on := 6, ground := Go.Ground.guard }], guard := some (6, false) }) (v := ?_) rfl (by kernel_rfl) (by kernel_rfl) (by kernel_rfl) (fun _ _ _ h => h) (Or.inl ⟨by rfl, ?_⟩) hHeld ?_
  rotate_left 1
  · (intro wq hSq; (try dsimp only at hSq); go_simp; first | done | with_reducible rfl)
  try simp only [Act.put, List.setIfInBounds_toArray, List.set_cons_zero, List.set_cons_succ]
  refine wpAnyH_take (i := 8) (oi := { dst := some 40, op := Go.Op.convert 22 9 (Go.Operand.tmp 39), type := 9, pos := "law.go:89", after := #[{ on := 7, ground := Go.Ground.data }, { on := 6, ground := Go.Ground.guard }], guard := some (6, false) }) (v := ?_) rfl (by kernel_rfl) (by kernel_rfl) (by kernel_rfl) (fun _ _ _ h => h) (Or.inl ⟨by rfl, ?_⟩) hHeld ?_
  rotate_left 1
  · (intro wq hSq; (try dsimp only at hSq); have hq := run_conv (P6'.out.below hSq); go_simp; first | done | with_reducible rfl)
  try simp only [Act.put, List.setIfInBounds_toArray, List.set_cons_zero, List.set_cons_succ]
  refine wpAnyH_take (i := 9) (oi := { dst := some 41, op := Go.Op.move (Go.Operand.tmp 7), type := 22, pos := "law.go:89", after := #[{ on := 6, ground := Go.Ground.guard }], guard := some (6, false) }) (v := ?_) rfl (by kernel_rfl) (by kernel_rfl) (by kernel_rfl) (fun _ _ _ h => h) (Or.inl ⟨by rfl, ?_⟩) hHeld ?_
  rotate_left 1
  · (intro wq hSq; (try dsimp only at hSq); go_simp; first | done | with_reducible rfl)
  try simp only [Act.put, List.setIfInBounds_toArray, List.set_cons_zero, List.set_cons_succ]
  refine wpAnyH_take (i := 10) (oi := { dst := some 42, op := Go.Op.convert 22 9 (Go.Operand.tmp 41), type := 9, pos := "law.go:89", after := #[{ on := 9, ground := Go.Ground.data }, { on := 6, ground := Go.Ground.guard }], guard := some (6, false) }) (v := ?_) rfl (by kernel_rfl) (by kernel_rfl) (by kernel_rfl) (fun _ _ _ h => h) (Or.inl ⟨by rfl, ?_⟩) hHeld ?_
  rotate_left 1
  · (intro wq hSq; (try dsimp only at hSq); have hq := run_conv (P7.out.below hSq); go_simp; first | done | with_reducible rfl)
  try simp only [Act.put, List.setIfInBounds_toArray, List.set_cons_zero, List.set_cons_succ]
  refine wpAnyH_take (i := 11) (oi := { dst := some 43, op := Go.Op.binOp Go.BinOp.eql 9 (Go.Operand.tmp 40) (Go.Operand.tmp 42) 9, type := 4, pos := "law.go:89", after := #[{ on := 8, ground := Go.Ground.data }, { on := 10, ground := Go.Ground.data }, { on := 6, ground := Go.Ground.guard }], guard := some (6, false) }) (v := (.bool q)) rfl (by kernel_rfl) (by kernel_rfl) (by kernel_rfl) (fun _ _ _ h => h) (Or.inl ⟨by rfl, ?_⟩) hHeld ?_
  · (intro wq hSq; have hq := HE.out; go_simp; first | done | (simp only [hq]; done) | (simp [hq]; done))
  try simp only [Act.put, List.setIfInBounds_toArray, List.set_cons_zero, List.set_cons_succ]
  refine wpAnyH_take (i := 12) (oi := { dst := some 44, op := Go.Op.load 65 (Go.Operand.tmp 2), type := 65, pos := "law.go:89", after := #[{ on := 6, ground := Go.Ground.guard }], guard := some (6, false) }) (v := .agg (List.toArray (mC a))) rfl (by kernel_rfl) (by kernel_rfl) (by kernel_rfl) (fun _ _ _ h => h) (yieldsIf_load_mid rfl 65 _ rfl w.heap.size 0 rfl (mC a) _ (fun wq hSq => box_range (BA.out wq (B7.out.trans (hSq.mono B7.out.size)))) Tryd.underlying65 rfl (by rw [size65, mC_length a HMA.out])) hHeld ?_
  try simp only [Act.put, List.setIfInBounds_toArray, List.set_cons_zero, List.set_cons_succ]
  refine wpAnyH_take (i := 13) (oi := { dst := some 45, op := Go.Op.load 65 (Go.Operand.tmp 3), type := 65, pos := "law.go:89", after := #[{ on := 6, ground := Go.Ground.guard }], guard := some (6, false) }) (v := .agg (List.toArray (mC b))) rfl (by kernel_rfl) (by kernel_rfl) (by kernel_rfl) (fun _ _ _ h => h) (yieldsIf_load_mid rfl 65 _ rfl (w.heap.size + 1) 0 rfl (mC b) _ (fun wq hSq => box_range (BB.out wq (B7.out.trans (hSq.mono B7.out.size)))) Tryd.underlying65 rfl (by rw [size65, mC_length b HMB.out])) hHeld ?_
  try simp only [Act.put, List.setIfInBounds_toArray, List.set_cons_zero, List.set_cons_succ]
  refine wpAnyH_take (i := 14) (oi := { dst := some 46, op := Go.Op.binOp Go.BinOp.eql 65 (Go.Operand.tmp 44) (Go.Operand.tmp 45) 65, type := 4, pos := "law.go:89", after := #[{ on := 12, ground := Go.Ground.data }, { on := 13, ground := Go.Ground.data }, { on := 6, ground := Go.Ground.guard }], guard := some (6, false) }) (v := (.bool q)) rfl (by kernel_rfl) (by kernel_rfl) (by kernel_rfl) (fun _ _ _ h => h) (Or.inl ⟨by rfl, ?_⟩) hHeld ?_
  · (intro wq hSq; exact run_eql 65 guard65 _ _ _ _ _ rfl _ _ rfl rfl _ wq (EQ.out wq))
  try simp only [Act.put, List.setIfInBounds_toArray, List.set_cons_zero, List.set_cons_succ]
  refine wpAnyH_take (i := 15) (oi := { dst := some 47, op := Go.Op.binOp Go.BinOp.eql 4 (Go.Operand.tmp 43) (Go.Operand.tmp 46) 4, type := 4, pos := "law.go:89", after := #[{ on := 11, ground := Go.Ground.data }, { on := 14, ground := Go.Ground.data }, { on := 6, ground := Go.Ground.guard }], guard := some (6, false) }) (v := (.bool true)) rfl (by kernel_rfl) (by kernel_rfl) (by kernel_rfl) (fun _ _ _ h => h) (Or.inl ⟨by rfl, ?_⟩) hHeld ?_
  · (intro wq hSq; go_simp; first | done | (simp; done))
  try simp only [Act.put, List.setIfInBounds_toArray, List.set_cons_zero, List.set_cons_succ]
  refine wpAnyH_take (i := 16) (oi := { dst := some 48, op := Go.Op.pick (Go.Operand.tmp 38) (Go.Operand.const (Go.Value.bool true)) (Go.Operand.tmp 47), type := 4, pos := "law.go:89", after := #[{ on := 6, ground := Go.Ground.data }, { on := 15, ground := Go.Ground.data }], guard := none }) (v := ?_) rfl (by kernel_rfl) (by kernel_rfl) (by kernel_rfl) (fun _ _ _ h => h) (Or.inl ⟨by rfl, ?_⟩) hHeld ?_
  rotate_left 1
  · (intro wq hSq; (try dsimp only at hSq); go_simp; first | done | with_reducible rfl)
  try simp only [Act.put, List.setIfInBounds_toArray, List.set_cons_zero, List.set_cons_succ]
  refine wpAnyH_take (i := 17) (oi := { dst := some 4, op := Go.Op.assign (Go.Operand.tmp 48), type := 4, pos := "law.go:89", after := #[{ on := 16, ground := Go.Ground.data }, { on := 6, ground := Go.Ground.chain }, { on := 0, ground := Go.Ground.phase }, { on := 1, ground := Go.Ground.phase }, { on := 2, ground := Go.Ground.phase }, { on := 3, ground := Go.Ground.phase }, { on := 4, ground := Go.Ground.phase }, { on := 5, ground := Go.Ground.phase }, { on := 6, ground := Go.Ground.phase }, { on := 7, ground := Go.Ground.phase }, { on := 8, ground := Go.Ground.phase }, { on := 9, ground := Go.Ground.phase }, { on := 10, ground := Go.Ground.phase }, { on := 11, ground := Go.Ground.phase }, { on := 12, ground := Go.Ground.phase }, { on := 13, ground := Go.Ground.phase }, { on := 14, ground := Go.Ground.phase }, { on := 15, ground := Go.Ground.phase }, { on := 16, ground := Go.Ground.phase }], guard := none }) (v := ?_) rfl (by kernel_rfl) (by kernel_rfl) (by kernel_rfl) (fun _ _ _ h => h) (Or.inl ⟨by rfl, ?_⟩) hHeld ?_
  rotate_left 1
  · (intro wq hSq; (try dsimp only at hSq); go_simp; first | done | with_reducible rfl)
  try simp only [Act.put, List.setIfInBounds_toArray, List.set_cons_zero, List.set_cons_succ]
  refine wpAnyH_done (by kernel_rfl) ?_ _
  refine NoPanic.normal ?_
  go_wp2
  go_ret
  exact ⟨rfl, BW.out _ (B7.out.trans (BD.out.mono B7.out.size))⟩
theorem messageApart_walk (a b : Msg) (ha : a.Ok) (hb : b.Ok) (w : World) (hL : Laid w) : Calls Tryd.prog 13 #[.agg (mC a).toArray, .agg (mC b).toArray] w fun e w' => e = .returned (.bool true) ∧ Below w.heap.size w w' := by
  cases fa : decide ((a.s.size : Int) ≤ 2000) with
  | false => exact apart5_a a b ha hb fa w hL
  | true =>
  cases fb : decide ((b.s.size : Int) ≤ 2000) with
  | false => exact apart5_b a b ha hb fa fb w hL
  | true =>
  cases ga : formB a with
  | false =>
    cases gb : formB b with
    | false => exact apart5_c0 a b ha hb fa fb ga gb w hL
    | true => exact apart5_c1 a b ha hb fa fb ga gb w hL
  | true =>
    cases gb : formB b with
    | false => exact apart5_d a b ha hb fa fb ga gb w hL
    | true => exact apart5_e a b ha hb fa fb ga gb w hL
end Go.Proofs.YtjhnnblilfddpaaDoor
