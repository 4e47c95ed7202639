import Derived.Test.YtnpjknnalekdpaaBb
namespace Go.Proofs.Ytnpjknnalekdpaa
set_option linter.unusedSimpArgs false
set_option linter.unusedVariables false
open Go.RowKit
/-- What the reference's Encode has in hand between. -/
def PhiE (t : Int) (b : List Int) (x : Value) (n0 : Nat) (d : Nat) (v : Value) (w : World) : Prop :=
  match d with
  | 13 => ∃ g, v = .slice (some ⟨g, 0, none⟩) 3 3 ∧ n0 ≤ g ∧ g < w.heap.size ∧ w.shape? g = some (5, 3) ∧ PartAt w v [114, 100, 1]
  | 14 => ∃ g, v = .slice (some ⟨g, 0, none⟩) 3 3 ∧ PartAt w v [114, 100, 1]
  | 17 => ∃ g, v = .slice (some ⟨g, 0, none⟩) 1 1 ∧ PartAt w v [t]
  | 22 => ∃ g, v = .slice (some ⟨g, 0, none⟩) 2 2 ∧ PartAt w v (numB b.length 2)
  | 27 => ∃ av cp, v = .slice av 4 cp ∧ PartAt w v (sum4 t b)
  | 30 => ∃ g x1 x2 x3 x4, v = .slice (some ⟨g, 0, none⟩) 5 5 ∧ g < w.heap.size ∧ w.rangeAt g 0 [x1, x2, x3, x4, x] ∧ PartAt w x1 [114, 100, 1] ∧ PartAt w x2 [t] ∧ PartAt w x3 (numB b.length 2) ∧ PartAt w x4 (sum4 t b)
  | _ => True
theorem phiE_keep (t : Int) (b : List Int) (x : Value) (n0 n d : Nat) (v : Value) (w w' : World) (h : PhiE t b x n0 d v w) (k : Keep n w w') : PhiE t b x n0 d v w' := by
  unfold PhiE at h ⊢
  split
  · obtain ⟨g, h1, h2, h3, h4, h5⟩ := h
    exact ⟨g, h1, h2, Nat.lt_of_lt_of_le h3 k.below.size, by rw [k.shape g h3]; exact h4, h5.keep k⟩
  · obtain ⟨g, h1, h2⟩ := h; exact ⟨g, h1, h2.keep k⟩
  · obtain ⟨g, h1, h2⟩ := h; exact ⟨g, h1, h2.keep k⟩
  · obtain ⟨g, h1, h2⟩ := h; exact ⟨g, h1, h2.keep k⟩
  · obtain ⟨g, c, h1, h2⟩ := h; exact ⟨g, c, h1, h2.keep k⟩
  · obtain ⟨g, x1, x2, x3, x4, h1, h2, h3, h4, h5, h6, h7⟩ := h
    exact ⟨g, x1, x2, x3, x4, h1, Nat.lt_of_lt_of_le h2 k.below.size, k.range h2 h3, h4.keep k, h5.keep k, h6.keep k, h7.keep k⟩
  · trivial
theorem OwnB.lower {w : World} {base base' : Nat} {v : Value} {l : List Int} (h : OwnB w base v l) (hb : base' ≤ base) : OwnB w base' v l := by
  obtain ⟨h1, h2⟩ := h
  refine ⟨h1, ?_⟩
  rcases h2 with h2 | ⟨g, cap, cur, hv, hg, r⟩
  · exact .inl h2
  · exact .inr ⟨g, cap, cur, hv, Nat.le_trans hb hg, r⟩
set_option maxHeartbeats 1000000 in
set_option maxRecDepth 100000 in
theorem rencode_own (t : Int) (ht : 0 < t ∧ t ≤ 255) (av : Option Addr) (n cp : Nat) (b : List Int) (hbn : b.length = n) (hn : n ≤ 1000) (hb : Bytes b) (w : World) (h0 : 0 < w.heap.size) (hp : PartAt w (.slice av n cp) b) : Calls Try.prog 14 #[.agg #[.int .u8 t, .slice av n cp]] w fun e w' => ∃ u, e = .returned (.tuple #[u, .int .i64 0]) ∧ OwnB w' w.heap.size u (encB t b) ∧ Below w.heap.size w w' := by
  have hg := heap_alloc_new w (.cells #[.int .u8 t, .slice av n cp] 40)
  have c0 := row_cell (j := 0) hg rfl
  have c1 := row_cell (j := 1) hg rfl
  have b1 : Below w.heap.size w (w.alloc (.cells #[.int .u8 t, .slice av n cp] 40)) := (Below.refl _ _).alloc (Nat.le_refl _) _
  have p1 : PartAt (w.alloc (.cells #[.int .u8 t, .slice av n cp] 40)) (.slice av n cp) b := hp.below b1
  obtain ⟨W1, hW1⟩ : ∃ W, W = w.alloc (.cells #[.int .u8 t, .slice av n cp] 40) := ⟨_, rfl⟩
  have hz1 : w.heap.size + 1 = W1.heap.size := by rw [hW1]; simp
  have LC0 : Hid (∀ W, Below W1.heap.size W1 W → W.cell? ⟨w.heap.size, 0, none⟩ = some (.int .u8 t)) := fun W q => by rw [q.cell (show w.heap.size < W1.heap.size by omega), hW1]; exact c0
  have LC1 : Hid (∀ W, Below W1.heap.size W1 W → W.cell? ⟨w.heap.size, 1, none⟩ = some (.slice av n cp)) := fun W q => by rw [q.cell (show w.heap.size < W1.heap.size by omega), hW1]; exact c1
  have BD : Hid (Below W1.heap.size W1 W1.drew) := (Below.refl _ _).drew
  have P1 : Hid (PartAt W1 (.slice av n cp) b) := by rw [hW1]; exact p1
  have B1 : Hid (Below w.heap.size w W1) := by rw [hW1]; exact b1
  have NU : Hid (∀ W, Calls Try.prog 29 #[.int .u64 n, .int .i64 2] W fun e w' => ∃ g, e = .returned (.slice (some ⟨g, 0, none⟩) 2 2) ∧ PartAt w' (.slice (some ⟨g, 0, none⟩) 2 2) (numB b.length 2) ∧ Below W.heap.size W w') := fun W => by
    rw [← hbn]
    exact (rnumk_any b.length (by omega) (by omega) 2 (by omega) (by omega) _).mono fun e w' ⟨g, r1, r2, r3, r4⟩ => ⟨g, r1, partRow r3 2 (numB_length _ _) (by omega), r4⟩
  have SM : Hid (∀ W, PartAt W (.slice av n cp) b → Calls Try.prog 32 #[.int .u8 t, .slice av n cp] W fun e w' => ∃ av4 cp4, e = .returned (.slice av4 4 cp4) ∧ PartAt w' (.slice av4 4 cp4) (sum4 t b) ∧ Below W.heap.size W w') := fun W q =>
    (rsum4_any t (by omega) _ b W q hb (by omega)).mono fun e w' ⟨u, r1, r2, r3⟩ => by
      have r2' := r2
      obtain ⟨a4, b4, o4, c4, hu, _⟩ := r2'
      rw [sum4_length] at hu
      subst hu
      exact ⟨a4, c4, r1, r2, r3⟩
  have JN : Hid (∀ (W : World) (g : Nat) (x1 x2 x3 x4 : Value), g < W.heap.size → W.rangeAt g 0 [x1, x2, x3, x4, .slice av n cp] → PartAt W x1 [114, 100, 1] → PartAt W x2 [t] → PartAt W x3 (numB b.length 2) → PartAt W x4 (sum4 t b) → PartAt W (.slice av n cp) b → Calls Try.prog 28 #[.slice (some ⟨g, 0, none⟩) 5 5] W fun e w' => ∃ u, e = .returned u ∧ OwnB w' W.heap.size u (encB t b) ∧ Below W.heap.size W w') := fun W g x1 x2 x3 x4 hg hr q1 q2 q3 q4 q5 => by
    refine (join_any g 0 5 5 [x1, x2, x3, x4, .slice av n cp] [[114, 100, 1], [t], numB b.length 2, sum4 t b, b] rfl rfl W (by omega) hr hg (parts_cons q1 (parts_cons q2 (parts_cons q3 (parts_cons q4 (parts_cons q5 parts_nil))))) (by simp [numB_length, sum4_length]; omega) (by omega)).mono ?_
    rintro e w5 ⟨u, rfl, o5, b5⟩
    refine ⟨u, rfl, ?_, b5⟩
    have e : encB t b = [[114, 100, 1], [t], numB b.length 2, sum4 t b, b].flatten := by simp [encB]
    rw [e]; exact o5
  have hw2 : IntKind.u64.wrap (n : Int) = (n : Int) := by rw [show IntKind.u64.wrap (n : Int) = (n : Int) % 18446744073709551616 from rfl]; omega
  have hw3 : (n : Int) % 18446744073709551616 = (n : Int) := by omega
  have hz : (t == 0) = false := by simp; omega
  have h1000 : ¬ (1000 : Int) < (n : Int) := by omega
  have HZ1 : Hid (w.heap.size + 1 = W1.heap.size) := hz1
  have HW1 : Hid (W1 = w.alloc (.cells #[.int .u8 t, .slice av n cp] 40)) := hW1
  clear hg b1 p1 hp hb hbn hz1 hW1
  go_enter Try.func14, Try.ntmps14
  go_wp2_with fail
  rw [← HW1.out]
  clear c0 c1
  refine wp_region_noPanic ?_
  refine wp_region_held_drew (S := fun w' => Below W1.heap.size W1 w') (by kernel_rfl) (BD.out) (fun hHeld => ?_)
  try simp only [Act.put, List.setIfInBounds_toArray, List.set_cons_zero, List.set_cons_succ]
  refine wpAnyH_take (i := 2) (oi := { dst := some 15, op := Go.Op.fieldAddr 40 (Go.Operand.tmp 1) 0, type := 0, pos := "ref.go:210", after := #[], guard := none }) (v := ?_) rfl (by kernel_rfl) (by kernel_rfl) (by kernel_rfl) (fun _ _ _ h => h) (Or.inl ⟨by rfl, ?_⟩) hHeld ?_
  rotate_left 1
  · (intro wq hSq; (try dsimp only at hSq); go_simp; first | done | with_reducible rfl)
  try simp only [Act.put, List.setIfInBounds_toArray, List.set_cons_zero, List.set_cons_succ]
  refine wpAnyH_take (i := 3) (oi := { dst := some 16, op := Go.Op.load 5 (Go.Operand.tmp 15), type := 5, pos := "ref.go:210", after := #[{ on := 2, ground := Go.Ground.data }], guard := none }) (v := ?_) rfl (by kernel_rfl) (by kernel_rfl) (by kernel_rfl) (fun _ _ _ h => h) (Or.inl ⟨by rfl, ?_⟩) hHeld ?_
  rotate_left 1
  · (intro wq hSq; (try dsimp only at hSq); have hq := LC0.out _ hSq; go_simp; first | done | with_reducible rfl)
  try simp only [Act.put, List.setIfInBounds_toArray, List.set_cons_zero, List.set_cons_succ]
  refine wpAnyH_take (i := 5) (oi := { dst := some 18, op := Go.Op.fieldAddr 40 (Go.Operand.tmp 1) 1, type := 0, pos := "ref.go:210", after := #[], guard := none }) (v := ?_) rfl (by kernel_rfl) (by kernel_rfl) (by kernel_rfl) (fun _ _ _ h => h) (Or.inl ⟨by rfl, ?_⟩) hHeld ?_
  rotate_left 1
  · (intro wq hSq; (try dsimp only at hSq); go_simp; first | done | with_reducible rfl)
  try simp only [Act.put, List.setIfInBounds_toArray, List.set_cons_zero, List.set_cons_succ]
  refine wpAnyH_take (i := 6) (oi := { dst := some 19, op := Go.Op.load 22 (Go.Operand.tmp 18), type := 22, pos := "ref.go:210", after := #[{ on := 5, ground := Go.Ground.data }], guard := none }) (v := ?_) rfl (by kernel_rfl) (by kernel_rfl) (by kernel_rfl) (fun _ _ _ h => h) (Or.inl ⟨by rfl, ?_⟩) hHeld ?_
  rotate_left 1
  · (intro wq hSq; (try dsimp only at hSq); have hq := LC1.out _ hSq; go_simp; first | done | with_reducible rfl)
  try simp only [Act.put, List.setIfInBounds_toArray, List.set_cons_zero, List.set_cons_succ]
  refine wpAnyH_take (i := 7) (oi := { dst := some 20, op := Go.Op.call { callee := Go.Callee.builtin Go.Builtin.len, args := #[Go.Operand.tmp 19], argTypes := #[22] }, type := 3, pos := "ref.go:210", after := #[{ on := 6, ground := Go.Ground.data }], guard := none }) (v := ?_) rfl (by kernel_rfl) (by kernel_rfl) (by kernel_rfl) (fun _ _ _ h => h) (Or.inl ⟨by rfl, ?_⟩) hHeld ?_
  rotate_left 1
  · (intro wq hSq; (try dsimp only at hSq); go_simp; first | done | with_reducible rfl)
  try simp only [Act.put, List.setIfInBounds_toArray, List.set_cons_zero, List.set_cons_succ]
  refine wpAnyH_take (i := 8) (oi := { dst := some 21, op := Go.Op.convert 3 24 (Go.Operand.tmp 20), type := 24, pos := "ref.go:210", after := #[{ on := 7, ground := Go.Ground.data }], guard := none }) (v := ?_) rfl (by kernel_rfl) (by kernel_rfl) (by kernel_rfl) (fun _ _ _ h => h) (Or.inl ⟨by rfl, ?_⟩) hHeld ?_
  rotate_left 1
  · (intro wq hSq; (try dsimp only at hSq); go_simp; first | done | with_reducible rfl)
  try simp only [Act.put, List.setIfInBounds_toArray, List.set_cons_zero, List.set_cons_succ]
  refine wpAnyH_take (i := 10) (oi := { dst := some 23, op := Go.Op.fieldAddr 40 (Go.Operand.tmp 1) 0, type := 0, pos := "ref.go:210", after := #[], guard := none }) (v := ?_) rfl (by kernel_rfl) (by kernel_rfl) (by kernel_rfl) (fun _ _ _ h => h) (Or.inl ⟨by rfl, ?_⟩) hHeld ?_
  rotate_left 1
  · (intro wq hSq; (try dsimp only at hSq); go_simp; first | done | with_reducible rfl)
  try simp only [Act.put, List.setIfInBounds_toArray, List.set_cons_zero, List.set_cons_succ]
  refine wpAnyH_take (i := 11) (oi := { dst := some 24, op := Go.Op.load 5 (Go.Operand.tmp 23), type := 5, pos := "ref.go:210", after := #[{ on := 10, ground := Go.Ground.data }], guard := none }) (v := ?_) rfl (by kernel_rfl) (by kernel_rfl) (by kernel_rfl) (fun _ _ _ h => h) (Or.inl ⟨by rfl, ?_⟩) hHeld ?_
  rotate_left 1
  · (intro wq hSq; (try dsimp only at hSq); have hq := LC0.out _ hSq; go_simp; first | done | with_reducible rfl)
  try simp only [Act.put, List.setIfInBounds_toArray, List.set_cons_zero, List.set_cons_succ]
  refine wpAnyH_take (i := 12) (oi := { dst := some 25, op := Go.Op.fieldAddr 40 (Go.Operand.tmp 1) 1, type := 0, pos := "ref.go:210", after := #[], guard := none }) (v := ?_) rfl (by kernel_rfl) (by kernel_rfl) (by kernel_rfl) (fun _ _ _ h => h) (Or.inl ⟨by rfl, ?_⟩) hHeld ?_
  rotate_left 1
  · (intro wq hSq; (try dsimp only at hSq); go_simp; first | done | with_reducible rfl)
  try simp only [Act.put, List.setIfInBounds_toArray, List.set_cons_zero, List.set_cons_succ]
  refine wpAnyH_take (i := 13) (oi := { dst := some 26, op := Go.Op.load 22 (Go.Operand.tmp 25), type := 22, pos := "ref.go:210", after := #[{ on := 12, ground := Go.Ground.data }], guard := none }) (v := ?_) rfl (by kernel_rfl) (by kernel_rfl) (by kernel_rfl) (fun _ _ _ h => h) (Or.inl ⟨by rfl, ?_⟩) hHeld ?_
  rotate_left 1
  · (intro wq hSq; (try dsimp only at hSq); have hq := LC1.out _ hSq; go_simp; first | done | with_reducible rfl)
  try simp only [Act.put, List.setIfInBounds_toArray, List.set_cons_zero, List.set_cons_succ]
  refine wpAnyH_take (i := 15) (oi := { dst := some 28, op := Go.Op.fieldAddr 40 (Go.Operand.tmp 1) 1, type := 0, pos := "ref.go:210", after := #[], guard := none }) (v := ?_) rfl (by kernel_rfl) (by kernel_rfl) (by kernel_rfl) (fun _ _ _ h => h) (Or.inl ⟨by rfl, ?_⟩) hHeld ?_
  rotate_left 1
  · (intro wq hSq; (try dsimp only at hSq); go_simp; first | done | with_reducible rfl)
  try simp only [Act.put, List.setIfInBounds_toArray, List.set_cons_zero, List.set_cons_succ]
  refine wpAnyH_take (i := 16) (oi := { dst := some 29, op := Go.Op.load 22 (Go.Operand.tmp 28), type := 22, pos := "ref.go:210", after := #[{ on := 15, ground := Go.Ground.data }], guard := none }) (v := ?_) rfl (by kernel_rfl) (by kernel_rfl) (by kernel_rfl) (fun _ _ _ h => h) (Or.inl ⟨by rfl, ?_⟩) hHeld ?_
  rotate_left 1
  · (intro wq hSq; (try dsimp only at hSq); have hq := LC1.out _ hSq; go_simp; first | done | with_reducible rfl)
  try simp only [Act.put, List.setIfInBounds_toArray, List.set_cons_zero, List.set_cons_succ]
  refine wpAnyH_batch (B := [(0, 13, []), (1, 14, [13]), (4, 17, []), (9, 22, []), (14, 27, []), (17, 30, [14, 17, 22, 27])]) (R := Keep W1.heap.size) (Φ := PhiE t b (.slice av n cp) W1.heap.size) 3 (by kernel_rfl) (fun _ _ _ _ h => h) (Keep.refl _ _) (fun _ _ h1 h2 => h1.trans h2) (fun _ _ _ _ _ h k => phiE_keep _ _ _ _ _ _ _ _ _ h k) (fun _ h => BD.out.trans h.below) ⟨StepB.mk ({ dst := some 13, op := Go.Op.buildSlice 22 3 #[(0, Go.Operand.const (Go.Value.int Go.IntKind.u8 114)), (1, Go.Operand.const (Go.Value.int Go.IntKind.u8 100)), (2, Go.Operand.const (Go.Value.int Go.IntKind.u8 1))], type := 22, pos := "ref.go:210", after := #[], guard := none } : Oper) rfl ?_, StepB.mk ({ dst := some 14, op := Go.Op.convert 22 22 (Go.Operand.tmp 13), type := 22, pos := "ref.go:210", after := #[{ on := 0, ground := Go.Ground.data }], guard := none } : Oper) rfl ?_, StepB.mk ({ dst := some 17, op := Go.Op.buildSlice 22 1 #[(0, Go.Operand.tmp 16)], type := 22, pos := "ref.go:210", after := #[{ on := 3, ground := Go.Ground.data }], guard := none } : Oper) rfl ?_, StepB.mk ({ dst := some 22, op := Go.Op.call { callee := Go.Callee.value (Go.Operand.func 29), args := #[Go.Operand.tmp 21, Go.Operand.const (Go.Value.int Go.IntKind.i64 2)], argTypes := #[24, 3] }, type := 22, pos := "ref.go:210", after := #[{ on := 8, ground := Go.Ground.data }], guard := none } : Oper) rfl ?_, StepB.mk ({ dst := some 27, op := Go.Op.call { callee := Go.Callee.value (Go.Operand.func 32), args := #[Go.Operand.tmp 24, Go.Operand.tmp 26], argTypes := #[5, 22] }, type := 22, pos := "ref.go:210", after := #[{ on := 11, ground := Go.Ground.data }, { on := 13, ground := Go.Ground.data }, { on := 9, ground := Go.Ground.chain }], guard := none } : Oper) rfl ?_, StepB.mk ({ dst := some 30, op := Go.Op.buildSlice 69 5 #[(0, Go.Operand.tmp 14), (1, Go.Operand.tmp 17), (2, Go.Operand.tmp 22), (3, Go.Operand.tmp 27), (4, Go.Operand.tmp 29)], type := 69, pos := "ref.go:210", after := #[{ on := 1, ground := Go.Ground.data }, { on := 4, ground := Go.Ground.data }, { on := 9, ground := Go.Ground.data }, { on := 14, ground := Go.Ground.data }, { on := 16, ground := Go.Ground.data }], guard := none } : Oper) rfl ?_, trivial⟩ ?_
  · intro f wS hRS hFS K hK
    simp only [putT, Act.put, List.setIfInBounds_toArray, List.set_cons_zero, List.set_cons_succ] at hK ⊢
    have hs := hRS.below.size
    go_simp
    refine hK.out _ _ (Keep.alloc _ _ hs) ⟨wS.heap.size, rfl, hs, by simp, shape_alloc _ _ _, ?_⟩
    exact ⟨some ⟨wS.heap.size, 0, none⟩, wS.heap.size, 0, 3, rfl, by decide, by decide, fun _ => rfl, range_alloc wS _ _, by simp, fun h => by cases h⟩
  · intro f wS hRS hFS K hK
    simp only [putT, Act.put, List.setIfInBounds_toArray, List.set_cons_zero, List.set_cons_succ] at hK ⊢
    have hs := hRS.below.size
    obtain ⟨g, e13, q1, q2, q3, q4⟩ := hFS 13 (by simp)
    rw [e13] at hK q4 ⊢
    have hc := conv_const wS g 3 3 3 q3
    have kf : Keep W1.heap.size wS (wS.freeze ⟨g, 3, none⟩ 1) := keep_freeze _ _ _ _ _ q1
    have q5 := q4.keep kf
    obtain ⟨W2, hW2⟩ : ∃ W, W = wS.freeze ⟨g, 3, none⟩ 1 := ⟨_, rfl⟩
    rw [← hW2] at hc kf q5
    clear hW2
    go_simp
    exact hK.out _ _ kf ⟨g, rfl, q5⟩
  · intro f wS hRS hFS K hK
    simp only [putT, Act.put, List.setIfInBounds_toArray, List.set_cons_zero, List.set_cons_succ] at hK ⊢
    have hs := hRS.below.size
    go_simp
    refine hK.out _ _ (Keep.alloc _ _ hs) ⟨wS.heap.size, rfl, ?_⟩
    exact part_new wS [t] (by simp)
  · intro f wS hRS hFS K hK
    simp only [putT, Act.put, List.setIfInBounds_toArray, List.set_cons_zero, List.set_cons_succ] at hK ⊢
    have hs := hRS.below.size
    go_simp
    refine (NU.out wS).mono ?_
    rintro e w' ⟨g, rfl, r1, r2⟩
    exact hK.out _ _ (Keep.of r2 hs) ⟨g, rfl, r1⟩
  · intro f wS hRS hFS K hK
    simp only [putT, Act.put, List.setIfInBounds_toArray, List.set_cons_zero, List.set_cons_succ] at hK ⊢
    have hs := hRS.below.size
    have q := P1.out.below (BD.out.trans hRS.below)
    go_simp
    refine (SM.out wS q).mono ?_
    rintro e w' ⟨a4, c4, rfl, r1, r2⟩
    exact hK.out _ _ (Keep.of r2 hs) ⟨a4, c4, rfl, r1⟩
  · intro f wS hRS hFS K hK
    simp only [putT, Act.put, List.setIfInBounds_toArray, List.set_cons_zero, List.set_cons_succ] at hK ⊢
    have hs := hRS.below.size
    obtain ⟨g14, e14, q14⟩ := hFS 14 (by simp)
    obtain ⟨g17, e17, q17⟩ := hFS 17 (by simp)
    obtain ⟨g22, e22, q22⟩ := hFS 22 (by simp)
    obtain ⟨a27, c27, e27, q27⟩ := hFS 27 (by simp)
    rw [e14, e17, e22, e27] at hK ⊢
    rw [e14] at q14
    rw [e17] at q17
    rw [e22] at q22
    rw [e27] at q27
    clear e14 e17 e22 e27 hFS
    have kA := fun o => Keep.alloc (n := W1.heap.size) wS o hs
    go_simp
    refine hK.out _ _ (kA _) ⟨wS.heap.size, _, _, _, _, rfl, by simp, range_alloc wS _ _, q14.keep (kA _), q17.keep (kA _), q22.keep (kA _), q27.keep (kA _)⟩
  intro f wB hRB hFB
  simp only [List.map, setL, putT, Act.put, List.setIfInBounds_toArray, List.set_cons_zero, List.set_cons_succ]
  have hHeldB1 : Below W1.heap.size W1 wB := BD.out.trans hRB.below
  obtain ⟨g, x1, x2, x3, x4, e30, r1, r2, r3, r4, r5, r6⟩ := hFB 30 (by simp)
  rw [e30]
  have JH : Hid (Calls Try.prog 28 #[.slice (some ⟨g, 0, none⟩) 5 5] wB fun e w' => ∃ u, e = .returned u ∧ OwnB w' wB.heap.size u (encB t b) ∧ Below wB.heap.size wB w') := JN.out wB g x1 x2 x3 x4 r1 r2 r3 r4 r5 r6 (P1.out.below hHeldB1)
  have HB1 : Hid (Below W1.heap.size W1 wB) := hHeldB1
  generalize f 13 = u13
  generalize f 14 = u14
  generalize f 17 = u17
  generalize f 22 = u22
  generalize f 27 = u27
  clear hFB hRB e30 r1 r2 r3 r4 r5 r6 JN SM NU
  refine wpAnyH_ready (rs := [18]) (by kernel_rfl) (by simp) ?_
  refine AllReadyH.cons (o := { dst := some 31, op := Go.Op.call { callee := Go.Callee.value (Go.Operand.func 28), args := #[Go.Operand.tmp 30], argTypes := #[69] }, type := 22, pos := "ref.go:210", after := #[{ on := 17, ground := Go.Ground.data }, { on := 14, ground := Go.Ground.chain }], guard := none }) rfl (fun K hK => ?_) AllReadyH.nil
  go_simp
  refine JH.out.mono ?_
  rintro e w9 ⟨u, rfl, o9, b9⟩
  have O9 : Hid (OwnB w9 wB.heap.size u (encB t b)) := o9
  have B9 : Hid (Below W1.heap.size W1 w9) := HB1.out.trans (b9.mono HB1.out.size)
  clear o9 b9
  refine hK.out _ _ (B9.out) (fun hHeld2 => ?_)
  clear hK K hHeldB1
  try simp only [Act.put, List.setIfInBounds_toArray, List.set_cons_zero, List.set_cons_succ]
  refine wpAnyH_take (i := 19) (oi := { dst := some 2, op := Go.Op.assign (Go.Operand.tmp 31), type := 22, pos := "ref.go:210", after := #[{ on := 18, ground := Go.Ground.data }, { on := 18, ground := Go.Ground.chain }, { on := 0, ground := Go.Ground.phase }, { on := 1, ground := Go.Ground.phase }, { on := 2, ground := Go.Ground.phase }, { on := 3, ground := Go.Ground.phase }, { on := 4, ground := Go.Ground.phase }, { on := 5, ground := Go.Ground.phase }, { on := 6, ground := Go.Ground.phase }, { on := 7, ground := Go.Ground.phase }, { on := 8, ground := Go.Ground.phase }, { on := 9, ground := Go.Ground.phase }, { on := 10, ground := Go.Ground.phase }, { on := 11, ground := Go.Ground.phase }, { on := 12, ground := Go.Ground.phase }, { on := 13, ground := Go.Ground.phase }, { on := 14, ground := Go.Ground.phase }, { on := 15, ground := Go.Ground.phase }, { on := 16, ground := Go.Ground.phase }, { on := 17, ground := Go.Ground.phase }, { on := 18, ground := Go.Ground.phase }], guard := none }) (v := ?_) rfl (by kernel_rfl) (by kernel_rfl) (by kernel_rfl) (fun _ _ _ h => h) (Or.inl ⟨by rfl, ?_⟩) hHeld2 ?_
  rotate_left 1
  · (intro wq hSq; (try dsimp only at hSq); go_simp; first | done | with_reducible rfl)
  try simp only [Act.put, List.setIfInBounds_toArray, List.set_cons_zero, List.set_cons_succ]
  refine wpAnyH_take (i := 20) (oi := { dst := some 3, op := Go.Op.assign (Go.Operand.const (Go.Value.int Go.IntKind.i64 0)), type := 30, pos := "ref.go:210", after := #[{ on := 19, ground := Go.Ground.chain }, { on := 0, ground := Go.Ground.phase }, { on := 1, ground := Go.Ground.phase }, { on := 2, ground := Go.Ground.phase }, { on := 3, ground := Go.Ground.phase }, { on := 4, ground := Go.Ground.phase }, { on := 5, ground := Go.Ground.phase }, { on := 6, ground := Go.Ground.phase }, { on := 7, ground := Go.Ground.phase }, { on := 8, ground := Go.Ground.phase }, { on := 9, ground := Go.Ground.phase }, { on := 10, ground := Go.Ground.phase }, { on := 11, ground := Go.Ground.phase }, { on := 12, ground := Go.Ground.phase }, { on := 13, ground := Go.Ground.phase }, { on := 14, ground := Go.Ground.phase }, { on := 15, ground := Go.Ground.phase }, { on := 16, ground := Go.Ground.phase }, { on := 17, ground := Go.Ground.phase }, { on := 18, ground := Go.Ground.phase }, { on := 19, ground := Go.Ground.phase }], guard := none }) (v := ?_) rfl (by kernel_rfl) (by kernel_rfl) (by kernel_rfl) (fun _ _ _ h => h) (Or.inl ⟨by rfl, ?_⟩) hHeld2 ?_
  rotate_left 1
  · (intro wq hSq; (try dsimp only at hSq); go_simp; first | done | with_reducible rfl)
  try simp only [Act.put, List.setIfInBounds_toArray, List.set_cons_zero, List.set_cons_succ]
  refine wpAnyH_done (by kernel_rfl) ?_ _
  refine NoPanic.normal ?_
  go_wp2
  go_ret2
  exact ⟨u, rfl, OwnB.lower O9.out (Nat.le_trans (Nat.le_trans (by have := HZ1.out; omega) HB1.out.size) (Nat.le_refl _)), B1.out.trans (B9.out.mono (by have := HZ1.out; omega))⟩
theorem rencode_yes (t : Int) (ht : 0 < t ∧ t ≤ 255) (av : Option Addr) (n cp : Nat) (b : List Int) (hbn : b.length = n) (hn : n ≤ 1000) (hb : Bytes b) (w : World) (h0 : 0 < w.heap.size) (hp : PartAt w (.slice av n cp) b) : Calls Try.prog 14 #[.agg #[.int .u8 t, .slice av n cp]] w (EncOf t b w) :=
  (rencode_own t ht av n cp b hbn hn hb w h0 hp).mono fun e w' ⟨u, r1, r2, r3⟩ => ⟨r3, by rw [if_neg (by omega), if_neg (by omega)]; exact ⟨u, r1, r2.partG (by have := r3.size; omega)⟩⟩
theorem rencode_any (t : Int) (ht : 0 ≤ t ∧ t ≤ 255) (v : Value) (b : List Int) (hn : b.length ≤ 4611686018427387904) (hb : Bytes b) (w : World) (h0 : 0 < w.heap.size) (hp : PartAt w v b) : Calls Try.prog 14 #[.agg #[.int .u8 t, v]] w (EncOf t b w) := by
  obtain ⟨av, b', o, cp, rfl, q⟩ := hp
  by_cases h : t = 0 ∨ 1000 < b.length
  · exact rencode_no t av _ cp b rfl hn h w
  · exact rencode_yes t (by omega) av _ cp b rfl (by omega) hb w h0 ⟨av, b', o, cp, rfl, q⟩
end Go.Proofs.Ytnpjknnalekdpaa
