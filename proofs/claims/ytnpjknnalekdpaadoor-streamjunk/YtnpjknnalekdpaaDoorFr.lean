import Derived.Test.YtnpjknnalekdpaaDoorBb
namespace Go.Proofs.YtnpjknnalekdpaaDoor
set_option linter.unusedSimpArgs false
set_option linter.unusedVariables false
open Go.RowKit
/-- What the reference's Encode has in hand between. -/
def PhiE (t : Int) (b : List Int) (x : Value) (n0 : Nat) (d : Nat) (v : Value) (w : World) : Prop :=
  match d with
  | 13 => ∃ g, v = .slice (some ⟨g, 0, none⟩) 3 3 ∧ n0 ≤ g ∧ g < w.heap.size ∧ w.shape? g = some (5, 3) ∧ PartAt w v [114, 100, 1]
  | 14 => ∃ g, v = .slice (some ⟨g, 0, none⟩) 3 3 ∧ PartAt w v [114, 100, 1]
  | 17 => ∃ g, v = .slice (some ⟨g, 0, none⟩) 1 1 ∧ PartAt w v [t]
  | 22 => ∃ g, v = .slice (some ⟨g, 0, none⟩) 2 2 ∧ PartAt w v (numB b.length 2)
  | 27 => ∃ av cp, v = .slice av 4 cp ∧ PartAt w v (sum4 t b)
  | 30 => ∃ g x1 x2 x3 x4, v = .slice (some ⟨g, 0, none⟩) 5 5 ∧ g < w.heap.size ∧ w.rangeAt g 0 [x1, x2, x3, x4, x] ∧ PartAt w x1 [114, 100, 1] ∧ PartAt w x2 [t] ∧ PartAt w x3 (numB b.length 2) ∧ PartAt w x4 (sum4 t b)
  | _ => True
theorem phiE_keep (t : Int) (b : List Int) (x : Value) (n0 n d : Nat) (v : Value) (w w' : World) (h : PhiE t b x n0 d v w) (k : Keep n w w') : PhiE t b x n0 d v w' := by
  unfold PhiE at h ⊢
  split
  · obtain ⟨g, h1, h2, h3, h4, h5⟩ := h
    exact ⟨g, h1, h2, Nat.lt_of_lt_of_le h3 k.below.size, by rw [k.shape g h3]; exact h4, h5.keep k⟩
  · obtain ⟨g, h1, h2⟩ := h; exact ⟨g, h1, h2.keep k⟩
  · obtain ⟨g, h1, h2⟩ := h; exact ⟨g, h1, h2.keep k⟩
  · obtain ⟨g, h1, h2⟩ := h; exact ⟨g, h1, h2.keep k⟩
  · obtain ⟨g, c, h1, h2⟩ := h; exact ⟨g, c, h1, h2.keep k⟩
  · obtain ⟨g, x1, x2, x3, x4, h1, h2, h3, h4, h5, h6, h7⟩ := h
    exact ⟨g, x1, x2, x3, x4, h1, Nat.lt_of_lt_of_le h2 k.below.size, k.range h2 h3, h4.keep k, h5.keep k, h6.keep k, h7.keep k⟩
  · trivial
theorem OwnB.lower {w : World} {base base' : Nat} {v : Value} {l : List Int} (h : OwnB w base v l) (hb : base' ≤ base) : OwnB w base' v l := by
  obtain ⟨h1, h2⟩ := h
  refine ⟨h1, ?_⟩
  rcases h2 with h2 | ⟨g, cap, cur, hv, hg, r⟩
  · exact .inl h2
  · exact .inr ⟨g, cap, cur, hv, Nat.le_trans hb hg, r⟩
set_option maxHeartbeats 1000000 in
set_option maxRecDepth 100000 in
theorem rencode_own (t : Int) (ht : 0 < t ∧ t ≤ 255) (av : Option Addr) (n cp : Nat) (b : List Int) (hbn : b.length = n) (hn : n ≤ 1000) (hb : Bytes b) (w : World) (h0 : 0 < w.heap.size) (hp : PartAt w (.slice av n cp) b) : Calls Tryd.prog 31 #[.agg #[.int .u8 t, .slice av n cp]] w fun e w' => ∃ u, e = .returned (.tuple #[u, .int .i64 0]) ∧ OwnB w' w.heap.size u (encB t b) ∧ Below w.heap.size w w' := by
  have hg := heap_alloc_new w (.cells #[.int .u8 t, .slice av n cp] 48)
  have c0 := row_cell (j := 0) hg rfl
  have c1 := row_cell (j := 1) hg rfl
  have b1 : Below w.heap.size w (w.alloc (.cells #[.int .u8 t, .slice av n cp] 48)) := (Below.refl _ _).alloc (Nat.le_refl _) _
  have p1 : PartAt (w.alloc (.cells #[.int .u8 t, .slice av n cp] 48)) (.slice av n cp) b := hp.below b1
  obtain ⟨W1, hW1⟩ : ∃ W, W = w.alloc (.cells #[.int .u8 t, .slice av n cp] 48) := ⟨_, rfl⟩
  have hz1 : w.heap.size + 1 = W1.heap.size := by rw [hW1]; simp
  have LC0 : Hid (∀ W, Below W1.heap.size W1 W → W.cell? ⟨w.heap.size, 0, none⟩ = some (.int .u8 t)) := fun W q => by rw [q.cell (show w.heap.size < W1.heap.size by omega), hW1]; exact c0
  have LC1 : Hid (∀ W, Below W1.heap.size W1 W → W.cell? ⟨w.heap.size, 1, none⟩ = some (.slice av n cp)) := fun W q => by rw [q.cell (show w.heap.size < W1.heap.size by omega), hW1]; exact c1
  have BD : Hid (Below W1.heap.size W1 W1.drew) := (Below.refl _ _).drew
  have P1 : Hid (PartAt W1 (.slice av n cp) b) := by rw [hW1]; exact p1
  have B1 : Hid (Below w.heap.size w W1) := by rw [hW1]; exact b1
  have NU : Hid (∀ W, Calls Tryd.prog 55 #[.int .u64 n, .int .i64 2] W fun e w' => ∃ g, e = .returned (.slice (some ⟨g, 0, none⟩) 2 2) ∧ PartAt w' (.slice (some ⟨g, 0, none⟩) 2 2) (numB b.length 2) ∧ Below W.heap.size W w') := fun W => by
    rw [← hbn]
    exact (rnumk_any b.length (by omega) (by omega) 2 (by omega) (by omega) _).mono fun e w' ⟨g, r1, r2, r3, r4⟩ => ⟨g, r1, partRow r3 2 (numB_length _ _) (by omega), r4⟩
  have SM : Hid (∀ W, PartAt W (.slice av n cp) b → Calls Tryd.prog 65 #[.int .u8 t, .slice av n cp] W fun e w' => ∃ av4 cp4, e = .returned (.slice av4 4 cp4) ∧ PartAt w' (.slice av4 4 cp4) (sum4 t b) ∧ Below W.heap.size W w') := fun W q =>
    (rsum4_any t (by omega) _ b W q hb (by omega)).mono fun e w' ⟨u, r1, r2, r3⟩ => by
      have r2' := r2
      obtain ⟨a4, b4, o4, c4, hu, _⟩ := r2'
      rw [sum4_length] at hu
      subst hu
      exact ⟨a4, c4, r1, r2, r3⟩
  have JN : Hid (∀ (W : World) (g : Nat) (x1 x2 x3 x4 : Value), g < W.heap.size → W.rangeAt g 0 [x1, x2, x3, x4, .slice av n cp] → PartAt W x1 [114, 100, 1] → PartAt W x2 [t] → PartAt W x3 (numB b.length 2) → PartAt W x4 (sum4 t b) → PartAt W (.slice av n cp) b → Calls Tryd.prog 21 #[.slice (some ⟨g, 0, none⟩) 5 5] W fun e w' => ∃ u, e = .returned u ∧ OwnB w' W.heap.size u (encB t b) ∧ Below W.heap.size W w') := fun W g x1 x2 x3 x4 hg hr q1 q2 q3 q4 q5 => by
    refine (join_any g 0 5 5 [x1, x2, x3, x4, .slice av n cp] [[114, 100, 1], [t], numB b.length 2, sum4 t b, b] rfl rfl W (by omega) hr hg (parts_cons q1 (parts_cons q2 (parts_cons q3 (parts_cons q4 (parts_cons q5 parts_nil))))) (by simp [numB_length, sum4_length]; omega) (by omega)).mono ?_
    rintro e w5 ⟨u, rfl, o5, b5⟩
    refine ⟨u, rfl, ?_, b5⟩
    have e : encB t b = [[114, 100, 1], [t], numB b.length 2, sum4 t b, b].flatten := by simp [encB]
    rw [e]; exact o5
  have hw2 : IntKind.u64.wrap (n : Int) = (n : Int) := by rw [show IntKind.u64.wrap (n : Int) = (n : Int) % 18446744073709551616 from rfl]; omega
  have hw3 : (n : Int) % 18446744073709551616 = (n : Int) := by omega
  have hz : (t == 0) = false := by simp; omega
  have h1000 : ¬ (1000 : Int) < (n : Int) := by omega
  have HZ1 : Hid (w.heap.size + 1 = W1.heap.size) := hz1
  have HW1 : Hid (W1 = w.alloc (.cells #[.int .u8 t, .slice av n cp] 48)) := hW1
  clear hg b1 p1 hp hb hbn hz1 hW1
  go_enter Tryd.func31, Tryd.ntmps31
  go_wp2_with fail
  rw [← HW1.out]
  clear c0 c1
  refine wp_region_noPanic ?_
  refine wp_region_held_drew (S := fun w' => Below W1.heap.size W1 w') (by kernel_rfl) (BD.out) (fun hHeld => ?_)
  try simp only [Act.put, List.setIfInBounds_toArray, List.set_cons_zero, List.set_cons_succ]
  refine wpAnyH_take (i := 2) (oi := ⟨some 15, .fieldAddr 48 (.tmp 1) 0, 0, "ref.go:210", #[], none⟩) (v := ?_) rfl (by kernel_rfl) (by kernel_rfl) (by kernel_rfl) (fun _ _ _ h => h) (Or.inl ⟨by rfl, ?_⟩) hHeld ?_
  rotate_left 1
  · (intro wq hSq; (try dsimp only at hSq); go_simp; first | done | with_reducible rfl)
  try simp only [Act.put, List.setIfInBounds_toArray, List.set_cons_zero, List.set_cons_succ]
  refine wpAnyH_take (i := 3) (oi := ⟨some 16, .load 5 (.tmp 15), 5, "ref.go:210", #[⟨2, .data⟩], none⟩) (v := ?_) rfl (by kernel_rfl) (by kernel_rfl) (by kernel_rfl) (fun _ _ _ h => h) (Or.inl ⟨by rfl, ?_⟩) hHeld ?_
  rotate_left 1
  · (intro wq hSq; (try dsimp only at hSq); have hq := LC0.out _ hSq; go_simp; first | done | with_reducible rfl)
  try simp only [Act.put, List.setIfInBounds_toArray, List.set_cons_zero, List.set_cons_succ]
  refine wpAnyH_take (i := 5) (oi := ⟨some 18, .fieldAddr 48 (.tmp 1) 1, 0, "ref.go:210", #[], none⟩) (v := ?_) rfl (by kernel_rfl) (by kernel_rfl) (by kernel_rfl) (fun _ _ _ h => h) (Or.inl ⟨by rfl, ?_⟩) hHeld ?_
  rotate_left 1
  · (intro wq hSq; (try dsimp only at hSq); go_simp; first | done | with_reducible rfl)
  try simp only [Act.put, List.setIfInBounds_toArray, List.set_cons_zero, List.set_cons_succ]
  refine wpAnyH_take (i := 6) (oi := ⟨some 19, .load 22 (.tmp 18), 22, "ref.go:210", #[⟨5, .data⟩], none⟩) (v := ?_) rfl (by kernel_rfl) (by kernel_rfl) (by kernel_rfl) (fun _ _ _ h => h) (Or.inl ⟨by rfl, ?_⟩) hHeld ?_
  rotate_left 1
  · (intro wq hSq; (try dsimp only at hSq); have hq := LC1.out _ hSq; go_simp; first | done | with_reducible rfl)
  try simp only [Act.put, List.setIfInBounds_toArray, List.set_cons_zero, List.set_cons_succ]
  refine wpAnyH_take (i := 7) (oi := ⟨some 20, .call ⟨.builtin .len, #[.tmp 19], #[22]⟩, 3, "ref.go:210", #[⟨6, .data⟩], none⟩) (v := ?_) rfl (by kernel_rfl) (by kernel_rfl) (by kernel_rfl) (fun _ _ _ h => h) (Or.inl ⟨by rfl, ?_⟩) hHeld ?_
  rotate_left 1
  · (intro wq hSq; (try dsimp only at hSq); go_simp; first | done | with_reducible rfl)
  try simp only [Act.put, List.setIfInBounds_toArray, List.set_cons_zero, List.set_cons_succ]
  refine wpAnyH_take (i := 8) (oi := ⟨some 21, .convert 3 59 (.tmp 20), 59, "ref.go:210", #[⟨7, .data⟩], none⟩) (v := ?_) rfl (by kernel_rfl) (by kernel_rfl) (by kernel_rfl) (fun _ _ _ h => h) (Or.inl ⟨by rfl, ?_⟩) hHeld ?_
  rotate_left 1
  · (intro wq hSq; (try dsimp only at hSq); go_simp; first | done | with_reducible rfl)
  try simp only [Act.put, List.setIfInBounds_toArray, List.set_cons_zero, List.set_cons_succ]
  refine wpAnyH_take (i := 10) (oi := ⟨some 23, .fieldAddr 48 (.tmp 1) 0, 0, "ref.go:210", #[], none⟩) (v := ?_) rfl (by kernel_rfl) (by kernel_rfl) (by kernel_rfl) (fun _ _ _ h => h) (Or.inl ⟨by rfl, ?_⟩) hHeld ?_
  rotate_left 1
  · (intro wq hSq; (try dsimp only at hSq); go_simp; first | done | with_reducible rfl)
  try simp only [Act.put, List.setIfInBounds_toArray, List.set_cons_zero, List.set_cons_succ]
  refine wpAnyH_take (i := 11) (oi := ⟨some 24, .load 5 (.tmp 23), 5, "ref.go:210", #[⟨10, .data⟩], none⟩) (v := ?_) rfl (by kernel_rfl) (by kernel_rfl) (by kernel_rfl) (fun _ _ _ h => h) (Or.inl ⟨by rfl, ?_⟩) hHeld ?_
  rotate_left 1
  · (intro wq hSq; (try dsimp only at hSq); have hq := LC0.out _ hSq; go_simp; first | done | with_reducible rfl)
  try simp only [Act.put, List.setIfInBounds_toArray, List.set_cons_zero, List.set_cons_succ]
  refine wpAnyH_take (i := 12) (oi := ⟨some 25, .fieldAddr 48 (.tmp 1) 1, 0, "ref.go:210", #[], none⟩) (v := ?_) rfl (by kernel_rfl) (by kernel_rfl) (by kernel_rfl) (fun _ _ _ h => h) (Or.inl ⟨by rfl, ?_⟩) hHeld ?_
  rotate_left 1
  · (intro wq hSq; (try dsimp only at hSq); go_simp; first | done | with_reducible rfl)
  try simp only [Act.put, List.setIfInBounds_toArray, List.set_cons_zero, List.set_cons_succ]
  refine wpAnyH_take (i := 13) (oi := ⟨some 26, .load 22 (.tmp 25), 22, "ref.go:210", #[⟨12, .data⟩], none⟩) (v := ?_) rfl (by kernel_rfl) (by kernel_rfl) (by kernel_rfl) (fun _ _ _ h => h) (Or.inl ⟨by rfl, ?_⟩) hHeld ?_
  rotate_left 1
  · (intro wq hSq; (try dsimp only at hSq); have hq := LC1.out _ hSq; go_simp; first | done | with_reducible rfl)
  try simp only [Act.put, List.setIfInBounds_toArray, List.set_cons_zero, List.set_cons_succ]
  refine wpAnyH_take (i := 15) (oi := ⟨some 28, .fieldAddr 48 (.tmp 1) 1, 0, "ref.go:210", #[], none⟩) (v := ?_) rfl (by kernel_rfl) (by kernel_rfl) (by kernel_rfl) (fun _ _ _ h => h) (Or.inl ⟨by rfl, ?_⟩) hHeld ?_
  rotate_left 1
  · (intro wq hSq; (try dsimp only at hSq); go_simp; first | done | with_reducible rfl)
  try simp only [Act.put, List.setIfInBounds_toArray, List.set_cons_zero, List.set_cons_succ]
  refine wpAnyH_take (i := 16) (oi := ⟨some 29, .load 22 (.tmp 28), 22, "ref.go:210", #[⟨15, .data⟩], none⟩) (v := ?_) rfl (by kernel_rfl) (by kernel_rfl) (by kernel_rfl) (fun _ _ _ h => h) (Or.inl ⟨by rfl, ?_⟩) hHeld ?_
  rotate_left 1
  · (intro wq hSq; (try dsimp only at hSq); have hq := LC1.out _ hSq; go_simp; first | done | with_reducible rfl)
  try simp only [Act.put, List.setIfInBounds_toArray, List.set_cons_zero, List.set_cons_succ]
  refine wpAnyH_batch (B := [(0, 13, []), (1, 14, [13]), (4, 17, []), (9, 22, []), (14, 27, []), (17, 30, [14, 17, 22, 27])]) (R := Keep W1.heap.size) (Φ := PhiE t b (.slice av n cp) W1.heap.size) 3 (by kernel_rfl) (fun _ _ _ _ h => h) (Keep.refl _ _) (fun _ _ h1 h2 => h1.trans h2) (fun _ _ _ _ _ h k => phiE_keep _ _ _ _ _ _ _ _ _ h k) (fun _ h => BD.out.trans h.below) ⟨StepB.mk (⟨some 13, .buildSlice 22 3 #[(0, .const (.int .u8 114)), (1, .const (.int .u8 100)), (2, .const (.int .u8 1))], 22, "ref.go:210", #[], none⟩ : Oper) rfl ?_, StepB.mk (⟨some 14, .convert 22 22 (.tmp 13), 22, "ref.go:210", #[⟨0, .data⟩], none⟩ : Oper) rfl ?_, StepB.mk (⟨some 17, .buildSlice 22 1 #[(0, .tmp 16)], 22, "ref.go:210", #[⟨3, .data⟩], none⟩ : Oper) rfl ?_, StepB.mk (⟨some 22, .call ⟨.value (.func 55), #[.tmp 21, .const (.int .i64 2)], #[59, 3]⟩, 22, "ref.go:210", #[⟨8, .data⟩], none⟩ : Oper) rfl ?_, StepB.mk (⟨some 27, .call ⟨.value (.func 65), #[.tmp 24, .tmp 26], #[5, 22]⟩, 22, "ref.go:210", #[⟨11, .data⟩, ⟨13, .data⟩, ⟨9, .chain⟩], none⟩ : Oper) rfl ?_, StepB.mk (⟨some 30, .buildSlice 29 5 #[(0, .tmp 14), (1, .tmp 17), (2, .tmp 22), (3, .tmp 27), (4, .tmp 29)], 29, "ref.go:210", #[⟨1, .data⟩, ⟨4, .data⟩, ⟨9, .data⟩, ⟨14, .data⟩, ⟨16, .data⟩], none⟩ : Oper) rfl ?_, trivial⟩ ?_
  · intro f wS hRS hFS K hK
    simp only [putT, Act.put, List.setIfInBounds_toArray, List.set_cons_zero, List.set_cons_succ] at hK ⊢
    have hs := hRS.below.size
    go_simp
    refine hK.out _ _ (Keep.alloc _ _ hs) ⟨wS.heap.size, rfl, hs, by simp, shape_alloc _ _ _, ?_⟩
    exact ⟨some ⟨wS.heap.size, 0, none⟩, wS.heap.size, 0, 3, rfl, by decide, by decide, fun _ => rfl, range_alloc wS _ _, by simp, fun h => by cases h⟩
  · intro f wS hRS hFS K hK
    simp only [putT, Act.put, List.setIfInBounds_toArray, List.set_cons_zero, List.set_cons_succ] at hK ⊢
    have hs := hRS.below.size
    obtain ⟨g, e13, q1, q2, q3, q4⟩ := hFS 13 (by simp)
    rw [e13] at hK q4 ⊢
    have hc := conv_const wS g 3 3 3 q3
    have kf : Keep W1.heap.size wS (wS.freeze ⟨g, 3, none⟩ 1) := keep_freeze _ _ _ _ _ q1
    have q5 := q4.keep kf
    obtain ⟨W2, hW2⟩ : ∃ W, W = wS.freeze ⟨g, 3, none⟩ 1 := ⟨_, rfl⟩
    rw [← hW2] at hc kf q5
    clear hW2
    go_simp
    exact hK.out _ _ kf ⟨g, rfl, q5⟩
  · intro f wS hRS hFS K hK
    simp only [putT, Act.put, List.setIfInBounds_toArray, List.set_cons_zero, List.set_cons_succ] at hK ⊢
    have hs := hRS.below.size
    go_simp
    refine hK.out _ _ (Keep.alloc _ _ hs) ⟨wS.heap.size, rfl, ?_⟩
    exact part_new wS [t] (by simp)
  · intro f wS hRS hFS K hK
    simp only [putT, Act.put, List.setIfInBounds_toArray, List.set_cons_zero, List.set_cons_succ] at hK ⊢
    have hs := hRS.below.size
    go_simp
    refine (NU.out wS).mono ?_
    rintro e w' ⟨g, rfl, r1, r2⟩
    exact hK.out _ _ (Keep.of r2 hs) ⟨g, rfl, r1⟩
  · intro f wS hRS hFS K hK
    simp only [putT, Act.put, List.setIfInBounds_toArray, List.set_cons_zero, List.set_cons_succ] at hK ⊢
    have hs := hRS.below.size
    have q := P1.out.below (BD.out.trans hRS.below)
    go_simp
    refine (SM.out wS q).mono ?_
    rintro e w' ⟨a4, c4, rfl, r1, r2⟩
    exact hK.out _ _ (Keep.of r2 hs) ⟨a4, c4, rfl, r1⟩
  · intro f wS hRS hFS K hK
    simp only [putT, Act.put, List.setIfInBounds_toArray, List.set_cons_zero, List.set_cons_succ] at hK ⊢
    have hs := hRS.below.size
    obtain ⟨g14, e14, q14⟩ := hFS 14 (by simp)
    obtain ⟨g17, e17, q17⟩ := hFS 17 (by simp)
    obtain ⟨g22, e22, q22⟩ := hFS 22 (by simp)
    obtain ⟨a27, c27, e27, q27⟩ := hFS 27 (by simp)
    rw [e14, e17, e22, e27] at hK ⊢
    rw [e14] at q14
    rw [e17] at q17
    rw [e22] at q22
    rw [e27] at q27
    clear e14 e17 e22 e27 hFS
    have kA := fun o => Keep.alloc (n := W1.heap.size) wS o hs
    go_simp
    refine hK.out _ _ (kA _) ⟨wS.heap.size, _, _, _, _, rfl, by simp, range_alloc wS _ _, q14.keep (kA _), q17.keep (kA _), q22.keep (kA _), q27.keep (kA _)⟩
  intro f wB hRB hFB
  simp only [List.map, setL, putT, Act.put, List.setIfInBounds_toArray, List.set_cons_zero, List.set_cons_succ]
  have hHeldB1 : Below W1.heap.size W1 wB := BD.out.trans hRB.below
  obtain ⟨g, x1, x2, x3, x4, e30, r1, r2, r3, r4, r5, r6⟩ := hFB 30 (by simp)
  rw [e30]
  have JH : Hid (Calls Tryd.prog 21 #[.slice (some ⟨g, 0, none⟩) 5 5] wB fun e w' => ∃ u, e = .returned u ∧ OwnB w' wB.heap.size u (encB t b) ∧ Below wB.heap.size wB w') := JN.out wB g x1 x2 x3 x4 r1 r2 r3 r4 r5 r6 (P1.out.below hHeldB1)
  have HB1 : Hid (Below W1.heap.size W1 wB) := hHeldB1
  generalize f 13 = u13
  generalize f 14 = u14
  generalize f 17 = u17
  generalize f 22 = u22
  generalize f 27 = u27
  clear hFB hRB e30 r1 r2 r3 r4 r5 r6 JN SM NU
  refine wpAnyH_ready (rs := [18]) (by kernel_rfl) (by simp) ?_
  refine AllReadyH.cons (o := ⟨some 31, .call ⟨.value (.func 21), #[.tmp 30], #[29]⟩, 22, "ref.go:210", #[⟨17, .data⟩, ⟨14, .chain⟩], none⟩) rfl (fun K hK => ?_) AllReadyH.nil
  go_simp
  refine JH.out.mono ?_
  rintro e w9 ⟨u, rfl, o9, b9⟩
  have O9 : Hid (OwnB w9 wB.heap.size u (encB t b)) := o9
  have B9 : Hid (Below W1.heap.size W1 w9) := HB1.out.trans (b9.mono HB1.out.size)
  clear o9 b9
  refine hK.out _ _ (B9.out) (fun hHeld2 => ?_)
  clear hK K hHeldB1
  try simp only [Act.put, List.setIfInBounds_toArray, List.set_cons_zero, List.set_cons_succ]
  refine wpAnyH_take (i := 19) (oi := ⟨some 2, .assign (.tmp 31), 22, "ref.go:210", #[⟨18, .data⟩, ⟨18, .chain⟩, ⟨0, .phase⟩, ⟨1, .phase⟩, ⟨2, .phase⟩, ⟨3, .phase⟩, ⟨4, .phase⟩, ⟨5, .phase⟩, ⟨6, .phase⟩, ⟨7, .phase⟩, ⟨8, .phase⟩, ⟨9, .phase⟩, ⟨10, .phase⟩, ⟨11, .phase⟩, ⟨12, .phase⟩, ⟨13, .phase⟩, ⟨14, .phase⟩, ⟨15, .phase⟩, ⟨16, .phase⟩, ⟨17, .phase⟩, ⟨18, .phase⟩], none⟩) (v := ?_) rfl (by kernel_rfl) (by kernel_rfl) (by kernel_rfl) (fun _ _ _ h => h) (Or.inl ⟨by rfl, ?_⟩) hHeld2 ?_
  rotate_left 1
  · (intro wq hSq; (try dsimp only at hSq); go_simp; first | done | with_reducible rfl)
  try simp only [Act.put, List.setIfInBounds_toArray, List.set_cons_zero, List.set_cons_succ]
  refine wpAnyH_take (i := 20) (oi := ⟨some 3, .assign (.const (.int .i64 0)), 42, "ref.go:210", #[⟨19, .chain⟩, ⟨0, .phase⟩, ⟨1, .phase⟩, ⟨2, .phase⟩, ⟨3, .phase⟩, ⟨4, .phase⟩, ⟨5, .phase⟩, ⟨6, .phase⟩, ⟨7, .phase⟩, ⟨8, .phase⟩, ⟨9, .phase⟩, ⟨10, .phase⟩, ⟨11, .phase⟩, ⟨12, .phase⟩, ⟨13, .phase⟩, ⟨14, .phase⟩, ⟨15, .phase⟩, ⟨16, .phase⟩, ⟨17, .phase⟩, ⟨18, .phase⟩, ⟨19, .phase⟩], none⟩) (v := ?_) rfl (by kernel_rfl) (by kernel_rfl) (by kernel_rfl) (fun _ _ _ h => h) (Or.inl ⟨by rfl, ?_⟩) hHeld2 ?_
  rotate_left 1
  · (intro wq hSq; (try dsimp only at hSq); go_simp; first | done | with_reducible rfl)
  try simp only [Act.put, List.setIfInBounds_toArray, List.set_cons_zero, List.set_cons_succ]
  refine wpAnyH_done (by kernel_rfl) ?_ _
  refine NoPanic.normal ?_
  go_wp2
  go_ret2
  exact ⟨u, rfl, OwnB.lower O9.out (Nat.le_trans (Nat.le_trans (by have := HZ1.out; omega) HB1.out.size) (Nat.le_refl _)), B1.out.trans (B9.out.mono (by have := HZ1.out; omega))⟩
end Go.Proofs.YtnpjknnalekdpaaDoor
