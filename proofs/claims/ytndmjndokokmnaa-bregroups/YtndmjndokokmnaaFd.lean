import Derived.Test.YtndmjndokokmnaaFc
namespace Go.Proofs.Ytndmjndokokmnaa
set_option linter.unusedSimpArgs false
set_option linter.unusedVariables false
open Go.RowKit
open Go.Deep
set_option maxHeartbeats 4000000 in
set_option maxRecDepth 100000 in
theorem parts_any (h : Hd) (l : List T) (u : Value) (w : World) (hu : SV AnyB w u l) : Calls Try.prog 85 #[vN h u] w fun e w' => e = .returned (.bool (partsB h.k l)) ∧ Below w.heap.size w w' := by
  obtain ⟨k, c, x0, x1, x2, x3, nn, lo, hi⟩ := h
  have HS : Hid (SV AnyB w u l) := hu
  obtain ⟨av, cp, b, o, rfl, h1, h2, h3, h4⟩ := hu
  obtain ⟨n, hn⟩ : ∃ n, n = l.length := ⟨_, rfl⟩
  have HN : Hid (n = l.length) := hn
  rw [← hn] at h1 HS ⊢
  clear hn h3 h4
  change Calls Try.prog 85 #[.agg #[.int .i64 k, .int .u8 (c : Int), .int .u64 (x0 : Int), .int .u64 x1, .int .u64 x2, .int .u64 x3, .int .i64 nn, .int .i64 lo, .int .i64 hi, .slice av n cp]] w fun e w' => e = .returned (.bool (partsB k l)) ∧ Below w.heap.size w w'
  by_cases k1 : k = 1
  · subst k1
    have HE : Hid (partsB 1 l = decide (n = 0)) := by unfold Hid partsB; rw [← HN.out]; rfl
    rw [HE.out]
    clear HE
    by_cases hn0 : n = 0
    · subst hn0
      go_enter Try.func85, Try.ntmps85
      go_wp2
      go_ret
      exact ⟨rfl, (Below.refl _ _).alloc (Nat.le_refl _) _⟩
    · rw [decide_eq_false hn0]
      have i0 : ((n : Int) == 0) = false := by simp; omega
      go_enter Try.func85, Try.ntmps85
      go_wp2
      go_ret
      exact ⟨rfl, (Below.refl _ _).alloc (Nat.le_refl _) _⟩
  · have b1 : (k == 1) = false := by simpa using k1
    by_cases k2 : k = 2
    · subst k2
      have HE : Hid (partsB 2 l = decide (n = 0)) := by unfold Hid partsB; rw [← HN.out]; rfl
      rw [HE.out]
      clear HE
      by_cases hn0 : n = 0
      · subst hn0
        go_enter Try.func85, Try.ntmps85
        go_wp2
        go_ret
        exact ⟨rfl, (Below.refl _ _).alloc (Nat.le_refl _) _⟩
      · rw [decide_eq_false hn0]
        have i0 : ((n : Int) == 0) = false := by simp; omega
        go_enter Try.func85, Try.ntmps85
        go_wp2
        go_ret
        exact ⟨rfl, (Below.refl _ _).alloc (Nat.le_refl _) _⟩
    · have b2 : (k == 2) = false := by simpa using k2
      by_cases k3 : k = 3
      · subst k3
        have HE : Hid (partsB 3 l = decide (n = 0)) := by unfold Hid partsB; rw [← HN.out]; rfl
        rw [HE.out]
        clear HE
        by_cases hn0 : n = 0
        · subst hn0
          go_enter Try.func85, Try.ntmps85
          go_wp2
          go_ret
          exact ⟨rfl, (Below.refl _ _).alloc (Nat.le_refl _) _⟩
        · rw [decide_eq_false hn0]
          have i0 : ((n : Int) == 0) = false := by simp; omega
          go_enter Try.func85, Try.ntmps85
          go_wp2
          go_ret
          exact ⟨rfl, (Below.refl _ _).alloc (Nat.le_refl _) _⟩
      · have b3 : (k == 3) = false := by simpa using k3
        by_cases k4 : k = 4
        · subst k4
          have HE : Hid (partsB 4 l = decide (n = 0)) := by unfold Hid partsB; rw [← HN.out]; rfl
          rw [HE.out]
          clear HE
          by_cases hn0 : n = 0
          · subst hn0
            go_enter Try.func85, Try.ntmps85
            go_wp2
            go_ret
            exact ⟨rfl, (Below.refl _ _).alloc (Nat.le_refl _) _⟩
          · rw [decide_eq_false hn0]
            have i0 : ((n : Int) == 0) = false := by simp; omega
            go_enter Try.func85, Try.ntmps85
            go_wp2
            go_ret
            exact ⟨rfl, (Below.refl _ _).alloc (Nat.le_refl _) _⟩
        · have b4 : (k == 4) = false := by simpa using k4
          by_cases k5 : k = 5
          · subst k5
            have HE : Hid (partsB 5 l = decide (n = 0)) := by unfold Hid partsB; rw [← HN.out]; rfl
            rw [HE.out]
            clear HE
            by_cases hn0 : n = 0
            · subst hn0
              go_enter Try.func85, Try.ntmps85
              go_wp2
              go_ret
              exact ⟨rfl, (Below.refl _ _).alloc (Nat.le_refl _) _⟩
            · rw [decide_eq_false hn0]
              have i0 : ((n : Int) == 0) = false := by simp; omega
              go_enter Try.func85, Try.ntmps85
              go_wp2
              go_ret
              exact ⟨rfl, (Below.refl _ _).alloc (Nat.le_refl _) _⟩
          · have b5 : (k == 5) = false := by simpa using k5
            by_cases k7 : k = 7
            · subst k7
              have HE : Hid (partsB 7 l = decide (n = 0)) := by unfold Hid partsB; rw [← HN.out]; rfl
              rw [HE.out]
              clear HE
              by_cases hn0 : n = 0
              · subst hn0
                go_enter Try.func85, Try.ntmps85
                go_wp2
                go_ret
                exact ⟨rfl, (Below.refl _ _).alloc (Nat.le_refl _) _⟩
              · rw [decide_eq_false hn0]
                have i0 : ((n : Int) == 0) = false := by simp; omega
                go_enter Try.func85, Try.ntmps85
                go_wp2
                go_ret
                exact ⟨rfl, (Below.refl _ _).alloc (Nat.le_refl _) _⟩
            · have b7 : (k == 7) = false := by simpa using k7
              by_cases k6 : k = 6
              · subst k6
                have HE : Hid (partsB 6 l = decide (n = 1)) := by unfold Hid partsB; rw [← HN.out]; rfl
                rw [HE.out]
                clear HE
                by_cases hn0 : n = 1
                · subst hn0
                  go_enter Try.func85, Try.ntmps85
                  go_wp2
                  go_ret
                  exact ⟨rfl, (Below.refl _ _).alloc (Nat.le_refl _) _⟩
                · rw [decide_eq_false hn0]
                  have i0 : ((n : Int) == 1) = false := by simp; omega
                  go_enter Try.func85, Try.ntmps85
                  go_wp2
                  go_ret
                  exact ⟨rfl, (Below.refl _ _).alloc (Nat.le_refl _) _⟩
              · have b6 : (k == 6) = false := by simpa using k6
                by_cases k8 : k = 8
                · subst k8
                  by_cases hn1 : n ≠ 1
                  · have i1 : ((n : Int) == 1) = false := by simp; omega
                    have i2 : ¬ (n : Int) = 1 := by omega
                    have i3 : ((n : Int) != 1) = true := by simp; omega
                    have B2 : Below w.heap.size w ((w.alloc (.cells #[.int .i64 8, .int .u8 (c : Int), .int .u64 (x0 : Int), .int .u64 x1, .int .u64 x2, .int .u64 x3, .int .i64 nn, .int .i64 lo, .int .i64 hi, .slice av n cp] 55)).alloc (.cells #[.int .i64 8] 3)) := ((Below.refl _ _).alloc (Nat.le_refl _) _).alloc (by simp) _
                    have hz1 : (w.alloc (.cells #[.int .i64 8, .int .u8 (c : Int), .int .u64 (x0 : Int), .int .u64 x1, .int .u64 x2, .int .u64 x3, .int .i64 nn, .int .i64 lo, .int .i64 hi, .slice av n cp] 55)).heap.size = w.heap.size + 1 := by simp
                    have hr : ((w.alloc (.cells #[.int .i64 8, .int .u8 (c : Int), .int .u64 (x0 : Int), .int .u64 x1, .int .u64 x2, .int .u64 x3, .int .i64 nn, .int .i64 lo, .int .i64 hi, .slice av n cp] 55)).alloc (.cells #[.int .i64 8] 3)).rangeAt (w.heap.size + 1) 0 (([8] : List Int).map (Value.int .i64)) := fun j v hv => by
                      have q := heap_alloc_last (w.alloc (.cells #[.int .i64 8, .int .u8 (c : Int), .int .u64 (x0 : Int), .int .u64 x1, .int .u64 x2, .int .u64 x3, .int .i64 nn, .int .i64 lo, .int .i64 hi, .slice av n cp] 55)) (.cells #[.int .i64 8] 3)
                      rw [hz1] at q
                      rw [Nat.zero_add]
                      exact row_cell q (by simpa using hv)
                    have CALL : Hid (Calls Try.prog 103 #[.slice av n cp, .slice (some ⟨w.heap.size + 1, 0, none⟩) 1 1] ((w.alloc (.cells #[.int .i64 8, .int .u8 (c : Int), .int .u64 (x0 : Int), .int .u64 x1, .int .u64 x2, .int .u64 x3, .int .i64 nn, .int .i64 lo, .int .i64 hi, .slice av n cp] 55)).alloc (.cells #[.int .i64 8] 3)) fun e w' => e = .returned (.bool (hasK [8] l)) ∧ Below w.heap.size w w') :=
                      (hasKind_any [8] (w.heap.size + 1) 1 l (.slice av n cp) _ (HS.out.below B2) hr (by simp) (Nat.le_refl _) (by simp)).mono fun e w' ⟨q1, q2⟩ => ⟨q1, B2.trans (q2.mono (by simp; omega))⟩
                    have HE : Hid (partsB 8 l = !hasK [8] l) := by unfold Hid partsB; rw [← HN.out]; first | (simp; done) | (simp; omega)
                    rw [HE.out]
                    generalize hasK [8] l = R at *
                    clear B2 hr hz1 HE
                    go_enter Try.func85, Try.ntmps85
                    go_wp2_with (go_at_call 103; refine CALL.out.mono ?_; rintro e w' ⟨rfl, b1⟩)
                    go_ret
                    exact ⟨ret_bool (by first | rfl | (rw [i3]; rfl)), b1⟩
                  · obtain rfl : n = 1 := by omega
                    have HE : Hid (partsB 8 l = false) := by unfold Hid partsB; rw [← HN.out]; first | (simp; done) | (simp; omega)
                    rw [HE.out]
                    clear HE
                    go_enter Try.func85, Try.ntmps85
                    go_wp2
                    go_ret
                    exact ⟨rfl, (Below.refl _ _).alloc (Nat.le_refl _) _⟩
                · have b8 : (k == 8) = false := by simpa using k8
                  by_cases k9 : k = 9
                  · subst k9
                    by_cases hn1 : 2 ≤ n
                    · have i1 : (2 : Int) ≤ (n : Int) := by omega
                      have B2 : Below w.heap.size w ((w.alloc (.cells #[.int .i64 9, .int .u8 (c : Int), .int .u64 (x0 : Int), .int .u64 x1, .int .u64 x2, .int .u64 x3, .int .i64 nn, .int .i64 lo, .int .i64 hi, .slice av n cp] 55)).alloc (.cells #[.int .i64 9] 3)) := ((Below.refl _ _).alloc (Nat.le_refl _) _).alloc (by simp) _
                      have hz1 : (w.alloc (.cells #[.int .i64 9, .int .u8 (c : Int), .int .u64 (x0 : Int), .int .u64 x1, .int .u64 x2, .int .u64 x3, .int .i64 nn, .int .i64 lo, .int .i64 hi, .slice av n cp] 55)).heap.size = w.heap.size + 1 := by simp
                      have hr : ((w.alloc (.cells #[.int .i64 9, .int .u8 (c : Int), .int .u64 (x0 : Int), .int .u64 x1, .int .u64 x2, .int .u64 x3, .int .i64 nn, .int .i64 lo, .int .i64 hi, .slice av n cp] 55)).alloc (.cells #[.int .i64 9] 3)).rangeAt (w.heap.size + 1) 0 (([9] : List Int).map (Value.int .i64)) := fun j v hv => by
                        have q := heap_alloc_last (w.alloc (.cells #[.int .i64 9, .int .u8 (c : Int), .int .u64 (x0 : Int), .int .u64 x1, .int .u64 x2, .int .u64 x3, .int .i64 nn, .int .i64 lo, .int .i64 hi, .slice av n cp] 55)) (.cells #[.int .i64 9] 3)
                        rw [hz1] at q
                        rw [Nat.zero_add]
                        exact row_cell q (by simpa using hv)
                      have CALL : Hid (Calls Try.prog 103 #[.slice av n cp, .slice (some ⟨w.heap.size + 1, 0, none⟩) 1 1] ((w.alloc (.cells #[.int .i64 9, .int .u8 (c : Int), .int .u64 (x0 : Int), .int .u64 x1, .int .u64 x2, .int .u64 x3, .int .i64 nn, .int .i64 lo, .int .i64 hi, .slice av n cp] 55)).alloc (.cells #[.int .i64 9] 3)) fun e w' => e = .returned (.bool (hasK [9] l)) ∧ Below w.heap.size w w') :=
                        (hasKind_any [9] (w.heap.size + 1) 1 l (.slice av n cp) _ (HS.out.below B2) hr (by simp) (Nat.le_refl _) (by simp)).mono fun e w' ⟨q1, q2⟩ => ⟨q1, B2.trans (q2.mono (by simp; omega))⟩
                      have HE : Hid (partsB 9 l = !hasK [9] l) := by unfold Hid partsB; rw [← HN.out]; first | (simp; done) | (simp; omega)
                      rw [HE.out]
                      generalize hasK [9] l = R at *
                      clear B2 hr hz1 HE
                      go_enter Try.func85, Try.ntmps85
                      go_wp2_with (go_at_call 103; refine CALL.out.mono ?_; rintro e w' ⟨rfl, b1⟩)
                      go_ret
                      exact ⟨ret_bool (by first | rfl | (rw [i3]; rfl)), b1⟩
                    · have i1 : ¬ (2 : Int) ≤ (n : Int) := by omega
                      have HE : Hid (partsB 9 l = false) := by unfold Hid partsB; rw [← HN.out]; first | (simp; done) | (simp; omega)
                      rw [HE.out]
                      clear HE
                      go_enter Try.func85, Try.ntmps85
                      go_wp2
                      go_ret
                      exact ⟨rfl, (Below.refl _ _).alloc (Nat.le_refl _) _⟩
                  · have b9 : (k == 9) = false := by simpa using k9
                    by_cases k10 : k = 10
                    · subst k10
                      by_cases hn1 : n = 1
                      · subst hn1
                        have B2 : Below w.heap.size w ((w.alloc (.cells #[.int .i64 10, .int .u8 (c : Int), .int .u64 (x0 : Int), .int .u64 x1, .int .u64 x2, .int .u64 x3, .int .i64 nn, .int .i64 lo, .int .i64 hi, .slice av 1 cp] 55)).alloc (.cells #[.int .i64 4, .int .i64 5, .int .i64 10] 3)) := ((Below.refl _ _).alloc (Nat.le_refl _) _).alloc (by simp) _
                        have hz1 : (w.alloc (.cells #[.int .i64 10, .int .u8 (c : Int), .int .u64 (x0 : Int), .int .u64 x1, .int .u64 x2, .int .u64 x3, .int .i64 nn, .int .i64 lo, .int .i64 hi, .slice av 1 cp] 55)).heap.size = w.heap.size + 1 := by simp
                        have hr : ((w.alloc (.cells #[.int .i64 10, .int .u8 (c : Int), .int .u64 (x0 : Int), .int .u64 x1, .int .u64 x2, .int .u64 x3, .int .i64 nn, .int .i64 lo, .int .i64 hi, .slice av 1 cp] 55)).alloc (.cells #[.int .i64 4, .int .i64 5, .int .i64 10] 3)).rangeAt (w.heap.size + 1) 0 (([4, 5, 10] : List Int).map (Value.int .i64)) := fun j v hv => by
                          have q := heap_alloc_last (w.alloc (.cells #[.int .i64 10, .int .u8 (c : Int), .int .u64 (x0 : Int), .int .u64 x1, .int .u64 x2, .int .u64 x3, .int .i64 nn, .int .i64 lo, .int .i64 hi, .slice av 1 cp] 55)) (.cells #[.int .i64 4, .int .i64 5, .int .i64 10] 3)
                          rw [hz1] at q
                          rw [Nat.zero_add]
                          exact row_cell q (by simpa using hv)
                        have CALL : Hid (Calls Try.prog 103 #[.slice av 1 cp, .slice (some ⟨w.heap.size + 1, 0, none⟩) 3 3] ((w.alloc (.cells #[.int .i64 10, .int .u8 (c : Int), .int .u64 (x0 : Int), .int .u64 x1, .int .u64 x2, .int .u64 x3, .int .i64 nn, .int .i64 lo, .int .i64 hi, .slice av 1 cp] 55)).alloc (.cells #[.int .i64 4, .int .i64 5, .int .i64 10] 3)) fun e w' => e = .returned (.bool (hasK [4, 5, 10] l)) ∧ Below w.heap.size w w') :=
                          (hasKind_any [4, 5, 10] (w.heap.size + 1) 3 l (.slice av 1 cp) _ (HS.out.below B2) hr (by simp) (Nat.le_refl _) (by simp)).mono fun e w' ⟨q1, q2⟩ => ⟨q1, B2.trans (q2.mono (by simp; omega))⟩
                        have HE : Hid (partsB 10 l = !hasK [4, 5, 10] l) := by unfold Hid partsB; rw [← HN.out]; first | (simp; done) | (simp; omega)
                        rw [HE.out]
                        generalize hasK [4, 5, 10] l = R at *
                        clear B2 hr hz1 HE
                        go_enter Try.func85, Try.ntmps85
                        go_wp2_with (go_at_call 103; refine CALL.out.mono ?_; rintro e w' ⟨rfl, b1⟩)
                        go_ret
                        exact ⟨ret_bool (by first | rfl | (rw [i3]; rfl)), b1⟩
                      · have i1 : ((n : Int) == 1) = false := by simp; omega
                        have i2 : ¬ (n : Int) = 1 := by omega
                        have HE : Hid (partsB 10 l = false) := by unfold Hid partsB; rw [← HN.out]; first | (simp; done) | (simp; omega)
                        rw [HE.out]
                        clear HE
                        go_enter Try.func85, Try.ntmps85
                        go_wp2
                        go_ret
                        exact ⟨rfl, (Below.refl _ _).alloc (Nat.le_refl _) _⟩
                    · have b10 : (k == 10) = false := by simpa using k10
                      have HE : Hid (partsB k l = false) := by unfold Hid partsB; rw [if_neg (by omega), if_neg (by omega), if_neg (by omega), if_neg (by omega), if_neg (by omega)]
                      rw [HE.out]
                      clear HE
                      go_enter Try.func85, Try.ntmps85
                      go_wp2
                      go_ret
                      exact ⟨rfl, (Below.refl _ _).alloc (Nat.le_refl _) _⟩
end Go.Proofs.Ytndmjndokokmnaa
