import Derived.Test.YtaoobmpjlagkpaaEb
namespace Go.Proofs.Ytaoobmpjlagkpaa
set_option linter.unusedSimpArgs false
set_option linter.unusedVariables false
open Go.RowKit
open Go.Deep
set_option maxHeartbeats 4000000 in
set_option maxRecDepth 100000 in
theorem rsame_no (h g : Hd) (av bv : Option Addr) (n cp n2 cq : Nat) (hs : sameH h g = false) (w : World) : Calls Try.prog 41 #[vN h (.slice av n cp), vN g (.slice bv n2 cq)] w fun e w' => e = .returned (.bool false) ∧ Below w.heap.size w w' := by
  obtain ⟨k, c, x0, x1, x2, x3, nn, lo, hi⟩ := h
  obtain ⟨k', c', y0, y1, y2, y3, nn', lo', hi'⟩ := g
  change Calls Try.prog 41 #[.agg #[.int .i64 k, .int .u8 (c : Int), .int .u64 (x0 : Int), .int .u64 x1, .int .u64 x2, .int .u64 x3, .int .i64 nn, .int .i64 lo, .int .i64 hi, .slice av n cp], .agg #[.int .i64 k', .int .u8 (c' : Int), .int .u64 (y0 : Int), .int .u64 y1, .int .u64 y2, .int .u64 y3, .int .i64 nn', .int .i64 lo', .int .i64 hi', .slice bv n2 cq]] w _
  by_cases q0 : k = k'
  · subst q0
    by_cases q1 : c = c'
    · subst q1
      by_cases q2 : x0 = y0 ∧ x1 = y1 ∧ x2 = y2 ∧ x3 = y3
      · obtain ⟨rfl, rfl, rfl, rfl⟩ := q2
        have heq : ∀ W, (Op.equalIn 10000 24 (.agg #[.int .u64 ((x0 : Nat) : Int), .int .u64 x1, .int .u64 x2, .int .u64 x3]) (.agg #[.int .u64 ((x0 : Nat) : Int), .int .u64 x1, .int .u64 x2, .int .u64 x3])).run Try.prog W = .ok true W := fun W => by rw [eqS24]; simp
        by_cases q3 : nn = nn'
        · subst q3
          by_cases q4 : lo = lo'
          · subst q4
            by_cases q5 : hi = hi'
            · subst q5
              rw [(sameH_iff _ _).2 rfl] at hs; cases hs
            · have r5 : (hi == hi') = false := by simp; omega
              have s5 : ¬ hi = hi' := by omega
              have HE : Hid (sameH ⟨k, c, x0, x1, x2, x3, nn, lo, hi⟩ ⟨k, c, x0, x1, x2, x3, nn, lo, hi'⟩ = false) := by unfold Hid; rw [Bool.eq_false_iff]; intro e; have := (sameH_iff _ _).1 e; simp only [Hd.mk.injEq] at this; omega
              clear q5
              clear hs HE
              go_enter Try.func41, Try.ntmps41
              go_wp2
              go_ret
              exact ⟨rfl, ((Below.refl _ _).alloc (Nat.le_refl _) _).alloc (by simp) _⟩
          · have r4 : (lo == lo') = false := by simp; omega
            have s4 : ¬ lo = lo' := by omega
            have HE : Hid (sameH ⟨k, c, x0, x1, x2, x3, nn, lo, hi⟩ ⟨k, c, x0, x1, x2, x3, nn, lo', hi'⟩ = false) := by unfold Hid; rw [Bool.eq_false_iff]; intro e; have := (sameH_iff _ _).1 e; simp only [Hd.mk.injEq] at this; omega
            clear q4
            clear hs HE
            go_enter Try.func41, Try.ntmps41
            go_wp2
            go_ret
            exact ⟨rfl, ((Below.refl _ _).alloc (Nat.le_refl _) _).alloc (by simp) _⟩
        · have r3 : (nn == nn') = false := by simp; omega
          have s3 : ¬ nn = nn' := by omega
          have HE : Hid (sameH ⟨k, c, x0, x1, x2, x3, nn, lo, hi⟩ ⟨k, c, x0, x1, x2, x3, nn', lo', hi'⟩ = false) := by unfold Hid; rw [Bool.eq_false_iff]; intro e; have := (sameH_iff _ _).1 e; simp only [Hd.mk.injEq] at this; omega
          clear q3
          clear hs HE
          go_enter Try.func41, Try.ntmps41
          go_wp2
          go_ret
          exact ⟨rfl, ((Below.refl _ _).alloc (Nat.le_refl _) _).alloc (by simp) _⟩
      · have heq : ∀ W, (Op.equalIn 10000 24 (.agg #[.int .u64 ((x0 : Nat) : Int), .int .u64 x1, .int .u64 x2, .int .u64 x3]) (.agg #[.int .u64 ((y0 : Nat) : Int), .int .u64 y1, .int .u64 y2, .int .u64 y3])).run Try.prog W = .ok false W := fun W => by rw [eqS24]; congr 1; simp; try omega
        have HE : Hid (sameH ⟨k, c, x0, x1, x2, x3, nn, lo, hi⟩ ⟨k, c, y0, y1, y2, y3, nn', lo', hi'⟩ = false) := by unfold Hid; rw [Bool.eq_false_iff]; intro e; have := (sameH_iff _ _).1 e; simp only [Hd.mk.injEq] at this; omega
        clear q2
        clear hs HE
        go_enter Try.func41, Try.ntmps41
        go_wp2
        go_ret
        exact ⟨rfl, ((Below.refl _ _).alloc (Nat.le_refl _) _).alloc (by simp) _⟩
    · have r1 : (((c : Nat) : Int) == ((c' : Nat) : Int)) = false := by simp; omega
      have s1 : ¬ ((c : Nat) : Int) = ((c' : Nat) : Int) := by omega
      have HE : Hid (sameH ⟨k, c, x0, x1, x2, x3, nn, lo, hi⟩ ⟨k, c', y0, y1, y2, y3, nn', lo', hi'⟩ = false) := by unfold Hid; rw [Bool.eq_false_iff]; intro e; have := (sameH_iff _ _).1 e; simp only [Hd.mk.injEq] at this; omega
      clear q1
      clear hs HE
      go_enter Try.func41, Try.ntmps41
      go_wp2
      go_ret
      exact ⟨rfl, ((Below.refl _ _).alloc (Nat.le_refl _) _).alloc (by simp) _⟩
  · have r0 : (k == k') = false := by simp; omega
    have s0 : ¬ k = k' := by omega
    have HE : Hid (sameH ⟨k, c, x0, x1, x2, x3, nn, lo, hi⟩ ⟨k', c', y0, y1, y2, y3, nn', lo', hi'⟩ = false) := by unfold Hid; rw [Bool.eq_false_iff]; intro e; have := (sameH_iff _ _).1 e; simp only [Hd.mk.injEq] at this; omega
    clear q0
    clear hs HE
    go_enter Try.func41, Try.ntmps41
    go_wp2
    go_ret
    exact ⟨rfl, ((Below.refl _ _).alloc (Nat.le_refl _) _).alloc (by simp) _⟩
end Go.Proofs.Ytaoobmpjlagkpaa
