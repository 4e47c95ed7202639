import Derived.Test.YtndmjndokokmnaaTi
import Derived.Test.YtndmjndokokmnaaTg
namespace Go.Proofs.Ytndmjndokokmnaa
set_option linter.unusedSimpArgs false
set_option linter.unusedVariables false
open Go.RowKit
open Go.Deep
theorem forIn_seek {β : Type} {P : Program} (w : World) (f : Nat → β → Sem (ForInStep β)) (g : Nat → Bool) (b c : β) : ∀ (n s : Nat), (∀ j, s ≤ j ∧ j < s + n → g j = true → (f j b).run P w = .ok (.yield b) w) → (∀ j, s ≤ j ∧ j < s + n → g j = false → (f j b).run P w = .ok (.done c) w) → (forIn (List.range' s n) b f).run P w = .ok (if (List.range' s n).all g = true then b else c) w
  | 0, s, _, _ => by simp
  | n + 1, s, h1, h2 => by
    rw [List.range'_succ, List.forIn_cons, Sem.run_bind]
    cases hg : g s with
    | true =>
      rw [h1 s ⟨by omega, by omega⟩ hg]
      simp only [Result.andThen_ok]
      rw [forIn_seek w f g b c n (s + 1) (fun j hj => h1 j ⟨by omega, by omega⟩) (fun j hj => h2 j ⟨by omega, by omega⟩), List.all_cons, hg, Bool.true_and]
    | false =>
      rw [h2 s ⟨by omega, by omega⟩ hg]
      simp [hg]
def w4 (x0 x1 x2 x3 : Int) (j : Nat) : Int := if j = 0 then x0 else if j = 1 then x1 else if j = 2 then x2 else x3
theorem eqS26 (x0 x1 x2 x3 y0 y1 y2 y3 : Int) (w : World) : (Op.equalIn 10000 26 (.agg #[.int .u64 x0, .int .u64 x1, .int .u64 x2, .int .u64 x3]) (.agg #[.int .u64 y0, .int .u64 y1, .int .u64 y2, .int .u64 y3])).run Try.prog w = .ok (decide (x0 = y0 ∧ x1 = y1 ∧ x2 = y2 ∧ x3 = y3)) w := by
  have hs : (Try.prog.info? 22).map (·.size) = some 1 := by kernel_rfl
  have hagg : (isAgg 22).run Try.prog w = .ok false w := by
    unfold isAgg; rw [Sem.run_bind, run_underlying Try.underlying22 w]; rfl
  cases hi : Try.prog.info? 22 with
  | none => simp [hi] at hs
  | some i =>
    have hz : i.size = 1 := by simpa [hi] using hs
    have hpart : ∀ (x0 x1 x2 x3 : Int) j, j < 4 → (part 22 #[.int .u64 x0, .int .u64 x1, .int .u64 x2, .int .u64 x3] j).run Try.prog w = .ok (.int .u64 (w4 x0 x1 x2 x3 j)) w := fun x0 x1 x2 x3 j hj => by
      have hj' : j = 0 ∨ j = 1 ∨ j = 2 ∨ j = 3 := by omega
      rcases hj' with rfl | rfl | rfl | rfl <;> simp [part, hagg, w4]
    unfold Op.equalIn
    simp only [Sem.run_bind, run_underlying Try.underlying26, Result.andThen_ok]
    have hso : (sizeOf 22).run Try.prog w = .ok 1 w := by simp [sizeOf, typeInfo, hi, hz]
    simp only [hso, Result.andThen_ok, Std.Legacy.Range.forIn_eq_forIn_range']
    rw [show ([:4] : Std.Legacy.Range).size = 4 from rfl, forIn_seek _ _ (fun j => decide (w4 x0 x1 x2 x3 j = w4 y0 y1 y2 y3 j)) (none, ()) (some false, ()) 4 0]
    · have ha : (List.range' 0 4).all (fun j => decide (w4 x0 x1 x2 x3 j = w4 y0 y1 y2 y3 j)) = decide (x0 = y0 ∧ x1 = y1 ∧ x2 = y2 ∧ x3 = y3) := by
        simp [List.range', w4, and_assoc]
      rw [ha]
      by_cases h : x0 = y0 ∧ x1 = y1 ∧ x2 = y2 ∧ x3 = y3 <;> simp [h]
    · intro j hj hg
      have hp := hpart x0 x1 x2 x3 j (by omega)
      have hp2 := hpart y0 y1 y2 y3 j (by omega)
      have he : (Op.equalIn 9999 22 (.int .u64 (w4 x0 x1 x2 x3 j)) (.int .u64 (w4 y0 y1 y2 y3 j))).run Try.prog w = .ok true w := by
        rw [run_equalIn_int w 9998 22 .u64 .u64 _ _ Try.underlying22]
        have := of_decide_eq_true hg
        simp [this]
      simp [Sem.run_bind, hp, hp2, he]
    · intro j hj hg
      have hp := hpart x0 x1 x2 x3 j (by omega)
      have hp2 := hpart y0 y1 y2 y3 j (by omega)
      have he : (Op.equalIn 9999 22 (.int .u64 (w4 x0 x1 x2 x3 j)) (.int .u64 (w4 y0 y1 y2 y3 j))).run Try.prog w = .ok false w := by
        rw [run_equalIn_int w 9998 22 .u64 .u64 _ _ Try.underlying22]
        have := of_decide_eq_false hg
        simp [this]
      simp [Sem.run_bind, hp, hp2, he]
theorem eqS24 (x0 x1 x2 x3 y0 y1 y2 y3 : Int) (w : World) : (Op.equalIn 10000 24 (.agg #[.int .u64 x0, .int .u64 x1, .int .u64 x2, .int .u64 x3]) (.agg #[.int .u64 y0, .int .u64 y1, .int .u64 y2, .int .u64 y3])).run Try.prog w = .ok (decide (x0 = y0 ∧ x1 = y1 ∧ x2 = y2 ∧ x3 = y3)) w := by
  have hs : (Try.prog.info? 22).map (·.size) = some 1 := by kernel_rfl
  have hagg : (isAgg 22).run Try.prog w = .ok false w := by
    unfold isAgg; rw [Sem.run_bind, run_underlying Try.underlying22 w]; rfl
  cases hi : Try.prog.info? 22 with
  | none => simp [hi] at hs
  | some i =>
    have hz : i.size = 1 := by simpa [hi] using hs
    have hpart : ∀ (x0 x1 x2 x3 : Int) j, j < 4 → (part 22 #[.int .u64 x0, .int .u64 x1, .int .u64 x2, .int .u64 x3] j).run Try.prog w = .ok (.int .u64 (w4 x0 x1 x2 x3 j)) w := fun x0 x1 x2 x3 j hj => by
      have hj' : j = 0 ∨ j = 1 ∨ j = 2 ∨ j = 3 := by omega
      rcases hj' with rfl | rfl | rfl | rfl <;> simp [part, hagg, w4]
    unfold Op.equalIn
    simp only [Sem.run_bind, run_underlying Try.underlying24, Result.andThen_ok]
    have hso : (sizeOf 22).run Try.prog w = .ok 1 w := by simp [sizeOf, typeInfo, hi, hz]
    simp only [hso, Result.andThen_ok, Std.Legacy.Range.forIn_eq_forIn_range']
    rw [show ([:4] : Std.Legacy.Range).size = 4 from rfl, forIn_seek _ _ (fun j => decide (w4 x0 x1 x2 x3 j = w4 y0 y1 y2 y3 j)) (none, ()) (some false, ()) 4 0]
    · have ha : (List.range' 0 4).all (fun j => decide (w4 x0 x1 x2 x3 j = w4 y0 y1 y2 y3 j)) = decide (x0 = y0 ∧ x1 = y1 ∧ x2 = y2 ∧ x3 = y3) := by
        simp [List.range', w4, and_assoc]
      rw [ha]
      by_cases h : x0 = y0 ∧ x1 = y1 ∧ x2 = y2 ∧ x3 = y3 <;> simp [h]
    · intro j hj hg
      have hp := hpart x0 x1 x2 x3 j (by omega)
      have hp2 := hpart y0 y1 y2 y3 j (by omega)
      have he : (Op.equalIn 9999 22 (.int .u64 (w4 x0 x1 x2 x3 j)) (.int .u64 (w4 y0 y1 y2 y3 j))).run Try.prog w = .ok true w := by
        rw [run_equalIn_int w 9998 22 .u64 .u64 _ _ Try.underlying22]
        have := of_decide_eq_true hg
        simp [this]
      simp [Sem.run_bind, hp, hp2, he]
    · intro j hj hg
      have hp := hpart x0 x1 x2 x3 j (by omega)
      have hp2 := hpart y0 y1 y2 y3 j (by omega)
      have he : (Op.equalIn 9999 22 (.int .u64 (w4 x0 x1 x2 x3 j)) (.int .u64 (w4 y0 y1 y2 y3 j))).run Try.prog w = .ok false w := by
        rw [run_equalIn_int w 9998 22 .u64 .u64 _ _ Try.underlying22]
        have := of_decide_eq_false hg
        simp [this]
      simp [Sem.run_bind, hp, hp2, he]
set_option maxHeartbeats 2000000 in
set_option maxRecDepth 100000 in
theorem alike_any (h g : Hd) (u v : Value) (w : World) : Calls Try.prog 71 #[vN h u, vN g v] w fun e w' => e = .returned (.bool (sameH h g)) ∧ Below w.heap.size w w' := by
  obtain ⟨k, c, x0, x1, x2, x3, n, lo, hi⟩ := h
  obtain ⟨k', c', y0, y1, y2, y3, n', lo', hi'⟩ := g
  change Calls Try.prog 71 #[.agg #[.int .i64 k, .int .u8 (c : Int), .int .u64 (x0 : Int), .int .u64 x1, .int .u64 x2, .int .u64 x3, .int .i64 n, .int .i64 lo, .int .i64 hi, u], .agg #[.int .i64 k', .int .u8 (c' : Int), .int .u64 (y0 : Int), .int .u64 y1, .int .u64 y2, .int .u64 y3, .int .i64 n', .int .i64 lo', .int .i64 hi', v]] w _
  by_cases q0 : k = k'
  · subst q0
    by_cases q1 : c = c'
    · subst q1
      by_cases q2 : x0 = y0 ∧ x1 = y1 ∧ x2 = y2 ∧ x3 = y3
      · obtain ⟨rfl, rfl, rfl, rfl⟩ := q2
        have heq : ∀ W, (Op.equalIn 10000 26 (.agg #[.int .u64 ((x0 : Nat) : Int), .int .u64 x1, .int .u64 x2, .int .u64 x3]) (.agg #[.int .u64 ((x0 : Nat) : Int), .int .u64 x1, .int .u64 x2, .int .u64 x3])).run Try.prog W = .ok true W := fun W => by rw [eqS26]; simp
        by_cases q3 : n = n'
        · subst q3
          by_cases q4 : lo = lo'
          · subst q4
            by_cases q5 : hi = hi'
            · subst q5
              go_enter Try.func71, Try.ntmps71
              go_wp2
              go_ret
              exact ⟨ret_bool ((sameH_iff _ _).2 rfl).symm, ((Below.refl _ _).alloc (Nat.le_refl _) _).alloc (by simp) _⟩
            · have r5 : (hi == hi') = false := by simp; omega
              have s5 : ¬ hi = hi' := by omega
              have HE : Hid (sameH ⟨k, c, x0, x1, x2, x3, n, lo, hi⟩ ⟨k, c, x0, x1, x2, x3, n, lo, hi'⟩ = false) := by unfold Hid; rw [Bool.eq_false_iff]; intro e; have := (sameH_iff _ _).1 e; simp only [Hd.mk.injEq] at this; omega
              clear q5
              go_enter Try.func71, Try.ntmps71
              go_wp2
              go_ret
              exact ⟨ret_bool (by rw [HE.out]), ((Below.refl _ _).alloc (Nat.le_refl _) _).alloc (by simp) _⟩
          · have r4 : (lo == lo') = false := by simp; omega
            have s4 : ¬ lo = lo' := by omega
            have HE : Hid (sameH ⟨k, c, x0, x1, x2, x3, n, lo, hi⟩ ⟨k, c, x0, x1, x2, x3, n, lo', hi'⟩ = false) := by unfold Hid; rw [Bool.eq_false_iff]; intro e; have := (sameH_iff _ _).1 e; simp only [Hd.mk.injEq] at this; omega
            clear q4
            go_enter Try.func71, Try.ntmps71
            go_wp2
            go_ret
            exact ⟨ret_bool (by rw [HE.out]), ((Below.refl _ _).alloc (Nat.le_refl _) _).alloc (by simp) _⟩
        · have r3 : (n == n') = false := by simp; omega
          have s3 : ¬ n = n' := by omega
          have HE : Hid (sameH ⟨k, c, x0, x1, x2, x3, n, lo, hi⟩ ⟨k, c, x0, x1, x2, x3, n', lo', hi'⟩ = false) := by unfold Hid; rw [Bool.eq_false_iff]; intro e; have := (sameH_iff _ _).1 e; simp only [Hd.mk.injEq] at this; omega
          clear q3
          go_enter Try.func71, Try.ntmps71
          go_wp2
          go_ret
          exact ⟨ret_bool (by rw [HE.out]), ((Below.refl _ _).alloc (Nat.le_refl _) _).alloc (by simp) _⟩
      · have heq : ∀ W, (Op.equalIn 10000 26 (.agg #[.int .u64 ((x0 : Nat) : Int), .int .u64 x1, .int .u64 x2, .int .u64 x3]) (.agg #[.int .u64 ((y0 : Nat) : Int), .int .u64 y1, .int .u64 y2, .int .u64 y3])).run Try.prog W = .ok false W := fun W => by rw [eqS26]; congr 1; simp; try omega
        have HE : Hid (sameH ⟨k, c, x0, x1, x2, x3, n, lo, hi⟩ ⟨k, c, y0, y1, y2, y3, n', lo', hi'⟩ = false) := by unfold Hid; rw [Bool.eq_false_iff]; intro e; have := (sameH_iff _ _).1 e; simp only [Hd.mk.injEq] at this; omega
        clear q2
        go_enter Try.func71, Try.ntmps71
        go_wp2
        go_ret
        exact ⟨ret_bool (by rw [HE.out]), ((Below.refl _ _).alloc (Nat.le_refl _) _).alloc (by simp) _⟩
    · have r1 : (((c : Nat) : Int) == ((c' : Nat) : Int)) = false := by simp; omega
      have s1 : ¬ ((c : Nat) : Int) = ((c' : Nat) : Int) := by omega
      have HE : Hid (sameH ⟨k, c, x0, x1, x2, x3, n, lo, hi⟩ ⟨k, c', y0, y1, y2, y3, n', lo', hi'⟩ = false) := by unfold Hid; rw [Bool.eq_false_iff]; intro e; have := (sameH_iff _ _).1 e; simp only [Hd.mk.injEq] at this; omega
      clear q1
      go_enter Try.func71, Try.ntmps71
      go_wp2
      go_ret
      exact ⟨ret_bool (by rw [HE.out]), ((Below.refl _ _).alloc (Nat.le_refl _) _).alloc (by simp) _⟩
  · have r0 : (k == k') = false := by simp; omega
    have s0 : ¬ k = k' := by omega
    have HE : Hid (sameH ⟨k, c, x0, x1, x2, x3, n, lo, hi⟩ ⟨k', c', y0, y1, y2, y3, n', lo', hi'⟩ = false) := by unfold Hid; rw [Bool.eq_false_iff]; intro e; have := (sameH_iff _ _).1 e; simp only [Hd.mk.injEq] at this; omega
    clear q0
    go_enter Try.func71, Try.ntmps71
    go_wp2
    go_ret
    exact ⟨ret_bool (by rw [HE.out]), ((Below.refl _ _).alloc (Nat.le_refl _) _).alloc (by simp) _⟩
end Go.Proofs.Ytndmjndokokmnaa
