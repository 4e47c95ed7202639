import Derived.Test.YtaoobmpjlagkpaaFg
namespace Go.Proofs.Ytaoobmpjlagkpaa
set_option linter.unusedSimpArgs false
set_option linter.unusedVariables false
open Go.RowKit
open Go.Deep
set_option maxHeartbeats 8000000 in
set_option maxRecDepth 100000 in
theorem plain_9 (c x0 : Nat) (x1 x2 x3 nn lo hi : Int) (av : Option Addr) (n cp : Nat) (l : List T) (HN : Hid (n = l.length)) (hn : n ≤ 9223372036854775807) (w : World) :
    Calls Try.prog 76 #[vN ⟨9, c, x0, x1, x2, x3, nn, lo, hi⟩ (.slice av n cp)] w fun e w' => e = .returned (.bool (plainB ⟨9, c, x0, x1, x2, x3, nn, lo, hi⟩ l)) ∧ Below w.heap.size w w' := by
  by_cases qc : c = 0
  · subst qc
    by_cases qs : x0 = 0 ∧ x1 = 0 ∧ x2 = 0 ∧ x3 = 0
    · obtain ⟨rfl, rfl, rfl, rfl⟩ := qs
      by_cases qn : nn = 0
      · subst qn
        by_cases qlo : lo = 0
        · subst qlo
          by_cases qhi : hi = 0
          · subst qhi
            change Calls Try.prog 76 #[.agg #[.int .i64 9, .int .u8 0, .int .u64 0, .int .u64 0, .int .u64 0, .int .u64 0, .int .i64 0, .int .i64 0, .int .i64 0, .slice av n cp]] w _
            have HE : Hid (plainB ⟨9, 0, 0, 0, 0, 0, 0, 0, 0⟩ l = true) := by
              unfold Hid plainB
              rw [← HN.out, (sameH_iff _ _).2 (by simp [needH])]
              simp
            have heq : ∀ W, (Op.equalIn 10000 24 (.agg #[.int .u64 0, .int .u64 0, .int .u64 0, .int .u64 0]) (.agg #[.int .u64 0, .int .u64 0, .int .u64 0, .int .u64 0])).run Try.prog W = .ok true W := fun W => by rw [eqS24]; simp
            rw [HE.out]
            clear HE
            go_enter Try.func76, Try.ntmps76
            go_wp2
            go_ret
            exact ⟨ret_bool (by first | rfl | simp), (by first | exact ((Below.refl _ _).alloc (Nat.le_refl _) _).alloc (by simp) _ | exact BX)⟩
          · have HE : Hid (plainB ⟨9, 0, 0, 0, 0, 0, 0, 0, hi⟩ l = false) := by
              unfold Hid plainB
              rw [Bool.eq_false_iff]
              intro e
              simp only [Bool.and_eq_true] at e
              have e2 := (sameH_iff _ _).1 e.1.2
              simp [needH] at e2
              omega
            have rhi : ((0 : Int) == hi) = false := by simp; omega
            have shi : ¬ (0 : Int) = hi := by omega
            change Calls Try.prog 76 #[.agg #[.int .i64 9, .int .u8 0, .int .u64 0, .int .u64 0, .int .u64 0, .int .u64 0, .int .i64 0, .int .i64 0, .int .i64 hi, .slice av n cp]] w _
            have heq : ∀ W, (Op.equalIn 10000 24 (.agg #[.int .u64 0, .int .u64 0, .int .u64 0, .int .u64 0]) (.agg #[.int .u64 0, .int .u64 0, .int .u64 0, .int .u64 0])).run Try.prog W = .ok true W := fun W => by rw [eqS24]; simp
            rw [HE.out]
            clear HE
            go_enter Try.func76, Try.ntmps76
            go_wp2
            go_ret
            exact ⟨ret_bool (by first | rfl | simp), (by first | exact ((Below.refl _ _).alloc (Nat.le_refl _) _).alloc (by simp) _ | exact BX)⟩
        · have HE : Hid (plainB ⟨9, 0, 0, 0, 0, 0, 0, lo, hi⟩ l = false) := by
            unfold Hid plainB
            rw [Bool.eq_false_iff]
            intro e
            simp only [Bool.and_eq_true] at e
            have e2 := (sameH_iff _ _).1 e.1.2
            simp [needH] at e2
            omega
          have rlo : ((0 : Int) == lo) = false := by simp; omega
          have slo : ¬ (0 : Int) = lo := by omega
          change Calls Try.prog 76 #[.agg #[.int .i64 9, .int .u8 0, .int .u64 0, .int .u64 0, .int .u64 0, .int .u64 0, .int .i64 0, .int .i64 lo, .int .i64 hi, .slice av n cp]] w _
          have heq : ∀ W, (Op.equalIn 10000 24 (.agg #[.int .u64 0, .int .u64 0, .int .u64 0, .int .u64 0]) (.agg #[.int .u64 0, .int .u64 0, .int .u64 0, .int .u64 0])).run Try.prog W = .ok true W := fun W => by rw [eqS24]; simp
          rw [HE.out]
          clear HE
          go_enter Try.func76, Try.ntmps76
          go_wp2
          go_ret
          exact ⟨ret_bool (by first | rfl | simp), (by first | exact ((Below.refl _ _).alloc (Nat.le_refl _) _).alloc (by simp) _ | exact BX)⟩
      · have HE : Hid (plainB ⟨9, 0, 0, 0, 0, 0, nn, lo, hi⟩ l = false) := by
          unfold Hid plainB
          rw [Bool.eq_false_iff]
          intro e
          simp only [Bool.and_eq_true] at e
          have e2 := (sameH_iff _ _).1 e.1.2
          simp [needH] at e2
          omega
        have rn : ((0 : Int) == nn) = false := by simp; omega
        have sn : ¬ (0 : Int) = nn := by omega
        change Calls Try.prog 76 #[.agg #[.int .i64 9, .int .u8 0, .int .u64 0, .int .u64 0, .int .u64 0, .int .u64 0, .int .i64 nn, .int .i64 lo, .int .i64 hi, .slice av n cp]] w _
        have heq : ∀ W, (Op.equalIn 10000 24 (.agg #[.int .u64 0, .int .u64 0, .int .u64 0, .int .u64 0]) (.agg #[.int .u64 0, .int .u64 0, .int .u64 0, .int .u64 0])).run Try.prog W = .ok true W := fun W => by rw [eqS24]; simp
        rw [HE.out]
        clear HE
        go_enter Try.func76, Try.ntmps76
        go_wp2
        go_ret
        exact ⟨ret_bool (by first | rfl | simp), (by first | exact ((Below.refl _ _).alloc (Nat.le_refl _) _).alloc (by simp) _ | exact BX)⟩
    · change Calls Try.prog 76 #[.agg #[.int .i64 9, .int .u8 0, .int .u64 ((x0 : Nat) : Int), .int .u64 x1, .int .u64 x2, .int .u64 x3, .int .i64 nn, .int .i64 lo, .int .i64 hi, .slice av n cp]] w _
      have HE : Hid (plainB ⟨9, 0, x0, x1, x2, x3, nn, lo, hi⟩ l = false) := by
        unfold Hid plainB
        rw [Bool.eq_false_iff]
        intro e
        simp only [Bool.and_eq_true] at e
        have e2 := (sameH_iff _ _).1 e.1.2
        simp [needH] at e2
        omega
      have heq : ∀ W, (Op.equalIn 10000 24 (.agg #[.int .u64 0, .int .u64 0, .int .u64 0, .int .u64 0]) (.agg #[.int .u64 ((x0 : Nat) : Int), .int .u64 x1, .int .u64 x2, .int .u64 x3])).run Try.prog W = .ok false W := fun W => by rw [eqS24]; congr 1; simp; omega
      rw [HE.out]
      clear HE
      go_enter Try.func76, Try.ntmps76
      go_wp2
      go_ret
      exact ⟨ret_bool (by first | rfl | simp), (by first | exact ((Below.refl _ _).alloc (Nat.le_refl _) _).alloc (by simp) _ | exact BX)⟩
  · have HE : Hid (plainB ⟨9, c, x0, x1, x2, x3, nn, lo, hi⟩ l = false) := by
      unfold Hid plainB
      rw [Bool.eq_false_iff]
      intro e
      simp only [Bool.and_eq_true] at e
      have e2 := (sameH_iff _ _).1 e.1.2
      simp [needH] at e2
      omega
    have rc : ((0 : Int) == ((c : Nat) : Int)) = false := by simp; omega
    have sc : ¬ (0 : Int) = ((c : Nat) : Int) := by omega
    change Calls Try.prog 76 #[.agg #[.int .i64 9, .int .u8 ((c : Nat) : Int), .int .u64 ((x0 : Nat) : Int), .int .u64 x1, .int .u64 x2, .int .u64 x3, .int .i64 nn, .int .i64 lo, .int .i64 hi, .slice av n cp]] w _
    rw [HE.out]
    clear HE
    go_enter Try.func76, Try.ntmps76
    go_wp2
    go_ret
    exact ⟨ret_bool (by first | rfl | simp), (by first | exact ((Below.refl _ _).alloc (Nat.le_refl _) _).alloc (by simp) _ | exact BX)⟩
end Go.Proofs.Ytaoobmpjlagkpaa
