import Derived.Test.YtffhjjgkoapioaaDoorSpeg
import Derived.Test.YtffhjjgkoapioaaDoorWo
import Derived.Test.YtffhjjgkoapioaaDoorShelf
namespace Go.Proofs.YtffhjjgkoapioaaDoor
set_option linter.unusedSimpArgs false
set_option linter.unusedVariables false
open Go.RowKit
set_option maxRecDepth 100000 in
set_option maxHeartbeats 400000 in
theorem half_any (n : Nat) (h : 2 ≤ n) (hn : n ≤ 4611686018427387904) (w : World) : Calls Tryd.prog 66 #[.int .i64 n] w fun e w' => e = .returned (.int .i64 (halfN n)) ∧ w' = w := by
  go_enter Tryd.func66, Tryd.ntmps66
  go_wp2
  go_loop [3] (fun k => ∃ j : Nat, 2 ^ j < n ∧ k = .int .i64 ((2 ^ j : Nat) : Int)) (fun k => n - (intOf k).toNat)
  case atStart => exact ⟨0, by omega, rfl⟩
  case round =>
    obtain ⟨j, hj, rfl⟩ := hrel
    have hp := Nat.two_pow_pos j
    have HE : Hid (2 ^ (j + 1) = 2 * 2 ^ j) := by unfold Hid; rw [Nat.pow_succ]; omega
    have HO : Hid (¬ 2 * 2 ^ j < n → halfN n = 2 ^ j) := fun hlt => halfN_of n j h hj (by omega)
    have HM : Hid (2 ^ j < n) := hj
    obtain ⟨x, hx⟩ : ∃ x : Nat, 2 ^ j = x := ⟨_, rfl⟩
    rw [hx] at hj hp HO ⊢
    have HX : Hid (2 ^ j = x) := hx
    clear hx
    by_cases hlt : 2 * x < n
    · go_wp2
      go_round
      case rel => exact ⟨j + 1, by rw [HE.out, HX.out]; exact hlt, by rw [HE.out, HX.out]; go_num⟩
      case measure => simp [intOf]; omega
    · go_wp2
      go_ret
      exact ⟨by rw [HO.out hlt]; rfl, rfl⟩
set_option maxRecDepth 100000 in
theorem bitLen_log (x : Nat) (h : 1 ≤ x) (hx : x < 2 ^ 64) : Lib.bitLen x = Nat.log2 x + 1 := by
  induction x using Nat.strongRecOn with
  | _ x ih =>
    rw [Lib.bitLen_half x (by omega) hx]
    by_cases h2 : 2 ≤ x
    · rw [ih (x / 2) (by omega) (by omega) (by omega), Nat.log2_def x, if_pos h2]; omega
    · obtain rfl : x = 1 := by omega
      decide +kernel
set_option maxRecDepth 100000 in
theorem wrap_pow (j : Nat) (h : j < 62) : wrap64 (2 ^ j) = 2 ^ j := by
  have h1 : 2 ^ j ≤ 2 ^ 61 := Nat.pow_le_pow_right (n := 2) (by omega) (by omega)
  have h2 : ((2 ^ j : Nat) : Int) = (2 : Int) ^ j := by simp
  rw [← h2]
  have h3 := Nat.two_pow_pos j
  unfold wrap64
  omega
set_option maxRecDepth 100000 in
set_option maxHeartbeats 400000 in
theorem left_any (n : Nat) (h : 2 ≤ n) (hn : n ≤ 4611686018427387904) (w : World) : Calls Tryd.prog 65 #[.int .i64 n] w fun e w' => e = .returned (.int .i64 (halfN n)) ∧ w' = w := by
  have hb : Lib.bitLen (n - 1) = Nat.log2 (n - 1) + 1 := bitLen_log (n - 1) (by omega) (by omega)
  have hl : Nat.log2 (n - 1) < 62 := by
    have := Nat.log2_self_le (n := n - 1) (by omega)
    rcases Nat.lt_or_ge (Nat.log2 (n - 1)) 62 with h3 | h3
    · exact h3
    · have := Nat.pow_le_pow_right (n := 2) (by omega) h3
      omega
  have HH : Hid (((halfN n : Nat) : Int) = 2 ^ Nat.log2 (n - 1)) := by unfold Hid halfN; simp
  generalize Nat.log2 (n - 1) = j at *
  have HP : Hid (wrap64 (2 ^ j) = 2 ^ j) := wrap_pow j hl
  have C : Hid (Calls Tryd.prog 81 #[.int .u64 ((n : Int) - 1)] w fun e w' => e = .returned (.int .i64 ((j : Int) + 1)) ∧ w' = w) := by
    have := Tryd.bits_Len ((n : Int) - 1) w (by omega) (by omega)
    rw [show ((n : Int) - 1).toNat = n - 1 by omega, hb] at this
    exact this
  clear hb
  go_enter Tryd.func65, Tryd.ntmps65
  go_wp2_with (go_at_call 81; refine C.out.mono ?_; rintro e w' ⟨rfl, rfl⟩)
  go_ret
  exact ⟨by rw [HH.out]; show Ending.returned (.int .i64 (wrap64 (2 ^ j))) = _; rw [HP.out], rfl⟩
/-- What Depth answers. -/
def depthI (n i : Int) : Int := if i < 0 ∨ n ≤ i ∨ 1073741824 < n then -1 else depthN n.toNat i.toNat
set_option maxRecDepth 100000 in
set_option maxHeartbeats 1000000 in
theorem depth_any (n i : Int) (w : World) : Calls Tryd.prog 40 #[.int .i64 n, .int .i64 i] w fun e w' => e = .returned (.int .i64 (depthI n i)) ∧ w' = w := by
  by_cases hb : i < 0 ∨ n ≤ i ∨ 1073741824 < n
  · have hd : depthI n i = -1 := by unfold depthI; rw [if_pos hb]
    have HD : Hid (depthI n i = -1) := hd
    clear hd
    by_cases h1 : i < 0
    · go_enter Tryd.func40, Tryd.ntmps40
      go_wp2
      go_ret
      exact ⟨by rw [HD.out]; rfl, rfl⟩
    · by_cases h2 : n ≤ i
      · go_enter Tryd.func40, Tryd.ntmps40
        go_wp2
        go_ret
        exact ⟨by rw [HD.out]; rfl, rfl⟩
      · have h3 : 1073741824 < n := by omega
        go_enter Tryd.func40, Tryd.ntmps40
        go_wp2
        go_ret
        exact ⟨by rw [HD.out]; rfl, rfl⟩
  · have hd : depthI n i = depthN n.toNat i.toNat := by unfold depthI; rw [if_neg hb]
    obtain ⟨N, rfl⟩ : ∃ N : Nat, n = N := ⟨n.toNat, by omega⟩
    obtain ⟨I, rfl⟩ : ∃ I : Nat, i = I := ⟨i.toNat, by omega⟩
    have HD : Hid (depthI N I = depthN N I) := by unfold Hid; rw [hd]; simp
    have hI : I < N := by omega
    have hN : N ≤ 1073741824 := by omega
    clear hd hb
    go_enter Tryd.func40, Tryd.ntmps40
    go_wp2
    generalize decide (N ≤ I) = q12
    generalize decide ((I : Int) < 0) = q8
    generalize decide (1073741824 < (N : Int)) = q16
    go_loop [0, 1, 5] (fun x y d => ∃ m j k : Nat, j < m ∧ m ≤ N ∧ x = .int .i64 m ∧ y = .int .i64 j ∧ d = .int .i64 k ∧ Hid (depthN N I = depthN m j + k) ∧ k + m ≤ N) (fun x _ _ => (intOf x).toNat)
    case atStart => exact ⟨N, I, 0, hI, Nat.le_refl _, rfl, rfl, rfl, rfl, by omega⟩
    case round =>
      obtain ⟨m, j, k, hj, hm, rfl, rfl, rfl, HR, hk⟩ := hrel
      by_cases hlt : 2 ≤ m
      · have hp := halfN_pos m
        have hl := halfN_lt m hlt
        have HL : Hid (j < halfN m → depthN m j = depthN (halfN m) j + 1) := depthN_lo m j hlt
        have HH : Hid (¬ j < halfN m → depthN m j = depthN (m - halfN m) (j - halfN m) + 1) := depthN_hi m j hlt
        have C : Hid (∀ w : World, Calls Tryd.prog 65 #[.int .i64 m] w fun e w' => e = .returned (.int .i64 (halfN m)) ∧ w' = w) := fun w => left_any m hlt (by omega) w
        generalize halfN m = x at *
        by_cases hx : j < x
        · go_wp2_with (go_at_call 65; refine (C.out _).mono ?_; rintro e w' ⟨rfl, rfl⟩)
          go_round
          case rel => exact ⟨x, j, k + 1, hx, by omega, rfl, rfl, by go_num, by unfold Hid; rw [HR.out, HL.out hx]; omega, by omega⟩
          case measure => simp [intOf]; omega
        · go_wp2_with (go_at_call 65; refine (C.out _).mono ?_; rintro e w' ⟨rfl, rfl⟩)
          go_round
          case rel => exact ⟨m - x, j - x, k + 1, by omega, by omega, by go_num, by go_num, by go_num, by unfold Hid; rw [HR.out, HH.out hx]; omega, by omega⟩
          case measure => simp [intOf]; omega
      · have HO : Hid (depthN m j = 0) := depthN_one m j (by omega)
        go_wp2
        go_ret
        exact ⟨by rw [HD.out, HR.out, HO.out]; show Ending.returned (.int .i64 k) = _; rw [Nat.zero_add], rfl⟩
end Go.Proofs.YtffhjjgkoapioaaDoor
