/- The greatest power of two below a number; depths; plain numbers. -/
import Derived.WalkKit
namespace Go.Proofs.YtffhjjgkoapioaaDoor
set_option linter.unusedSimpArgs false
set_option linter.unusedVariables false
open Go
/-- The greatest power of two below n (n at least 2). -/
def halfN (n : Nat) : Nat := 2 ^ Nat.log2 (n - 1)
set_option maxRecDepth 100000 in
theorem halfN_pos (n : Nat) : 0 < halfN n := Nat.two_pow_pos _
set_option maxRecDepth 100000 in
theorem halfN_lt (n : Nat) (h : 2 ≤ n) : halfN n < n := by
  have := Nat.log2_self_le (n := n - 1) (by omega)
  unfold halfN; omega
set_option maxRecDepth 100000 in
theorem halfN_ge (n : Nat) (h : 2 ≤ n) : n ≤ 2 * halfN n := by
  have := Nat.lt_log2_self (n := n - 1)
  unfold halfN
  have e : 2 ^ (Nat.log2 (n - 1) + 1) = 2 * 2 ^ Nat.log2 (n - 1) := by rw [Nat.pow_succ]; omega
  omega
set_option maxRecDepth 100000 in
theorem halfN_of (n j : Nat) (h : 2 ≤ n) (h1 : 2 ^ j < n) (h2 : n ≤ 2 * 2 ^ j) : halfN n = 2 ^ j := by
  unfold halfN
  have e : 2 ^ (j + 1) = 2 * 2 ^ j := by rw [Nat.pow_succ]; omega
  have : Nat.log2 (n - 1) = j := by
    rw [Nat.log2_eq_iff (by omega)]
    omega
  rw [this]
def depthF : Nat → Nat → Nat → Nat
  | 0, _, _ => 0
  | f + 1, n, i => if 2 ≤ n then (if i < halfN n then depthF f (halfN n) i + 1 else depthF f (n - halfN n) (i - halfN n) + 1) else 0
set_option maxRecDepth 100000 in
theorem depthF_more (f g n i : Nat) (hf : n ≤ f) (hg : n ≤ g) : depthF f n i = depthF g n i := by
  induction f generalizing g n i with
  | zero =>
    cases g with
    | zero => rfl
    | succ g => simp [depthF]; omega
  | succ f ih =>
    cases g with
    | zero => simp [depthF]; omega
    | succ g =>
      simp only [depthF]
      by_cases h : 2 ≤ n
      · have hp := halfN_pos n
        have hl := halfN_lt n h
        rw [if_pos h, if_pos h, ih g (halfN n) i (by omega) (by omega), ih g (n - halfN n) (i - halfN n) (by omega) (by omega)]
      · rw [if_neg h, if_neg h]
/-- How many hashes a proof of the i-th one of n has (i below n). -/
def depthN (n i : Nat) : Nat := depthF n n i
set_option maxRecDepth 100000 in
theorem depthN_lo (n i : Nat) (h : 2 ≤ n) (hi : i < halfN n) : depthN n i = depthN (halfN n) i + 1 := by
  have hl := halfN_lt n h
  unfold depthN
  cases n with
  | zero => omega
  | succ m => rw [depthF, if_pos h, if_pos hi, depthF_more m (halfN (m + 1)) (halfN (m + 1)) i (by omega) (Nat.le_refl _)]
set_option maxRecDepth 100000 in
theorem depthN_hi (n i : Nat) (h : 2 ≤ n) (hi : ¬ i < halfN n) : depthN n i = depthN (n - halfN n) (i - halfN n) + 1 := by
  have hp := halfN_pos n
  unfold depthN
  cases n with
  | zero => omega
  | succ m => rw [depthF, if_pos h, if_neg hi, depthF_more m (m + 1 - halfN (m + 1)) _ _ (by omega) (Nat.le_refl _)]
set_option maxRecDepth 100000 in
theorem depthN_one (n i : Nat) (h : n < 2) : depthN n i = 0 := by
  unfold depthN
  cases n with
  | zero => rfl
  | succ m => rw [depthF, if_neg (by omega)]
set_option maxRecDepth 100000 in
theorem depthN_le (n i : Nat) (h : 1 ≤ n) : depthN n i < n := by
  induction n using Nat.strongRecOn generalizing i with
  | _ n ih =>
    by_cases h2 : 2 ≤ n
    · have hp := halfN_pos n
      have hl := halfN_lt n h2
      by_cases hi : i < halfN n
      · rw [depthN_lo n i h2 hi]; have := ih _ hl i hp; omega
      · rw [depthN_hi n i h2 hi]; have := ih (n - halfN n) (by omega) (i - halfN n) (by omega); omega
    · rw [depthN_one n i (by omega)]; omega
end Go.Proofs.YtffhjjgkoapioaaDoor
