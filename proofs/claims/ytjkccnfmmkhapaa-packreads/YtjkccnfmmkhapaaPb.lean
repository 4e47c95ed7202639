import Derived.Test.YtjkccnfmmkhapaaPa
namespace Go.Proofs.Ytjkccnfmmkhapaa
set_option linter.unusedSimpArgs false
set_option linter.unusedVariables false
open Go.RowKit
/-- n has no bytes above its lowest k ones. -/
def fitsB (n : Int) (k : Nat) : Bool := decide (n / 2 ^ (8 * k) = 0)
set_option maxHeartbeats 400000 in
theorem fits_any (n : Int) (k : Nat) (h0 : 0 ≤ n) (h1 : n ≤ 18446744073709551615) (hk : k = 1 ∨ k = 2 ∨ k = 4 ∨ k = 8) (w : World) : Calls Try.prog 31 #[.int .u64 n, .int .i64 k] w fun e w' => e = .returned (.bool (fitsB n k)) ∧ w' = w := by
  rcases hk with rfl | rfl | rfl | rfl
  all_goals
    go_enter Try.func31, Try.ntmps31
    go_wp2
    go_ret
    exact ⟨by unfold fitsB; rfl, rfl⟩
end Go.Proofs.Ytjkccnfmmkhapaa
