import Derived.Test.YtnhbjjjoocpedaaWa
namespace Go.Proofs.Ytnhbjjjoocpedaa
set_option linter.unusedSimpArgs false
set_option linter.unusedVariables false
open Go.RowKit
theorem and_one (a : BitVec 64) (k : Nat) (h : k < 64) : (bits .and .u64 ((a.toNat : Int) / 2 ^ k) 1 == 1) = a.getLsbD k := by
  have e : ((a.toNat : Int) / 2 ^ k) = ((a.toNat / 2 ^ k : Nat) : Int) := by rw [Int.natCast_ediv]; simp
  have hlt : a.toNat / 2 ^ k < 18446744073709551616 := Nat.lt_of_le_of_lt (Nat.div_le_self _ _) a.isLt
  rw [e, show (1 : Int) = ((1 : Nat) : Int) from rfl, u64_and_nat _ _ hlt (by decide), Nat.and_one_is_mod]
  rw [← BitVec.testBit_toNat, Nat.testBit_eq_decide_div_mod_eq, Bool.eq_iff_iff]
  simp only [beq_iff_eq, decide_eq_true_eq]; omega
theorem has_word0 (s : S4) (x0 x1 x2 x3 : Int) (hs : Hid (SV s x0 x1 x2 x3)) (c : Nat) (hc : c < 256) (h : c < 64) : Hid ((bits .and .u64 (x0 / 2 ^ (c % 64)) 1 == 1) = s.has c) := by
  obtain ⟨rfl, rfl, rfl, rfl⟩ := hs.out
  unfold Hid S4.has
  rw [if_pos h]
  rw [and_one _ _ (by omega), show c % 64 = c by omega]
theorem has_word1 (s : S4) (x0 x1 x2 x3 : Int) (hs : Hid (SV s x0 x1 x2 x3)) (c : Nat) (hc : c < 256) (h : 64 ≤ c ∧ c < 128) : Hid ((bits .and .u64 (x1 / 2 ^ (c % 64)) 1 == 1) = s.has c) := by
  obtain ⟨rfl, rfl, rfl, rfl⟩ := hs.out
  unfold Hid S4.has
  rw [if_neg (by omega), if_pos (by omega)]
  rw [and_one _ _ (by omega), show c % 64 = c - 64 by omega]
theorem has_word2 (s : S4) (x0 x1 x2 x3 : Int) (hs : Hid (SV s x0 x1 x2 x3)) (c : Nat) (hc : c < 256) (h : 128 ≤ c ∧ c < 192) : Hid ((bits .and .u64 (x2 / 2 ^ (c % 64)) 1 == 1) = s.has c) := by
  obtain ⟨rfl, rfl, rfl, rfl⟩ := hs.out
  unfold Hid S4.has
  rw [if_neg (by omega), if_neg (by omega), if_pos (by omega)]
  rw [and_one _ _ (by omega), show c % 64 = c - 128 by omega]
theorem has_word3 (s : S4) (x0 x1 x2 x3 : Int) (hs : Hid (SV s x0 x1 x2 x3)) (c : Nat) (hc : c < 256) (h : 192 ≤ c) : Hid ((bits .and .u64 (x3 / 2 ^ (c % 64)) 1 == 1) = s.has c) := by
  obtain ⟨rfl, rfl, rfl, rfl⟩ := hs.out
  unfold Hid S4.has
  rw [if_neg (by omega), if_neg (by omega), if_neg (by omega)]
  rw [and_one _ _ (by omega), show c % 64 = c - 192 by omega]
set_option maxHeartbeats 2000000 in
set_option maxRecDepth 100000 in
theorem has_any10 (s : S4) (x0 x1 x2 x3 : Int) (hs : SV s x0 x1 x2 x3) (c : Nat) (w : World) (hc : c < 256) :
    Calls Try.prog 10 #[.agg #[.int .u64 x0, .int .u64 x1, .int .u64 x2, .int .u64 x3], .int .u8 c] w fun e w' => e = .returned (.bool (s.has c)) ∧ Below w.heap.size w w' := by
  have HS : Hid (SV s x0 x1 x2 x3) := hs
  clear hs
  rcases (show c < 64 ∨ (64 ≤ c ∧ c < 128) ∨ (128 ≤ c ∧ c < 192) ∨ 192 ≤ c by omega) with h | h | h | h
  · have hq : (c : Int) / 64 = 0 := by omega
    have hb := has_word0 s x0 x1 x2 x3 HS c hc h
    clear h
    go_enter Try.func10, Try.ntmps10
    go_wp2
    go_ret
    exact ⟨by rw [hb.out]; rfl, (Below.refl _ _).alloc (Nat.le_refl _) _⟩
  · have hq : (c : Int) / 64 = 1 := by omega
    have hb := has_word1 s x0 x1 x2 x3 HS c hc h
    clear h
    go_enter Try.func10, Try.ntmps10
    go_wp2
    go_ret
    exact ⟨by rw [hb.out]; rfl, (Below.refl _ _).alloc (Nat.le_refl _) _⟩
  · have hq : (c : Int) / 64 = 2 := by omega
    have hb := has_word2 s x0 x1 x2 x3 HS c hc h
    clear h
    go_enter Try.func10, Try.ntmps10
    go_wp2
    go_ret
    exact ⟨by rw [hb.out]; rfl, (Below.refl _ _).alloc (Nat.le_refl _) _⟩
  · have hq : (c : Int) / 64 = 3 := by omega
    have hb := has_word3 s x0 x1 x2 x3 HS c hc h
    clear h
    go_enter Try.func10, Try.ntmps10
    go_wp2
    go_ret
    exact ⟨by rw [hb.out]; rfl, (Below.refl _ _).alloc (Nat.le_refl _) _⟩
set_option maxHeartbeats 2000000 in
set_option maxRecDepth 100000 in
theorem has_any11 (s : S4) (x0 x1 x2 x3 : Int) (hs : SV s x0 x1 x2 x3) (c : Nat) (w : World) (hc : c < 256) :
    Calls Try.prog 11 #[.agg #[.int .u64 x0, .int .u64 x1, .int .u64 x2, .int .u64 x3], .int .u8 c] w fun e w' => e = .returned (.bool (s.has c)) ∧ Below w.heap.size w w' := by
  have HS : Hid (SV s x0 x1 x2 x3) := hs
  clear hs
  rcases (show c < 64 ∨ (64 ≤ c ∧ c < 128) ∨ (128 ≤ c ∧ c < 192) ∨ 192 ≤ c by omega) with h | h | h | h
  · have hq : (c : Int) / 64 = 0 := by omega
    have hb := has_word0 s x0 x1 x2 x3 HS c hc h
    clear h
    go_enter Try.func11, Try.ntmps11
    go_wp2
    go_ret
    exact ⟨by rw [hb.out]; rfl, (Below.refl _ _).alloc (Nat.le_refl _) _⟩
  · have hq : (c : Int) / 64 = 1 := by omega
    have hb := has_word1 s x0 x1 x2 x3 HS c hc h
    clear h
    go_enter Try.func11, Try.ntmps11
    go_wp2
    go_ret
    exact ⟨by rw [hb.out]; rfl, (Below.refl _ _).alloc (Nat.le_refl _) _⟩
  · have hq : (c : Int) / 64 = 2 := by omega
    have hb := has_word2 s x0 x1 x2 x3 HS c hc h
    clear h
    go_enter Try.func11, Try.ntmps11
    go_wp2
    go_ret
    exact ⟨by rw [hb.out]; rfl, (Below.refl _ _).alloc (Nat.le_refl _) _⟩
  · have hq : (c : Int) / 64 = 3 := by omega
    have hb := has_word3 s x0 x1 x2 x3 HS c hc h
    clear h
    go_enter Try.func11, Try.ntmps11
    go_wp2
    go_ret
    exact ⟨by rw [hb.out]; rfl, (Below.refl _ _).alloc (Nat.le_refl _) _⟩
end Go.Proofs.Ytnhbjjjoocpedaa
