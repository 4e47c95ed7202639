import Derived.Test.YtnhbjjjoocpedaaZb
namespace Go.Proofs.Ytnhbjjjoocpedaa
set_option linter.unusedSimpArgs false
set_option linter.unusedVariables false
open Go.RowKit
/-- At k neither [= nor [: stands, as the program's tests tell it. -/
def NoOpen (s : ByteArray) (k : Nat) : Prop :=
  (¬ (2 : Int) ≤ s.size - k) ∨ (∃ h : k < s.size, (2 : Int) ≤ s.size - k ∧ (((s[k]'h).toNat : Int) == 91) = false) ∨
  (∃ (h : k < s.size) (h1 : k + 1 < s.size), (2 : Int) ≤ s.size - k ∧ (k : Int) + 1 < s.size ∧ ((s[k]'h).toNat : Int) = 91 ∧ (((s[k + 1]'h1).toNat : Int) == 61) = false ∧ (((s[k + 1]'h1).toNat : Int) == 58) = false)
/-- The same, one place on, behind a -. -/
def NoOpen3 (s : ByteArray) (n : Nat) : Prop :=
  (¬ (3 : Int) ≤ s.size - n) ∨ (∃ h : n + 1 < s.size, (3 : Int) ≤ s.size - n ∧ (((s[n + 1]'h).toNat : Int) == 91) = false) ∨
  (∃ (h : n + 1 < s.size) (h1 : n + 2 < s.size), (3 : Int) ≤ s.size - n ∧ (n : Int) + 2 < s.size ∧ ((s[n + 1]'h).toNat : Int) = 91 ∧ (((s[n + 2]'h1).toNat : Int) == 61) = false ∧ (((s[n + 2]'h1).toNat : Int) == 58) = false)
theorem v8 (c : UInt8) (n : Nat) (hn : n < 256) (h : c = UInt8.ofNat n) : (c.toNat : Int) = (n : Int) := by rw [h, ofNat8' hn]
theorem noOpen_of (s : ByteArray) (k : Nat) (hp : pre [91, 61] (from_ s k) = false) (hq : pre [91, 58] (from_ s k) = false) : NoOpen s k := by
  by_cases h2 : k + 1 < s.size
  · have h : k < s.size := by omega
    rw [from_cons s k h, from_cons s (k + 1) h2, pre2] at hp hq
    by_cases ha : s[k] = 91
    · refine .inr (.inr ⟨h, h2, by omega, by omega, v8 (s[k]'h) 91 (by decide) ha, u8_ne (s[k + 1]'h2) 61 (by decide) ?_, u8_ne (s[k + 1]'h2) 58 (by decide) ?_⟩)
      · intro e; rw [ha, e] at hp; revert hp; decide
      · intro e; rw [ha, e] at hq; revert hq; decide
    · exact .inr (.inl ⟨h, by omega, u8_ne (s[k]'h) 91 (by decide) ha⟩)
  · exact .inl (by omega)
theorem noOpen3_of (s : ByteArray) (n : Nat) (h : n + 1 < s.size) (hp : pre [91, 61] (from_ s (n + 1)) = false) (hq : pre [91, 58] (from_ s (n + 1)) = false) : NoOpen3 s n := by
  by_cases h2 : n + 2 < s.size
  · rw [from_cons s (n + 1) h, from_cons s (n + 1 + 1) h2, pre2] at hp hq
    by_cases ha : s[n + 1] = 91
    · refine .inr (.inr ⟨h, h2, by omega, by omega, v8 (s[n + 1]'h) 91 (by decide) ha, u8_ne (s[n + 2]'h2) 61 (by decide) ?_, u8_ne (s[n + 2]'h2) 58 (by decide) ?_⟩)
      · intro e; rw [ha] at hp; rw [show s[n + 1 + 1]'h2 = 61 from e] at hp; revert hp; decide
      · intro e; rw [ha] at hq; rw [show s[n + 1 + 1]'h2 = 58 from e] at hq; revert hq; decide
    · exact .inr (.inl ⟨h, by omega, u8_ne (s[n + 1]'h) 91 (by decide) ha⟩)
  · exact .inl (by omega)
/-- Nothing of its own stands behind a sign. -/
def OneTail (s : ByteArray) (n : Nat) : Prop :=
  ((s.size : Int) - n < 2) ∨ (∃ h : n + 1 < s.size, ¬ ((s.size : Int) - n < 2) ∧ (n : Int) < s.size ∧ (((s[n]'(Nat.lt_of_succ_lt h)).toNat : Int) != 45) = true) ∨
  (∃ h : n + 1 < s.size, ¬ ((s.size : Int) - n < 2) ∧ (n : Int) + 1 < s.size ∧ ((s[n]'(Nat.lt_of_succ_lt h)).toNat : Int) = 45 ∧ ((s[n + 1]'h).toNat : Int) = 93)
theorem tail_ways (s : ByteArray) (n : Nat) (f : UInt8) (hn : n ≤ s.size) :
    (OneTail s n ∧ tailR f (from_ s n) = some (S4.zero.rng f.toNat f.toNat, from_ s n)) ∨
    (∃ h : n + 1 < s.size, s[n]'(Nat.lt_of_succ_lt h) = 45 ∧ s[n + 1]'h ≠ 93 ∧ tailR f (from_ s n) = match signP (from_ s (n + 1)) with
      | none => none
      | some (g, t2) => if g.toNat < f.toNat ∨ (pre [45] (from_ s (n + 1)) = true ∧ pre [93] t2 = false) then none else some (S4.zero.rng f.toNat g.toNat, t2)) := by
  by_cases h : n + 1 < s.size
  · have h0 : n < s.size := by omega
    have e1 := from_cons s n h0
    have e2 := from_cons s (n + 1) h
    have hne : from_ s n ≠ [45] := by rw [e1, e2]; simp
    by_cases ha : s[n] = 45
    · by_cases hb : s[n + 1] = 93
      · refine .inl ⟨.inr (.inr ⟨h, by omega, by omega, v8 (s[n]'h0) 45 (by decide) ha, v8 (s[n + 1]'h) 93 (by decide) hb⟩), ?_⟩
        unfold tailR tailP; rw [if_neg hne]
        have : pre [45, 93] (from_ s n) = true := by rw [e1, e2, pre2, ha, hb]; rfl
        rw [this]; simp
      · refine .inr ⟨h, ha, hb, ?_⟩
        unfold tailR tailP; rw [if_neg hne]
        have p1 : pre [45, 93] (from_ s n) = false := by
          rw [e1, e2, pre2]; simp; intro _ e; exact hb e.symm
        have p2 : pre [45] (from_ s n) = true := by rw [e1, pre1, ha]; rfl
        rw [p1, p2, from_drop]; rfl
    · refine .inl ⟨.inr (.inl ⟨h, by omega, by omega, ?_⟩), ?_⟩
      · have := u8_ne (s[n]'h0) 45 (by decide) ha
        rw [bne_iff_ne]; intro q; rw [beq_eq_false_iff_ne] at this; exact this q
      · unfold tailR tailP; rw [if_neg hne]
        have p2 : pre [45] (from_ s n) = false := by rw [e1, pre1]; rw [beq_eq_false_iff_ne]; exact fun e => ha e.symm
        rw [p2]; simp
  · refine .inl ⟨.inl (by omega), ?_⟩
    by_cases h0 : n < s.size
    · have e1 : from_ s n = [s[n]] := by rw [from_cons s n h0, from_nil s (n + 1) (by omega)]
      by_cases ha : s[n] = 45
      · unfold tailR; rw [e1, ha, if_pos rfl]
      · unfold tailR tailP; rw [if_neg (by rw [e1]; simp; exact ha)]
        have p2 : pre [45] (from_ s n) = false := by rw [e1, pre1]; rw [beq_eq_false_iff_ne]; exact fun e => ha e.symm
        rw [p2]; simp
    · unfold tailR tailP; rw [from_nil s n (by omega)]; simp [pre]
set_option maxHeartbeats 2000000 in
set_option maxRecDepth 100000 in
theorem mem_none (s : ByteArray) (k : Nat) (w : World) (hs : s.size ≤ 4000000) (hks : k < s.size) (hp : pre [91, 61] (from_ s k) = false) (hq : pre [91, 58] (from_ s k) = false) (hn : singleP (from_ s k) = none) : Calls Try.prog 26 #[.string s, .int .i64 k] w (MemR (memberR (from_ s k)) s k w) := by
  have hkk : (k : Int) < s.size := by omega
  have hno := noOpen_of s k hp hq
  have G1 := sin_none s k hs hn
  have HE : Hid (memberR (from_ s k) = none) := by unfold Hid memberR; rw [hp, hq, hn]; rfl
  clear hp hq hn
  rcases hno with hi2 | ⟨ho0, hi2, hon⟩ | ⟨ho0, ho1, hi2, hoi, hov, hon1, hon2⟩
  all_goals (try (exfalso; omega))
  all_goals
    go_enter Try.func26, Try.ntmps26
    go_wp2_with fail
    refine (G1.out _).mono ?_
    rintro e w' ⟨cx, nx, rfl, hww⟩
    subst hww
    go_wp2
    exact bodyPost_ret (v := .tuple #[.agg #[.int .u64 0, .int .u64 0, .int .u64 0, .int .u64 0], .int .i64 0, .bool false]) (by simp [results, Try.results26, go_sem]) rfl ⟨0, 0, 0, 0, 0, false, rfl, by (repeat first | exact Below.refl _ _ | refine Below.alloc ?_ (by simp) _ | refine Below.setCell ?_ (by simp) _), by rw [HE.out]; rfl, fun q => by cases q⟩
set_option maxHeartbeats 2000000 in
set_option maxRecDepth 100000 in
theorem mem_one (s : ByteArray) (k : Nat) (w : World) (hs : s.size ≤ 4000000) (hks : k < s.size) (hp : pre [91, 61] (from_ s k) = false) (hq : pre [91, 58] (from_ s k) = false) (f : UInt8) (n : Nat) (hkn : k < n) (hn : n ≤ s.size) (h1 : singleP (from_ s k) = some (f, from_ s n)) (hone : OneTail s n) (ht : tailR f (from_ s n) = some (S4.zero.rng f.toNat f.toNat, from_ s n)) : Calls Try.prog 26 #[.string s, .int .i64 k] w (MemR (memberR (from_ s k)) s k w) := by
  have hkk : (k : Int) < s.size := by omega
  have hno := noOpen_of s k hp hq
  have G1 := sin_some s k hs f n hn h1
  have HE0 : memberR (from_ s k) = tailR f (from_ s n) := by unfold memberR; rw [hp, hq, h1]; rfl
  have HE : Hid (memberR (from_ s k) = some (S4.zero.rng f.toNat f.toNat, from_ s n)) := by unfold Hid; rw [HE0, ht]
  have G := with_zero15 f.toNat f.toNat f.toNat_lt f.toNat_lt
  have hni : (n : Int) ≤ s.size := by omega
  clear hp hq h1 HE0 ht
  rcases hno with hi2 | ⟨ho0, hi2, hon⟩ | ⟨ho0, ho1, hi2, hoi, hov, hon1, hon2⟩
  all_goals (try (exfalso; omega))
  all_goals
    rcases hone with hq2 | ⟨hq1, hq2, hqi, hqn⟩ | ⟨hq1, hq2, hqi, hqv, hqv1⟩
    all_goals (try (exfalso; omega))
    all_goals
      go_enter Try.func26, Try.ntmps26
      go_wp2_with fail
      refine (G1.out _).mono ?_
      rintro e w' ⟨rfl, hww⟩
      subst hww
      go_wp2_with fail
      refine (G.out _).mono ?_
      rintro e w2 ⟨y0, y1, y2, y3, rfl, sv, b2⟩
      have HSV := (show Hid _ from sv)
      have B2 : Hid (Below w.heap.size w w2) := (two0_below w).trans (b2.mono (by simp; omega))
      have X2 : Hid (Box4 w2 w.heap.size) := (two0_box w).below b2 (by simp; omega)
      obtain ⟨⟨ca, cb, cc, cd⟩, fa, fb, fc, fd⟩ := id X2.out
      clear b2 sv X2
      go_wp2
      exact bodyPost_ret (v := .tuple #[.agg #[.int .u64 y0, .int .u64 y1, .int .u64 y2, .int .u64 y3], .int .i64 (n : Nat), .bool true]) (by simp [results, Try.results26, go_sem, ca, cb, cc, cd, fa, fb, fc, fd]) rfl ⟨y0, y1, y2, y3, n, true, rfl, put0 B2.out _ _ _ _, by rw [HE.out]; rfl, fun _ => ⟨_, HE.out, HSV.out, by omega, by omega⟩⟩
end Go.Proofs.Ytnhbjjjoocpedaa
