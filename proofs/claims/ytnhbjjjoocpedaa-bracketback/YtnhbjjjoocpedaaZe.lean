import Derived.Test.YtnhbjjjoocpedaaZc
namespace Go.Proofs.Ytnhbjjjoocpedaa
set_option linter.unusedSimpArgs false
set_option linter.unusedVariables false
open Go.RowKit
set_option maxHeartbeats 2000000 in
set_option maxRecDepth 100000 in
theorem mem_dash_end (s : ByteArray) (k : Nat) (w : World) (hs : s.size ≤ 4000000) (hks : k < s.size) (hp : pre [91, 61] (from_ s k) = false) (hq : pre [91, 58] (from_ s k) = false) (f : UInt8) (n : Nat) (hkn : k < n) (hn : n ≤ s.size) (h1 : singleP (from_ s k) = some (f, from_ s n)) (h : n + 1 < s.size) (ha : s[n]'(Nat.lt_of_succ_lt h) = 45) (hb : s[n + 1]'h ≠ 93) (ht : tailR f (from_ s n) = match signP (from_ s (n + 1)) with | none => none | some (g, t2) => if g.toNat < f.toNat ∨ (pre [45] (from_ s (n + 1)) = true ∧ pre [93] t2 = false) then none else some (S4.zero.rng f.toNat g.toNat, t2)) (g : UInt8) (m : Nat) (hm : m ≤ s.size) (hnm : n + 1 < m) (h2 : singleP (from_ s (n + 1)) = some (g, from_ s m)) (hp3 : pre [91, 61] (from_ s (n + 1)) = false) (hq3 : pre [91, 58] (from_ s (n + 1)) = false) (hl : ¬ g.toNat < f.toNat) (hdash : s[n + 1]'h = 45) (hme : m = s.size) : Calls Try.prog 26 #[.string s, .int .i64 k] w (MemR (memberR (from_ s k)) s k w) := by
  have hkk : (k : Int) < s.size := by omega
  have hno := noOpen_of s k hp hq
  have G1 := sin_some s k hs f n hn h1
  have HE0 : memberR (from_ s k) = tailR f (from_ s n) := by unfold memberR; rw [hp, hq, h1]; rfl
  have hni : (n : Int) + 1 < s.size := by omega
  have hni2 : ¬ (s.size : Int) - n < 2 := by omega
  have hva : ((s[n]'(Nat.lt_of_succ_lt h)).toNat : Int) = 45 := v8 _ 45 (by decide) ha
  have hvb : (((s[n + 1]'h).toNat : Int) == 93) = false := u8_ne _ 93 (by decide) hb
  have hcast : ((n + 1 : Nat) : Int) = (n : Int) + 1 := by omega
  have G2 := sin_some s (n + 1) hs g m hm h2
  rw [hcast] at G2
  have hsg : signP (from_ s (n + 1)) = some (g, from_ s m) := by unfold signP; rw [hp3, hq3, h2]; rfl
  have hpd : pre [45] (from_ s (n + 1)) = true := by rw [from_cons s (n + 1) h, hdash]; rfl
  have hvd : ((s[n + 1]'h).toNat : Int) = 45 := v8 _ 45 (by decide) hdash
  have HE : Hid (memberR (from_ s k) = none) := by unfold Hid; rw [HE0, ht, hsg]; simp only; rw [if_pos (.inr ⟨hpd, by rw [from_nil s m (by omega)]; rfl⟩)]
  have hli : ¬ (g.toNat : Int) < f.toNat := by omega
  have hmi : (s.size : Int) - m < 1 := by omega
  clear hp hq h1 HE0 ht ha hb h2 hp3 hq3 hsg hdash hpd hvb hcast
  clear hme
  rcases hno with hi2 | ⟨ho0, hi2, hon⟩ | ⟨ho0, ho1, hi2, hoi, hov, hon1, hon2⟩
  all_goals (try (exfalso; omega))
  all_goals
    rcases (show ¬ (3 : Int) ≤ s.size - n ∨ ((3 : Int) ≤ s.size - n ∧ (n : Int) + 2 < s.size) by omega) with hj3 | ⟨hj3, hj4⟩
    all_goals (try (exfalso; omega))
    all_goals
      go_enter Try.func26, Try.ntmps26
      go_wp2_with fail
      refine (G1.out _).mono ?_
      rintro e w' ⟨rfl, hww⟩
      subst hww
      go_wp2_with fail
      refine (G2.out _).mono ?_
      rintro e w' ⟨rfl, hww⟩
      subst hww
      go_wp2
      exact bodyPost_ret (v := .tuple #[.agg #[.int .u64 0, .int .u64 0, .int .u64 0, .int .u64 0], .int .i64 0, .bool false]) (by simp [results, Try.results26, go_sem]) rfl ⟨0, 0, 0, 0, 0, false, rfl, by (repeat first | exact Below.refl _ _ | refine Below.alloc ?_ (by simp) _ | refine Below.setCell ?_ (by simp) _), by rw [HE.out]; rfl, fun q => by cases q⟩
set_option maxHeartbeats 2000000 in
set_option maxRecDepth 100000 in
theorem mem_dash_no (s : ByteArray) (k : Nat) (w : World) (hs : s.size ≤ 4000000) (hks : k < s.size) (hp : pre [91, 61] (from_ s k) = false) (hq : pre [91, 58] (from_ s k) = false) (f : UInt8) (n : Nat) (hkn : k < n) (hn : n ≤ s.size) (h1 : singleP (from_ s k) = some (f, from_ s n)) (h : n + 1 < s.size) (ha : s[n]'(Nat.lt_of_succ_lt h) = 45) (hb : s[n + 1]'h ≠ 93) (ht : tailR f (from_ s n) = match signP (from_ s (n + 1)) with | none => none | some (g, t2) => if g.toNat < f.toNat ∨ (pre [45] (from_ s (n + 1)) = true ∧ pre [93] t2 = false) then none else some (S4.zero.rng f.toNat g.toNat, t2)) (g : UInt8) (m : Nat) (hm : m ≤ s.size) (hnm : n + 1 < m) (h2 : singleP (from_ s (n + 1)) = some (g, from_ s m)) (hp3 : pre [91, 61] (from_ s (n + 1)) = false) (hq3 : pre [91, 58] (from_ s (n + 1)) = false) (hl : ¬ g.toNat < f.toNat) (hdash : s[n + 1]'h = 45) (hms : m < s.size) (hm9 : s[m]'hms ≠ 93) : Calls Try.prog 26 #[.string s, .int .i64 k] w (MemR (memberR (from_ s k)) s k w) := by
  have hkk : (k : Int) < s.size := by omega
  have hno := noOpen_of s k hp hq
  have G1 := sin_some s k hs f n hn h1
  have HE0 : memberR (from_ s k) = tailR f (from_ s n) := by unfold memberR; rw [hp, hq, h1]; rfl
  have hni : (n : Int) + 1 < s.size := by omega
  have hni2 : ¬ (s.size : Int) - n < 2 := by omega
  have hva : ((s[n]'(Nat.lt_of_succ_lt h)).toNat : Int) = 45 := v8 _ 45 (by decide) ha
  have hvb : (((s[n + 1]'h).toNat : Int) == 93) = false := u8_ne _ 93 (by decide) hb
  have hcast : ((n + 1 : Nat) : Int) = (n : Int) + 1 := by omega
  have G2 := sin_some s (n + 1) hs g m hm h2
  rw [hcast] at G2
  have hsg : signP (from_ s (n + 1)) = some (g, from_ s m) := by unfold signP; rw [hp3, hq3, h2]; rfl
  have hpd : pre [45] (from_ s (n + 1)) = true := by rw [from_cons s (n + 1) h, hdash]; rfl
  have hvd : ((s[n + 1]'h).toNat : Int) = 45 := v8 _ 45 (by decide) hdash
  have HE : Hid (memberR (from_ s k) = none) := by unfold Hid; rw [HE0, ht, hsg]; simp only; rw [if_pos (.inr ⟨hpd, by rw [from_cons s m hms, pre1, beq_eq_false_iff_ne]; exact fun e => hm9 e.symm⟩)]
  have hli : ¬ (g.toNat : Int) < f.toNat := by omega
  have hmi : ¬ (s.size : Int) - m < 1 := by omega
  have hmj : (m : Int) < s.size := by omega
  have hv9 : (((s[m]'hms).toNat : Int) != 93) = true := by have := u8_ne (s[m]'hms) 93 (by decide) hm9; rw [bne_iff_ne]; intro q; rw [beq_eq_false_iff_ne] at this; exact this q
  clear hp hq h1 HE0 ht ha hb h2 hp3 hq3 hsg hdash hpd hvb hcast
  clear hm9
  rcases hno with hi2 | ⟨ho0, hi2, hon⟩ | ⟨ho0, ho1, hi2, hoi, hov, hon1, hon2⟩
  all_goals (try (exfalso; omega))
  all_goals
    rcases (show ¬ (3 : Int) ≤ s.size - n ∨ ((3 : Int) ≤ s.size - n ∧ (n : Int) + 2 < s.size) by omega) with hj3 | ⟨hj3, hj4⟩
    all_goals (try (exfalso; omega))
    all_goals
      go_enter Try.func26, Try.ntmps26
      go_wp2_with fail
      refine (G1.out _).mono ?_
      rintro e w' ⟨rfl, hww⟩
      subst hww
      go_wp2_with fail
      refine (G2.out _).mono ?_
      rintro e w' ⟨rfl, hww⟩
      subst hww
      go_wp2
      exact bodyPost_ret (v := .tuple #[.agg #[.int .u64 0, .int .u64 0, .int .u64 0, .int .u64 0], .int .i64 0, .bool false]) (by simp [results, Try.results26, go_sem]) rfl ⟨0, 0, 0, 0, 0, false, rfl, by (repeat first | exact Below.refl _ _ | refine Below.alloc ?_ (by simp) _ | refine Below.setCell ?_ (by simp) _), by rw [HE.out]; rfl, fun q => by cases q⟩
set_option maxHeartbeats 2000000 in
set_option maxRecDepth 100000 in
theorem mem_dash_yes (s : ByteArray) (k : Nat) (w : World) (hs : s.size ≤ 4000000) (hks : k < s.size) (hp : pre [91, 61] (from_ s k) = false) (hq : pre [91, 58] (from_ s k) = false) (f : UInt8) (n : Nat) (hkn : k < n) (hn : n ≤ s.size) (h1 : singleP (from_ s k) = some (f, from_ s n)) (h : n + 1 < s.size) (ha : s[n]'(Nat.lt_of_succ_lt h) = 45) (hb : s[n + 1]'h ≠ 93) (ht : tailR f (from_ s n) = match signP (from_ s (n + 1)) with | none => none | some (g, t2) => if g.toNat < f.toNat ∨ (pre [45] (from_ s (n + 1)) = true ∧ pre [93] t2 = false) then none else some (S4.zero.rng f.toNat g.toNat, t2)) (g : UInt8) (m : Nat) (hm : m ≤ s.size) (hnm : n + 1 < m) (h2 : singleP (from_ s (n + 1)) = some (g, from_ s m)) (hp3 : pre [91, 61] (from_ s (n + 1)) = false) (hq3 : pre [91, 58] (from_ s (n + 1)) = false) (hl : ¬ g.toNat < f.toNat) (hdash : s[n + 1]'h = 45) (hms : m < s.size) (hm9 : s[m]'hms = 93) : Calls Try.prog 26 #[.string s, .int .i64 k] w (MemR (memberR (from_ s k)) s k w) := by
  have hkk : (k : Int) < s.size := by omega
  have hno := noOpen_of s k hp hq
  have G1 := sin_some s k hs f n hn h1
  have HE0 : memberR (from_ s k) = tailR f (from_ s n) := by unfold memberR; rw [hp, hq, h1]; rfl
  have hni : (n : Int) + 1 < s.size := by omega
  have hni2 : ¬ (s.size : Int) - n < 2 := by omega
  have hva : ((s[n]'(Nat.lt_of_succ_lt h)).toNat : Int) = 45 := v8 _ 45 (by decide) ha
  have hvb : (((s[n + 1]'h).toNat : Int) == 93) = false := u8_ne _ 93 (by decide) hb
  have hcast : ((n + 1 : Nat) : Int) = (n : Int) + 1 := by omega
  have G2 := sin_some s (n + 1) hs g m hm h2
  rw [hcast] at G2
  have hsg : signP (from_ s (n + 1)) = some (g, from_ s m) := by unfold signP; rw [hp3, hq3, h2]; rfl
  have hpd : pre [45] (from_ s (n + 1)) = true := by rw [from_cons s (n + 1) h, hdash]; rfl
  have hvd : ((s[n + 1]'h).toNat : Int) = 45 := v8 _ 45 (by decide) hdash
  have HE : Hid (memberR (from_ s k) = some (S4.zero.rng f.toNat g.toNat, from_ s m)) := by unfold Hid; rw [HE0, ht, hsg]; simp only; rw [if_neg (by rintro (q | ⟨_, q⟩); exact hl q; rw [from_cons s m hms, pre1, hm9] at q; revert q; decide)]
  have hli : ¬ (g.toNat : Int) < f.toNat := by omega
  have G := with_zero15 f.toNat g.toNat f.toNat_lt g.toNat_lt
  have hmi : ¬ (s.size : Int) - m < 1 := by omega
  have hmj : (m : Int) < s.size := by omega
  have hv9 : (((s[m]'hms).toNat : Int) != 93) = false := by rw [hm9]; rfl
  clear hp hq h1 HE0 ht ha hb h2 hp3 hq3 hsg hdash hpd hvb hcast
  clear hm9
  rcases hno with hi2 | ⟨ho0, hi2, hon⟩ | ⟨ho0, ho1, hi2, hoi, hov, hon1, hon2⟩
  all_goals (try (exfalso; omega))
  all_goals
    rcases (show ¬ (3 : Int) ≤ s.size - n ∨ ((3 : Int) ≤ s.size - n ∧ (n : Int) + 2 < s.size) by omega) with hj3 | ⟨hj3, hj4⟩
    all_goals (try (exfalso; omega))
    all_goals
      go_enter Try.func26, Try.ntmps26
      go_wp2_with fail
      refine (G1.out _).mono ?_
      rintro e w' ⟨rfl, hww⟩
      subst hww
      go_wp2_with fail
      refine (G2.out _).mono ?_
      rintro e w' ⟨rfl, hww⟩
      subst hww
      go_wp2_with fail
      refine (G.out _).mono ?_
      rintro e w2 ⟨y0, y1, y2, y3, rfl, sv, b2⟩
      have HSV := (show Hid _ from sv)
      have B2 : Hid (Below w.heap.size w w2) := (two0_below w).trans (b2.mono (by simp; omega))
      have X2 : Hid (Box4 w2 w.heap.size) := (two0_box w).below b2 (by simp; omega)
      obtain ⟨⟨ca, cb, cc, cd⟩, fa, fb, fc, fd⟩ := id X2.out
      clear b2 sv X2
      go_wp2
      exact bodyPost_ret (v := .tuple #[.agg #[.int .u64 y0, .int .u64 y1, .int .u64 y2, .int .u64 y3], .int .i64 (m : Nat), .bool true]) (by simp [results, Try.results26, go_sem, ca, cb, cc, cd, fa, fb, fc, fd]) rfl ⟨y0, y1, y2, y3, m, true, rfl, put0 B2.out _ _ _ _, by rw [HE.out]; rfl, fun _ => ⟨_, HE.out, HSV.out, by omega, by omega⟩⟩
end Go.Proofs.Ytnhbjjjoocpedaa
