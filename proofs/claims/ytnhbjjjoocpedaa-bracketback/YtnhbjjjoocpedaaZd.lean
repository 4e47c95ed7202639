import Derived.Test.YtnhbjjjoocpedaaZc
namespace Go.Proofs.Ytnhbjjjoocpedaa
set_option linter.unusedSimpArgs false
set_option linter.unusedVariables false
open Go.RowKit
set_option maxHeartbeats 2000000 in
set_option maxRecDepth 100000 in
theorem mem_two_none (s : ByteArray) (k : Nat) (w : World) (hs : s.size ≤ 4000000) (hks : k < s.size) (hp : pre [91, 61] (from_ s k) = false) (hq : pre [91, 58] (from_ s k) = false) (f : UInt8) (n : Nat) (hkn : k < n) (hn : n ≤ s.size) (h1 : singleP (from_ s k) = some (f, from_ s n)) (h : n + 1 < s.size) (ha : s[n]'(Nat.lt_of_succ_lt h) = 45) (hb : s[n + 1]'h ≠ 93) (ht : tailR f (from_ s n) = match signP (from_ s (n + 1)) with | none => none | some (g, t2) => if g.toNat < f.toNat ∨ (pre [45] (from_ s (n + 1)) = true ∧ pre [93] t2 = false) then none else some (S4.zero.rng f.toNat g.toNat, t2)) (h2 : singleP (from_ s (n + 1)) = none) : Calls Try.prog 26 #[.string s, .int .i64 k] w (MemR (memberR (from_ s k)) s k w) := by
  have hkk : (k : Int) < s.size := by omega
  have hno := noOpen_of s k hp hq
  have G1 := sin_some s k hs f n hn h1
  have HE0 : memberR (from_ s k) = tailR f (from_ s n) := by unfold memberR; rw [hp, hq, h1]; rfl
  have hni : (n : Int) + 1 < s.size := by omega
  have hni2 : ¬ (s.size : Int) - n < 2 := by omega
  have hva : ((s[n]'(Nat.lt_of_succ_lt h)).toNat : Int) = 45 := v8 _ 45 (by decide) ha
  have hvb : (((s[n + 1]'h).toNat : Int) == 93) = false := u8_ne _ 93 (by decide) hb
  have G2 := sin_none s (n + 1) hs h2
  have HE : Hid (memberR (from_ s k) = none) := by unfold Hid; rw [HE0, ht, show signP (from_ s (n + 1)) = none by unfold signP; rw [h2]; split <;> rfl]
  clear hp hq h1 HE0 ht ha hb h2
  rcases hno with hi2 | ⟨ho0, hi2, hon⟩ | ⟨ho0, ho1, hi2, hoi, hov, hon1, hon2⟩
  all_goals (try (exfalso; omega))
  all_goals
    go_enter Try.func26, Try.ntmps26
    go_wp2_with fail
    refine (G1.out _).mono ?_
    rintro e w' ⟨rfl, hww⟩
    subst hww
    have hcast : ((n + 1 : Nat) : Int) = (n : Int) + 1 := by omega
    rw [hcast] at G2
    go_wp2_with fail
    refine (G2.out _).mono ?_
    rintro e w' ⟨cx, nx, rfl, hww⟩
    subst hww
    go_wp2
    exact bodyPost_ret (v := .tuple #[.agg #[.int .u64 0, .int .u64 0, .int .u64 0, .int .u64 0], .int .i64 0, .bool false]) (by simp [results, Try.results26, go_sem]) rfl ⟨0, 0, 0, 0, 0, false, rfl, by (repeat first | exact Below.refl _ _ | refine Below.alloc ?_ (by simp) _ | refine Below.setCell ?_ (by simp) _), by rw [HE.out]; rfl, fun q => by cases q⟩
set_option maxHeartbeats 2000000 in
set_option maxRecDepth 100000 in
theorem mem_two_eq (s : ByteArray) (k : Nat) (w : World) (hs : s.size ≤ 4000000) (hks : k < s.size) (hp : pre [91, 61] (from_ s k) = false) (hq : pre [91, 58] (from_ s k) = false) (f : UInt8) (n : Nat) (hkn : k < n) (hn : n ≤ s.size) (h1 : singleP (from_ s k) = some (f, from_ s n)) (h : n + 1 < s.size) (ha : s[n]'(Nat.lt_of_succ_lt h) = 45) (hb : s[n + 1]'h ≠ 93) (ht : tailR f (from_ s n) = match signP (from_ s (n + 1)) with | none => none | some (g, t2) => if g.toNat < f.toNat ∨ (pre [45] (from_ s (n + 1)) = true ∧ pre [93] t2 = false) then none else some (S4.zero.rng f.toNat g.toNat, t2)) (g : UInt8) (m : Nat) (hm : m ≤ s.size) (hnm : n + 1 < m) (h2 : singleP (from_ s (n + 1)) = some (g, from_ s m)) (h3 : n + 2 < s.size) (hc : s[n + 1]'h = 91) (hd : s[n + 2]'h3 = 61) : Calls Try.prog 26 #[.string s, .int .i64 k] w (MemR (memberR (from_ s k)) s k w) := by
  have hkk : (k : Int) < s.size := by omega
  have hno := noOpen_of s k hp hq
  have G1 := sin_some s k hs f n hn h1
  have HE0 : memberR (from_ s k) = tailR f (from_ s n) := by unfold memberR; rw [hp, hq, h1]; rfl
  have hni : (n : Int) + 1 < s.size := by omega
  have hni2 : ¬ (s.size : Int) - n < 2 := by omega
  have hva : ((s[n]'(Nat.lt_of_succ_lt h)).toNat : Int) = 45 := v8 _ 45 (by decide) ha
  have hvb : (((s[n + 1]'h).toNat : Int) == 93) = false := u8_ne _ 93 (by decide) hb
  have hcast : ((n + 1 : Nat) : Int) = (n : Int) + 1 := by omega
  have G2 := sin_some s (n + 1) hs g m hm h2
  rw [hcast] at G2
  have HE : Hid (memberR (from_ s k) = none) := by unfold Hid; rw [HE0, ht]; unfold signP; have e := from_cons s (n + 1) h; have e2 := from_cons s (n + 1 + 1) h3; rw [e2, hc, show s[n + 1 + 1]'h3 = 61 from hd] at e; rw [e]; simp [pre2]
  have hvc : ((s[n + 1]'h).toNat : Int) = 91 := v8 _ 91 (by decide) hc
  have hvd : ((s[n + 2]'h3).toNat : Int) = 61 := v8 _ 61 (by decide) hd
  have hj3 : (3 : Int) ≤ s.size - n := by omega
  have hj4 : (n : Int) + 2 < s.size := by omega
  clear hp hq h1 HE0 ht ha hb h2 hc hd hvb hcast
  rcases hno with hi2 | ⟨ho0, hi2, hon⟩ | ⟨ho0, ho1, hi2, hoi, hov, hon1, hon2⟩
  all_goals (try (exfalso; omega))
  all_goals
    go_enter Try.func26, Try.ntmps26
    go_wp2_with fail
    refine (G1.out _).mono ?_
    rintro e w' ⟨rfl, hww⟩
    subst hww
    go_wp2_with fail
    refine (G2.out _).mono ?_
    rintro e w' ⟨rfl, hww⟩
    subst hww
    go_wp2
    exact bodyPost_ret (v := .tuple #[.agg #[.int .u64 0, .int .u64 0, .int .u64 0, .int .u64 0], .int .i64 0, .bool false]) (by simp [results, Try.results26, go_sem]) rfl ⟨0, 0, 0, 0, 0, false, rfl, by (repeat first | exact Below.refl _ _ | refine Below.alloc ?_ (by simp) _ | refine Below.setCell ?_ (by simp) _), by rw [HE.out]; rfl, fun q => by cases q⟩
set_option maxHeartbeats 2000000 in
set_option maxRecDepth 100000 in
theorem mem_two_colon (s : ByteArray) (k : Nat) (w : World) (hs : s.size ≤ 4000000) (hks : k < s.size) (hp : pre [91, 61] (from_ s k) = false) (hq : pre [91, 58] (from_ s k) = false) (f : UInt8) (n : Nat) (hkn : k < n) (hn : n ≤ s.size) (h1 : singleP (from_ s k) = some (f, from_ s n)) (h : n + 1 < s.size) (ha : s[n]'(Nat.lt_of_succ_lt h) = 45) (hb : s[n + 1]'h ≠ 93) (ht : tailR f (from_ s n) = match signP (from_ s (n + 1)) with | none => none | some (g, t2) => if g.toNat < f.toNat ∨ (pre [45] (from_ s (n + 1)) = true ∧ pre [93] t2 = false) then none else some (S4.zero.rng f.toNat g.toNat, t2)) (g : UInt8) (m : Nat) (hm : m ≤ s.size) (hnm : n + 1 < m) (h2 : singleP (from_ s (n + 1)) = some (g, from_ s m)) (h3 : n + 2 < s.size) (hc : s[n + 1]'h = 91) (hd : s[n + 2]'h3 = 58) : Calls Try.prog 26 #[.string s, .int .i64 k] w (MemR (memberR (from_ s k)) s k w) := by
  have hkk : (k : Int) < s.size := by omega
  have hno := noOpen_of s k hp hq
  have G1 := sin_some s k hs f n hn h1
  have HE0 : memberR (from_ s k) = tailR f (from_ s n) := by unfold memberR; rw [hp, hq, h1]; rfl
  have hni : (n : Int) + 1 < s.size := by omega
  have hni2 : ¬ (s.size : Int) - n < 2 := by omega
  have hva : ((s[n]'(Nat.lt_of_succ_lt h)).toNat : Int) = 45 := v8 _ 45 (by decide) ha
  have hvb : (((s[n + 1]'h).toNat : Int) == 93) = false := u8_ne _ 93 (by decide) hb
  have hcast : ((n + 1 : Nat) : Int) = (n : Int) + 1 := by omega
  have G2 := sin_some s (n + 1) hs g m hm h2
  rw [hcast] at G2
  have HE : Hid (memberR (from_ s k) = none) := by unfold Hid; rw [HE0, ht]; unfold signP; have e := from_cons s (n + 1) h; have e2 := from_cons s (n + 1 + 1) h3; rw [e2, hc, show s[n + 1 + 1]'h3 = 58 from hd] at e; rw [e]; simp [pre2]
  have hvc : ((s[n + 1]'h).toNat : Int) = 91 := v8 _ 91 (by decide) hc
  have hvd : ((s[n + 2]'h3).toNat : Int) = 58 := v8 _ 58 (by decide) hd
  have hj3 : (3 : Int) ≤ s.size - n := by omega
  have hj4 : (n : Int) + 2 < s.size := by omega
  clear hp hq h1 HE0 ht ha hb h2 hc hd hvb hcast
  rcases hno with hi2 | ⟨ho0, hi2, hon⟩ | ⟨ho0, ho1, hi2, hoi, hov, hon1, hon2⟩
  all_goals (try (exfalso; omega))
  all_goals
    go_enter Try.func26, Try.ntmps26
    go_wp2_with fail
    refine (G1.out _).mono ?_
    rintro e w' ⟨rfl, hww⟩
    subst hww
    go_wp2_with fail
    refine (G2.out _).mono ?_
    rintro e w' ⟨rfl, hww⟩
    subst hww
    go_wp2
    exact bodyPost_ret (v := .tuple #[.agg #[.int .u64 0, .int .u64 0, .int .u64 0, .int .u64 0], .int .i64 0, .bool false]) (by simp [results, Try.results26, go_sem]) rfl ⟨0, 0, 0, 0, 0, false, rfl, by (repeat first | exact Below.refl _ _ | refine Below.alloc ?_ (by simp) _ | refine Below.setCell ?_ (by simp) _), by rw [HE.out]; rfl, fun q => by cases q⟩
set_option maxHeartbeats 2000000 in
set_option maxRecDepth 100000 in
theorem mem_two_less (s : ByteArray) (k : Nat) (w : World) (hs : s.size ≤ 4000000) (hks : k < s.size) (hp : pre [91, 61] (from_ s k) = false) (hq : pre [91, 58] (from_ s k) = false) (f : UInt8) (n : Nat) (hkn : k < n) (hn : n ≤ s.size) (h1 : singleP (from_ s k) = some (f, from_ s n)) (h : n + 1 < s.size) (ha : s[n]'(Nat.lt_of_succ_lt h) = 45) (hb : s[n + 1]'h ≠ 93) (ht : tailR f (from_ s n) = match signP (from_ s (n + 1)) with | none => none | some (g, t2) => if g.toNat < f.toNat ∨ (pre [45] (from_ s (n + 1)) = true ∧ pre [93] t2 = false) then none else some (S4.zero.rng f.toNat g.toNat, t2)) (g : UInt8) (m : Nat) (hm : m ≤ s.size) (hnm : n + 1 < m) (h2 : singleP (from_ s (n + 1)) = some (g, from_ s m)) (hp3 : pre [91, 61] (from_ s (n + 1)) = false) (hq3 : pre [91, 58] (from_ s (n + 1)) = false) (hl : g.toNat < f.toNat) : Calls Try.prog 26 #[.string s, .int .i64 k] w (MemR (memberR (from_ s k)) s k w) := by
  have hkk : (k : Int) < s.size := by omega
  have hno := noOpen_of s k hp hq
  have G1 := sin_some s k hs f n hn h1
  have HE0 : memberR (from_ s k) = tailR f (from_ s n) := by unfold memberR; rw [hp, hq, h1]; rfl
  have hni : (n : Int) + 1 < s.size := by omega
  have hni2 : ¬ (s.size : Int) - n < 2 := by omega
  have hva : ((s[n]'(Nat.lt_of_succ_lt h)).toNat : Int) = 45 := v8 _ 45 (by decide) ha
  have hvb : (((s[n + 1]'h).toNat : Int) == 93) = false := u8_ne _ 93 (by decide) hb
  have hcast : ((n + 1 : Nat) : Int) = (n : Int) + 1 := by omega
  have G2 := sin_some s (n + 1) hs g m hm h2
  rw [hcast] at G2
  have hno3 := noOpen3_of s n h hp3 hq3
  have hsg : signP (from_ s (n + 1)) = some (g, from_ s m) := by unfold signP; rw [hp3, hq3, h2]; rfl
  have HE : Hid (memberR (from_ s k) = none) := by unfold Hid; rw [HE0, ht, hsg]; simp only; rw [if_pos (.inl hl)]
  have hli : (g.toNat : Int) < f.toNat := by omega
  clear hp hq h1 HE0 ht ha hb h2 hp3 hq3 hsg hcast
  rcases hno with hi2 | ⟨ho0, hi2, hon⟩ | ⟨ho0, ho1, hi2, hoi, hov, hon1, hon2⟩
  all_goals (try (exfalso; omega))
  all_goals
    rcases hno3 with hj3 | ⟨hp0, hj3, hpn⟩ | ⟨hp0, hp1, hj3, hpi, hpv, hpn1, hpn2⟩
    all_goals (try (exfalso; omega))
    all_goals
      go_enter Try.func26, Try.ntmps26
      go_wp2_with fail
      refine (G1.out _).mono ?_
      rintro e w' ⟨rfl, hww⟩
      subst hww
      go_wp2_with fail
      refine (G2.out _).mono ?_
      rintro e w' ⟨rfl, hww⟩
      subst hww
      go_wp2
      exact bodyPost_ret (v := .tuple #[.agg #[.int .u64 0, .int .u64 0, .int .u64 0, .int .u64 0], .int .i64 0, .bool false]) (by simp [results, Try.results26, go_sem]) rfl ⟨0, 0, 0, 0, 0, false, rfl, by (repeat first | exact Below.refl _ _ | refine Below.alloc ?_ (by simp) _ | refine Below.setCell ?_ (by simp) _), by rw [HE.out]; rfl, fun q => by cases q⟩
end Go.Proofs.Ytnhbjjjoocpedaa
