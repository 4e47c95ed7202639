/- The reference's ways to the same numbers: plain lists and integers. -/
import Derived.Test.YtjhnnblilfddpaaDoorRb
namespace Go.Proofs.YtjhnnblilfddpaaDoor
set_option linter.unusedSimpArgs false
set_option linter.unusedVariables false
theorem padTo_eq (n k j : Nat) (hk : k = (119 - n % 64) % 64) (hj : j ≤ 8) : padTo n j = (128 :: zs k) ++ numTo ((n : Int) * 8) j := by
  have hm : padLen n = k + 9 := by unfold padLen; omega
  induction j with
  | zero =>
    show (zs (padLen n)).set 0 128 = (128 :: zs k) ++ zs 8
    rw [hm]
    show (List.replicate (k + 8 + 1) (0 : Int)).set 0 128 = 128 :: (List.replicate k 0 ++ List.replicate 8 0)
    rw [List.replicate_succ, List.set_cons_zero, List.replicate_append_replicate]
  | succ j ih =>
    show (padTo n j).set (padLen n - 1 - j) _ = (128 :: zs k) ++ (numTo ((n : Int) * 8) j).set (7 - j) _
    rw [ih (by omega), hm, List.set_append_right _ _ (by simp [zs]; omega)]
    congr 2
    simp [zs]; omega
theorem msg_eq (bs : List Int) (k : Nat) (hk : k = (119 - bs.length % 64) % 64) : (bs ++ 128 :: zs k) ++ numTo ((bs.length : Int) * 8) 8 = bs ++ padL bs.length := by
  unfold padL
  rw [padTo_eq bs.length k 8 hk (by omega)]
  simp
theorem or32 (x y i : Nat) (hx : x % 2 ^ i = 0) (hy : y < 2 ^ i) (h1 : x < 4294967296) (h2 : y < 4294967296) : bits .or .u32 (x : Int) (y : Int) = ((x + y : Nat) : Int) := by
  rw [u32_or_nat x y h1 h2, nat_join i x y hx hy]
theorem or64 (x y i : Nat) (hx : x % 2 ^ i = 0) (hy : y < 2 ^ i) (h1 : x < 18446744073709551616) (h2 : y < 18446744073709551616) : bits .or .u64 (x : Int) (y : Int) = ((x + y : Nat) : Int) := by
  rw [u64_or_nat x y h1 h2, nat_join i x y hx hy]
theorem word4_eq (a b c d : Nat) (ha : a < 256) (hb : b < 256) (hc : c < 256) (hd : d < 256) : word4 a b c d = ((a * 16777216 + b * 65536 + c * 256 + d : Nat) : Int) := by
  unfold word4 bor
  have e1 : ((a : Int) % 4294967296 * 16777216 % 4294967296) = ((a * 16777216 : Nat) : Int) := by omega
  have e2 : ((b : Int) % 4294967296 * 65536 % 4294967296) = ((b * 65536 : Nat) : Int) := by omega
  have e3 : ((c : Int) % 4294967296 * 256 % 4294967296) = ((c * 256 : Nat) : Int) := by omega
  have e4 : ((d : Int) % 4294967296) = ((d : Nat) : Int) := by omega
  rw [e1, e2, e3, e4]
  rw [or32 (a * 16777216) (b * 65536) 24 (by omega) (by omega) (by omega) (by omega)]
  rw [or32 (a * 16777216 + b * 65536) (c * 256) 16 (by omega) (by omega) (by omega) (by omega)]
  rw [or32 (a * 16777216 + b * 65536 + c * 256) d 8 (by omega) (by omega) (by omega) (by omega)]
theorem ofTo_eq (a b c d : Nat) (ha : a < 256) (hb : b < 256) (hc : c < 256) (hd : d < 256) : ofTo [(a : Int), b, c, d] 4 = ((a * 16777216 + b * 65536 + c * 256 + d : Nat) : Int) := by
  have g0 : gi [(a : Int), b, c, d] 0 = a := rfl
  have g1 : gi [(a : Int), b, c, d] 1 = b := rfl
  have g2 : gi [(a : Int), b, c, d] 2 = c := rfl
  have g3 : gi [(a : Int), b, c, d] 3 = d := rfl
  simp only [ofTo, g0, g1, g2, g3]
  have m1 : ((a : Int) % 18446744073709551616) = ((a : Nat) : Int) := by omega
  have m2 : ((b : Int) % 18446744073709551616) = ((b : Nat) : Int) := by omega
  have m3 : ((c : Int) % 18446744073709551616) = ((c : Nat) : Int) := by omega
  have m4 : ((d : Int) % 18446744073709551616) = ((d : Nat) : Int) := by omega
  have z0 : ((0 : Int) * 256 % 18446744073709551616) = ((0 : Nat) : Int) := by omega
  rw [m1, m2, m3, m4, z0]
  rw [or64 0 a 8 (by omega) (by omega) (by omega) (by omega)]
  rw [show (((0 + a : Nat) : Int) * 256 % 18446744073709551616) = ((a * 256 : Nat) : Int) by omega, or64 (a * 256) b 8 (by omega) (by omega) (by omega) (by omega)]
  rw [show (((a * 256 + b : Nat) : Int) * 256 % 18446744073709551616) = (((a * 256 + b) * 256 : Nat) : Int) by omega, or64 ((a * 256 + b) * 256) c 8 (by omega) (by omega) (by omega) (by omega)]
  rw [show ((((a * 256 + b) * 256 + c : Nat) : Int) * 256 % 18446744073709551616) = ((((a * 256 + b) * 256 + c) * 256 : Nat) : Int) by omega, or64 (((a * 256 + b) * 256 + c) * 256) d 8 (by omega) (by omega) (by omega) (by omega)]
  omega
/-- Four bytes as the reference reads them are the block's word. -/
theorem word_ref (a b c d : Int) (ha : 0 ≤ a ∧ a ≤ 255) (hb : 0 ≤ b ∧ b ≤ 255) (hc : 0 ≤ c ∧ c ≤ 255) (hd : 0 ≤ d ∧ d ≤ 255) : ofTo [a, b, c, d] 4 % 4294967296 = word4 a b c d := by
  obtain ⟨a', rfl⟩ := Int.eq_ofNat_of_zero_le ha.1
  obtain ⟨b', rfl⟩ := Int.eq_ofNat_of_zero_le hb.1
  obtain ⟨c', rfl⟩ := Int.eq_ofNat_of_zero_le hc.1
  obtain ⟨d', rfl⟩ := Int.eq_ofNat_of_zero_le hd.1
  have h1 := ofTo_eq a' b' c' d' (by omega) (by omega) (by omega) (by omega)
  have h2 := word4_eq a' b' c' d' (by omega) (by omega) (by omega) (by omega)
  rw [h2, h1]
  omega
theorem words16_at (bl : List Int) (k : Nat) : ∀ i, i < k → gi (words16 bl k) i = wordAt bl i := by
  induction k with
  | zero => intro i hi; omega
  | succ k ih =>
    intro i hi
    show gi (words16 bl k ++ [wordAt bl k]) i = _
    by_cases h : i < k
    · rw [gi_append _ _ _ (by rw [words16_length]; exact h)]; exact ih i h
    · have e : i = k := by omega
      subst e
      unfold gi
      simp [words16_length]
theorem schedTo_pre (bl : List Int) (k m : Nat) (h : k ≤ m) : ∀ i, i < 16 + k → gi (schedTo bl m) i = gi (schedTo bl k) i := by
  induction m with
  | zero => intro i hi; have : k = 0 := by omega
            subst this; rfl
  | succ m ih =>
    intro i hi
    by_cases e : k = m + 1
    · subst e; rfl
    · show gi (schedTo bl m ++ [_]) i = _
      rw [gi_append _ _ _ (by rw [schedTo_length]; omega)]
      exact ih (by omega) i hi
theorem sched_lo (bl : List Int) (i : Nat) (h : i < 16) : gi (sched bl) i = wordAt bl i := by
  unfold sched
  rw [schedTo_pre bl 0 48 (by omega) i (by omega)]
  exact words16_at bl 16 i h
theorem sched_hi (bl : List Int) (i : Nat) (h : 16 ≤ i) (h2 : i < 64) : gi (sched bl) i = nextW (sched bl) i := by
  unfold sched
  rw [schedTo_pre bl (i - 15) 48 (by omega) i (by omega)]
  have e : i - 15 = (i - 16) + 1 := by omega
  rw [e]
  show gi (schedTo bl (i - 16) ++ [nextW (schedTo bl (i - 16)) (16 + (i - 16))]) i = _
  have hl := schedTo_length bl (i - 16)
  have e1 : gi (schedTo bl (i - 16) ++ [nextW (schedTo bl (i - 16)) (16 + (i - 16))]) i = nextW (schedTo bl (i - 16)) (16 + (i - 16)) := by
    unfold gi
    rw [List.getD_eq_getElem?_getD, List.getElem?_append_right (by omega), hl, show i - (16 + (i - 16)) = 0 by omega]
    rfl
  rw [e1, show 16 + (i - 16) = i by omega]
  unfold nextW
  rw [schedTo_pre bl (i - 16) 48 (by omega) (i - 2) (by omega), schedTo_pre bl (i - 16) 48 (by omega) (i - 7) (by omega), schedTo_pre bl (i - 16) 48 (by omega) (i - 15) (by omega), schedTo_pre bl (i - 16) 48 (by omega) (i - 16) (by omega)]
/-- The reference's next word of the schedule. -/
def nextR (l : List Int) (i : Nat) : Int :=
  (gi l (i - 16) + bxor (bxor (rotr 7 (gi l (i - 15))) (rotr 18 (gi l (i - 15)))) (gi l (i - 15) / 8) + gi l (i - 7) + bxor (bxor (rotr 17 (gi l (i - 2))) (rotr 19 (gi l (i - 2)))) (gi l (i - 2) / 1024)) % 4294967296
theorem rb7 : 32 - (rotBy (-7)).toNat = 7 := by decide +kernel
theorem rb18 : 32 - (rotBy (-18)).toNat = 18 := by decide +kernel
theorem rb17 : 32 - (rotBy (-17)).toNat = 17 := by decide +kernel
theorem rb19 : 32 - (rotBy (-19)).toNat = 19 := by decide +kernel
theorem rb6 : 32 - (rotBy (-6)).toNat = 6 := by decide +kernel
theorem rb11 : 32 - (rotBy (-11)).toNat = 11 := by decide +kernel
theorem rb25 : 32 - (rotBy (-25)).toNat = 25 := by decide +kernel
theorem rb2 : 32 - (rotBy (-2)).toNat = 2 := by decide +kernel
theorem rb13 : 32 - (rotBy (-13)).toNat = 13 := by decide +kernel
theorem rb22 : 32 - (rotBy (-22)).toNat = 22 := by decide +kernel
theorem nextR_eq (l : List Int) (i : Nat) : nextR l i = nextW l i := by
  unfold nextR nextW mixNear mixFar
  rw [rotl_eq _ _ _ rb7, rotl_eq _ _ _ rb18, rotl_eq _ _ _ rb17, rotl_eq _ _ _ rb19]
  congr 1; omega
theorem mixE_eq (x : Int) : mixE x = bxor (bxor (rotr 6 x) (rotr 11 x)) (rotr 25 x) := by
  unfold mixE; rw [rotl_eq _ _ _ rb6, rotl_eq _ _ _ rb11, rotl_eq _ _ _ rb25]
theorem mixA_eq (x : Int) : mixA x = bxor (bxor (rotr 2 x) (rotr 13 x)) (rotr 22 x) := by
  unfold mixA; rw [rotl_eq _ _ _ rb2, rotl_eq _ _ _ rb13, rotl_eq _ _ _ rb22]
theorem outTo_at (ws : List Int) (k : Nat) (hk : k ≤ 8) : ∀ i, i < 4 * k → gi (outTo ws k) i = gi ws (i / 4) / 2 ^ (24 - 8 * (i % 4)) % 256 := by
  induction k with
  | zero => intro i hi; omega
  | succ k ih =>
    intro i hi
    have hl := outTo_length ws k
    show gi (((((outTo ws k).set (4 * k) _).set (4 * k + 1) _).set (4 * k + 2) _).set (4 * k + 3) _) i = _
    by_cases h : i < 4 * k
    · rw [← ih (by omega) i h]
      unfold gi
      simp only [List.getD_eq_getElem?_getD]
      rw [List.getElem?_set_ne (by omega), List.getElem?_set_ne (by omega), List.getElem?_set_ne (by omega), List.getElem?_set_ne (by omega)]
    · have hi4 : i / 4 = k := by omega
      rw [hi4]
      have hc : i = 4 * k ∨ i = 4 * k + 1 ∨ i = 4 * k + 2 ∨ i = 4 * k + 3 := by omega
      rcases hc with e | e | e | e <;> subst e
      · rw [show (4 * k) % 4 = 0 by omega]
        unfold gi
        simp only [List.getD_eq_getElem?_getD]
        rw [List.getElem?_set_ne (by omega), List.getElem?_set_ne (by omega), List.getElem?_set_ne (by omega), List.getElem?_set_self (by omega)]
        rfl
      · rw [show (4 * k + 1) % 4 = 1 by omega]
        unfold gi
        simp only [List.getD_eq_getElem?_getD]
        rw [List.getElem?_set_ne (by omega), List.getElem?_set_ne (by omega), List.getElem?_set_self (by simp; omega)]
        rfl
      · rw [show (4 * k + 2) % 4 = 2 by omega]
        unfold gi
        simp only [List.getD_eq_getElem?_getD]
        rw [List.getElem?_set_ne (by omega), List.getElem?_set_self (by simp; omega)]
        rfl
      · rw [show (4 * k + 3) % 4 = 3 by omega]
        unfold gi
        simp only [List.getD_eq_getElem?_getD]
        rw [List.getElem?_set_self (by simp; omega)]
        simp
end Go.Proofs.YtjhnnblilfddpaaDoor
