import Derived.Test.YtnhbjjjoocpedaaPa
namespace Go.Proofs.Ytnhbjjjoocpedaa
set_option linter.unusedSimpArgs false
set_option linter.unusedVariables false
/-- A number of digits of k bits, the lowest first. -/
def digN (k : Nat) : List Nat → Nat
  | [] => 0
  | d :: t => d + 2 ^ k * digN k t
def lowsD : List Nat → List Nat
  | a :: _ :: t => a :: lowsD t
  | _ => []
def highsD : List Nat → List Nat
  | _ :: b :: t => b :: highsD t
  | _ => []
def pairsD : List Nat → List Nat
  | a :: b :: t => (a + b) :: pairsD t
  | _ => []
def maskD (k : Nat) : Nat → Nat
  | 0 => 0
  | m + 1 => (2 ^ k - 1) + 2 ^ (2 * k) * maskD k m
def AllLt (b : Nat) (l : List Nat) : Prop := ∀ x ∈ l, x < b
theorem and_digits (k d m n n' : Nat) (hd : d < 2 ^ k) (hm : m < 2 ^ k) : (d + 2 ^ k * n) &&& (m + 2 ^ k * n') = (d &&& m) + 2 ^ k * (n &&& n') := by
  have hp : 0 < 2 ^ k := Nat.two_pow_pos k
  have h1 : ((d + 2 ^ k * n) &&& (m + 2 ^ k * n')) % 2 ^ k = d &&& m := by
    rw [Nat.and_mod_two_pow, Nat.add_mul_mod_self_left, Nat.add_mul_mod_self_left, Nat.mod_eq_of_lt hd, Nat.mod_eq_of_lt hm]
  have h2 : ((d + 2 ^ k * n) &&& (m + 2 ^ k * n')) / 2 ^ k = n &&& n' := by
    rw [Nat.and_div_two_pow, Nat.add_mul_div_left _ _ hp, Nat.add_mul_div_left _ _ hp, Nat.div_eq_of_lt hd, Nat.div_eq_of_lt hm, Nat.zero_add, Nat.zero_add]
  have := Nat.div_add_mod ((d + 2 ^ k * n) &&& (m + 2 ^ k * n')) (2 ^ k)
  rw [h1, h2] at this
  omega
theorem two_pow_two (k : Nat) : 2 ^ (2 * k) = 2 ^ k * 2 ^ k := by rw [Nat.two_mul, Nat.pow_add]
theorem digN_pair (k a b : Nat) (t : List Nat) : digN k (a :: b :: t) = (a + 2 ^ k * b) + 2 ^ (2 * k) * digN k t := by
  show a + 2 ^ k * (b + 2 ^ k * digN k t) = _
  rw [two_pow_two, Nat.mul_add, Nat.mul_assoc]; omega
theorem pair_lt {k a b : Nat} (ha : a < 2 ^ k) (hb : b < 2 ^ k) : a + 2 ^ k * b < 2 ^ (2 * k) := by
  rw [two_pow_two]
  have : 2 ^ k * (b + 1) ≤ 2 ^ k * 2 ^ k := Nat.mul_le_mul_left _ hb
  rw [Nat.mul_add] at this; omega
theorem low_and (k a b : Nat) (ha : a < 2 ^ k) : (a + 2 ^ k * b) &&& (2 ^ k - 1) = a := by
  rw [Nat.and_two_pow_sub_one_eq_mod, Nat.add_mul_mod_self_left, Nat.mod_eq_of_lt ha]
theorem mask_lt (k : Nat) : 2 ^ k - 1 < 2 ^ (2 * k) := by
  have h1 : 0 < 2 ^ k := Nat.two_pow_pos k
  have : 2 ^ k ≤ 2 ^ (2 * k) := Nat.pow_le_pow_right (by omega) (by omega)
  omega
theorem and_lows (k : Nat) : ∀ (m : Nat) (l : List Nat), l.length = 2 * m → AllLt (2 ^ k) l → digN k l &&& maskD k m = digN (2 * k) (lowsD l)
  | 0, l, h, _ => by
    obtain rfl : l = [] := List.eq_nil_of_length_eq_zero (by omega)
    simp [digN, maskD, lowsD]
  | m + 1, [], h, _ => by simp at h
  | m + 1, [_], h, _ => by simp at h; omega
  | m + 1, a :: b :: t, h, hl => by
    have ha := hl a (by simp)
    have hb := hl b (by simp)
    rw [digN_pair]
    show _ &&& ((2 ^ k - 1) + 2 ^ (2 * k) * maskD k m) = a + 2 ^ (2 * k) * digN (2 * k) (lowsD t)
    rw [and_digits _ _ _ _ _ (pair_lt ha hb) (mask_lt k), low_and k a b ha, and_lows k m t (by simp at h; omega) (fun x hx => hl x (by simp [hx]))]
theorem and_highs (k : Nat) : ∀ (m : Nat) (l : List Nat), l.length = 2 * m → AllLt (2 ^ k) l → (digN k l / 2 ^ k) &&& maskD k m = digN (2 * k) (highsD l)
  | 0, l, h, _ => by
    obtain rfl : l = [] := List.eq_nil_of_length_eq_zero (by omega)
    simp [digN, maskD, highsD]
  | m + 1, [], h, _ => by simp at h
  | m + 1, [_], h, _ => by simp at h; omega
  | m + 1, a :: b :: t, h, hl => by
    have ha := hl a (by simp)
    have hb := hl b (by simp)
    have hp : 0 < 2 ^ k := Nat.two_pow_pos k
    have e1 : digN k (a :: b :: t) / 2 ^ k = (b + 2 ^ k * (digN k t % 2 ^ k)) + 2 ^ (2 * k) * (digN k t / 2 ^ k) := by
      show (a + 2 ^ k * (b + 2 ^ k * digN k t)) / 2 ^ k = _
      rw [Nat.add_mul_div_left _ _ hp, Nat.div_eq_of_lt ha, Nat.zero_add, two_pow_two, Nat.mul_assoc, Nat.add_assoc, ← Nat.mul_add, Nat.add_comm (digN k t % 2 ^ k), Nat.div_add_mod]
    rw [e1]
    show _ &&& ((2 ^ k - 1) + 2 ^ (2 * k) * maskD k m) = b + 2 ^ (2 * k) * digN (2 * k) (highsD t)
    rw [and_digits _ _ _ _ _ (pair_lt hb (Nat.mod_lt _ hp)) (mask_lt k), low_and k b _ hb, and_highs k m t (by simp at h; omega) (fun x hx => hl x (by simp [hx]))]
theorem lows_highs (k : Nat) : ∀ (m : Nat) (l : List Nat), l.length = 2 * m → digN k (highsD l) + digN k (lowsD l) = digN k (pairsD l)
  | 0, l, h => by
    obtain rfl : l = [] := List.eq_nil_of_length_eq_zero (by omega)
    simp [digN, lowsD, highsD, pairsD]
  | m + 1, [], h => by simp at h
  | m + 1, [_], h => by simp at h; omega
  | m + 1, a :: b :: t, h => by
    have := lows_highs k m t (by simp at h; omega)
    show (b + 2 ^ k * digN k (highsD t)) + (a + 2 ^ k * digN k (lowsD t)) = (a + b) + 2 ^ k * digN k (pairsD t)
    rw [← this, Nat.mul_add]; omega
theorem pairs_len : ∀ (m : Nat) (l : List Nat), l.length = 2 * m → (pairsD l).length = m
  | 0, l, h => by
    obtain rfl : l = [] := List.eq_nil_of_length_eq_zero (by omega)
    rfl
  | m + 1, [], h => by simp at h
  | m + 1, [_], h => by simp at h; omega
  | m + 1, a :: b :: t, h => by simp [pairsD, pairs_len m t (by simp at h; omega)]
theorem pairs_lt : ∀ (c : Nat) (m : Nat) (l : List Nat), l.length = 2 * m → AllLt (c + 1) l → AllLt (2 * c + 1) (pairsD l)
  | c, 0, l, h, _ => by
    obtain rfl : l = [] := List.eq_nil_of_length_eq_zero (by omega)
    intro x hx; cases hx
  | c, m + 1, [], h, _ => by simp at h
  | c, m + 1, [_], h, _ => by simp at h; omega
  | c, m + 1, a :: b :: t, h, hl => by
    have ha := hl a (by simp)
    have hb := hl b (by simp)
    intro x hx
    rcases List.mem_cons.1 hx with rfl | hx
    · omega
    · exact pairs_lt c m t (by simp at h; omega) (fun x hx => hl x (by simp [hx])) x hx
def sumD : List Nat → Nat
  | [] => 0
  | d :: t => d + sumD t
theorem pairs_sum : ∀ (m : Nat) (l : List Nat), l.length = 2 * m → sumD (pairsD l) = sumD l
  | 0, l, h => by
    obtain rfl : l = [] := List.eq_nil_of_length_eq_zero (by omega)
    rfl
  | m + 1, [], h => by simp at h
  | m + 1, [_], h => by simp at h; omega
  | m + 1, a :: b :: t, h => by
    have := pairs_sum m t (by simp at h; omega)
    show (a + b) + sumD (pairsD t) = a + (b + sumD t)
    omega
/-- Digits, and each with the one behind it: no digit runs over. -/
def withNext : List Nat → List Nat
  | [] => []
  | [a] => [a]
  | a :: b :: t => (a + b) :: withNext (b :: t)
theorem digN_next (k : Nat) : ∀ (l : List Nat), AllLt (2 ^ k) l → digN k l / 2 ^ k + digN k l = digN k (withNext l)
  | [], _ => by simp [digN, withNext]
  | [a], h => by
    have ha := h a (by simp)
    simp [digN, withNext, Nat.div_eq_of_lt ha]
  | a :: b :: t, h => by
    have ha := h a (by simp)
    have hp : 0 < 2 ^ k := Nat.two_pow_pos k
    have ih := digN_next k (b :: t) (fun x hx => h x (by simp [hx]))
    have e : digN k (a :: b :: t) = a + 2 ^ k * digN k (b :: t) := rfl
    have e1 : digN k (b :: t) = b + 2 ^ k * digN k t := rfl
    have hb := h b (by simp)
    have e2 : digN k (b :: t) / 2 ^ k = digN k t := by rw [e1, Nat.add_mul_div_left _ _ hp, Nat.div_eq_of_lt hb, Nat.zero_add]
    rw [e, Nat.add_mul_div_left _ _ hp, Nat.div_eq_of_lt ha, Nat.zero_add]
    show _ = (a + b) + 2 ^ k * digN k (withNext (b :: t))
    rw [← ih, e2, Nat.mul_add, e1, Nat.mul_add]; omega
theorem next_len : ∀ l : List Nat, (withNext l).length = l.length
  | [] => rfl
  | [a] => rfl
  | a :: b :: t => by simp [withNext, next_len (b :: t)]
theorem next_lt (c : Nat) : ∀ l : List Nat, AllLt (c + 1) l → AllLt (2 * c + 1) (withNext l)
  | [], _ => fun x hx => by cases hx
  | [a], h => fun x hx => by
    have ha := h a (by simp)
    simp [withNext] at hx; omega
  | a :: b :: t, h => fun x hx => by
    have ha := h a (by simp)
    have hb := h b (by simp)
    rcases List.mem_cons.1 hx with rfl | hx
    · omega
    · exact next_lt c (b :: t) (fun x hx => h x (by simp [hx])) x hx
theorem lows_next : ∀ (m : Nat) (l : List Nat), l.length = 2 * m → lowsD (withNext l) = pairsD l
  | 0, l, h => by
    obtain rfl : l = [] := List.eq_nil_of_length_eq_zero (by omega)
    rfl
  | m + 1, [], h => by simp at h
  | m + 1, [_], h => by simp at h; omega
  | m + 1, [a, b], h => rfl
  | m + 1, [a, b, c], h => by simp at h; omega
  | m + 1, a :: b :: c :: d :: t, h => by
    have := lows_next m (c :: d :: t) (by simp at h ⊢; omega)
    show (a + b) :: lowsD (withNext (c :: d :: t)) = _
    rw [this]; rfl
/-- math/bits.OnesCount64's reckoning. -/
def stp1 (x : Nat) : Nat := (x / 2 &&& 6148914691236517205) + (x &&& 6148914691236517205)
def stp2 (x : Nat) : Nat := (x / 4 &&& 3689348814741910323) + (x &&& 3689348814741910323)
def stp3 (x : Nat) : Nat := (x / 16 + x) &&& 1085102592571150095
def stp4 (x : Nat) : Nat := x + x / 256
def stp5 (x : Nat) : Nat := x + x / 65536
def stp6 (x : Nat) : Nat := x + x / 4294967296
def onesN (x : Nat) : Nat := stp6 (stp5 (stp4 (stp3 (stp2 (stp1 x))))) % 128
def bitsL (x : Nat) : Nat → List Nat
  | 0 => []
  | n + 1 => x % 2 :: bitsL (x / 2) n
theorem bitsL_len : ∀ n x, (bitsL x n).length = n
  | 0, _ => rfl
  | n + 1, x => by simp [bitsL, bitsL_len n]
theorem bitsL_lt : ∀ n x, AllLt 2 (bitsL x n)
  | 0, _ => fun y hy => by cases hy
  | n + 1, x => fun y hy => by
    rcases List.mem_cons.1 hy with rfl | hy
    · exact Nat.mod_lt _ (by omega)
    · exact bitsL_lt n _ y hy
theorem bitsL_num : ∀ n x, x < 2 ^ n → digN 1 (bitsL x n) = x
  | 0, x, h => by simp at h; simp [bitsL, digN, h]
  | n + 1, x, h => by
    have := bitsL_num n (x / 2) (by rw [Nat.pow_succ] at h; omega)
    show x % 2 + 2 ^ 1 * digN 1 (bitsL (x / 2) n) = x
    rw [this]; omega
/-- How many i below n there are with p. -/
def cntB (p : Nat → Bool) : Nat → Nat
  | 0 => 0
  | n + 1 => cntB p n + (if p n then 1 else 0)
theorem cntB_succ (p : Nat → Bool) : ∀ n, cntB p (n + 1) = (if p 0 then 1 else 0) + cntB (fun i => p (i + 1)) n
  | 0 => by simp [cntB]
  | n + 1 => by
    have := cntB_succ p n
    show cntB p (n + 1) + (if p (n + 1) then 1 else 0) = (if p 0 then 1 else 0) + (cntB (fun i => p (i + 1)) n + (if p (n + 1) then 1 else 0))
    rw [this]; omega
theorem bitsL_sum : ∀ n x, sumD (bitsL x n) = cntB (fun i => x.testBit i) n
  | 0, _ => rfl
  | n + 1, x => by
    rw [cntB_succ]
    show x % 2 + sumD (bitsL (x / 2) n) = _
    rw [bitsL_sum n (x / 2)]
    congr 1
    · rw [Nat.testBit_zero]
      by_cases h : x % 2 = 1 <;> simp [h]; omega
    · congr 1; funext i; rw [Nat.testBit_succ]
theorem list8 (l : List Nat) (h : l.length = 8) : ∃ a b c d e f g i, l = [a, b, c, d, e, f, g, i] := by
  match l, h with
  | [a, b, c, d, e, f, g, i], _ => exact ⟨a, b, c, d, e, f, g, i, rfl⟩
theorem divlow (lo hi k : Nat) (h : lo < k) : (lo + k * hi) / k = hi := by
  rw [Nat.add_mul_div_left _ _ (by omega), Nat.div_eq_of_lt h, Nat.zero_add]
theorem ones_any (x : Nat) (h : x < 18446744073709551616) : onesN x = cntB (fun i => x.testBit i) 64 := by
  rw [← bitsL_sum 64 x]
  have l0 := bitsL_len 64 x
  have b0 := bitsL_lt 64 x
  have n0 := bitsL_num 64 x (by simpa using h)
  generalize bitsL x 64 = L at *
  have m0 : maskD 1 32 = 6148914691236517205 := by decide +kernel
  have m1 : maskD 2 16 = 3689348814741910323 := by decide +kernel
  have m2 : maskD 4 8 = 1085102592571150095 := by decide +kernel
  have e1 : stp1 x = digN 2 (pairsD L) := by
    unfold stp1
    rw [← m0, ← n0]
    have a := and_highs 1 32 L (by omega) b0
    have b := and_lows 1 32 L (by omega) b0
    rw [show digN 1 L / 2 = digN 1 L / 2 ^ 1 from rfl, a, b]
    exact lows_highs 2 32 L (by omega)
  have l1 := pairs_len 32 L (by omega)
  have b1 := pairs_lt 1 32 L (by omega) b0
  have s1 := pairs_sum 32 L (by omega)
  rw [← s1]
  unfold onesN
  rw [e1]
  generalize pairsD L = L1 at *
  have e2 : stp2 (digN 2 L1) = digN 4 (pairsD L1) := by
    unfold stp2
    rw [← m1]
    have a := and_highs 2 16 L1 (by omega) (fun y hy => by have := b1 y hy; omega)
    have b := and_lows 2 16 L1 (by omega) (fun y hy => by have := b1 y hy; omega)
    rw [show digN 2 L1 / 4 = digN 2 L1 / 2 ^ 2 from rfl, a, b]
    exact lows_highs 4 16 L1 (by omega)
  have l2 := pairs_len 16 L1 (by omega)
  have b2 := pairs_lt 2 16 L1 (by omega) b1
  have s2 := pairs_sum 16 L1 (by omega)
  rw [← s2]
  rw [e2]
  generalize pairsD L1 = L2 at *
  have e3 : stp3 (digN 4 L2) = digN 8 (pairsD L2) := by
    unfold stp3
    rw [← m2, show digN 4 L2 / 16 = digN 4 L2 / 2 ^ 4 from rfl, digN_next 4 L2 (fun y hy => by have := b2 y hy; omega)]
    have b3 := next_lt 4 L2 b2
    have a := and_lows 4 8 (withNext L2) (by rw [next_len]; omega) (fun y hy => by have := b3 y hy; omega)
    rw [a, lows_next 8 L2 (by omega)]
  have l3 := pairs_len 8 L2 (by omega)
  have b3 := pairs_lt 4 8 L2 (by omega) b2
  have s3 := pairs_sum 8 L2 (by omega)
  rw [← s3]
  rw [e3]
  generalize pairsD L2 = L3 at *
  clear e1 e2 e3 s1 s2 s3 n0 m0 m1 m2
  obtain ⟨a, b, c, d, e, f, g, i, rfl⟩ := list8 L3 l3
  have ha := b3 a (by simp)
  have hb := b3 b (by simp)
  have hc := b3 c (by simp)
  have hd := b3 d (by simp)
  have he := b3 e (by simp)
  have hf := b3 f (by simp)
  have hg := b3 g (by simp)
  have hi := b3 i (by simp)
  have en : digN 8 [a, b, c, d, e, f, g, i] = a + 256 * (b + 256 * (c + 256 * (d + 256 * (e + 256 * (f + 256 * (g + 256 * i)))))) := by simp [digN]
  have es : sumD [a, b, c, d, e, f, g, i] = a + b + c + d + e + f + g + i := by simp [sumD]; omega
  rw [en, es]
  clear en es b3 l3
  have q4 : stp4 (a + 256 * (b + 256 * (c + 256 * (d + 256 * (e + 256 * (f + 256 * (g + 256 * i))))))) = ((a + b) + 256 * (b + c)) + 65536 * ((c + d) + 256 * (d + e) + 65536 * ((e + f) + 256 * (f + g) + 65536 * ((g + i) + 256 * i))) := by
    unfold stp4; rw [divlow _ _ 256 (by omega)]; omega
  rw [q4]
  have q5 : stp5 (((a + b) + 256 * (b + c)) + 65536 * ((c + d) + 256 * (d + e) + 65536 * ((e + f) + 256 * (f + g) + 65536 * ((g + i) + 256 * i)))) = ((a + b + c + d) + 256 * (b + c + d + e) + 65536 * ((c + d + e + f) + 256 * (d + e + f + g))) + 4294967296 * ((e + f + g + i) + 256 * (f + g + i) + 65536 * ((g + i) + 256 * i)) := by
    unfold stp5; rw [divlow _ _ 65536 (by omega)]; omega
  rw [q5]
  unfold stp6
  rw [divlow _ _ 4294967296 (by omega)]
  have q7 : ((a + b + c + d) + 256 * (b + c + d + e) + 65536 * ((c + d + e + f) + 256 * (d + e + f + g))) + 4294967296 * ((e + f + g + i) + 256 * (f + g + i) + 65536 * ((g + i) + 256 * i)) + ((e + f + g + i) + 256 * (f + g + i) + 65536 * ((g + i) + 256 * i)) = (a + b + c + d + e + f + g + i) + 128 * (2 * (b + c + d + e) + 512 * ((c + d + e + f) + 256 * (d + e + f + g)) + 33554432 * ((e + f + g + i) + 256 * (f + g + i) + 65536 * ((g + i) + 256 * i)) + 2 * (f + g + i) + 512 * ((g + i) + 256 * i)) := by omega
  rw [q7, Nat.add_mul_mod_self_left]
  clear q4 q5 q7
  exact Nat.mod_eq_of_lt (by omega)
theorem ones_lt (p : Nat → Bool) : ∀ n, cntB p n ≤ n
  | 0 => Nat.le_refl _
  | n + 1 => by have := ones_lt p n; unfold cntB; split <;> omega
theorem cntB_add (p : Nat → Bool) (n : Nat) : ∀ m, cntB p (n + m) = cntB p n + cntB (fun i => p (n + i)) m
  | 0 => rfl
  | m + 1 => by
    show cntB p (n + m) + (if p (n + m) then 1 else 0) = cntB p n + (cntB (fun i => p (n + i)) m + (if p (n + m) then 1 else 0))
    rw [cntB_add p n m]; omega
theorem cntB_congr {p q : Nat → Bool} : ∀ n, (∀ i, i < n → p i = q i) → cntB p n = cntB q n
  | 0, _ => rfl
  | n + 1, h => by unfold cntB; rw [cntB_congr n (fun i hi => h i (by omega)), h n (by omega)]
theorem len_words (s : S4) : cntB s.has 256 = cntB (fun i => s.a.toNat.testBit i) 64 + cntB (fun i => s.b.toNat.testBit i) 64 + cntB (fun i => s.c.toNat.testBit i) 64 + cntB (fun i => s.d.toNat.testBit i) 64 := by
  have e1 : cntB s.has (192 + 64) = cntB s.has 192 + cntB (fun i => s.has (192 + i)) 64 := cntB_add s.has 192 64
  have e2 : cntB s.has (128 + 64) = cntB s.has 128 + cntB (fun i => s.has (128 + i)) 64 := cntB_add s.has 128 64
  have e3 : cntB s.has (64 + 64) = cntB s.has 64 + cntB (fun i => s.has (64 + i)) 64 := cntB_add s.has 64 64
  simp only [Nat.reduceAdd] at e1 e2 e3
  rw [e1, e2, e3]
  have f0 : cntB s.has 64 = cntB (fun i => s.a.toNat.testBit i) 64 := cntB_congr 64 fun i hi => by
    unfold S4.has; rw [if_pos hi, BitVec.testBit_toNat]
  have f1 : cntB (fun i => s.has (64 + i)) 64 = cntB (fun i => s.b.toNat.testBit i) 64 := cntB_congr 64 fun i hi => by
    unfold S4.has; rw [if_neg (by omega), if_pos (by omega), BitVec.testBit_toNat, Nat.add_sub_cancel_left]
  have f2 : cntB (fun i => s.has (128 + i)) 64 = cntB (fun i => s.c.toNat.testBit i) 64 := cntB_congr 64 fun i hi => by
    unfold S4.has; rw [if_neg (by omega), if_neg (by omega), if_pos (by omega), BitVec.testBit_toNat, Nat.add_sub_cancel_left]
  have f3 : cntB (fun i => s.has (192 + i)) 64 = cntB (fun i => s.d.toNat.testBit i) 64 := cntB_congr 64 fun i hi => by
    unfold S4.has; rw [if_neg (by omega), if_neg (by omega), if_neg (by omega), BitVec.testBit_toNat, Nat.add_sub_cancel_left]
  rw [f0, f1, f2, f3]
end Go.Proofs.Ytnhbjjjoocpedaa
