import Derived.Test.YtnpjknnalekdpaaAy
namespace Go.Proofs.Ytnpjknnalekdpaa
set_option linter.unusedSimpArgs false
set_option linter.unusedVariables false
open Go.RowKit
set_option maxRecDepth 100000 in
theorem bits_or_comm (k : IntKind) (a b : Int) : bits .or k a b = bits .or k b a := by
  unfold bits
  simp only [BitVec.or_comm]
set_option maxRecDepth 100000 in
theorem rotl_eq (k x : Int) (n : Nat) (h : 32 - (rotBy k).toNat = n) : rotl k x = rotr n x := by unfold rotl; rw [h]
set_option maxRecDepth 100000 in
set_option maxHeartbeats 400000 in
theorem rturn_any (x : Int) (n : Nat) (w : World) (h1 : 1 ≤ n) (h2 : n ≤ 31) : Calls Try.prog 38 #[.int .u32 x, .int .u64 n] w fun e w' => e = .returned (.int .u32 (rotr n x)) ∧ w' = w := by
  have hf : Hid (rotr n x = bits .or .u32 (x / 2 ^ n) (x * 2 ^ (32 - n) % 4294967296)) := by unfold Hid rotr; exact bits_or_comm _ _ _
  go_enter Try.func38, Try.ntmps38
  go_wp2
  go_ret
  refine ⟨?_, rfl⟩
  rw [hf.out]
  rfl
set_option maxRecDepth 100000 in
set_option maxHeartbeats 1000000 in
theorem k256_any (w : World) : Calls Try.prog 37 #[] w fun e w' => e = .returned (.agg (vW kWords)) ∧ Below w.heap.size w w' := by
  go_enter Try.func37, Try.ntmps37
  go_wp2_with (first | (refine store44 rfl _ _ rfl _ kWords rfl rfl rfl 73 (zs 64) rfl (heap_alloc_new _ _) ?_))
  rw [World.setRow_alloc_new]
  exact bodyPost_ret (v := .agg (vW kWords)) (results_cell_row (p := 0) (ty := 73) Try.results37 _ _ w.heap.size 73 _ (0, 0) _ rfl (heap_alloc_new _ _) Try.underlying73 rfl (by rw [vW_size]; kernel_rfl)) rfl ⟨rfl, (Below.refl _ _).alloc (Nat.le_refl _) _⟩
/-- The number of bytes, up to the k-th. -/
def ofTo (l : List Int) : Nat → Int
  | 0 => 0
  | k + 1 => bits .or .u64 (ofTo l k * 256 % 18446744073709551616) (gi l k % 18446744073709551616)
set_option maxRecDepth 100000 in
set_option maxHeartbeats 1000000 in
theorem rof_any (b o cp : Nat) (l : List Int) (w : World) (hl : l.length = 4) (hcp : 4 ≤ cp) (hr : w.rangeAt b o (vB l).toList) : Calls Try.prog 12 #[.slice (some ⟨b, o, none⟩) 4 cp] w fun e w' => e = .returned (.int .u64 (ofTo l 4)) ∧ w' = w := by
  go_enter Try.func12, Try.ntmps12
  go_wp2
  go_loop [3, 7] (fun n i => ∃ k : Nat, k ≤ 4 ∧ i = .int .i64 k ∧ n = .int .u64 (ofTo l k)) (fun _ i => 4 - (intOf i).toNat)
  case atStart => exact ⟨0, by omega, rfl, rfl⟩
  case round =>
    obtain ⟨k, hk, rfl, rfl⟩ := hrel
    by_cases hlt : k < 4
    · have hc := rangeB hr k (by omega)
      go_wp2
      go_round
      case rel =>
        refine ⟨k + 1, by omega, by go_num, ?_⟩
        rfl
      case measure => simp [intOf]; omega
    · have ek : k = 4 := by omega
      subst ek
      go_wp2
      go_ret
      exact ⟨rfl, rfl⟩
end Go.Proofs.Ytnpjknnalekdpaa
namespace Go.Proofs.Ytnpjknnalekdpaa
set_option linter.unusedSimpArgs false
set_option linter.unusedVariables false
open Go.RowKit
def numTo (m : Int) : Nat → List Int
  | 0 => zs 8
  | k + 1 => (numTo m k).set (7 - k) (m / 2 ^ (8 * k) % 256)
set_option maxRecDepth 100000 in
theorem numTo_length (m : Int) (k : Nat) : (numTo m k).length = 8 := by
  induction k with
  | zero => rfl
  | succ k ih => simp [numTo, ih]
set_option maxRecDepth 100000 in
set_option maxHeartbeats 1000000 in
theorem num_any (m : Int) (w : World) : Calls Try.prog 29 #[.int .u64 m, .int .i64 8] w fun e w' => ∃ g, e = .returned (.slice (some ⟨g, 0, none⟩) 8 8) ∧ w.heap.size ≤ g ∧ w'.heap[g]? = some (.cells (vB (numTo m 8)) 5) ∧ Below w.heap.size w w' := by
  have hmk : ∀ w : World, (Instr.makeSlice 22 (.int .i64 8) (.int .i64 8)).run Try.prog w = .ok (.slice (some ⟨w.heap.size, 0, none⟩) 8 8) (w.alloc (.cells (vB (zs 8)) 5)) := fun w => makeB 8 (by omega) w
  go_enter Try.func29, Try.ntmps29
  go_wp2
  go_loopw [10] (fun i wr => ∃ k : Nat, k ≤ 8 ∧ i = .int .i64 k ∧ Below w.heap.size w wr ∧ wr.heap.size = w.heap.size + 1 ∧ wr.heap[w.heap.size]? = some (.cells (vB (numTo m k)) 5)) (fun i _ => 8 - (intOf i).toNat)
  case atStart => exact ⟨0, by omega, rfl, (Below.refl _ _).alloc (Nat.le_refl _) _, by simp, heap_alloc_new _ _⟩
  case round =>
    obtain ⟨k, hk, rfl, hbl, hsize, hb0⟩ := hrel
    have hnl := numTo_length m k
    by_cases hlt : k < 8
    · have hc := row_cell hb0 (vB_at (numTo m k) (7 - k) (by omega))
      have hfw : wr.frozen? ⟨w.heap.size, 7 - k, none⟩ = false := frozen_of_row _ _ _ _ _ hb0
      go_wp2
      go_roundw
      case rel =>
        refine ⟨k + 1, by omega, by go_num, hbl.setCell (by show w.heap.size ≤ w.heap.size; omega) _, by simpa using hsize, setB hb0⟩
      case measure => simp [intOf]; omega
    · have ek : k = 8 := by omega
      have hb0' : wr.heap[w.heap.size]? = some (.cells (vB (numTo m 8)) 5) := by rw [hb0, ek]
      clear ek hb0
      go_wp2
      go_ret
      exact ⟨w.heap.size, rfl, Nat.le_refl _, hb0', hbl⟩
end Go.Proofs.Ytnpjknnalekdpaa
/- The reference's ways to the same numbers: plain lists and integers. -/
namespace Go.Proofs.Ytnpjknnalekdpaa
set_option linter.unusedSimpArgs false
set_option linter.unusedVariables false
theorem padTo_eq (n k j : Nat) (hk : k = (119 - n % 64) % 64) (hj : j ≤ 8) : padTo n j = (128 :: zs k) ++ numTo ((n : Int) * 8) j := by
  have hm : padLen n = k + 9 := by unfold padLen; omega
  induction j with
  | zero =>
    show (zs (padLen n)).set 0 128 = (128 :: zs k) ++ zs 8
    rw [hm]
    show (List.replicate (k + 8 + 1) (0 : Int)).set 0 128 = 128 :: (List.replicate k 0 ++ List.replicate 8 0)
    rw [List.replicate_succ, List.set_cons_zero, List.replicate_append_replicate]
  | succ j ih =>
    show (padTo n j).set (padLen n - 1 - j) _ = (128 :: zs k) ++ (numTo ((n : Int) * 8) j).set (7 - j) _
    rw [ih (by omega), hm, List.set_append_right _ _ (by simp [zs]; omega)]
    congr 2
    simp [zs]; omega
theorem msg_eq (bs : List Int) (k : Nat) (hk : k = (119 - bs.length % 64) % 64) : (bs ++ 128 :: zs k) ++ numTo ((bs.length : Int) * 8) 8 = bs ++ padL bs.length := by
  unfold padL
  rw [padTo_eq bs.length k 8 hk (by omega)]
  simp
theorem or32 (x y i : Nat) (hx : x % 2 ^ i = 0) (hy : y < 2 ^ i) (h1 : x < 4294967296) (h2 : y < 4294967296) : bits .or .u32 (x : Int) (y : Int) = ((x + y : Nat) : Int) := by
  rw [u32_or_nat x y h1 h2, nat_join i x y hx hy]
theorem or64 (x y i : Nat) (hx : x % 2 ^ i = 0) (hy : y < 2 ^ i) (h1 : x < 18446744073709551616) (h2 : y < 18446744073709551616) : bits .or .u64 (x : Int) (y : Int) = ((x + y : Nat) : Int) := by
  rw [u64_or_nat x y h1 h2, nat_join i x y hx hy]
theorem word4_eq (a b c d : Nat) (ha : a < 256) (hb : b < 256) (hc : c < 256) (hd : d < 256) : word4 a b c d = ((a * 16777216 + b * 65536 + c * 256 + d : Nat) : Int) := by
  unfold word4 bor
  have e1 : ((a : Int) % 4294967296 * 16777216 % 4294967296) = ((a * 16777216 : Nat) : Int) := by omega
  have e2 : ((b : Int) % 4294967296 * 65536 % 4294967296) = ((b * 65536 : Nat) : Int) := by omega
  have e3 : ((c : Int) % 4294967296 * 256 % 4294967296) = ((c * 256 : Nat) : Int) := by omega
  have e4 : ((d : Int) % 4294967296) = ((d : Nat) : Int) := by omega
  rw [e1, e2, e3, e4]
  rw [or32 (a * 16777216) (b * 65536) 24 (by omega) (by omega) (by omega) (by omega)]
  rw [or32 (a * 16777216 + b * 65536) (c * 256) 16 (by omega) (by omega) (by omega) (by omega)]
  rw [or32 (a * 16777216 + b * 65536 + c * 256) d 8 (by omega) (by omega) (by omega) (by omega)]
theorem ofTo_eq (a b c d : Nat) (ha : a < 256) (hb : b < 256) (hc : c < 256) (hd : d < 256) : ofTo [(a : Int), b, c, d] 4 = ((a * 16777216 + b * 65536 + c * 256 + d : Nat) : Int) := by
  have g0 : gi [(a : Int), b, c, d] 0 = a := rfl
  have g1 : gi [(a : Int), b, c, d] 1 = b := rfl
  have g2 : gi [(a : Int), b, c, d] 2 = c := rfl
  have g3 : gi [(a : Int), b, c, d] 3 = d := rfl
  simp only [ofTo, g0, g1, g2, g3]
  have m1 : ((a : Int) % 18446744073709551616) = ((a : Nat) : Int) := by omega
  have m2 : ((b : Int) % 18446744073709551616) = ((b : Nat) : Int) := by omega
  have m3 : ((c : Int) % 18446744073709551616) = ((c : Nat) : Int) := by omega
  have m4 : ((d : Int) % 18446744073709551616) = ((d : Nat) : Int) := by omega
  have z0 : ((0 : Int) * 256 % 18446744073709551616) = ((0 : Nat) : Int) := by omega
  rw [m1, m2, m3, m4, z0]
  rw [or64 0 a 8 (by omega) (by omega) (by omega) (by omega)]
  rw [show (((0 + a : Nat) : Int) * 256 % 18446744073709551616) = ((a * 256 : Nat) : Int) by omega, or64 (a * 256) b 8 (by omega) (by omega) (by omega) (by omega)]
  rw [show (((a * 256 + b : Nat) : Int) * 256 % 18446744073709551616) = (((a * 256 + b) * 256 : Nat) : Int) by omega, or64 ((a * 256 + b) * 256) c 8 (by omega) (by omega) (by omega) (by omega)]
  rw [show ((((a * 256 + b) * 256 + c : Nat) : Int) * 256 % 18446744073709551616) = ((((a * 256 + b) * 256 + c) * 256 : Nat) : Int) by omega, or64 (((a * 256 + b) * 256 + c) * 256) d 8 (by omega) (by omega) (by omega) (by omega)]
  omega
/-- Four bytes as the reference reads them are the block's word. -/
theorem word_ref (a b c d : Int) (ha : 0 ≤ a ∧ a ≤ 255) (hb : 0 ≤ b ∧ b ≤ 255) (hc : 0 ≤ c ∧ c ≤ 255) (hd : 0 ≤ d ∧ d ≤ 255) : ofTo [a, b, c, d] 4 % 4294967296 = word4 a b c d := by
  obtain ⟨a', rfl⟩ := Int.eq_ofNat_of_zero_le ha.1
  obtain ⟨b', rfl⟩ := Int.eq_ofNat_of_zero_le hb.1
  obtain ⟨c', rfl⟩ := Int.eq_ofNat_of_zero_le hc.1
  obtain ⟨d', rfl⟩ := Int.eq_ofNat_of_zero_le hd.1
  have h1 := ofTo_eq a' b' c' d' (by omega) (by omega) (by omega) (by omega)
  have h2 := word4_eq a' b' c' d' (by omega) (by omega) (by omega) (by omega)
  rw [h2, h1]
  omega
theorem words16_at (bl : List Int) (k : Nat) : ∀ i, i < k → gi (words16 bl k) i = wordAt bl i := by
  induction k with
  | zero => intro i hi; omega
  | succ k ih =>
    intro i hi
    show gi (words16 bl k ++ [wordAt bl k]) i = _
    by_cases h : i < k
    · rw [gi_append _ _ _ (by rw [words16_length]; exact h)]; exact ih i h
    · have e : i = k := by omega
      subst e
      unfold gi
      simp [words16_length]
theorem schedTo_pre (bl : List Int) (k m : Nat) (h : k ≤ m) : ∀ i, i < 16 + k → gi (schedTo bl m) i = gi (schedTo bl k) i := by
  induction m with
  | zero => intro i hi; have : k = 0 := by omega
            subst this; rfl
  | succ m ih =>
    intro i hi
    by_cases e : k = m + 1
    · subst e; rfl
    · show gi (schedTo bl m ++ [_]) i = _
      rw [gi_append _ _ _ (by rw [schedTo_length]; omega)]
      exact ih (by omega) i hi
theorem sched_lo (bl : List Int) (i : Nat) (h : i < 16) : gi (sched bl) i = wordAt bl i := by
  unfold sched
  rw [schedTo_pre bl 0 48 (by omega) i (by omega)]
  exact words16_at bl 16 i h
theorem sched_hi (bl : List Int) (i : Nat) (h : 16 ≤ i) (h2 : i < 64) : gi (sched bl) i = nextW (sched bl) i := by
  unfold sched
  rw [schedTo_pre bl (i - 15) 48 (by omega) i (by omega)]
  have e : i - 15 = (i - 16) + 1 := by omega
  rw [e]
  show gi (schedTo bl (i - 16) ++ [nextW (schedTo bl (i - 16)) (16 + (i - 16))]) i = _
  have hl := schedTo_length bl (i - 16)
  have e1 : gi (schedTo bl (i - 16) ++ [nextW (schedTo bl (i - 16)) (16 + (i - 16))]) i = nextW (schedTo bl (i - 16)) (16 + (i - 16)) := by
    unfold gi
    rw [List.getD_eq_getElem?_getD, List.getElem?_append_right (by omega), hl, show i - (16 + (i - 16)) = 0 by omega]
    rfl
  rw [e1, show 16 + (i - 16) = i by omega]
  unfold nextW
  rw [schedTo_pre bl (i - 16) 48 (by omega) (i - 2) (by omega), schedTo_pre bl (i - 16) 48 (by omega) (i - 7) (by omega), schedTo_pre bl (i - 16) 48 (by omega) (i - 15) (by omega), schedTo_pre bl (i - 16) 48 (by omega) (i - 16) (by omega)]
/-- The reference's next word of the schedule. -/
def nextR (l : List Int) (i : Nat) : Int :=
  (gi l (i - 16) + bxor (bxor (rotr 7 (gi l (i - 15))) (rotr 18 (gi l (i - 15)))) (gi l (i - 15) / 8) + gi l (i - 7) + bxor (bxor (rotr 17 (gi l (i - 2))) (rotr 19 (gi l (i - 2)))) (gi l (i - 2) / 1024)) % 4294967296
theorem rb7 : 32 - (rotBy (-7)).toNat = 7 := by decide +kernel
theorem rb18 : 32 - (rotBy (-18)).toNat = 18 := by decide +kernel
theorem rb17 : 32 - (rotBy (-17)).toNat = 17 := by decide +kernel
theorem rb19 : 32 - (rotBy (-19)).toNat = 19 := by decide +kernel
theorem rb6 : 32 - (rotBy (-6)).toNat = 6 := by decide +kernel
theorem rb11 : 32 - (rotBy (-11)).toNat = 11 := by decide +kernel
theorem rb25 : 32 - (rotBy (-25)).toNat = 25 := by decide +kernel
theorem rb2 : 32 - (rotBy (-2)).toNat = 2 := by decide +kernel
theorem rb13 : 32 - (rotBy (-13)).toNat = 13 := by decide +kernel
theorem rb22 : 32 - (rotBy (-22)).toNat = 22 := by decide +kernel
theorem nextR_eq (l : List Int) (i : Nat) : nextR l i = nextW l i := by
  unfold nextR nextW mixNear mixFar
  rw [rotl_eq _ _ _ rb7, rotl_eq _ _ _ rb18, rotl_eq _ _ _ rb17, rotl_eq _ _ _ rb19]
  congr 1; omega
theorem mixE_eq (x : Int) : mixE x = bxor (bxor (rotr 6 x) (rotr 11 x)) (rotr 25 x) := by
  unfold mixE; rw [rotl_eq _ _ _ rb6, rotl_eq _ _ _ rb11, rotl_eq _ _ _ rb25]
theorem mixA_eq (x : Int) : mixA x = bxor (bxor (rotr 2 x) (rotr 13 x)) (rotr 22 x) := by
  unfold mixA; rw [rotl_eq _ _ _ rb2, rotl_eq _ _ _ rb13, rotl_eq _ _ _ rb22]
theorem outTo_at (ws : List Int) (k : Nat) (hk : k ≤ 8) : ∀ i, i < 4 * k → gi (outTo ws k) i = gi ws (i / 4) / 2 ^ (24 - 8 * (i % 4)) % 256 := by
  induction k with
  | zero => intro i hi; omega
  | succ k ih =>
    intro i hi
    have hl := outTo_length ws k
    show gi (((((outTo ws k).set (4 * k) _).set (4 * k + 1) _).set (4 * k + 2) _).set (4 * k + 3) _) i = _
    by_cases h : i < 4 * k
    · rw [← ih (by omega) i h]
      unfold gi
      simp only [List.getD_eq_getElem?_getD]
      rw [List.getElem?_set_ne (by omega), List.getElem?_set_ne (by omega), List.getElem?_set_ne (by omega), List.getElem?_set_ne (by omega)]
    · have hi4 : i / 4 = k := by omega
      rw [hi4]
      have hc : i = 4 * k ∨ i = 4 * k + 1 ∨ i = 4 * k + 2 ∨ i = 4 * k + 3 := by omega
      rcases hc with e | e | e | e <;> subst e
      · rw [show (4 * k) % 4 = 0 by omega]
        unfold gi
        simp only [List.getD_eq_getElem?_getD]
        rw [List.getElem?_set_ne (by omega), List.getElem?_set_ne (by omega), List.getElem?_set_ne (by omega), List.getElem?_set_self (by omega)]
        rfl
      · rw [show (4 * k + 1) % 4 = 1 by omega]
        unfold gi
        simp only [List.getD_eq_getElem?_getD]
        rw [List.getElem?_set_ne (by omega), List.getElem?_set_ne (by omega), List.getElem?_set_self (by simp; omega)]
        rfl
      · rw [show (4 * k + 2) % 4 = 2 by omega]
        unfold gi
        simp only [List.getD_eq_getElem?_getD]
        rw [List.getElem?_set_ne (by omega), List.getElem?_set_self (by simp; omega)]
        rfl
      · rw [show (4 * k + 3) % 4 = 3 by omega]
        unfold gi
        simp only [List.getD_eq_getElem?_getD]
        rw [List.getElem?_set_self (by simp; omega)]
        simp
end Go.Proofs.Ytnpjknnalekdpaa
namespace Go.Proofs.Ytnpjknnalekdpaa
set_option linter.unusedSimpArgs false
set_option linter.unusedVariables false
open Go.RowKit
/-- The bodies of all loops, the outer one ahead of those within. -/
def loopsOf : Code → List Code
  | .loop c => c :: loopsOf c
  | .seq a b => loopsOf a ++ loopsOf b
  | .block _ c => loopsOf c
  | .scope c => loopsOf c
  | .cond _ a b => loopsOf a ++ loopsOf b
  | _ => []
/-- A loop's post: it is left by that exit alone. -/
def postOf (n : Nat) (R : Act → World → Prop) : Exit → Act → World → Prop
  | .exit m, a, w => m = n ∧ R a w
  | _, _, _ => False
/-- The frame of the reference's Sum, its slots by a function. -/
def mkA (f : Nat → Value) : Act := ⟨#[f 0, f 1, f 2, f 3, f 4, f 5, f 6, f 7, f 8, f 9, f 10, f 11, f 12, f 13, f 14, f 15, f 16, f 17, f 18, f 19, f 20, f 21, f 22, f 23, f 24, f 25, f 26, f 27, f 28, f 29, f 30, f 31, f 32, f 33, f 34, f 35, f 36, f 37, f 38, f 39, f 40, f 41, f 42, f 43, f 44, f 45, f 46, f 47, f 48, f 49, f 50, f 51, f 52, f 53, f 54, f 55, f 56, f 57, f 58, f 59, f 60, f 61, f 62, f 63, f 64, f 65, f 66, f 67, f 68, f 69, f 70, f 71, f 72, f 73, f 74, f 75, f 76, f 77, f 78, f 79, f 80, f 81, f 82, f 83, f 84, f 85, f 86, f 87, f 88, f 89, f 90, f 91, f 92, f 93, f 94, f 95, f 96, f 97, f 98, f 99, f 100, f 101, f 102, f 103, f 104, f 105, f 106, f 107, f 108, f 109, f 110, f 111, f 112, f 113, f 114, f 115, f 116, f 117, f 118, f 119, f 120, f 121, f 122, f 123, f 124, f 125, f 126, f 127, f 128, f 129, f 130, f 131, f 132, f 133, f 134, f 135, f 136, f 137, f 138, f 139, f 140, f 141, f 142, f 143, f 144, f 145, f 146, f 147, f 148, f 149, f 150, f 151, f 152, f 153, f 154, f 155, f 156, f 157, f 158, f 159, f 160, f 161, f 162, f 163, f 164, f 165, f 166, f 167, f 168, f 169, f 170, f 171, f 172, f 173, f 174, f 175, f 176, f 177, f 178, f 179, f 180, f 181, f 182, f 183, f 184, f 185, f 186, f 187, f 188, f 189, f 190, f 191, f 192, f 193, f 194, f 195, f 196, f 197, f 198, f 199, f 200, f 201, f 202, f 203, f 204, f 205, f 206, f 207, f 208, f 209, f 210, f 211, f 212, f 213, f 214, f 215, f 216, f 217], []⟩
set_option maxRecDepth 100000 in
theorem row_of (T : Array Value) (f : Nat → Value) (hf : ∀ i, i < T.size → T[i]? = some (f i)) : T = ((List.range T.size).map f).toArray := by
  apply Array.ext_getElem?
  intro i
  by_cases h : i < T.size
  · rw [hf i h]; simp [h]
  · simp [h]
set_option maxRecDepth 1000000 in
theorem act_lit (T : Array Value) (h : T.size = 218) : (⟨T, []⟩ : Act) = mkA (fun i => T.getD i undef) := by
  have e := row_of T (fun i => T.getD i undef) (fun i hi => by simp [hi])
  rw [h] at e
  exact congrArg (fun T => (⟨T, []⟩ : Act)) e
set_option maxRecDepth 100000 in
theorem mu_mk (f : Nat → Value) : (mkA f).tmps.getD 47 undef = f 47 := rfl
end Go.Proofs.Ytnpjknnalekdpaa
namespace Go.Proofs.Ytnpjknnalekdpaa
set_option linter.unusedSimpArgs false
set_option linter.unusedVariables false
open Go.RowKit
/-- What the slots that matter hold in the schedule's loop. -/
structure Fr1 (f : Nat → Value) (R H KB ga n ca t B : Nat) : Prop where
  r : f 2 = .pointer (some ⟨R, 0, none⟩)
  h : f 3 = .pointer (some ⟨H, 0, none⟩)
  k : f 4 = .pointer (some ⟨KB, 0, none⟩)
  all : f 5 = .slice (some ⟨ga, 0, none⟩) n ca
  at_ : f 6 = .int .i64 t
  w : f 7 = .pointer (some ⟨B, 0, none⟩)
def I1 (R H KB ga n ca t B : Nat) (S : List Int) (w : World) (a : Act) (wq : World) : Prop :=
  ∃ (k : Nat) (f : Nat → Value), a = mkA f ∧ k ≤ 64 ∧ f 47 = .int .i64 k ∧ Fr1 f R H KB ga n ca t B ∧ Below B w wq ∧ wq.heap.size = w.heap.size ∧ wq.heap[B]? = some (.cells (vW (S.take k ++ zs (64 - k))) 73)
def mu1 (a : Act) (_ : World) : Nat := 64 - (intOf (a.tmps.getD 47 undef)).toNat
set_option maxRecDepth 100000 in
theorem take_step (S : List Int) (hl : S.length = 64) (k : Nat) (hk : k < 64) : (S.take k ++ zs (64 - k)).set k (gi S k) = S.take (k + 1) ++ zs (64 - (k + 1)) := by
  have e := set_snoc (S.take k) (64 - (k + 1)) (gi S k)
  rw [show (S.take k).length = k by simp; omega, show 64 - (k + 1) + 1 = 64 - k by omega] at e
  rw [e]
  have e2 : S.take k ++ [gi S k] = S.take (k + 1) := by
    rw [List.take_succ_eq_append_getElem (by omega)]
    unfold gi
    simp [hl, hk]
  rw [e2]
set_option maxRecDepth 100000 in
theorem sched_step (BL : List Int) (k : Nat) (hk : k < 64) : ((sched BL).take k ++ zs (64 - k)).set k (gi (sched BL) k) = (sched BL).take (k + 1) ++ zs (64 - (k + 1)) :=
  take_step (sched BL) (sched_length BL) k hk
set_option maxRecDepth 100000 in
theorem range_four {w : World} {b : Nat} {L : List Int} (s : Nat) (h : s + 4 ≤ L.length) (hr : w.rangeAt b 0 (vB L).toList) : w.rangeAt b s (vB [gi L s, gi L (s + 1), gi L (s + 2), gi L (s + 3)]).toList := fun j v hv => by
  have hj : j < 4 := by have := (List.getElem?_eq_some_iff.1 hv).1; rw [Array.length_toList, vB_size] at this; exact this
  have hc := rangeB hr (s + j) (by omega)
  rw [Nat.zero_add] at hc
  rw [hc]
  match j, hj, hv with
  | 0, _, hv => exact hv
  | 1, _, hv => exact hv
  | 2, _, hv => exact hv
  | 3, _, hv => exact hv
set_option maxRecDepth 100000 in
theorem gi_block (L : List Int) (t i : Nat) (hi : i < 64) : gi ((L.drop t).take 64) i = gi L (t + i) := by
  unfold gi
  simp only [List.getD_eq_getElem?_getD]
  rw [List.getElem?_take, if_pos hi, List.getElem?_drop]
set_option maxRecDepth 100000 in
theorem gi_byte {L : List Int} (h : ∀ x ∈ L, 0 ≤ x ∧ x ≤ 255) (i : Nat) : 0 ≤ gi L i ∧ gi L i ≤ 255 := by
  unfold gi
  by_cases hi : i < L.length
  · have := h L[i] (List.getElem_mem hi); simpa [hi] using this
  · simp [hi]
set_option maxRecDepth 100000 in
theorem word_here (L : List Int) (h : ∀ x ∈ L, 0 ≤ x ∧ x ≤ 255) (t k : Nat) (hk : k < 16) : ofTo [gi L (t + 4 * k), gi L (t + 4 * k + 1), gi L (t + 4 * k + 2), gi L (t + 4 * k + 3)] 4 % 4294967296 = gi (sched ((L.drop t).take 64)) k := by
  rw [word_ref _ _ _ _ (gi_byte h _) (gi_byte h _) (gi_byte h _) (gi_byte h _), sched_lo _ _ hk]
  unfold wordAt
  rw [gi_block _ _ _ (by omega), gi_block _ _ _ (by omega), gi_block _ _ _ (by omega), gi_block _ _ _ (by omega)]
  rfl
set_option maxRecDepth 1000000 in
set_option maxHeartbeats 1000000 in
theorem round1a (R H KB ga ca t B : Nat) (L : List Int) (w : World) (Q : Exit → Act → World → Prop) (k : Nat) (f : Nat → Value) (wq : World) (hk : k < 16) (t47 : f 47 = .int .i64 k) (hF : Fr1 f R H KB ga L.length ca t B)
    (ht : t + 64 ≤ L.length) (hca : L.length ≤ ca) (hcam : ca ≤ 9223372036854775807) (hby : Hid (∀ x ∈ L, 0 ≤ x ∧ x ≤ 255)) (hga : ga < B) (hra : w.rangeAt ga 0 (vB L).toList)
    (hbl : Below B w wq) (hsz : Hid (wq.heap.size = w.heap.size)) (hb : Hid (wq.heap[B]? = some (.cells (vW ((sched ((L.drop t).take 64)).take k ++ zs (64 - k))) 73))) :
    Code.wp Try.prog (((Try.f35.body.map loopsOf).getD []).getD 2 .skip) (Exit.then (fun a' w' => I1 R H KB ga L.length ca t B (sched ((L.drop t).take 64)) w a' w' ∧ mu1 a' w' < mu1 (mkA f) wq) Q) (mkA f) wq := by
  have hl := sched_length ((L.drop t).take 64)
  have hc := row_cell hb.out (vW_at _ k (by simp [zs_length, hl]; omega))
  have hfz : wq.frozen? ⟨B, k, none⟩ = false := frozen_of_row _ _ _ _ _ hb.out
  have hr4 := range_four (w := wq) (b := ga) (L := L) (t + 4 * k) (by omega) (fun m v hv => by rw [hbl.cell (show ga < B from hga)]; exact hra m v hv)
  have hmu : mu1 (mkA f) wq = 64 - k := by unfold mu1; rw [mu_mk, t47]; rfl
  rw [hmu]
  obtain ⟨t2, t3, t4, t5, t6, t7⟩ := hF
  clear hl hra hmu
  unfold mkA
  conv => arg 2; whnf
  dsimp only
  go_wp2_with fail
  refine (rof_any ga (t + 4 * k) (ca - (t + 4 * k)) [gi L (t + 4 * k), gi L (t + 4 * k + 1), gi L (t + 4 * k + 2), gi L (t + 4 * k + 3)] wq rfl (by omega) hr4).mono ?_
  rintro e w' ⟨rfl, h'⟩
  have h'' := h'.symm
  clear h'
  subst h''
  go_wp2_with fail
  have hstep := sched_step ((L.drop t).take 64) k (by omega)
  have hwd := word_here L hby.out t k hk
  refine ⟨⟨k + 1, _, act_lit _ rfl, by omega, by go_num, ⟨rfl, rfl, rfl, rfl, rfl, rfl⟩, hbl.setCell (Nat.le_refl _) _, ?_, ?_⟩, ?_⟩
  · rw [← hsz.out]; simp
  · rw [heap_setCell_same _ _ _ _ _ _ hb.out, vW_set, hwd, hstep]
  · show 64 - (intOf (.int .i64 ((k : Int) + 1))).toNat < 64 - k
    simp [intOf]; omega
set_option maxRecDepth 100000 in
theorem gi_take (S : List Int) (k m j : Nat) (hj : j < k) (hk : k ≤ S.length) : gi (S.take k ++ zs m) j = gi S j := by
  rw [gi_append _ _ _ (by simp; omega)]
  unfold gi
  simp only [List.getD_eq_getElem?_getD]
  rw [List.getElem?_take, if_pos hj]
end Go.Proofs.Ytnpjknnalekdpaa
namespace Go.Proofs.Ytnpjknnalekdpaa
set_option linter.unusedSimpArgs false
set_option linter.unusedVariables false
open Go.RowKit
set_option maxRecDepth 100000 in
theorem keep_far (w : World) (B i j : Nat) (v x : Value) (h : i ≠ j) (hc : w.cell? ⟨B, j, none⟩ = some x) : (w.setCell ⟨B, i, none⟩ v).cell? ⟨B, j, none⟩ = some x := by
  rw [World.cell?_setCell_other (a := ⟨B, i, none⟩) (b := ⟨B, j, none⟩) (v := v) (w := w) (fun e => h (congrArg Addr.off e))]
  exact hc
set_option maxRecDepth 100000 in
theorem rturn_gen (x m : Int) (w : World) (h1 : 1 ≤ m) (h2 : m ≤ 31) : Calls Try.prog 38 #[.int .u32 x, .int .u64 m] w fun e w' => e = .returned (.int .u32 (rotr m.toNat x)) ∧ w' = w := by
  obtain ⟨n, rfl⟩ := Int.eq_ofNat_of_zero_le (show 0 ≤ m by omega)
  exact rturn_any x n w (by omega) (by omega)
set_option maxRecDepth 1000000 in
set_option maxHeartbeats 1000000 in
theorem round1b (R H KB ga n ca t B : Nat) (S : List Int) (hS : S.length = 64) (w : World) (Q : Exit → Act → World → Prop) (k : Nat) (f : Nat → Value) (wq : World) (hk16 : 16 ≤ k) (hk : k < 64) (t47 : f 47 = .int .i64 k) (hF : Fr1 f R H KB ga n ca t B)
    (hnx : Hid (gi S k = nextR S k))
    (hbl : Below B w wq) (hsz : Hid (wq.heap.size = w.heap.size)) (hb : Hid (wq.heap[B]? = some (.cells (vW (S.take k ++ zs (64 - k))) 73))) :
    Code.wp Try.prog (((Try.f35.body.map loopsOf).getD []).getD 2 .skip) (Exit.then (fun a' w' => I1 R H KB ga n ca t B S w a' w' ∧ mu1 a' w' < mu1 (mkA f) wq) Q) (mkA f) wq := by
  have hc : ∀ j, j < k → wq.cell? ⟨B, j, none⟩ = some (.int .u32 (gi S j)) := fun j hj => by
    have e := row_cell hb.out (vW_at _ j (by simp [zs_length, hS]; omega))
    rw [gi_take S k _ j hj (by omega)] at e
    exact e
  have hcn := row_cell hb.out (vW_at _ k (by simp [zs_length, hS]; omega))
  have hc2 := hc (k - 2) (by omega)
  have hc15 := hc (k - 15) (by omega)
  have hc7 := hc (k - 7) (by omega)
  have hc16 := hc (k - 16) (by omega)
  have hfz : wq.frozen? ⟨B, k, none⟩ = false := frozen_of_row _ _ _ _ _ hb.out
  have hmu : mu1 (mkA f) wq = 64 - k := by unfold mu1; rw [mu_mk, t47]; rfl
  rw [hmu]
  obtain ⟨t2, t3, t4, t5, t6, t7⟩ := hF
  clear hmu hc
  unfold mkA
  conv => arg 2; whnf
  dsimp only
  go_wp2_with fail
  go_quiet (fail)
  go_wp2_with fail
  have z7 : (7 : Int) ≤ (k : Int) := by omega
  have z16 : (16 : Int) ≤ (k : Int) := by omega
  have x1 : IntKind.i64.wrap ((k : Int) - 16) = (k : Int) - 16 := by exact IntWalk.i64_in _ (by omega)
  have y1 : IntKind.i64.wrap ((k : Int) - 7) = (k : Int) - 7 := by exact IntWalk.i64_in _ (by omega)
  have x2 : (0 : Int) ≤ (k : Int) - 16 := by omega
  have x3 : (k : Int) - 16 < 64 := by omega
  have x4 : ((k : Int) - 16).toNat = k - 16 := by omega
  have y2 : (0 : Int) ≤ (k : Int) - 7 := by omega
  have y3 : (k : Int) - 7 < 64 := by omega
  have y4 : ((k : Int) - 7).toNat = k - 7 := by omega
  go_region_held3 (fun w' => w'.cell? ⟨B, k - 16, none⟩ = some (.int .u32 (gi S (k - 16))) ∧ w'.cell? ⟨B, k - 7, none⟩ = some (.int .u32 (gi S (k - 7)))) (first | go_keep | (exact ⟨keep_far _ _ _ _ _ _ (by omega) hc16, keep_far _ _ _ _ _ _ (by omega) hc7⟩)) (first | (go_at_call 38; refine (rturn_gen _ _ _ (by omega) (by omega)).mono ?_; rintro e w' ⟨rfl, rfl⟩))
  go_wp2_with fail
  refine ⟨⟨k + 1, _, act_lit _ rfl, by omega, by go_num, ⟨rfl, rfl, rfl, rfl, rfl, rfl⟩, Below.setCell (below_drewN hbl _) (Nat.le_refl _) _, ?_, ?_⟩, ?_⟩
  · rw [← hsz.out]; simp
  · rw [heap_setCell_same _ _ _ _ _ _ (show (wq.drewN (nq + 1)).heap[B]? = _ from hb.out), vW_set, ← take_step S hS k hk]
    have e : ∀ x y : Int, x = y → some (Obj.cells (vW ((S.take k ++ zs (64 - k)).set k x)) 73 (0, 0)) = some (Obj.cells (vW ((S.take k ++ zs (64 - k)).set k y)) 73 (0, 0)) := fun x y h => by rw [h]
    refine e _ _ ?_
    rw [hnx.out]
    unfold nextR bxor
    first | omega | (trace_state; fail)
  · show 64 - (intOf (.int .i64 ((k : Int) + 1))).toNat < 64 - k
    simp [intOf]; omega
end Go.Proofs.Ytnpjknnalekdpaa
namespace Go.Proofs.Ytnpjknnalekdpaa
set_option linter.unusedSimpArgs false
set_option linter.unusedVariables false
open Go.RowKit
/-- Where the schedule's loop ends. -/
def R1 (R H KB ga n ca t B : Nat) (S : List Int) (w : World) (a : Act) (wq : World) : Prop :=
  ∃ f : Nat → Value, a = mkA f ∧ Fr1 f R H KB ga n ca t B ∧ Below B w wq ∧ wq.heap.size = w.heap.size ∧ wq.heap[B]? = some (.cells (vW S) 73)
set_option maxRecDepth 1000000 in
set_option maxHeartbeats 1000000 in
theorem round1c (R H KB ga n ca t B : Nat) (S : List Int) (w : World) (X : Act → World → Prop) (f : Nat → Value) (wq : World) (t47 : f 47 = .int .i64 64) (hF : Fr1 f R H KB ga n ca t B)
    (hbl : Below B w wq) (hsz : Hid (wq.heap.size = w.heap.size)) (hb : Hid (wq.heap[B]? = some (.cells (vW S) 73))) :
    Code.wp Try.prog (((Try.f35.body.map loopsOf).getD []).getD 2 .skip) (Exit.then X (postOf 4 (R1 R H KB ga n ca t B S w))) (mkA f) wq := by
  obtain ⟨t2, t3, t4, t5, t6, t7⟩ := hF
  unfold mkA
  conv => arg 2; whnf
  dsimp only
  go_wp2_with fail
  exact ⟨rfl, _, act_lit _ rfl, ⟨t2, t3, t4, t5, t6, t7⟩, hbl, hsz.out, hb.out⟩
set_option maxRecDepth 100000 in
theorem loop1 (R H KB ga ca t B : Nat) (L : List Int) (w : World) (f : Nat → Value) (t47 : f 47 = .int .i64 0) (hF : Fr1 f R H KB ga L.length ca t B)
    (ht : t + 64 ≤ L.length) (hca : L.length ≤ ca) (hcam : ca ≤ 9223372036854775807) (hby : ∀ x ∈ L, 0 ≤ x ∧ x ≤ 255) (hga : ga < B) (hra : w.rangeAt ga 0 (vB L).toList)
    (hb : w.heap[B]? = some (.cells (vW (zs 64)) 73)) :
    Code.wp Try.prog (.loop (((Try.f35.body.map loopsOf).getD []).getD 2 .skip)) (postOf 4 (R1 R H KB ga L.length ca t B (sched ((L.drop t).take 64)) w)) (mkA f) w := by
  have hS := sched_length ((L.drop t).take 64)
  refine wp_loop (I1 R H KB ga L.length ca t B (sched ((L.drop t).take 64)) w) mu1 ⟨0, f, rfl, by omega, t47, hF, Below.refl _ _, rfl, by simpa [zs] using hb⟩ ?_
  rintro a wq ⟨k, f', rfl, hk, t47', hF', hbl, hsz, hb'⟩
  by_cases h16 : k < 16
  · exact round1a R H KB ga ca t B L w _ k f' wq h16 t47' hF' ht hca hcam hby hga hra hbl hsz hb'
  · by_cases h64 : k < 64
    · exact round1b R H KB ga L.length ca t B _ hS w _ k f' wq (by omega) h64 t47' hF' (by unfold Hid; rw [nextR_eq]; exact sched_hi _ _ (by omega) h64) hbl hsz hb'
    · have e : k = 64 := by omega
      subst e
      refine round1c R H KB ga L.length ca t B _ w _ f' wq t47' hF' hbl hsz ?_
      unfold Hid
      rw [hb', List.take_of_length_le (by omega)]
      simp [zs]
end Go.Proofs.Ytnpjknnalekdpaa
