import Derived.Test.YtnhbjjjoocpedaaXf
import Derived.OwnWalk
namespace Go.Proofs.Ytnhbjjjoocpedaa
set_option linter.unusedSimpArgs false
set_option linter.unusedVariables false
open Go.RowKit
/-- The bytes of s from k on. -/
def from_ (s : ByteArray) (k : Nat) : List UInt8 := s.data.toList.drop k
theorem from_nil (s : ByteArray) (k : Nat) (h : s.size ≤ k) : from_ s k = [] := by
  unfold from_; rw [List.drop_eq_nil_iff, ← Lib.size_eq]; exact h
theorem from_cons (s : ByteArray) (k : Nat) (h : k < s.size) : from_ s k = s[k] :: from_ s (k + 1) := by
  have hl : k < s.data.toList.length := by rw [← Lib.size_eq]; exact h
  unfold from_
  rw [List.drop_eq_getElem_cons hl]
  congr 1
theorem from_len (s : ByteArray) (k : Nat) : (from_ s k).length = s.size - k := by unfold from_; rw [List.length_drop, ← Lib.size_eq]
theorem from_drop (s : ByteArray) (k n : Nat) : (from_ s k).drop n = from_ s (k + n) := by unfold from_; rw [List.drop_drop]
theorem pre2 (a b x y : UInt8) (t : List UInt8) : pre [a, b] (x :: y :: t) = (a == x && b == y) := by simp [pre, List.isPrefixOf]
theorem pre2_one (a b x : UInt8) : pre [a, b] [x] = false := by simp [pre, List.isPrefixOf]
theorem pre1 (a x : UInt8) (t : List UInt8) : pre [a] (x :: t) = (a == x) := by simp [pre, List.isPrefixOf]
theorem pre_nil1 (a : UInt8) : pre [a] [] = false := rfl
theorem pre_nil2 (a b : UInt8) : pre [a, b] [] = false := rfl
theorem pre_nil (t : List UInt8) : pre [] t = true := by simp [pre, List.isPrefixOf]
theorem ext2 (s : ByteArray) (k : Nat) (a b : UInt8) (h : k + 2 ≤ s.size) : ((s.extract k (k + 2)).toList == [a, b]) = pre [a, b] (from_ s k) := by
  have e1 := from_cons s k (by omega)
  have e2 := from_cons s (k + 1) (by omega)
  rw [Lib.extract_toList, show k + 2 - k = 2 by omega, show s.data.toList.drop k = from_ s k from rfl, e1, e2, pre2]
  rw [Bool.eq_iff_iff]; simp
  constructor <;> rintro ⟨rfl, rfl⟩ <;> exact ⟨rfl, rfl⟩
theorem ofNat8' {n : Nat} (h : n < 256) : (UInt8.ofNat n).toNat = n := by simp; omega
theorem u8_ne (c : UInt8) (n : Nat) (hn : n < 256) (h : c ≠ UInt8.ofNat n) : ((c.toNat : Int) == (n : Int)) = false := by
  rw [beq_eq_false_iff_ne]; intro q
  exact h (UInt8.toNat_inj.1 (by rw [ofNat8' hn]; omega))
/-- What the reference's single hands back. -/
def SinO (s : ByteArray) (k : Nat) (w : World) (e : Ending) (w' : World) : Prop :=
  ∃ (c : Nat) (n : Nat) (ok : Bool), e = .returned (.tuple #[.int .u8 c, .int .i64 n, .bool ok]) ∧ w = w' ∧ (singleP (from_ s k)).isSome = ok ∧ (ok = true → ∃ x, c = x.toNat ∧ singleP (from_ s k) = some (x, from_ s n) ∧ k < n ∧ n ≤ s.size)
theorem byteA_short (e l : List UInt8) (h : l.length < e.length + 1) : byteA e l = none := by
  cases hb : byteA e l with
  | none => rfl
  | some x => have := byteA_lt (c := x.1) (t := x.2) hb; omega
set_option maxHeartbeats 1000000 in
set_option maxRecDepth 100000 in
theorem single_end (s : ByteArray) (k : Nat) (w : World) (hs : s.size ≤ 4000000) (h : s.size ≤ k) : Calls Try.prog 32 #[.string s, .int .i64 k] w (SinO s k w) := by
  have HE : Hid (singleP (from_ s k) = none) := by unfold Hid; rw [from_nil s k h]; rfl
  have hi : (s.size : Int) ≤ k := by omega
  go_enter Try.func32, Try.ntmps32
  go_wp2
  go_ret3
  exact ⟨0, 0, false, rfl, rfl, by rw [HE.out]; rfl, fun q => by cases q⟩
set_option maxHeartbeats 1000000 in
set_option maxRecDepth 100000 in
theorem single_lf (s : ByteArray) (k : Nat) (w : World) (hs : s.size ≤ 4000000) (h : k < s.size) (h0 : s[k] = 10) : Calls Try.prog 32 #[.string s, .int .i64 k] w (SinO s k w) := by
  have HE : Hid (singleP (from_ s k) = none) := by unfold Hid; rw [from_cons s k h, h0]; simp [singleP, pre, List.isPrefixOf, byteA]
  have hi : ¬ (s.size : Int) ≤ k := by omega
  have hv : ((s[k]'h).toNat : Int) = 10 := by rw [h0]; rfl
  clear h0
  go_enter Try.func32, Try.ntmps32
  go_wp2
  go_ret3
  exact ⟨0, 0, false, rfl, rfl, by rw [HE.out]; rfl, fun q => by cases q⟩
set_option maxHeartbeats 1000000 in
set_option maxRecDepth 100000 in
theorem single_n (s : ByteArray) (k : Nat) (w : World) (hs : s.size ≤ 4000000) (h : k < s.size) (h1 : k + 1 < s.size) (h0 : s[k] = 92) (h2 : s[k + 1] = 110) : Calls Try.prog 32 #[.string s, .int .i64 k] w (SinO s k w) := by
  have HE : Hid (singleP (from_ s k) = some (10, from_ s (k + 2))) := by unfold Hid; rw [from_cons s k h, from_cons s (k + 1) h1, h0, h2]; simp [singleP, pre, List.isPrefixOf]
  have hi : ¬ (s.size : Int) ≤ k := by omega
  have hi1 : (k : Int) + 1 < s.size := by omega
  have hi2 : (2 : Int) ≤ s.size - k := by omega
  have hv : ((s[k]'h).toNat : Int) = 92 := by rw [h0]; rfl
  have hv1 : ((s[k + 1]'h1).toNat : Int) = 110 := by rw [h2]; rfl
  clear h0 h2
  go_enter Try.func32, Try.ntmps32
  go_wp2
  go_ret3
  exact ⟨10, k + 2, true, rfl, rfl, by rw [HE.out]; rfl, fun _ => ⟨10, rfl, HE.out, by omega, by omega⟩⟩
set_option maxHeartbeats 1000000 in
set_option maxRecDepth 100000 in
theorem single_last (s : ByteArray) (k : Nat) (w : World) (hs : s.size ≤ 4000000) (h : k < s.size) (h1 : k + 1 = s.size) (h0 : s[k] ≠ 10) : Calls Try.prog 32 #[.string s, .int .i64 k] w (SinO s k w) := by
  have HE : Hid (singleP (from_ s k) = some (s[k]'h, from_ s (k + 1))) := by unfold Hid; rw [from_cons s k h, from_nil s (k + 1) (by omega)]; simp [singleP, pre2_one, byteA, h0, pre_nil]
  have hi : ¬ (s.size : Int) ≤ k := by omega
  have hi2 : ¬ (2 : Int) ≤ s.size - k := by omega
  have n0 : (((s[k]'h).toNat : Int) == 10) = false := u8_ne (s[k]'h) 10 (by decide) h0
  clear h0
  go_enter Try.func32, Try.ntmps32
  go_wp2
  go_ret3
  exact ⟨(s[k]'h).toNat, k + 1, true, rfl, rfl, by rw [HE.out]; rfl, fun _ => ⟨s[k]'h, rfl, HE.out, by omega, by omega⟩⟩
set_option maxHeartbeats 1000000 in
set_option maxRecDepth 100000 in
theorem single_plain (s : ByteArray) (k : Nat) (w : World) (hs : s.size ≤ 4000000) (h : k < s.size) (h1 : k + 1 < s.size) (h0 : s[k] ≠ 10) (ha : s[k] ≠ 92) (hb : s[k] ≠ 91) : Calls Try.prog 32 #[.string s, .int .i64 k] w (SinO s k w) := by
  have HE : Hid (singleP (from_ s k) = some (s[k]'h, from_ s (k + 1))) := by
    unfold Hid; rw [from_cons s (k + 1) h1, from_cons s k h, from_cons s (k + 1) h1]
    have e1 : (91 == s[k]'h) = false := by rw [beq_eq_false_iff_ne]; exact fun e => hb e.symm
    have e2 : (92 == s[k]'h) = false := by rw [beq_eq_false_iff_ne]; exact fun e => ha e.symm
    simp [singleP, pre2, byteA, h0, e1, e2, pre_nil]
  have hi : ¬ (s.size : Int) ≤ k := by omega
  have hi1 : (k : Int) + 1 < s.size := by omega
  have hi2 : (2 : Int) ≤ s.size - k := by omega
  have n0 : (((s[k]'h).toNat : Int) == 10) = false := u8_ne (s[k]'h) 10 (by decide) h0
  have n1 : (((s[k]'h).toNat : Int) == 92) = false := u8_ne (s[k]'h) 92 (by decide) ha
  have n2 : (((s[k]'h).toNat : Int) == 91) = false := u8_ne (s[k]'h) 91 (by decide) hb
  clear h0 ha hb
  go_enter Try.func32, Try.ntmps32
  go_wp2
  go_ret3
  exact ⟨(s[k]'h).toNat, k + 1, true, rfl, rfl, by rw [HE.out]; rfl, fun _ => ⟨s[k]'h, rfl, HE.out, by omega, by omega⟩⟩
set_option maxHeartbeats 1000000 in
set_option maxRecDepth 100000 in
theorem single_back (s : ByteArray) (k : Nat) (w : World) (hs : s.size ≤ 4000000) (h : k < s.size) (h1 : k + 1 < s.size) (h0 : s[k] = 92) (h2 : s[k + 1] ≠ 110) : Calls Try.prog 32 #[.string s, .int .i64 k] w (SinO s k w) := by
  have HE : Hid (singleP (from_ s k) = some (92, from_ s (k + 1))) := by
    unfold Hid; rw [from_cons s (k + 1) h1, from_cons s k h, from_cons s (k + 1) h1, h0]
    have e1 : (110 == s[k + 1]'h1) = false := by rw [beq_eq_false_iff_ne]; exact fun e => h2 e.symm
    simp [singleP, pre2, byteA, e1, pre_nil]
  have hi : ¬ (s.size : Int) ≤ k := by omega
  have hi1 : (k : Int) + 1 < s.size := by omega
  have hi2 : (2 : Int) ≤ s.size - k := by omega
  have hv : ((s[k]'h).toNat : Int) = 92 := by rw [h0]; rfl
  have n1 : (((s[k + 1]'h1).toNat : Int) == 110) = false := u8_ne (s[k + 1]'h1) 110 (by decide) h2
  clear h0 h2
  go_enter Try.func32, Try.ntmps32
  go_wp2
  go_ret3
  exact ⟨92, k + 1, true, rfl, rfl, by rw [HE.out]; rfl, fun _ => ⟨92, rfl, HE.out, by omega, by omega⟩⟩
set_option maxHeartbeats 1000000 in
set_option maxRecDepth 100000 in
theorem single_open (s : ByteArray) (k : Nat) (w : World) (hs : s.size ≤ 4000000) (h : k < s.size) (h1 : k + 1 < s.size) (h0 : s[k] = 91) (h2 : s[k + 1] ≠ 46) : Calls Try.prog 32 #[.string s, .int .i64 k] w (SinO s k w) := by
  have HE : Hid (singleP (from_ s k) = some (91, from_ s (k + 1))) := by
    unfold Hid; rw [from_cons s (k + 1) h1, from_cons s k h, from_cons s (k + 1) h1, h0]
    have e1 : (46 == s[k + 1]'h1) = false := by rw [beq_eq_false_iff_ne]; exact fun e => h2 e.symm
    simp [singleP, pre2, byteA, e1, pre_nil]
  have hi : ¬ (s.size : Int) ≤ k := by omega
  have hi1 : (k : Int) + 1 < s.size := by omega
  have hi2 : (2 : Int) ≤ s.size - k := by omega
  have hv : ((s[k]'h).toNat : Int) = 91 := by rw [h0]; rfl
  have n1 : (((s[k + 1]'h1).toNat : Int) == 46) = false := u8_ne (s[k + 1]'h1) 46 (by decide) h2
  clear h0 h2
  go_enter Try.func32, Try.ntmps32
  go_wp2
  go_ret3
  exact ⟨91, k + 1, true, rfl, rfl, by rw [HE.out]; rfl, fun _ => ⟨91, rfl, HE.out, by omega, by omega⟩⟩
set_option maxHeartbeats 1000000 in
set_option maxRecDepth 100000 in
theorem single_short (s : ByteArray) (k : Nat) (w : World) (hs : s.size ≤ 4000000) (h : k < s.size) (h1 : k + 1 < s.size) (h0 : s[k] = 91) (h2 : s[k + 1] = 46) (h5 : s.size < k + 5) : Calls Try.prog 32 #[.string s, .int .i64 k] w (SinO s k w) := by
  have HE0 : singleP (from_ s k) = byteA [46, 93] (from_ s (k + 2)) := by rw [from_cons s k h, from_cons s (k + 1) h1, h0, h2]; simp [singleP, pre2]
  have HE : Hid (singleP (from_ s k) = none) := by unfold Hid; rw [HE0]; exact byteA_short _ _ (by rw [from_len]; simp; omega)
  have hi : ¬ (s.size : Int) ≤ k := by omega
  have hi1 : (k : Int) + 1 < s.size := by omega
  have hi2 : (2 : Int) ≤ s.size - k := by omega
  have hv : ((s[k]'h).toNat : Int) = 91 := by rw [h0]; rfl
  have hv1 : ((s[k + 1]'h1).toNat : Int) = 46 := by rw [h2]; rfl
  have hi5 : (s.size : Int) - k < 5 := by omega
  clear h0 h2 HE0
  go_enter Try.func32, Try.ntmps32
  go_wp2
  go_ret3
  exact ⟨0, 0, false, rfl, rfl, by rw [HE.out]; rfl, fun q => by cases q⟩
set_option maxHeartbeats 1000000 in
set_option maxRecDepth 100000 in
theorem single_lf2 (s : ByteArray) (k : Nat) (w : World) (hs : s.size ≤ 4000000) (h : k < s.size) (h1 : k + 1 < s.size) (h0 : s[k] = 91) (h2 : s[k + 1] = 46) (h5 : k + 5 ≤ s.size) (h3 : s[k + 2]'(by omega) = 10) : Calls Try.prog 32 #[.string s, .int .i64 k] w (SinO s k w) := by
  have HE0 : singleP (from_ s k) = byteA [46, 93] (from_ s (k + 2)) := by rw [from_cons s k h, from_cons s (k + 1) h1, h0, h2]; simp [singleP, pre2]
  have HE : Hid (singleP (from_ s k) = none) := by unfold Hid; rw [HE0, from_cons s (k + 2) (by omega), h3]; rfl
  have hi : ¬ (s.size : Int) ≤ k := by omega
  have hi1 : (k : Int) + 1 < s.size := by omega
  have hi2 : (2 : Int) ≤ s.size - k := by omega
  have hv : ((s[k]'h).toNat : Int) = 91 := by rw [h0]; rfl
  have hv1 : ((s[k + 1]'h1).toNat : Int) = 46 := by rw [h2]; rfl
  have hi5 : ¬ (s.size : Int) - k < 5 := by omega
  have hk2 : (k : Int) + 2 < s.size := by omega
  have hv2 : ((s[k + 2]'(by omega)).toNat : Int) = 10 := by rw [h3]; rfl
  clear h0 h2 h3 HE0
  go_enter Try.func32, Try.ntmps32
  go_wp2
  go_ret3
  exact ⟨0, 0, false, rfl, rfl, by rw [HE.out]; rfl, fun q => by cases q⟩
set_option maxHeartbeats 1000000 in
set_option maxRecDepth 100000 in
theorem single_no (s : ByteArray) (k : Nat) (w : World) (hs : s.size ≤ 4000000) (h : k < s.size) (h1 : k + 1 < s.size) (h0 : s[k] = 91) (h2 : s[k + 1] = 46) (h5 : k + 5 ≤ s.size) (h3 : s[k + 2]'(by omega) ≠ 10) (h4 : pre [46, 93] (from_ s (k + 3)) = false) : Calls Try.prog 32 #[.string s, .int .i64 k] w (SinO s k w) := by
  have HE0 : singleP (from_ s k) = byteA [46, 93] (from_ s (k + 2)) := by rw [from_cons s k h, from_cons s (k + 1) h1, h0, h2]; simp [singleP, pre2]
  have HE : Hid (singleP (from_ s k) = none) := by unfold Hid; rw [HE0, from_cons s (k + 2) (by omega)]; simp [byteA, h3, h4]
  have hi : ¬ (s.size : Int) ≤ k := by omega
  have hi1 : (k : Int) + 1 < s.size := by omega
  have hi2 : (2 : Int) ≤ s.size - k := by omega
  have hv : ((s[k]'h).toNat : Int) = 91 := by rw [h0]; rfl
  have hv1 : ((s[k + 1]'h1).toNat : Int) = 46 := by rw [h2]; rfl
  have hi5 : ¬ (s.size : Int) - k < 5 := by omega
  have hk2 : (k : Int) + 2 < s.size := by omega
  have hk3 : (k : Int) + 5 ≤ s.size := by omega
  have hsl : ((s.extract (k + 3) (k + 5)).toList == [46, 93]) = false := by rw [ext2 s (k + 3) 46 93 (by omega)]; exact h4
  have n2 : (((s[k + 2]'(by omega)).toNat : Int) == 10) = false := u8_ne (s[k + 2]'(by omega)) 10 (by decide) h3
  clear h0 h2 h3 h4 HE0
  go_enter Try.func32, Try.ntmps32
  go_wp2
  go_ret3
  exact ⟨0, 0, false, rfl, rfl, by rw [HE.out]; rfl, fun q => by cases q⟩
set_option maxHeartbeats 1000000 in
set_option maxRecDepth 100000 in
theorem single_yes (s : ByteArray) (k : Nat) (w : World) (hs : s.size ≤ 4000000) (h : k < s.size) (h1 : k + 1 < s.size) (h0 : s[k] = 91) (h2 : s[k + 1] = 46) (h5 : k + 5 ≤ s.size) (h3 : s[k + 2]'(by omega) ≠ 10) (h4 : pre [46, 93] (from_ s (k + 3)) = true) : Calls Try.prog 32 #[.string s, .int .i64 k] w (SinO s k w) := by
  have HE0 : singleP (from_ s k) = byteA [46, 93] (from_ s (k + 2)) := by rw [from_cons s k h, from_cons s (k + 1) h1, h0, h2]; simp [singleP, pre2]
  have HE : Hid (singleP (from_ s k) = some (s[k + 2]'(by omega), from_ s (k + 5))) := by unfold Hid; rw [HE0, from_cons s (k + 2) (by omega)]; simp only [byteA, h3, if_false]; rw [if_pos h4, from_drop]; rfl
  have hi : ¬ (s.size : Int) ≤ k := by omega
  have hi1 : (k : Int) + 1 < s.size := by omega
  have hi2 : (2 : Int) ≤ s.size - k := by omega
  have hv : ((s[k]'h).toNat : Int) = 91 := by rw [h0]; rfl
  have hv1 : ((s[k + 1]'h1).toNat : Int) = 46 := by rw [h2]; rfl
  have hi5 : ¬ (s.size : Int) - k < 5 := by omega
  have hk2 : (k : Int) + 2 < s.size := by omega
  have hk3 : (k : Int) + 5 ≤ s.size := by omega
  have hsl : ((s.extract (k + 3) (k + 5)).toList == [46, 93]) = true := by rw [ext2 s (k + 3) 46 93 (by omega)]; exact h4
  have n2 : (((s[k + 2]'(by omega)).toNat : Int) == 10) = false := u8_ne (s[k + 2]'(by omega)) 10 (by decide) h3
  clear h0 h2 h3 h4 HE0
  go_enter Try.func32, Try.ntmps32
  go_wp2
  go_ret3
  exact ⟨(s[k + 2]'(by omega)).toNat, k + 5, true, rfl, rfl, by rw [HE.out]; rfl, fun _ => ⟨s[k + 2]'(by omega), rfl, HE.out, by omega, by omega⟩⟩
theorem single_any (s : ByteArray) (k : Nat) (w : World) (hs : s.size ≤ 4000000) : Calls Try.prog 32 #[.string s, .int .i64 k] w (SinO s k w) := by
  by_cases h : k < s.size
  · by_cases h0 : s[k] = 10
    · exact single_lf s k w hs h h0
    · by_cases h1 : k + 1 < s.size
      · by_cases ha : s[k] = 92
        · by_cases h2 : s[k + 1] = 110
          · exact single_n s k w hs h h1 ha h2
          · exact single_back s k w hs h h1 ha h2
        · by_cases hb : s[k] = 91
          · by_cases h2 : s[k + 1] = 46
            · by_cases h5 : k + 5 ≤ s.size
              · by_cases h3 : s[k + 2]'(by omega) = 10
                · exact single_lf2 s k w hs h h1 hb h2 h5 h3
                · cases h4 : pre [46, 93] (from_ s (k + 3))
                  · exact single_no s k w hs h h1 hb h2 h5 h3 h4
                  · exact single_yes s k w hs h h1 hb h2 h5 h3 h4
              · exact single_short s k w hs h h1 hb h2 (by omega)
            · exact single_open s k w hs h h1 hb h2
          · exact single_plain s k w hs h h1 h0 ha hb
      · exact single_last s k w hs h (by omega) h0
  · exact single_end s k w hs (by omega)
end Go.Proofs.Ytnhbjjjoocpedaa
