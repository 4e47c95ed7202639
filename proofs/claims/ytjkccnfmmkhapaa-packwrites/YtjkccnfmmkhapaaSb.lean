import Derived.Test.YtjkccnfmmkhapaaSa
namespace Go.Proofs.Ytjkccnfmmkhapaa
set_option linter.unusedSimpArgs false
set_option linter.unusedVariables false
open Go.RowKit
theorem numB_take (n : Int) (k j : Nat) (h : j < k) : (numB n k).take (j + 1) = (numB n k).take j ++ [n / 2 ^ (8 * (k - 1 - j)) % 256] := by
  rw [List.take_add_one]
  congr 1
  simp [numB, h]
set_option maxRecDepth 100000 in
set_option maxHeartbeats 1000000 in
/-- The law's own number. -/
theorem lnum_any (n : Int) (h0 : 0 ≤ n) (h1 : n ≤ 18446744073709551615) (k : Nat) (hk : k ≤ 8) (w : World) :
    Calls Try.prog 26 #[.int .u64 n, .int .i64 k] w fun e w' => ∃ v, e = .returned v ∧ OwnB w' w.heap.size v (numB n k) ∧ Below w.heap.size w w' := by
  go_enter Try.func26, Try.ntmps26
  go_wp2
  go_loopw [5, 6] (fun v i wr => ∃ m : Nat, m ≤ k ∧ i = .int .i64 ((m : Int) - 1) ∧ OwnB wr w.heap.size v ((numB n k).take (k - m)) ∧ Below w.heap.size w wr) (fun _ i _ => (intOf i + 1).toNat)
  case atStart => exact ⟨k, Nat.le_refl _, rfl, by rw [Nat.sub_self, List.take_zero]; exact ownB_nil _ _, Below.refl _ _⟩
  case round =>
    obtain ⟨m, hm, rfl, ho, hb⟩ := hrel
    have hbs := hb.size
    rcases Nat.eq_zero_or_pos m with h | h
    · subst h
      have ek : (numB n k).take (k - 0) = numB n k := List.take_of_length_le (by rw [numB_length]; omega)
      rw [ek] at ho
      have HO : Hid (OwnB wr w.heap.size u5 (numB n k)) := ho
      clear ho ek
      go_wp2
      go_ret
      exact ⟨_, rfl, HO.out, hb⟩
    · obtain ⟨q, rfl⟩ : ∃ q, m = q + 1 := ⟨m - 1, by omega⟩
      have e0 : (((q + 1 : Nat) : Int) - 1) = (q : Int) := by omega
      rw [e0]
      have e3 : (8 * (q : Int)).toNat = 8 * q := by omega
      have e4 : 0 ≤ 8 * (q : Int) := by omega
      have hx : Hid ((numB n k).take (k - q) = (numB n k).take (k - (q + 1)) ++ [n / 2 ^ (8 * q) % 256]) := by
        unfold Hid
        rw [show k - q = k - (q + 1) + 1 by omega, numB_take n k _ (by omega), show k - 1 - (k - (q + 1)) = q by omega]
      have hl : ((numB n k).take (k - (q + 1))).length ≤ 8 := by simp [numB_length]; omega
      have hq : (q : Int) ≤ 8 := by omega
      generalize (numB n k).take (k - (q + 1)) = L at *
      have hP : Hid (∀ x : Int, PartAt (wr.alloc (.cells #[.int .u8 x] 5)) (.slice (some ⟨wr.heap.size, 0, none⟩) 1 1) [x]) := fun x => part_new wr [x] (by simp)
      have HOA : Hid (∀ x : Int, OwnB (wr.alloc (.cells #[.int .u8 x] 5)) w.heap.size u5 L) := fun x => ho.alloc _
      have HR : Hid (∀ k, u5.ownBlock = some k → w.heap.size ≤ k) := ho.row
      clear ho
      go_wp2_with (first | (at_builtin; refine appendB rfl _ _ rfl w.heap.size u5 L rfl (HOA.out _) _ [_] rfl (hP.out _) (by simp; omega) (by simp; omega) ?_; intro v' w' o' g' d'))
      go_roundw
      case rel => exact ⟨q, by omega, by go_num, by rw [hx.out]; exact o', (hb.alloc hbs _).grown g' (by simp; omega) HR.out⟩
      case measure => simp [intOf]
end Go.Proofs.Ytjkccnfmmkhapaa
