import Derived.Test.YtnhbjjjoocpedaaBb
namespace Go.Proofs.Ytnhbjjjoocpedaa
set_option linter.unusedSimpArgs false
set_option linter.unusedVariables false
open Go.RowKit
theorem sign_len (c : UInt8) : (signW c).length ≤ 5 := by
  unfold signW; split
  · simp
  · split <;> simp
theorem ofNat_inj (a b : Nat) (ha : a < 256) (hb : b < 256) : UInt8.ofNat a = UInt8.ofNat b ↔ a = b := by
  constructor
  · intro h; have := congrArg UInt8.toNat h; simp at this; omega
  · rintro rfl; rfl
set_option maxHeartbeats 2000000 in
set_option maxRecDepth 100000 in
theorem range34 (a b : Nat) (ha : a ≤ b) (hb : b < 256) (w : World) : Calls Try.prog 34 #[.int .u8 a, .int .u8 b] w fun e w' => ∃ t : ByteArray, e = .returned (.string t) ∧ t.data.toList = rangeW (UInt8.ofNat a) (UInt8.ofNat b) ∧ Below w.heap.size w w' := by
  have SA : Hid (∀ w, Calls Try.prog 42 #[.int .u8 a] w fun e w' => ∃ t : ByteArray, e = .returned (.string t) ∧ t.data.toList = signW (UInt8.ofNat a) ∧ Below w.heap.size w w') := fun w => sign42 a (by omega) w
  have SB : Hid (∀ w, Calls Try.prog 42 #[.int .u8 b] w fun e w' => ∃ t : ByteArray, e = .returned (.string t) ∧ t.data.toList = signW (UInt8.ofNat b) ∧ Below w.heap.size w w') := fun w => sign42 b hb w
  have na : (UInt8.ofNat a).toNat = a := by simp; omega
  have nb : (UInt8.ofNat b).toNat = b := by simp; omega
  rcases (show a = b ∨ (a ≠ b ∧ a + 1 = b) ∨ (a ≠ b ∧ a + 1 ≠ b) by omega) with h | ⟨h, h2⟩ | ⟨h, h2⟩
  · have HR : Hid (rangeW (UInt8.ofNat a) (UInt8.ofNat b) = signW (UInt8.ofNat a)) := by unfold Hid rangeW; rw [if_pos (by rw [h])]
    subst h
    have he : ((a : Int) == (a : Int)) = true := by rw [beq_iff_eq]
    clear SB na nb
    go_enter Try.func34, Try.ntmps34
    go_wp2_with fail
    refine (SA.out _).mono ?_
    rintro e w1 ⟨t, rfl, ht, b1⟩
    have hts : t.size ≤ 5 := by rw [Lib.size_eq, ht]; exact sign_len _
    have B1 : Hid (Below w.heap.size w w1) := b1
    clear b1
    go_wp2
    go_ret
    exact ⟨t, rfl, by rw [HR.out, ht], B1.out⟩
  · have HR : Hid (rangeW (UInt8.ofNat a) (UInt8.ofNat b) = signW (UInt8.ofNat a) ++ signW (UInt8.ofNat b)) := by
      unfold Hid rangeW; rw [if_neg (by rw [ofNat_inj a b (by omega) hb]; exact h), if_pos (by rw [na, nb]; exact h2)]
    have he : ((a : Int) == (b : Int)) = false := by rw [beq_eq_false_iff_ne]; omega
    have hw : IntKind.u8.wrap ((a : Int) + 1) = (a : Int) + 1 := by rw [IntKind.wrap_u8]; omega
    have he2 : (((a : Int) + 1) == (b : Int)) = true := by rw [beq_iff_eq]; omega
    clear na nb h h2 ha hb
    go_enter Try.func34, Try.ntmps34
    go_wp2_with fail
    refine (SA.out _).mono ?_
    rintro e w1 ⟨t, rfl, ht, b1⟩
    have hts : t.size ≤ 5 := by rw [Lib.size_eq, ht]; exact sign_len _
    have B1 : Hid (Below w.heap.size w w1) := b1
    clear b1
    go_wp2_with fail
    refine (SB.out _).mono ?_
    rintro e w2 ⟨u, rfl, hu, b2⟩
    have hus : u.size ≤ 5 := by rw [Lib.size_eq, hu]; exact sign_len _
    have B2 : Hid (Below w.heap.size w w2) := B1.out.trans (b2.mono B1.out.size)
    clear b2
    go_wp2
    go_ret
    exact ⟨t ++ u, rfl, by rw [HR.out, app_data, ht, hu], B2.out⟩
  · have HR : Hid (rangeW (UInt8.ofNat a) (UInt8.ofNat b) = signW (UInt8.ofNat a) ++ 45 :: signW (UInt8.ofNat b)) := by
      unfold Hid rangeW; rw [if_neg (by rw [ofNat_inj a b (by omega) hb]; exact h), if_neg (by rw [na, nb]; exact h2)]
    have he : ((a : Int) == (b : Int)) = false := by rw [beq_eq_false_iff_ne]; omega
    have hw : IntKind.u8.wrap ((a : Int) + 1) = (a : Int) + 1 := by rw [IntKind.wrap_u8]; omega
    have he2 : (((a : Int) + 1) == (b : Int)) = false := by rw [beq_eq_false_iff_ne]; omega
    clear na nb h h2 ha hb
    go_enter Try.func34, Try.ntmps34
    go_wp2_with fail
    refine (SA.out _).mono ?_
    rintro e w1 ⟨t, rfl, ht, b1⟩
    have hts : t.size ≤ 5 := by rw [Lib.size_eq, ht]; exact sign_len _
    have B1 : Hid (Below w.heap.size w w1) := b1
    clear b1
    go_wp2_with fail
    refine (SB.out _).mono ?_
    rintro e w2 ⟨u, rfl, hu, b2⟩
    have hus : u.size ≤ 5 := by rw [Lib.size_eq, hu]; exact sign_len _
    have B2 : Hid (Below w.heap.size w w2) := B1.out.trans (b2.mono B1.out.size)
    clear b2
    go_wp2
    go_ret
    exact ⟨t ++ ⟨#[45]⟩ ++ u, rfl, by rw [HR.out, app_data, app_data, ht, hu]; simp, B2.out⟩
end Go.Proofs.Ytnhbjjjoocpedaa
