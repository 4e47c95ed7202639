import Derived.Test.YtnhbjjjoocpedaaWc
import Derived.Test.YtnhbjjjoocpedaaPc
namespace Go.Proofs.Ytnhbjjjoocpedaa
set_option linter.unusedSimpArgs false
set_option linter.unusedVariables false
open Go.RowKit
def si1 (x : Int) : Int := IntKind.u64.wrap (bits .and .u64 (x / 2) 6148914691236517205 + bits .and .u64 x 6148914691236517205)
def si2 (x : Int) : Int := IntKind.u64.wrap (bits .and .u64 (x / 4) 3689348814741910323 + bits .and .u64 x 3689348814741910323)
def si3 (x : Int) : Int := bits .and .u64 (IntKind.u64.wrap (x / 16 + x)) 1085102592571150095
def si4 (x : Int) : Int := IntKind.u64.wrap (x + x / 256)
def si5 (x : Int) : Int := IntKind.u64.wrap (x + x / 65536)
def si6 (x : Int) : Int := IntKind.u64.wrap (x + x / 4294967296)
def onesI (x : Int) : Int := bits .and .i64 (wrap64 (si6 (si5 (si4 (si3 (si2 (si1 x))))))) 127
theorem and_nat (a b : Nat) (ha : a < 18446744073709551616) (hb : b < 18446744073709551616) : bits .and .u64 (a : Int) (b : Int) = ((a &&& b : Nat) : Int) := u64_and_nat a b ha hb
theorem wrap_nat (a : Nat) (ha : a < 18446744073709551616) : IntKind.u64.wrap (a : Int) = a := by rw [IntKind.wrap_u64]; omega
theorem si1_eq (a : Nat) (h : a < 18446744073709551616) : si1 a = stp1 a ∧ stp1 a ≤ 12297829382473034410 := by
  have b1 : a / 2 &&& 6148914691236517205 ≤ 6148914691236517205 := Nat.and_le_right
  have b2 : a &&& 6148914691236517205 ≤ 6148914691236517205 := Nat.and_le_right
  unfold si1 stp1
  refine ⟨?_, by omega⟩
  rw [show ((a : Int) / 2) = ((a / 2 : Nat) : Int) by omega, show (6148914691236517205 : Int) = ((6148914691236517205 : Nat) : Int) from rfl, and_nat _ _ (by omega) (by decide), and_nat _ _ h (by decide), ← Int.natCast_add, wrap_nat _ (by omega)]
theorem si2_eq (a : Nat) (h : a < 18446744073709551616) : si2 a = stp2 a ∧ stp2 a ≤ 7378697629483820646 := by
  have b1 : a / 4 &&& 3689348814741910323 ≤ 3689348814741910323 := Nat.and_le_right
  have b2 : a &&& 3689348814741910323 ≤ 3689348814741910323 := Nat.and_le_right
  unfold si2 stp2
  refine ⟨?_, by omega⟩
  rw [show ((a : Int) / 4) = ((a / 4 : Nat) : Int) by omega, show (3689348814741910323 : Int) = ((3689348814741910323 : Nat) : Int) from rfl, and_nat _ _ (by omega) (by decide), and_nat _ _ h (by decide), ← Int.natCast_add, wrap_nat _ (by omega)]
theorem si3_eq (a : Nat) (h : a ≤ 7378697629483820646) : si3 a = stp3 a ∧ stp3 a ≤ 1085102592571150095 := by
  unfold si3 stp3
  refine ⟨?_, Nat.and_le_right⟩
  rw [show ((a : Int) / 16 + a) = ((a / 16 + a : Nat) : Int) by omega, wrap_nat _ (by omega), show (1085102592571150095 : Int) = ((1085102592571150095 : Nat) : Int) from rfl, and_nat _ _ (by omega) (by decide)]
theorem si4_eq (a : Nat) (h : a ≤ 1085102592571150095) : si4 a = stp4 a ∧ stp4 a ≤ 2170205185142300190 := by
  unfold si4 stp4
  refine ⟨?_, by omega⟩
  rw [show ((a : Int) + a / 256) = ((a + a / 256 : Nat) : Int) by omega, wrap_nat _ (by omega)]
theorem si5_eq (a : Nat) (h : a ≤ 2170205185142300190) : si5 a = stp5 a ∧ stp5 a ≤ 4340410370284600380 := by
  unfold si5 stp5
  refine ⟨?_, by omega⟩
  rw [show ((a : Int) + a / 65536) = ((a + a / 65536 : Nat) : Int) by omega, wrap_nat _ (by omega)]
theorem si6_eq (a : Nat) (h : a ≤ 4340410370284600380) : si6 a = stp6 a ∧ stp6 a ≤ 4340410372284600380 := by
  unfold si6 stp6
  refine ⟨?_, by omega⟩
  rw [show ((a : Int) + a / 4294967296) = ((a + a / 4294967296 : Nat) : Int) by omega, wrap_nat _ (by omega)]
theorem wand127 (a : Nat) (h : a < 9223372036854775808) : bits .and .i64 (wrap64 (a : Int)) 127 = ((a % 128 : Nat) : Int) := by
  have e0 : wrap64 (a : Int) = a := by unfold wrap64; omega
  have h1 : (BitVec.ofInt 64 (a : Int)).toNat = a := by
    rw [BitVec.ofInt_natCast, BitVec.toNat_ofNat]; exact Nat.mod_eq_of_lt (by omega)
  have h2 : (BitVec.ofInt 64 (127 : Int)).toNat = 127 := by decide
  rw [e0]
  show IntKind.i64.wrap ((BitVec.ofInt 64 (a : Int) &&& BitVec.ofInt 64 (127 : Int)).toNat : Int) = _
  rw [BitVec.toNat_and, h1, h2, show (127 : Nat) = 2 ^ 7 - 1 from rfl, Nat.and_two_pow_sub_one_eq_mod]
  simp [IntKind.wrap, IntKind.bits, IntKind.signed]; omega
theorem onesI_eq (a : BitVec 64) : onesI a.toNat = (cntB (fun i => a.toNat.testBit i) 64 : Nat) := by
  have hl := a.isLt
  obtain ⟨e1, b1⟩ := si1_eq a.toNat hl
  obtain ⟨e2, b2⟩ := si2_eq (stp1 a.toNat) (by omega)
  obtain ⟨e3, b3⟩ := si3_eq (stp2 (stp1 a.toNat)) (by omega)
  obtain ⟨e4, b4⟩ := si4_eq (stp3 (stp2 (stp1 a.toNat))) (by omega)
  obtain ⟨e5, b5⟩ := si5_eq (stp4 (stp3 (stp2 (stp1 a.toNat)))) (by omega)
  obtain ⟨e6, b6⟩ := si6_eq (stp5 (stp4 (stp3 (stp2 (stp1 a.toNat))))) (by omega)
  unfold onesI
  rw [e1, e2, e3, e4, e5, e6, wand127 _ (by omega)]
  exact congrArg _ (ones_any a.toNat hl)
set_option maxHeartbeats 2000000 in
set_option maxRecDepth 100000 in
theorem ones_any24 (x : Int) (h0 : 0 ≤ x) (h1 : x < 18446744073709551616) (w : World) :
    Calls Try.prog 24 #[.int .u64 x] w fun e w' => e = .returned (.int .i64 (onesI x)) ∧ w = w' := by
  go_enter Try.func24, Try.ntmps24
  go_wp2
  go_ret
  exact ⟨rfl, rfl⟩
set_option maxHeartbeats 2000000 in
set_option maxRecDepth 100000 in
theorem len_any12 (s : S4) (x0 x1 x2 x3 : Int) (hs : SV s x0 x1 x2 x3) (w : World) :
    Calls Try.prog 12 #[.agg #[.int .u64 x0, .int .u64 x1, .int .u64 x2, .int .u64 x3]] w fun e w' => e = .returned (.int .i64 (cntB s.has 256 : Nat)) ∧ Below w.heap.size w w' := by
  have hcount : Hid (((cntB s.has 256 : Nat) : Int) = onesI x0 + onesI x1 + onesI x2 + onesI x3) := by
    obtain ⟨rfl, rfl, rfl, rfl⟩ := hs
    unfold Hid
    rw [onesI_eq, onesI_eq, onesI_eq, onesI_eq, len_words]; omega
  have bd : ∀ a : BitVec 64, 0 ≤ onesI a.toNat ∧ onesI a.toNat ≤ 64 := fun a => by
    rw [onesI_eq]; have := ones_lt (fun i => a.toNat.testBit i) 64; omega
  obtain ⟨p0, q0⟩ : 0 ≤ x0 ∧ x0 < 18446744073709551616 := by rw [hs.1]; have := s.a.isLt; omega
  obtain ⟨p1, q1⟩ : 0 ≤ x1 ∧ x1 < 18446744073709551616 := by rw [hs.2.1]; have := s.b.isLt; omega
  obtain ⟨p2, q2⟩ : 0 ≤ x2 ∧ x2 < 18446744073709551616 := by rw [hs.2.2.1]; have := s.c.isLt; omega
  obtain ⟨p3, q3⟩ : 0 ≤ x3 ∧ x3 < 18446744073709551616 := by rw [hs.2.2.2]; have := s.d.isLt; omega
  obtain ⟨r0, t0⟩ : 0 ≤ onesI x0 ∧ onesI x0 ≤ 64 := by rw [hs.1]; exact bd _
  obtain ⟨r1, t1⟩ : 0 ≤ onesI x1 ∧ onesI x1 ≤ 64 := by rw [hs.2.1]; exact bd _
  obtain ⟨r2, t2⟩ : 0 ≤ onesI x2 ∧ onesI x2 ≤ 64 := by rw [hs.2.2.1]; exact bd _
  obtain ⟨r3, t3⟩ : 0 ≤ onesI x3 ∧ onesI x3 ≤ 64 := by rw [hs.2.2.2]; exact bd _
  have C0 : Hid (∀ w, Calls Try.prog 24 #[.int .u64 x0] w fun e w' => e = .returned (.int .i64 (onesI x0)) ∧ w = w') := fun w => ones_any24 x0 p0 q0 w
  have C1 : Hid (∀ w, Calls Try.prog 24 #[.int .u64 x1] w fun e w' => e = .returned (.int .i64 (onesI x1)) ∧ w = w') := fun w => ones_any24 x1 p1 q1 w
  have C2 : Hid (∀ w, Calls Try.prog 24 #[.int .u64 x2] w fun e w' => e = .returned (.int .i64 (onesI x2)) ∧ w = w') := fun w => ones_any24 x2 p2 q2 w
  have C3 : Hid (∀ w, Calls Try.prog 24 #[.int .u64 x3] w fun e w' => e = .returned (.int .i64 (onesI x3)) ∧ w = w') := fun w => ones_any24 x3 p3 q3 w
  clear bd hs p0 q0 p1 q1 p2 q2 p3 q3
  rw [hcount.out]
  generalize onesI x0 = n0 at *
  generalize onesI x1 = n1 at *
  generalize onesI x2 = n2 at *
  generalize onesI x3 = n3 at *
  have i0 : ∀ w, (Instr.index 26 (.agg #[.int .u64 x0, .int .u64 x1, .int .u64 x2, .int .u64 x3]) (.int .i64 0)).run Try.prog w = .ok (.int .u64 x0) w := fun _ => by kernel_rfl
  have i1 : ∀ w, (Instr.index 26 (.agg #[.int .u64 x0, .int .u64 x1, .int .u64 x2, .int .u64 x3]) (.int .i64 1)).run Try.prog w = .ok (.int .u64 x1) w := fun _ => by kernel_rfl
  have i2 : ∀ w, (Instr.index 26 (.agg #[.int .u64 x0, .int .u64 x1, .int .u64 x2, .int .u64 x3]) (.int .i64 2)).run Try.prog w = .ok (.int .u64 x2) w := fun _ => by kernel_rfl
  have i3 : ∀ w, (Instr.index 26 (.agg #[.int .u64 x0, .int .u64 x1, .int .u64 x2, .int .u64 x3]) (.int .i64 3)).run Try.prog w = .ok (.int .u64 x3) w := fun _ => by kernel_rfl
  go_enter Try.func12, Try.ntmps12
  go_wp2
  refine wp_loop_rounds 5 ?_
  rw [rounds_succ]
  go_wp2_with fail
  refine (C0.out _).mono ?_
  rintro e w' ⟨rfl, rfl⟩
  go_wp2
  rw [rounds_succ]
  go_wp2_with fail
  refine (C1.out _).mono ?_
  rintro e w' ⟨rfl, rfl⟩
  go_wp2
  rw [rounds_succ]
  go_wp2_with fail
  refine (C2.out _).mono ?_
  rintro e w' ⟨rfl, rfl⟩
  go_wp2
  rw [rounds_succ]
  go_wp2_with fail
  refine (C3.out _).mono ?_
  rintro e w' ⟨rfl, rfl⟩
  go_wp2
  rw [rounds_succ]
  go_wp2
  go_ret
  exact ⟨rfl, (Below.refl _ _).alloc (Nat.le_refl _) _⟩
set_option maxHeartbeats 2000000 in
set_option maxRecDepth 100000 in
theorem len_any13 (s : S4) (x0 x1 x2 x3 : Int) (hs : SV s x0 x1 x2 x3) (w : World) :
    Calls Try.prog 13 #[.agg #[.int .u64 x0, .int .u64 x1, .int .u64 x2, .int .u64 x3]] w fun e w' => e = .returned (.int .i64 (cntB s.has 256 : Nat)) ∧ Below w.heap.size w w' := by
  have HS : Hid (SV s x0 x1 x2 x3) := hs
  clear hs
  have B0 : Hid (Below w.heap.size w (w.alloc (.cells #[.int .u64 x0, .int .u64 x1, .int .u64 x2, .int .u64 x3] 24))) := (Below.refl _ _).alloc (Nat.le_refl _) _
  go_enter Try.func13, Try.ntmps13
  go_wp2
  go_loopw [3, 5] (fun s3 s5 wr => ∃ (k n : Nat), s5 = .int .i64 k ∧ s3 = .int .i64 n ∧ k ≤ 256 ∧ n ≤ k ∧ Hid (n = cntB s.has k) ∧ Hid (Below w.heap.size w wr) ∧ w.heap.size < wr.heap.size ∧ wr.cell? ⟨w.heap.size, 0, none⟩ = some (.int .u64 x0) ∧ wr.cell? ⟨w.heap.size, 1, none⟩ = some (.int .u64 x1) ∧ wr.cell? ⟨w.heap.size, 2, none⟩ = some (.int .u64 x2) ∧ wr.cell? ⟨w.heap.size, 3, none⟩ = some (.int .u64 x3)) (fun _ s5 _ => 256 - (intOf s5).toNat)
  case atStart =>
    exact ⟨0, 0, rfl, rfl, by omega, by omega, rfl, B0.out, by simp, by go_simp, by go_simp, by go_simp, by go_simp⟩
  case round =>
    obtain ⟨k, n, rfl, rfl, hk, hn, hc, hb, hz, k0, k1, k2, k3⟩ := hrel
    by_cases hlt : k < 256
    · have H : Hid (∀ w', Calls Try.prog 11 #[.agg #[.int .u64 x0, .int .u64 x1, .int .u64 x2, .int .u64 x3], .int .u8 k] w' fun e w'' => e = .returned (.bool (s.has k)) ∧ Below w'.heap.size w' w'') := fun w' => has_any11 s x0 x1 x2 x3 HS.out k w' hlt
      have hcs : Hid ((if s.has k then n + 1 else n) = cntB s.has (k + 1)) := by
        show _ = cntB s.has k + _
        rw [← hc.out]; split <;> rfl
      have hkb : (k : Int) % 256 = k := by omega
      cases hh : s.has k
      · rw [hh] at H hcs
        clear hh
        go_wp2_with fail
        refine (H.out _).mono ?_
        rintro e w2 ⟨rfl, b2⟩
        have F : Hid (Below w.heap.size w w2 ∧ w.heap.size < w2.heap.size ∧ w2.cell? ⟨w.heap.size, 0, none⟩ = some (.int .u64 x0) ∧ w2.cell? ⟨w.heap.size, 1, none⟩ = some (.int .u64 x1) ∧ w2.cell? ⟨w.heap.size, 2, none⟩ = some (.int .u64 x2) ∧ w2.cell? ⟨w.heap.size, 3, none⟩ = some (.int .u64 x3)) :=
          ⟨hb.out.trans (b2.mono (by omega)), by have := b2.size; omega, by rw [b2.cell hz]; exact k0, by rw [b2.cell hz]; exact k1, by rw [b2.cell hz]; exact k2, by rw [b2.cell hz]; exact k3⟩
        clear b2 H hb k0 k1 k2 k3
        go_wp2
        go_roundw
        case rel => exact ⟨k + 1, n, by go_num, rfl, by omega, by omega, hcs.out, F.out⟩
        case measure => simp [intOf]; omega
      · rw [hh] at H hcs
        clear hh
        go_wp2_with fail
        refine (H.out _).mono ?_
        rintro e w2 ⟨rfl, b2⟩
        have F : Hid (Below w.heap.size w w2 ∧ w.heap.size < w2.heap.size ∧ w2.cell? ⟨w.heap.size, 0, none⟩ = some (.int .u64 x0) ∧ w2.cell? ⟨w.heap.size, 1, none⟩ = some (.int .u64 x1) ∧ w2.cell? ⟨w.heap.size, 2, none⟩ = some (.int .u64 x2) ∧ w2.cell? ⟨w.heap.size, 3, none⟩ = some (.int .u64 x3)) :=
          ⟨hb.out.trans (b2.mono (by omega)), by have := b2.size; omega, by rw [b2.cell hz]; exact k0, by rw [b2.cell hz]; exact k1, by rw [b2.cell hz]; exact k2, by rw [b2.cell hz]; exact k3⟩
        clear b2 H hb k0 k1 k2 k3
        go_wp2
        go_roundw
        case rel => exact ⟨k + 1, n + 1, by go_num, by go_num, by omega, by omega, hcs.out, F.out⟩
        case measure => simp [intOf]; omega
    · have e : k = 256 := by omega
      have HF : Hid ((n : Int) = (cntB s.has 256 : Nat)) := by rw [← e, hc.out]; rfl
      clear hc hlt
      go_wp2
      go_ret
      exact ⟨by rw [← HF.out]; rfl, hb.out⟩
end Go.Proofs.Ytnhbjjjoocpedaa
