import Derived.Test.YtnhbjjjoocpedaaXf
import Derived.Test.YtnhbjjjoocpedaaWe
import Derived.Test.YtnhbjjjoocpedaaWf
import Derived.Test.YtnhbjjjoocpedaaEq
namespace Go.Proofs.Ytnhbjjjoocpedaa
set_option linter.unusedSimpArgs false
set_option linter.unusedVariables false
open Go.RowKit
/-- a, b and c. -/
def abc : S4 := S4.zero.or (S4.zero.rng 97 99)
theorem parse_abc : parseP [91, 97, 45, 99, 93] 0 = (abc, 5, 0) := by kernel_rfl
theorem abc_len : cntB abc.has 256 = 3 := by decide +kernel
theorem abc_has : abc.has 98 = true := by decide +kernel
theorem MaxL.below {w w' : World} (h : MaxL w) (k : Below w.heap.size w w') : MaxL w' := by
  obtain ⟨⟨m, hm⟩, hz⟩ := h
  exact ⟨⟨m, by rw [k.cell hz]; exact hm⟩, Nat.lt_of_lt_of_le hz k.size⟩
set_option maxHeartbeats 2000000 in
set_option maxRecDepth 100000 in
theorem awake_any (w : World) (hM : MaxL w) : Calls Try.prog 9 #[] w fun e w' => e = .returned (.bool true) ∧ Below w.heap.size w w' := by
  have PA : Hid (∀ w, MaxL w → Calls Try.prog 20 #[.string ⟨#[91, 97, 45, 99, 93]⟩, .int .i64 0] w fun e w' => ∃ x0 x1 x2 x3, e = .returned (.tuple #[.agg #[.int .u64 x0, .int .u64 x1, .int .u64 x2, .int .u64 x3], .int .i64 5, .int .i64 0]) ∧ SV abc x0 x1 x2 x3 ∧ Below w.heap.size w w') := fun w h => by
    have := parse_any ⟨#[91, 97, 45, 99, 93]⟩ 0 w h (by decide) (by decide)
    refine this.mono fun e w' ⟨x0, x1, x2, x3, he, hs, hb⟩ => ?_
    have hq : parseP ([91, 97, 45, 99, 93] : List UInt8) 0 = (abc, 5, 0) := parse_abc
    change e = .returned (.tuple #[_, .int .i64 (parseP ([91, 97, 45, 99, 93] : List UInt8) 0).2.1, .int .i64 (parseP ([91, 97, 45, 99, 93] : List UInt8) 0).2.2]) at he
    change SV (parseP ([91, 97, 45, 99, 93] : List UInt8) 0).1 x0 x1 x2 x3 at hs
    rw [hq] at he hs
    exact ⟨x0, x1, x2, x3, he, hs, hb⟩
  have HM : Hid (MaxL w) := hM
  clear hM
  go_enter Try.func9, Try.ntmps9
  go_wp2_with fail
  refine (PA.out _ HM.out).mono ?_
  rintro e w1 ⟨x0, x1, x2, x3, rfl, sv, b1⟩
  have LN : Hid (∀ w, Calls Try.prog 12 #[.agg #[.int .u64 x0, .int .u64 x1, .int .u64 x2, .int .u64 x3]] w fun e w' => e = .returned (.int .i64 3) ∧ Below w.heap.size w w') := fun w => by
    have := len_any12 abc x0 x1 x2 x3 sv w; rw [abc_len] at this; exact this
  have HS : Hid (∀ w, Calls Try.prog 10 #[.agg #[.int .u64 x0, .int .u64 x1, .int .u64 x2, .int .u64 x3], .int .u8 98] w fun e w' => e = .returned (.bool true) ∧ Below w.heap.size w w') := fun w => by
    have := has_any10 abc x0 x1 x2 x3 sv 98 w (by decide); rw [abc_has] at this; exact this
  have B1 : Hid (Below w.heap.size w w1) := b1
  have hz1 : w.heap.size ≤ w1.heap.size := b1.size
  clear PA sv b1
  go_wp2_with fail
  refine (LN.out _).mono ?_
  rintro e w2 ⟨rfl, b2⟩
  have B2 : Hid (Below w.heap.size w w2) := (B1.out.alloc hz1 _).trans (b2.mono (by simp; omega))
  have X2 : Hid (BoxS w2 w1.heap.size x0 x1 x2 x3) := (BoxS.new w1 26 x0 x1 x2 x3).below b2 (by simp)
  have hz2 : w1.heap.size < w2.heap.size := by have := b2.size; simp at this; omega
  obtain ⟨⟨ka, kb, kc, kd⟩, _⟩ := id X2.out
  clear b2 B1 LN
  go_wp2_with fail
  refine (HS.out _).mono ?_
  rintro e w3 ⟨rfl, b3⟩
  have B3 : Hid (Below w.heap.size w w3) := B2.out.trans (b3.mono (by omega))
  clear b3 B2 HS ka kb kc kd X2
  go_wp2
  go_ret
  exact ⟨rfl, B3.out⟩
set_option maxHeartbeats 2000000 in
set_option maxRecDepth 100000 in
theorem classes_walk (s : ByteArray) (hs : s.size ≤ 9223372036854775807) (w : World) (hM : MaxL w) : Calls Try.prog 4 #[.string s] w fun e w' => e = .returned (.bool true) ∧ Below w.heap.size w w' := by
  have HM : Hid (MaxL w) := hM
  have AW : Hid (∀ w, MaxL w → Calls Try.prog 9 #[] w fun e w' => e = .returned (.bool true) ∧ Below w.heap.size w w') := fun w h => awake_any w h
  clear hM
  by_cases hl : (100 : Int) < s.size
  · go_enter Try.func4, Try.ntmps4
    go_wp2_with fail
    refine (AW.out _ HM.out).mono ?_
    rintro e w1 ⟨rfl, b1⟩
    have B1 : Hid (Below w.heap.size w w1) := b1
    have M1 : Hid (MaxL w1) := HM.out.below b1
    clear b1
    go_wp2_with fail
    refine (AW.out _ M1.out).mono ?_
    rintro e w2 ⟨rfl, b2⟩
    have B2 : Hid (Below w.heap.size w w2) := B1.out.trans (b2.mono B1.out.size)
    clear b2
    go_wp2
    go_ret
    exact ⟨rfl, B2.out⟩
  · have CA : Hid (∀ w, Calls Try.prog 18 #[.string s] w fun e w' => ∃ y0 y1 y2 y3, e = .returned (.tuple #[.agg #[.int .u64 y0, .int .u64 y1, .int .u64 y2, .int .u64 y3], .bool (classS s.data.toList).isSome]) ∧ SV ((classS s.data.toList).getD S4.zero) y0 y1 y2 y3 ∧ Below w.heap.size w w') := fun w => class_any18 s w
    have CB : Hid (∀ w, Calls Try.prog 19 #[.string s] w fun e w' => ∃ y0 y1 y2 y3, e = .returned (.tuple #[.agg #[.int .u64 y0, .int .u64 y1, .int .u64 y2, .int .u64 y3], .bool (classS s.data.toList).isSome]) ∧ SV ((classS s.data.toList).getD S4.zero) y0 y1 y2 y3 ∧ Below w.heap.size w w') := fun w => class_any19 s w
    generalize (classS s.data.toList).isSome = ok at *
    generalize (classS s.data.toList).getD S4.zero = S at *
    go_enter Try.func4, Try.ntmps4
    go_wp2_with fail
    refine (AW.out _ HM.out).mono ?_
    rintro e w1 ⟨rfl, b1⟩
    have B1 : Hid (Below w.heap.size w w1) := b1
    have hz1 : w.heap.size ≤ w1.heap.size := b1.size
    clear b1 AW HM
    go_wp2_with fail
    refine (CA.out _).mono ?_
    rintro e w2 ⟨y0, y1, y2, y3, rfl, sv, b2⟩
    have B2 : Hid (Below w.heap.size w w2) := B1.out.trans (b2.mono hz1)
    have hz2 : w.heap.size ≤ w2.heap.size := Nat.le_trans hz1 b2.size
    have SV2 : Hid (SV S y0 y1 y2 y3) := sv
    clear b2 sv CA B1
    go_wp2_with fail
    refine (CB.out _).mono ?_
    rintro e w3 ⟨u0, u1, u2, u3, rfl, sv, b3⟩
    obtain ⟨rfl, rfl, rfl, rfl⟩ := SV2.out.uniq sv
    have B3 : Hid (Below w.heap.size w w3) := (B2.out.alloc hz2 _).trans (b3.mono (by simp; omega))
    have X3 : Hid (BoxS w3 w2.heap.size y0 y1 y2 y3) := (BoxS.new w2 26 y0 y1 y2 y3).below b3 (by simp)
    have hz3 : w2.heap.size < w3.heap.size := by have := b3.size; simp at this; omega
    have hz4 : w.heap.size ≤ w3.heap.size := by omega
    obtain ⟨⟨ka, kb, kc, kd⟩, _⟩ := id X3.out
    have heq : ∀ W, (Op.equalIn 10000 24 (.agg #[.int .u64 y0, .int .u64 y1, .int .u64 y2, .int .u64 y3]) (.agg #[.int .u64 y0, .int .u64 y1, .int .u64 y2, .int .u64 y3])).run Try.prog W = .ok true W := fun W => eq24_self y0 y1 y2 y3 W
    clear b3 sv CB B2 X3 SV2
    go_wp2
    go_ret
    exact ⟨by cases ok <;> rfl, B3.out.alloc hz4 _⟩
end Go.Proofs.Ytnhbjjjoocpedaa
