import Derived.Test.YtnhbjjjoocpedaaZj
import Derived.Test.YtnhbjjjoocpedaaYa
namespace Go.Proofs.Ytnhbjjjoocpedaa
set_option linter.unusedSimpArgs false
set_option linter.unusedVariables false
open Go.RowKit
set_option maxHeartbeats 2000000 in
set_option maxRecDepth 100000 in
theorem parses_walk (s : ByteArray) (hs : s.size ≤ 9223372036854775807) (a : Int) (ha : a ≤ 9223372036854775807) (w : World) (hM : MaxL w) : Calls Try.prog 5 #[.string s, .int .i64 a] w fun e w' => e = .returned (.bool true) ∧ Below w.heap.size w w' := by
  have HM : Hid (MaxL w) := hM
  have AW : Hid (∀ w, MaxL w → Calls Try.prog 9 #[] w fun e w' => e = .returned (.bool true) ∧ Below w.heap.size w w') := fun w h => awake_any w h
  clear hM
  by_cases hl : (2000 : Int) < s.size
  · go_enter Try.func5, Try.ntmps5
    go_wp2_with fail
    refine (AW.out _ HM.out).mono ?_
    rintro e w1 ⟨rfl, b1⟩
    have B1 : Hid (Below w.heap.size w w1) := b1
    have M1 : Hid (MaxL w1) := HM.out.below b1
    clear b1
    go_wp2_with fail
    refine (AW.out _ M1.out).mono ?_
    rintro e w2 ⟨rfl, b2⟩
    have B2 : Hid (Below w.heap.size w w2) := B1.out.trans (b2.mono B1.out.size)
    clear b2
    go_wp2
    go_ret
    exact ⟨rfl, B2.out⟩
  · have hz : s.size ≤ 4000000 := by omega
    have CA : ∀ w, MaxL w → Calls Try.prog 20 #[.string s, .int .i64 a] w (ParO s.data.toList a w) := fun w h => parse_any s a w h hz ha
    have CB : ∀ w, Calls Try.prog 21 #[.string s, .int .i64 a] w (ParO s.data.toList a w) := fun w => bracket_any s a w hz ha
    unfold ParO at CA CB
    generalize parseP s.data.toList a = q at *
    obtain ⟨m, n, er⟩ := q
    simp only at CA CB
    have CA : Hid (∀ w, MaxL w → Calls Try.prog 20 #[.string s, .int .i64 a] w fun e w' => ∃ x0 x1 x2 x3 : Int, e = .returned (.tuple #[.agg #[.int .u64 x0, .int .u64 x1, .int .u64 x2, .int .u64 x3], .int .i64 n, .int .i64 er]) ∧ SV m x0 x1 x2 x3 ∧ Below w.heap.size w w') := CA
    have CB : Hid (∀ w, Calls Try.prog 21 #[.string s, .int .i64 a] w fun e w' => ∃ x0 x1 x2 x3 : Int, e = .returned (.tuple #[.agg #[.int .u64 x0, .int .u64 x1, .int .u64 x2, .int .u64 x3], .int .i64 n, .int .i64 er]) ∧ SV m x0 x1 x2 x3 ∧ Below w.heap.size w w') := CB
    go_enter Try.func5, Try.ntmps5
    go_wp2_with fail
    refine (AW.out _ HM.out).mono ?_
    rintro e w1 ⟨rfl, b1⟩
    have B1 : Hid (Below w.heap.size w w1) := b1
    have M1 : Hid (MaxL w1) := HM.out.below b1
    clear b1 AW HM
    go_wp2_with fail
    refine (CA.out _ M1.out).mono ?_
    rintro e w2 ⟨y0, y1, y2, y3, rfl, sv, b2⟩
    have B2 : Hid (Below w.heap.size w w2) := B1.out.trans (b2.mono B1.out.size)
    have hz2 : w.heap.size ≤ w2.heap.size := B2.out.size
    have SV2 : Hid (SV m y0 y1 y2 y3) := sv
    clear b2 sv CA B1 M1
    go_wp2_with fail
    refine (CB.out _).mono ?_
    rintro e w3 ⟨u0, u1, u2, u3, rfl, sv, b3⟩
    obtain ⟨rfl, rfl, rfl, rfl⟩ := SV2.out.uniq sv
    have B3 : Hid (Below w.heap.size w w3) := (B2.out.alloc hz2 _).trans (b3.mono (by simp; omega))
    have X3 : Hid (BoxS w3 w2.heap.size y0 y1 y2 y3) := (BoxS.new w2 26 y0 y1 y2 y3).below b3 (by simp)
    have hz3 : w2.heap.size < w3.heap.size := by have := b3.size; simp at this; omega
    have hz4 : w.heap.size ≤ w3.heap.size := by omega
    obtain ⟨⟨ka, kb, kc, kd⟩, _⟩ := id X3.out
    have heq : ∀ W, (Op.equalIn 10000 24 (.agg #[.int .u64 y0, .int .u64 y1, .int .u64 y2, .int .u64 y3]) (.agg #[.int .u64 y0, .int .u64 y1, .int .u64 y2, .int .u64 y3])).run Try.prog W = .ok true W := fun W => eq24_self y0 y1 y2 y3 W
    clear b3 sv CB B2 X3 SV2
    go_wp2
    go_ret
    exact ⟨by first | rfl | simp, B3.out.alloc hz4 _⟩
end Go.Proofs.Ytnhbjjjoocpedaa
