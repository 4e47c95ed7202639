import Derived.Test.YtnhbjjjoocpedaaBf
import Derived.Test.YtnhbjjjoocpedaaZj
namespace Go.Proofs.Ytnhbjjjoocpedaa
set_option linter.unusedSimpArgs false
set_option linter.unusedVariables false
open Go.RowKit
theorem printP_head (s : S4) : ∃ t, printP s = 91 :: t := by
  unfold printP; split <;> exact ⟨_, rfl⟩
theorem parse_print (s : S4) (A B : List UInt8) : parseP (A ++ printP s ++ B) A.length = (s, (A.length : Int) + (printP s).length, 0) := by
  obtain ⟨t, ht⟩ := printP_head s
  have hb := print_back s B
  unfold parseP
  rw [if_neg]
  · have e : (A ++ printP s ++ B).drop (((A.length : Int)).toNat + 1) = (printP s ++ B).drop 1 := by
      rw [Int.toNat_natCast, List.append_assoc, ← List.drop_drop, List.drop_left]
    rw [e, hb]
    simp only [List.length_append]
    congr 2
    omega
  · rintro (q | q | q)
    · omega
    · rw [ht] at q; simp at q; omega
    · apply q
      rw [Int.toNat_natCast, List.append_assoc, List.getElem?_append_right (Nat.le_refl _), Nat.sub_self, ht]; rfl
set_option maxHeartbeats 2000000 in
set_option maxRecDepth 100000 in
theorem back_long (x0 x1 x2 x3 : Int) (ah be : ByteArray) (hah : ah.size ≤ 9223372036854775807) (hbe : be.size ≤ 9223372036854775807) (w : World) (hM : MaxL w) (hl : (100 : Int) < ah.size) :
    Calls Try.prog 6 #[.agg #[.int .u64 x0, .int .u64 x1, .int .u64 x2, .int .u64 x3], .string ah, .string be] w fun e w' => e = .returned (.bool true) ∧ Below w.heap.size w w' := by
  have M1 : Hid (MaxL (w.alloc (.cells #[.int .u64 x0, .int .u64 x1, .int .u64 x2, .int .u64 x3] 24))) := hM.alloc _
  have AW : Hid (∀ w, MaxL w → Calls Try.prog 9 #[] w fun e w' => e = .returned (.bool true) ∧ Below w.heap.size w w') := fun w h => awake_any w h
  clear hM
  go_enter Try.func6, Try.ntmps6
  go_wp2_with fail
  refine (AW.out _ M1.out).mono ?_
  rintro e w1 ⟨rfl, b1⟩
  have B1 : Hid (Below w.heap.size w w1) := ((Below.refl _ _).alloc (Nat.le_refl _) _).trans (b1.mono (by simp))
  have M2 : Hid (MaxL w1) := M1.out.below b1
  clear b1 M1
  go_wp2_with fail
  refine (AW.out _ M2.out).mono ?_
  rintro e w2 ⟨rfl, b2⟩
  have B2 : Hid (Below w.heap.size w w2) := B1.out.trans (b2.mono B1.out.size)
  clear b2
  go_wp2
  go_ret
  exact ⟨rfl, B2.out⟩
set_option maxHeartbeats 2000000 in
set_option maxRecDepth 100000 in
theorem back_long2 (x0 x1 x2 x3 : Int) (ah be : ByteArray) (hah : ah.size ≤ 9223372036854775807) (hbe : be.size ≤ 9223372036854775807) (w : World) (hM : MaxL w) (hl : ¬ (100 : Int) < ah.size) (hl2 : (100 : Int) < be.size) :
    Calls Try.prog 6 #[.agg #[.int .u64 x0, .int .u64 x1, .int .u64 x2, .int .u64 x3], .string ah, .string be] w fun e w' => e = .returned (.bool true) ∧ Below w.heap.size w w' := by
  have M1 : Hid (MaxL (w.alloc (.cells #[.int .u64 x0, .int .u64 x1, .int .u64 x2, .int .u64 x3] 24))) := hM.alloc _
  have AW : Hid (∀ w, MaxL w → Calls Try.prog 9 #[] w fun e w' => e = .returned (.bool true) ∧ Below w.heap.size w w') := fun w h => awake_any w h
  clear hM
  go_enter Try.func6, Try.ntmps6
  go_wp2_with fail
  refine (AW.out _ M1.out).mono ?_
  rintro e w1 ⟨rfl, b1⟩
  have B1 : Hid (Below w.heap.size w w1) := ((Below.refl _ _).alloc (Nat.le_refl _) _).trans (b1.mono (by simp))
  have M2 : Hid (MaxL w1) := M1.out.below b1
  clear b1 M1
  go_wp2_with fail
  refine (AW.out _ M2.out).mono ?_
  rintro e w2 ⟨rfl, b2⟩
  have B2 : Hid (Below w.heap.size w w2) := B1.out.trans (b2.mono B1.out.size)
  clear b2
  go_wp2
  go_ret
  exact ⟨rfl, B2.out⟩
set_option maxHeartbeats 4000000 in
set_option maxRecDepth 100000 in
theorem back_main (s : S4) (x0 x1 x2 x3 : Int) (hs : SV s x0 x1 x2 x3) (ah be : ByteArray) (w : World) (hM : MaxL w) (hl : ¬ (100 : Int) < ah.size) (hl2 : ¬ (100 : Int) < be.size) :
    Calls Try.prog 6 #[.agg #[.int .u64 x0, .int .u64 x1, .int .u64 x2, .int .u64 x3], .string ah, .string be] w fun e w' => e = .returned (.bool true) ∧ Below w.heap.size w w' := by
  have M1 : Hid (MaxL (w.alloc (.cells #[.int .u64 x0, .int .u64 x1, .int .u64 x2, .int .u64 x3] 24))) := hM.alloc _
  have AW : Hid (∀ w, MaxL w → Calls Try.prog 9 #[] w fun e w' => e = .returned (.bool true) ∧ Below w.heap.size w w') := fun w h => awake_any w h
  have HS : Hid (SV s x0 x1 x2 x3) := hs
  have PA : Hid (∀ w, Calls Try.prog 22 #[.agg #[.int .u64 x0, .int .u64 x1, .int .u64 x2, .int .u64 x3]] w fun e w' => ∃ t : ByteArray, e = .returned (.string t) ∧ t.data.toList = printP s ∧ Below w.heap.size w w') := fun w => print_any s x0 x1 x2 x3 hs w
  have has : ah.size ≤ 100 := by omega
  have hbs : be.size ≤ 100 := by omega
  clear hM hs
  go_enter Try.func6, Try.ntmps6
  go_wp2_with fail
  refine (AW.out _ M1.out).mono ?_
  rintro e w1 ⟨rfl, b1⟩
  have X1 : Hid (BoxS w1 w.heap.size x0 x1 x2 x3) := (BoxS.new w 24 x0 x1 x2 x3).below b1 (by simp)
  have hz1 : w.heap.size < w1.heap.size := by have := b1.size; simp at this; omega
  have B1 : Hid (Below w.heap.size w w1) := ((Below.refl _ _).alloc (Nat.le_refl _) _).trans (b1.mono (by simp))
  have M2 : Hid (MaxL w1) := M1.out.below b1
  obtain ⟨⟨ka, kb, kc, kd⟩, _⟩ := id X1.out
  clear b1 M1 AW
  go_wp2_with fail
  refine (PA.out _).mono ?_
  rintro e w2 ⟨p, rfl, hp, b2⟩
  have B2 : Hid (Below w.heap.size w w2) := B1.out.trans (b2.mono B1.out.size)
  have X2 : Hid (BoxS w2 w.heap.size x0 x1 x2 x3) := X1.out.below b2 hz1
  have M3 : Hid (MaxL w2) := M2.out.below b2
  have hz2 : w.heap.size < w2.heap.size := by have := b2.size; omega
  have hps : p.size ≤ 1100 := by rw [Lib.size_eq, hp]; exact print_len s
  have hpi : (p.size : Int) ≤ 1100 := by omega
  have hcat : (ah ++ p ++ be : ByteArray).size ≤ 4000000 := by rw [ByteArray.size_append, ByteArray.size_append]; omega
  have h20 : parseP (ah ++ p ++ be : ByteArray).data.toList ah.size = (s, (ah.size : Int) + p.size, 0) := by
    rw [app_data, app_data, hp, Lib.size_eq ah, parse_print, Lib.size_eq p, hp]
  have h21 : parseP p.data.toList 0 = (s, (p.size : Int), 0) := by
    have := parse_print s [] []
    simp only [List.nil_append, List.append_nil, List.length_nil] at this
    rw [hp, Lib.size_eq p, hp]; simpa using this
  have CA : Hid (∀ w, MaxL w → Calls Try.prog 20 #[.string (ah ++ p ++ be), .int .i64 ah.size] w fun e w' => e = .returned (.tuple #[.agg #[.int .u64 x0, .int .u64 x1, .int .u64 x2, .int .u64 x3], .int .i64 ((ah.size : Int) + p.size), .int .i64 0]) ∧ Below w.heap.size w w') := fun w h => by
    refine (parse_any (ah ++ p ++ be) ah.size w h hcat (by omega)).mono ?_
    rintro e w' ⟨y0, y1, y2, y3, rfl, sv, b⟩
    rw [h20] at sv ⊢
    obtain ⟨rfl, rfl, rfl, rfl⟩ := HS.out.uniq sv
    exact ⟨rfl, b⟩
  have CB : Hid (∀ w, Calls Try.prog 21 #[.string p, .int .i64 0] w fun e w' => e = .returned (.tuple #[.agg #[.int .u64 x0, .int .u64 x1, .int .u64 x2, .int .u64 x3], .int .i64 p.size, .int .i64 0]) ∧ Below w.heap.size w w') := fun w => by
    refine (bracket_any p 0 w (by omega) (by omega)).mono ?_
    rintro e w' ⟨y0, y1, y2, y3, rfl, sv, b⟩
    rw [h21] at sv ⊢
    obtain ⟨rfl, rfl, rfl, rfl⟩ := HS.out.uniq sv
    exact ⟨rfl, b⟩
  clear h20 h21 hp b2 PA B1 X1 M2 ka kb kc kd HS hcat
  go_wp2_with fail
  refine (CA.out _ M3.out).mono ?_
  rintro e w3 ⟨rfl, b3⟩
  have B3 : Hid (Below w.heap.size w w3) := B2.out.trans (b3.mono B2.out.size)
  have X3 : Hid (BoxS w3 w.heap.size x0 x1 x2 x3) := X2.out.below b3 hz2
  have hz3 : w.heap.size < w3.heap.size := by have := b3.size; omega
  clear b3 CA B2 X2 M3
  go_wp2_with fail
  refine (CB.out _).mono ?_
  rintro e w4 ⟨rfl, b4⟩
  have B4 : Hid (Below w.heap.size w w4) := (B3.out.alloc (by omega) _).trans (b4.mono (by simp; omega))
  have X4 : Hid (BoxS w4 w.heap.size x0 x1 x2 x3) := (X3.out.below ((Below.refl _ _).alloc (Nat.le_refl _) _) hz3).below b4 (by simp; omega)
  have Y4 : Hid (BoxS w4 w3.heap.size x0 x1 x2 x3) := (BoxS.new w3 26 x0 x1 x2 x3).below b4 (by simp)
  have hz4 : w3.heap.size < w4.heap.size := by have := b4.size; simp at this; omega
  have hz5 : w.heap.size < w4.heap.size := by omega
  have hz6 : w.heap.size ≤ w4.heap.size := by omega
  obtain ⟨⟨ka, kb, kc, kd⟩, _⟩ := id X4.out
  obtain ⟨⟨la, lb, lc, ld⟩, _⟩ := id Y4.out
  have heq : ∀ W, (Op.equalIn 10000 24 (.agg #[.int .u64 x0, .int .u64 x1, .int .u64 x2, .int .u64 x3]) (.agg #[.int .u64 x0, .int .u64 x1, .int .u64 x2, .int .u64 x3])).run Try.prog W = .ok true W := fun W => eq24_self x0 x1 x2 x3 W
  clear b4 CB B3 X3 X4 Y4
  go_wp2
  go_ret
  exact ⟨by first | rfl | simp, B4.out.alloc hz6 _⟩
theorem back_walk (s : S4) (x0 x1 x2 x3 : Int) (hs : SV s x0 x1 x2 x3) (ah be : ByteArray) (hah : ah.size ≤ 9223372036854775807) (hbe : be.size ≤ 9223372036854775807) (w : World) (hM : MaxL w) :
    Calls Try.prog 6 #[.agg #[.int .u64 x0, .int .u64 x1, .int .u64 x2, .int .u64 x3], .string ah, .string be] w fun e w' => e = .returned (.bool true) ∧ Below w.heap.size w w' := by
  by_cases h1 : (100 : Int) < ah.size
  · exact back_long x0 x1 x2 x3 ah be hah hbe w hM h1
  · by_cases h2 : (100 : Int) < be.size
    · exact back_long2 x0 x1 x2 x3 ah be hah hbe w hM h1 h2
    · exact back_main s x0 x1 x2 x3 hs ah be w hM h1 h2
end Go.Proofs.Ytnhbjjjoocpedaa
