import Derived.Test.YtndmjndokokmnaaWx
namespace Go.Proofs.Ytndmjndokokmnaa
set_option linter.unusedSimpArgs false
set_option linter.unusedVariables false
open Go.RowKit
theorem S4V.nought : S4V S4.zero 0 0 0 0 := ⟨rfl, rfl, rfl, rfl⟩
theorem tl_eq (s : ByteArray) (l : List UInt8) : (s.toList == l) = decide (s.data.toList = l) := by
  rw [Lib.toList_data, Bool.eq_iff_iff]; simp
theorem class_xdigit : classS [120, 100, 105, 103, 105, 116] = some (((S4.zero.rng 65 70).rng 97 102).rng 48 57) := by
  have e : (((S4.zero.rng 48 57).rng 65 70).rng 97 102) = (((S4.zero.rng 65 70).rng 97 102).rng 48 57) := S4.same fun i hi => by
    rw [has_rng _ _ _ _ (by decide) hi, has_rng _ _ _ _ (by decide) hi, has_rng _ _ _ _ (by decide) hi, has_rng _ _ _ _ (by decide) hi, has_rng _ _ _ _ (by decide) hi, has_rng _ _ _ _ (by decide) hi, Bool.eq_iff_iff]
    simp only [Bool.or_eq_true, decide_eq_true_eq]
    generalize S4.zero.has i = z
    cases z <;> simp <;> omega
  rw [← e]; rfl
theorem class_space : classS [115, 112, 97, 99, 101] = some ((S4.zero.rng 32 32).rng 9 13) := by
  have e : ((S4.zero.rng 9 13).rng 32 32) = ((S4.zero.rng 32 32).rng 9 13) := S4.same fun i hi => by
    rw [has_rng _ _ _ _ (by decide) hi, has_rng _ _ _ _ (by decide) hi, has_rng _ _ _ _ (by decide) hi, has_rng _ _ _ _ (by decide) hi, Bool.eq_iff_iff]
    simp only [Bool.or_eq_true, decide_eq_true_eq]
    generalize S4.zero.has i = z
    cases z <;> simp <;> omega
  rw [← e]; rfl
/-- The box of a set that a call has laid, and nothing has turned. -/
def Box4 (w : World) (g : Nat) : Prop := (w.cell? ⟨g, 0, none⟩ = some (.int .u64 0) ∧ w.cell? ⟨g, 1, none⟩ = some (.int .u64 0) ∧ w.cell? ⟨g, 2, none⟩ = some (.int .u64 0) ∧ w.cell? ⟨g, 3, none⟩ = some (.int .u64 0)) ∧ (w.frozen? ⟨g, 0, none⟩ = false ∧ w.frozen? ⟨g, 1, none⟩ = false ∧ w.frozen? ⟨g, 2, none⟩ = false ∧ w.frozen? ⟨g, 3, none⟩ = false)
theorem Box4.below {B : Nat} {w w' : World} {g : Nat} (h : Box4 w g) (b : Below B w w') (hg : g < B) : Box4 w' g := by
  obtain ⟨⟨a0, a1, a2, a3⟩, b0, b1, b2, b3⟩ := h
  exact ⟨⟨by rw [b.cell hg]; exact a0, by rw [b.cell hg]; exact a1, by rw [b.cell hg]; exact a2, by rw [b.cell hg]; exact a3⟩, by rw [b.frozen hg]; exact b0, by rw [b.frozen hg]; exact b1, by rw [b.frozen hg]; exact b2, by rw [b.frozen hg]; exact b3⟩
theorem Box4.new (w : World) (T : Nat) : Box4 (w.alloc (.cells #[.int .u64 0, .int .u64 0, .int .u64 0, .int .u64 0] T)) w.heap.size := by
  refine ⟨⟨?_, ?_, ?_, ?_⟩, ?_, ?_, ?_, ?_⟩ <;> go_simp
theorem Box4.more {w : World} {g : Nat} (h : Box4 w g) (hg : g < w.heap.size) (o : Obj) : Box4 (w.alloc o) g := h.below ((Below.refl _ _).alloc (Nat.le_refl _) o) hg
set_option maxHeartbeats 8000000 in
set_option maxRecDepth 100000 in
theorem class_any18 (n : ByteArray) (w : World) :
    Calls Try.prog 25 #[.string n] w fun e w' => ∃ y0 y1 y2 y3, e = .returned (.tuple #[.agg #[.int .u64 y0, .int .u64 y1, .int .u64 y2, .int .u64 y3], .bool (classS n.data.toList).isSome]) ∧ S4V ((classS n.data.toList).getD S4.zero) y0 y1 y2 y3 ∧ Below w.heap.size w w' := by
  have BX : Hid (∀ o, Box4 ((w.alloc (.cells #[.int .u64 0, .int .u64 0, .int .u64 0, .int .u64 0] 26)).alloc o) w.heap.size) := fun o => (Box4.new w 26).more (by simp) o
  have BL : Hid (∀ o o', Below w.heap.size w ((w.alloc o).alloc o')) := fun o o' => ((Below.refl _ _).alloc (Nat.le_refl _) o).alloc (by simp) o'
  by_cases h0 : n.data.toList = [117, 112, 112, 101, 114]
  · have t0 : (n.toList == [117, 112, 112, 101, 114]) = true := by rw [tl_eq]; exact decide_eq_true h0
    have HC : Hid (classS n.data.toList = some (S4.zero.rng 65 90)) := by unfold Hid classS; rw [h0]; rfl
    clear h0
    rw [HC.out]
    go_enter Try.func25, Try.ntmps25
    go_wp2_with fail
    refine (with_any14 S4.zero 65 90 (by decide) (by decide) _ _ _ _ S4V.nought _).mono ?_
    rintro e w0 ⟨a0, b0, c0, d0, rfl, sv0, bl0⟩
    have SV0 : Hid (S4V (S4.zero.rng 65 90) a0 b0 c0 d0) := sv0
    have BB0 : Hid (Below w.heap.size w w0) := (BL.out _ _).trans (bl0.mono (by simp; try omega))
    have BZ0 : Hid (Box4 w0 w.heap.size) := (BX.out _).below bl0 (by simp; try omega)
    have hz0 : w.heap.size < w0.heap.size := by have := bl0.size; simp at this; omega
    clear sv0 bl0
    obtain ⟨⟨ca, cb, cc, cd⟩, fa, fb, fc, fd⟩ := id BZ0.out
    go_wp2
    exact bodyPost_ret (v := .tuple #[.agg #[.int .u64 a0, .int .u64 b0, .int .u64 c0, .int .u64 d0], .bool true]) (by simp [results, Try.results25, go_sem, ca, cb, cc, cd]) rfl ⟨_, _, _, _, rfl, SV0.out, by have BBB := BB0.out; (repeat first | exact Below.refl _ _ | assumption | refine Below.setCell ?_ (by simp) _ | refine below_drewN ?_ _ | refine Below.drew ?_ | refine Below.alloc ?_ (by simp; try omega) _)⟩
  by_cases h1 : n.data.toList = [108, 111, 119, 101, 114]
  · have t0 : (n.toList == [117, 112, 112, 101, 114]) = false := by rw [tl_eq]; exact decide_eq_false h0
    have t1 : (n.toList == [108, 111, 119, 101, 114]) = true := by rw [tl_eq]; exact decide_eq_true h1
    have HC : Hid (classS n.data.toList = some (S4.zero.rng 97 122)) := by unfold Hid classS; rw [h1]; rfl
    clear h0 h1
    rw [HC.out]
    go_enter Try.func25, Try.ntmps25
    go_wp2_with fail
    refine (with_any14 S4.zero 97 122 (by decide) (by decide) _ _ _ _ S4V.nought _).mono ?_
    rintro e w0 ⟨a0, b0, c0, d0, rfl, sv0, bl0⟩
    have SV0 : Hid (S4V (S4.zero.rng 97 122) a0 b0 c0 d0) := sv0
    have BB0 : Hid (Below w.heap.size w w0) := (BL.out _ _).trans (bl0.mono (by simp; try omega))
    have BZ0 : Hid (Box4 w0 w.heap.size) := (BX.out _).below bl0 (by simp; try omega)
    have hz0 : w.heap.size < w0.heap.size := by have := bl0.size; simp at this; omega
    clear sv0 bl0
    obtain ⟨⟨ca, cb, cc, cd⟩, fa, fb, fc, fd⟩ := id BZ0.out
    go_wp2
    exact bodyPost_ret (v := .tuple #[.agg #[.int .u64 a0, .int .u64 b0, .int .u64 c0, .int .u64 d0], .bool true]) (by simp [results, Try.results25, go_sem, ca, cb, cc, cd]) rfl ⟨_, _, _, _, rfl, SV0.out, by have BBB := BB0.out; (repeat first | exact Below.refl _ _ | assumption | refine Below.setCell ?_ (by simp) _ | refine below_drewN ?_ _ | refine Below.drew ?_ | refine Below.alloc ?_ (by simp; try omega) _)⟩
  by_cases h2 : n.data.toList = [97, 108, 112, 104, 97]
  · have t0 : (n.toList == [117, 112, 112, 101, 114]) = false := by rw [tl_eq]; exact decide_eq_false h0
    have t1 : (n.toList == [108, 111, 119, 101, 114]) = false := by rw [tl_eq]; exact decide_eq_false h1
    have t2 : (n.toList == [97, 108, 112, 104, 97]) = true := by rw [tl_eq]; exact decide_eq_true h2
    have HC : Hid (classS n.data.toList = some ((S4.zero.rng 65 90).rng 97 122)) := by unfold Hid classS; rw [h2]; rfl
    clear h0 h1 h2
    rw [HC.out]
    go_enter Try.func25, Try.ntmps25
    go_wp2_with fail
    refine (with_any14 S4.zero 65 90 (by decide) (by decide) _ _ _ _ S4V.nought _).mono ?_
    rintro e w0 ⟨a0, b0, c0, d0, rfl, sv0, bl0⟩
    have SV0 : Hid (S4V (S4.zero.rng 65 90) a0 b0 c0 d0) := sv0
    have BB0 : Hid (Below w.heap.size w w0) := (BL.out _ _).trans (bl0.mono (by simp; try omega))
    have BZ0 : Hid (Box4 w0 w.heap.size) := (BX.out _).below bl0 (by simp; try omega)
    have hz0 : w.heap.size < w0.heap.size := by have := bl0.size; simp at this; omega
    clear sv0 bl0
    go_wp2_with fail
    refine (with_any14 (S4.zero.rng 65 90) 97 122 (by decide) (by decide) _ _ _ _ SV0.out _).mono ?_
    rintro e w1 ⟨a1, b1, c1, d1, rfl, sv1, bl1⟩
    have SV1 : Hid (S4V ((S4.zero.rng 65 90).rng 97 122) a1 b1 c1 d1) := sv1
    have BB1 : Hid (Below w.heap.size w w1) := BB0.out.trans (bl1.mono (by omega))
    have BZ1 : Hid (Box4 w1 w.heap.size) := BZ0.out.below bl1 (by omega)
    have hz1 : w.heap.size < w1.heap.size := by have := bl1.size; omega
    clear sv1 bl1
    obtain ⟨⟨ca, cb, cc, cd⟩, fa, fb, fc, fd⟩ := id BZ1.out
    go_wp2
    exact bodyPost_ret (v := .tuple #[.agg #[.int .u64 a1, .int .u64 b1, .int .u64 c1, .int .u64 d1], .bool true]) (by simp [results, Try.results25, go_sem, ca, cb, cc, cd]) rfl ⟨_, _, _, _, rfl, SV1.out, by have BBB := BB1.out; (repeat first | exact Below.refl _ _ | assumption | refine Below.setCell ?_ (by simp) _ | refine below_drewN ?_ _ | refine Below.drew ?_ | refine Below.alloc ?_ (by simp; try omega) _)⟩
  by_cases h3 : n.data.toList = [100, 105, 103, 105, 116]
  · have t0 : (n.toList == [117, 112, 112, 101, 114]) = false := by rw [tl_eq]; exact decide_eq_false h0
    have t1 : (n.toList == [108, 111, 119, 101, 114]) = false := by rw [tl_eq]; exact decide_eq_false h1
    have t2 : (n.toList == [97, 108, 112, 104, 97]) = false := by rw [tl_eq]; exact decide_eq_false h2
    have t3 : (n.toList == [100, 105, 103, 105, 116]) = true := by rw [tl_eq]; exact decide_eq_true h3
    have HC : Hid (classS n.data.toList = some (S4.zero.rng 48 57)) := by unfold Hid classS; rw [h3]; rfl
    clear h0 h1 h2 h3
    rw [HC.out]
    go_enter Try.func25, Try.ntmps25
    go_wp2_with fail
    refine (with_any14 S4.zero 48 57 (by decide) (by decide) _ _ _ _ S4V.nought _).mono ?_
    rintro e w0 ⟨a0, b0, c0, d0, rfl, sv0, bl0⟩
    have SV0 : Hid (S4V (S4.zero.rng 48 57) a0 b0 c0 d0) := sv0
    have BB0 : Hid (Below w.heap.size w w0) := (BL.out _ _).trans (bl0.mono (by simp; try omega))
    have BZ0 : Hid (Box4 w0 w.heap.size) := (BX.out _).below bl0 (by simp; try omega)
    have hz0 : w.heap.size < w0.heap.size := by have := bl0.size; simp at this; omega
    clear sv0 bl0
    obtain ⟨⟨ca, cb, cc, cd⟩, fa, fb, fc, fd⟩ := id BZ0.out
    go_wp2
    exact bodyPost_ret (v := .tuple #[.agg #[.int .u64 a0, .int .u64 b0, .int .u64 c0, .int .u64 d0], .bool true]) (by simp [results, Try.results25, go_sem, ca, cb, cc, cd]) rfl ⟨_, _, _, _, rfl, SV0.out, by have BBB := BB0.out; (repeat first | exact Below.refl _ _ | assumption | refine Below.setCell ?_ (by simp) _ | refine below_drewN ?_ _ | refine Below.drew ?_ | refine Below.alloc ?_ (by simp; try omega) _)⟩
  by_cases h4 : n.data.toList = [97, 108, 110, 117, 109]
  · have t0 : (n.toList == [117, 112, 112, 101, 114]) = false := by rw [tl_eq]; exact decide_eq_false h0
    have t1 : (n.toList == [108, 111, 119, 101, 114]) = false := by rw [tl_eq]; exact decide_eq_false h1
    have t2 : (n.toList == [97, 108, 112, 104, 97]) = false := by rw [tl_eq]; exact decide_eq_false h2
    have t3 : (n.toList == [100, 105, 103, 105, 116]) = false := by rw [tl_eq]; exact decide_eq_false h3
    have t4 : (n.toList == [97, 108, 110, 117, 109]) = true := by rw [tl_eq]; exact decide_eq_true h4
    have HC : Hid (classS n.data.toList = some (((S4.zero.rng 65 90).rng 97 122).rng 48 57)) := by unfold Hid classS; rw [h4]; rfl
    clear h0 h1 h2 h3 h4
    rw [HC.out]
    go_enter Try.func25, Try.ntmps25
    go_wp2_with fail
    refine (with_any14 S4.zero 65 90 (by decide) (by decide) _ _ _ _ S4V.nought _).mono ?_
    rintro e w0 ⟨a0, b0, c0, d0, rfl, sv0, bl0⟩
    have SV0 : Hid (S4V (S4.zero.rng 65 90) a0 b0 c0 d0) := sv0
    have BB0 : Hid (Below w.heap.size w w0) := (BL.out _ _).trans (bl0.mono (by simp; try omega))
    have BZ0 : Hid (Box4 w0 w.heap.size) := (BX.out _).below bl0 (by simp; try omega)
    have hz0 : w.heap.size < w0.heap.size := by have := bl0.size; simp at this; omega
    clear sv0 bl0
    go_wp2_with fail
    refine (with_any14 (S4.zero.rng 65 90) 97 122 (by decide) (by decide) _ _ _ _ SV0.out _).mono ?_
    rintro e w1 ⟨a1, b1, c1, d1, rfl, sv1, bl1⟩
    have SV1 : Hid (S4V ((S4.zero.rng 65 90).rng 97 122) a1 b1 c1 d1) := sv1
    have BB1 : Hid (Below w.heap.size w w1) := BB0.out.trans (bl1.mono (by omega))
    have BZ1 : Hid (Box4 w1 w.heap.size) := BZ0.out.below bl1 (by omega)
    have hz1 : w.heap.size < w1.heap.size := by have := bl1.size; omega
    clear sv1 bl1
    go_wp2_with fail
    refine (with_any14 ((S4.zero.rng 65 90).rng 97 122) 48 57 (by decide) (by decide) _ _ _ _ SV1.out _).mono ?_
    rintro e w2 ⟨a2, b2, c2, d2, rfl, sv2, bl2⟩
    have SV2 : Hid (S4V (((S4.zero.rng 65 90).rng 97 122).rng 48 57) a2 b2 c2 d2) := sv2
    have BB2 : Hid (Below w.heap.size w w2) := BB1.out.trans (bl2.mono (by omega))
    have BZ2 : Hid (Box4 w2 w.heap.size) := BZ1.out.below bl2 (by omega)
    have hz2 : w.heap.size < w2.heap.size := by have := bl2.size; omega
    clear sv2 bl2
    obtain ⟨⟨ca, cb, cc, cd⟩, fa, fb, fc, fd⟩ := id BZ2.out
    go_wp2
    exact bodyPost_ret (v := .tuple #[.agg #[.int .u64 a2, .int .u64 b2, .int .u64 c2, .int .u64 d2], .bool true]) (by simp [results, Try.results25, go_sem, ca, cb, cc, cd]) rfl ⟨_, _, _, _, rfl, SV2.out, by have BBB := BB2.out; (repeat first | exact Below.refl _ _ | assumption | refine Below.setCell ?_ (by simp) _ | refine below_drewN ?_ _ | refine Below.drew ?_ | refine Below.alloc ?_ (by simp; try omega) _)⟩
  by_cases h5 : n.data.toList = [120, 100, 105, 103, 105, 116]
  · have t0 : (n.toList == [117, 112, 112, 101, 114]) = false := by rw [tl_eq]; exact decide_eq_false h0
    have t1 : (n.toList == [108, 111, 119, 101, 114]) = false := by rw [tl_eq]; exact decide_eq_false h1
    have t2 : (n.toList == [97, 108, 112, 104, 97]) = false := by rw [tl_eq]; exact decide_eq_false h2
    have t3 : (n.toList == [100, 105, 103, 105, 116]) = false := by rw [tl_eq]; exact decide_eq_false h3
    have t4 : (n.toList == [97, 108, 110, 117, 109]) = false := by rw [tl_eq]; exact decide_eq_false h4
    have t5 : (n.toList == [120, 100, 105, 103, 105, 116]) = true := by rw [tl_eq]; exact decide_eq_true h5
    have HC : Hid (classS n.data.toList = some (((S4.zero.rng 48 57).rng 65 70).rng 97 102)) := by unfold Hid classS; rw [h5]; rfl
    clear h0 h1 h2 h3 h4 h5
    rw [HC.out]
    go_enter Try.func25, Try.ntmps25
    go_wp2_with fail
    refine (with_any14 S4.zero 48 57 (by decide) (by decide) _ _ _ _ S4V.nought _).mono ?_
    rintro e w0 ⟨a0, b0, c0, d0, rfl, sv0, bl0⟩
    have SV0 : Hid (S4V (S4.zero.rng 48 57) a0 b0 c0 d0) := sv0
    have BB0 : Hid (Below w.heap.size w w0) := (BL.out _ _).trans (bl0.mono (by simp; try omega))
    have BZ0 : Hid (Box4 w0 w.heap.size) := (BX.out _).below bl0 (by simp; try omega)
    have hz0 : w.heap.size < w0.heap.size := by have := bl0.size; simp at this; omega
    clear sv0 bl0
    go_wp2_with fail
    refine (with_any14 (S4.zero.rng 48 57) 65 70 (by decide) (by decide) _ _ _ _ SV0.out _).mono ?_
    rintro e w1 ⟨a1, b1, c1, d1, rfl, sv1, bl1⟩
    have SV1 : Hid (S4V ((S4.zero.rng 48 57).rng 65 70) a1 b1 c1 d1) := sv1
    have BB1 : Hid (Below w.heap.size w w1) := BB0.out.trans (bl1.mono (by omega))
    have BZ1 : Hid (Box4 w1 w.heap.size) := BZ0.out.below bl1 (by omega)
    have hz1 : w.heap.size < w1.heap.size := by have := bl1.size; omega
    clear sv1 bl1
    go_wp2_with fail
    refine (with_any14 ((S4.zero.rng 48 57).rng 65 70) 97 102 (by decide) (by decide) _ _ _ _ SV1.out _).mono ?_
    rintro e w2 ⟨a2, b2, c2, d2, rfl, sv2, bl2⟩
    have SV2 : Hid (S4V (((S4.zero.rng 48 57).rng 65 70).rng 97 102) a2 b2 c2 d2) := sv2
    have BB2 : Hid (Below w.heap.size w w2) := BB1.out.trans (bl2.mono (by omega))
    have BZ2 : Hid (Box4 w2 w.heap.size) := BZ1.out.below bl2 (by omega)
    have hz2 : w.heap.size < w2.heap.size := by have := bl2.size; omega
    clear sv2 bl2
    obtain ⟨⟨ca, cb, cc, cd⟩, fa, fb, fc, fd⟩ := id BZ2.out
    go_wp2
    exact bodyPost_ret (v := .tuple #[.agg #[.int .u64 a2, .int .u64 b2, .int .u64 c2, .int .u64 d2], .bool true]) (by simp [results, Try.results25, go_sem, ca, cb, cc, cd]) rfl ⟨_, _, _, _, rfl, SV2.out, by have BBB := BB2.out; (repeat first | exact Below.refl _ _ | assumption | refine Below.setCell ?_ (by simp) _ | refine below_drewN ?_ _ | refine Below.drew ?_ | refine Below.alloc ?_ (by simp; try omega) _)⟩
  by_cases h6 : n.data.toList = [98, 108, 97, 110, 107]
  · have t0 : (n.toList == [117, 112, 112, 101, 114]) = false := by rw [tl_eq]; exact decide_eq_false h0
    have t1 : (n.toList == [108, 111, 119, 101, 114]) = false := by rw [tl_eq]; exact decide_eq_false h1
    have t2 : (n.toList == [97, 108, 112, 104, 97]) = false := by rw [tl_eq]; exact decide_eq_false h2
    have t3 : (n.toList == [100, 105, 103, 105, 116]) = false := by rw [tl_eq]; exact decide_eq_false h3
    have t4 : (n.toList == [97, 108, 110, 117, 109]) = false := by rw [tl_eq]; exact decide_eq_false h4
    have t5 : (n.toList == [120, 100, 105, 103, 105, 116]) = false := by rw [tl_eq]; exact decide_eq_false h5
    have t6 : (n.toList == [98, 108, 97, 110, 107]) = true := by rw [tl_eq]; exact decide_eq_true h6
    have HC : Hid (classS n.data.toList = some ((S4.zero.rng 32 32).rng 9 9)) := by unfold Hid classS; rw [h6]; rfl
    clear h0 h1 h2 h3 h4 h5 h6
    rw [HC.out]
    go_enter Try.func25, Try.ntmps25
    go_wp2_with fail
    refine (with_any14 S4.zero 32 32 (by decide) (by decide) _ _ _ _ S4V.nought _).mono ?_
    rintro e w0 ⟨a0, b0, c0, d0, rfl, sv0, bl0⟩
    have SV0 : Hid (S4V (S4.zero.rng 32 32) a0 b0 c0 d0) := sv0
    have BB0 : Hid (Below w.heap.size w w0) := (BL.out _ _).trans (bl0.mono (by simp; try omega))
    have BZ0 : Hid (Box4 w0 w.heap.size) := (BX.out _).below bl0 (by simp; try omega)
    have hz0 : w.heap.size < w0.heap.size := by have := bl0.size; simp at this; omega
    clear sv0 bl0
    go_wp2_with fail
    refine (with_any14 (S4.zero.rng 32 32) 9 9 (by decide) (by decide) _ _ _ _ SV0.out _).mono ?_
    rintro e w1 ⟨a1, b1, c1, d1, rfl, sv1, bl1⟩
    have SV1 : Hid (S4V ((S4.zero.rng 32 32).rng 9 9) a1 b1 c1 d1) := sv1
    have BB1 : Hid (Below w.heap.size w w1) := BB0.out.trans (bl1.mono (by omega))
    have BZ1 : Hid (Box4 w1 w.heap.size) := BZ0.out.below bl1 (by omega)
    have hz1 : w.heap.size < w1.heap.size := by have := bl1.size; omega
    clear sv1 bl1
    obtain ⟨⟨ca, cb, cc, cd⟩, fa, fb, fc, fd⟩ := id BZ1.out
    go_wp2
    exact bodyPost_ret (v := .tuple #[.agg #[.int .u64 a1, .int .u64 b1, .int .u64 c1, .int .u64 d1], .bool true]) (by simp [results, Try.results25, go_sem, ca, cb, cc, cd]) rfl ⟨_, _, _, _, rfl, SV1.out, by have BBB := BB1.out; (repeat first | exact Below.refl _ _ | assumption | refine Below.setCell ?_ (by simp) _ | refine below_drewN ?_ _ | refine Below.drew ?_ | refine Below.alloc ?_ (by simp; try omega) _)⟩
  by_cases h7 : n.data.toList = [115, 112, 97, 99, 101]
  · have t0 : (n.toList == [117, 112, 112, 101, 114]) = false := by rw [tl_eq]; exact decide_eq_false h0
    have t1 : (n.toList == [108, 111, 119, 101, 114]) = false := by rw [tl_eq]; exact decide_eq_false h1
    have t2 : (n.toList == [97, 108, 112, 104, 97]) = false := by rw [tl_eq]; exact decide_eq_false h2
    have t3 : (n.toList == [100, 105, 103, 105, 116]) = false := by rw [tl_eq]; exact decide_eq_false h3
    have t4 : (n.toList == [97, 108, 110, 117, 109]) = false := by rw [tl_eq]; exact decide_eq_false h4
    have t5 : (n.toList == [120, 100, 105, 103, 105, 116]) = false := by rw [tl_eq]; exact decide_eq_false h5
    have t6 : (n.toList == [98, 108, 97, 110, 107]) = false := by rw [tl_eq]; exact decide_eq_false h6
    have t7 : (n.toList == [115, 112, 97, 99, 101]) = true := by rw [tl_eq]; exact decide_eq_true h7
    have HC : Hid (classS n.data.toList = some ((S4.zero.rng 9 13).rng 32 32)) := by unfold Hid classS; rw [h7]; rfl
    clear h0 h1 h2 h3 h4 h5 h6 h7
    rw [HC.out]
    go_enter Try.func25, Try.ntmps25
    go_wp2_with fail
    refine (with_any14 S4.zero 9 13 (by decide) (by decide) _ _ _ _ S4V.nought _).mono ?_
    rintro e w0 ⟨a0, b0, c0, d0, rfl, sv0, bl0⟩
    have SV0 : Hid (S4V (S4.zero.rng 9 13) a0 b0 c0 d0) := sv0
    have BB0 : Hid (Below w.heap.size w w0) := (BL.out _ _).trans (bl0.mono (by simp; try omega))
    have BZ0 : Hid (Box4 w0 w.heap.size) := (BX.out _).below bl0 (by simp; try omega)
    have hz0 : w.heap.size < w0.heap.size := by have := bl0.size; simp at this; omega
    clear sv0 bl0
    go_wp2_with fail
    refine (with_any14 (S4.zero.rng 9 13) 32 32 (by decide) (by decide) _ _ _ _ SV0.out _).mono ?_
    rintro e w1 ⟨a1, b1, c1, d1, rfl, sv1, bl1⟩
    have SV1 : Hid (S4V ((S4.zero.rng 9 13).rng 32 32) a1 b1 c1 d1) := sv1
    have BB1 : Hid (Below w.heap.size w w1) := BB0.out.trans (bl1.mono (by omega))
    have BZ1 : Hid (Box4 w1 w.heap.size) := BZ0.out.below bl1 (by omega)
    have hz1 : w.heap.size < w1.heap.size := by have := bl1.size; omega
    clear sv1 bl1
    obtain ⟨⟨ca, cb, cc, cd⟩, fa, fb, fc, fd⟩ := id BZ1.out
    go_wp2
    exact bodyPost_ret (v := .tuple #[.agg #[.int .u64 a1, .int .u64 b1, .int .u64 c1, .int .u64 d1], .bool true]) (by simp [results, Try.results25, go_sem, ca, cb, cc, cd]) rfl ⟨_, _, _, _, rfl, SV1.out, by have BBB := BB1.out; (repeat first | exact Below.refl _ _ | assumption | refine Below.setCell ?_ (by simp) _ | refine below_drewN ?_ _ | refine Below.drew ?_ | refine Below.alloc ?_ (by simp; try omega) _)⟩
  by_cases h8 : n.data.toList = [99, 110, 116, 114, 108]
  · have t0 : (n.toList == [117, 112, 112, 101, 114]) = false := by rw [tl_eq]; exact decide_eq_false h0
    have t1 : (n.toList == [108, 111, 119, 101, 114]) = false := by rw [tl_eq]; exact decide_eq_false h1
    have t2 : (n.toList == [97, 108, 112, 104, 97]) = false := by rw [tl_eq]; exact decide_eq_false h2
    have t3 : (n.toList == [100, 105, 103, 105, 116]) = false := by rw [tl_eq]; exact decide_eq_false h3
    have t4 : (n.toList == [97, 108, 110, 117, 109]) = false := by rw [tl_eq]; exact decide_eq_false h4
    have t5 : (n.toList == [120, 100, 105, 103, 105, 116]) = false := by rw [tl_eq]; exact decide_eq_false h5
    have t6 : (n.toList == [98, 108, 97, 110, 107]) = false := by rw [tl_eq]; exact decide_eq_false h6
    have t7 : (n.toList == [115, 112, 97, 99, 101]) = false := by rw [tl_eq]; exact decide_eq_false h7
    have t8 : (n.toList == [99, 110, 116, 114, 108]) = true := by rw [tl_eq]; exact decide_eq_true h8
    have HC : Hid (classS n.data.toList = some ((S4.zero.rng 0 31).rng 127 127)) := by unfold Hid classS; rw [h8]; rfl
    clear h0 h1 h2 h3 h4 h5 h6 h7 h8
    rw [HC.out]
    go_enter Try.func25, Try.ntmps25
    go_wp2_with fail
    refine (with_any14 S4.zero 0 31 (by decide) (by decide) _ _ _ _ S4V.nought _).mono ?_
    rintro e w0 ⟨a0, b0, c0, d0, rfl, sv0, bl0⟩
    have SV0 : Hid (S4V (S4.zero.rng 0 31) a0 b0 c0 d0) := sv0
    have BB0 : Hid (Below w.heap.size w w0) := (BL.out _ _).trans (bl0.mono (by simp; try omega))
    have BZ0 : Hid (Box4 w0 w.heap.size) := (BX.out _).below bl0 (by simp; try omega)
    have hz0 : w.heap.size < w0.heap.size := by have := bl0.size; simp at this; omega
    clear sv0 bl0
    go_wp2_with fail
    refine (with_any14 (S4.zero.rng 0 31) 127 127 (by decide) (by decide) _ _ _ _ SV0.out _).mono ?_
    rintro e w1 ⟨a1, b1, c1, d1, rfl, sv1, bl1⟩
    have SV1 : Hid (S4V ((S4.zero.rng 0 31).rng 127 127) a1 b1 c1 d1) := sv1
    have BB1 : Hid (Below w.heap.size w w1) := BB0.out.trans (bl1.mono (by omega))
    have BZ1 : Hid (Box4 w1 w.heap.size) := BZ0.out.below bl1 (by omega)
    have hz1 : w.heap.size < w1.heap.size := by have := bl1.size; omega
    clear sv1 bl1
    obtain ⟨⟨ca, cb, cc, cd⟩, fa, fb, fc, fd⟩ := id BZ1.out
    go_wp2
    exact bodyPost_ret (v := .tuple #[.agg #[.int .u64 a1, .int .u64 b1, .int .u64 c1, .int .u64 d1], .bool true]) (by simp [results, Try.results25, go_sem, ca, cb, cc, cd]) rfl ⟨_, _, _, _, rfl, SV1.out, by have BBB := BB1.out; (repeat first | exact Below.refl _ _ | assumption | refine Below.setCell ?_ (by simp) _ | refine below_drewN ?_ _ | refine Below.drew ?_ | refine Below.alloc ?_ (by simp; try omega) _)⟩
  by_cases h9 : n.data.toList = [112, 114, 105, 110, 116]
  · have t0 : (n.toList == [117, 112, 112, 101, 114]) = false := by rw [tl_eq]; exact decide_eq_false h0
    have t1 : (n.toList == [108, 111, 119, 101, 114]) = false := by rw [tl_eq]; exact decide_eq_false h1
    have t2 : (n.toList == [97, 108, 112, 104, 97]) = false := by rw [tl_eq]; exact decide_eq_false h2
    have t3 : (n.toList == [100, 105, 103, 105, 116]) = false := by rw [tl_eq]; exact decide_eq_false h3
    have t4 : (n.toList == [97, 108, 110, 117, 109]) = false := by rw [tl_eq]; exact decide_eq_false h4
    have t5 : (n.toList == [120, 100, 105, 103, 105, 116]) = false := by rw [tl_eq]; exact decide_eq_false h5
    have t6 : (n.toList == [98, 108, 97, 110, 107]) = false := by rw [tl_eq]; exact decide_eq_false h6
    have t7 : (n.toList == [115, 112, 97, 99, 101]) = false := by rw [tl_eq]; exact decide_eq_false h7
    have t8 : (n.toList == [99, 110, 116, 114, 108]) = false := by rw [tl_eq]; exact decide_eq_false h8
    have t9 : (n.toList == [112, 114, 105, 110, 116]) = true := by rw [tl_eq]; exact decide_eq_true h9
    have HC : Hid (classS n.data.toList = some (S4.zero.rng 32 126)) := by unfold Hid classS; rw [h9]; rfl
    clear h0 h1 h2 h3 h4 h5 h6 h7 h8 h9
    rw [HC.out]
    go_enter Try.func25, Try.ntmps25
    go_wp2_with fail
    refine (with_any14 S4.zero 32 126 (by decide) (by decide) _ _ _ _ S4V.nought _).mono ?_
    rintro e w0 ⟨a0, b0, c0, d0, rfl, sv0, bl0⟩
    have SV0 : Hid (S4V (S4.zero.rng 32 126) a0 b0 c0 d0) := sv0
    have BB0 : Hid (Below w.heap.size w w0) := (BL.out _ _).trans (bl0.mono (by simp; try omega))
    have BZ0 : Hid (Box4 w0 w.heap.size) := (BX.out _).below bl0 (by simp; try omega)
    have hz0 : w.heap.size < w0.heap.size := by have := bl0.size; simp at this; omega
    clear sv0 bl0
    obtain ⟨⟨ca, cb, cc, cd⟩, fa, fb, fc, fd⟩ := id BZ0.out
    go_wp2
    exact bodyPost_ret (v := .tuple #[.agg #[.int .u64 a0, .int .u64 b0, .int .u64 c0, .int .u64 d0], .bool true]) (by simp [results, Try.results25, go_sem, ca, cb, cc, cd]) rfl ⟨_, _, _, _, rfl, SV0.out, by have BBB := BB0.out; (repeat first | exact Below.refl _ _ | assumption | refine Below.setCell ?_ (by simp) _ | refine below_drewN ?_ _ | refine Below.drew ?_ | refine Below.alloc ?_ (by simp; try omega) _)⟩
  by_cases h10 : n.data.toList = [103, 114, 97, 112, 104]
  · have t0 : (n.toList == [117, 112, 112, 101, 114]) = false := by rw [tl_eq]; exact decide_eq_false h0
    have t1 : (n.toList == [108, 111, 119, 101, 114]) = false := by rw [tl_eq]; exact decide_eq_false h1
    have t2 : (n.toList == [97, 108, 112, 104, 97]) = false := by rw [tl_eq]; exact decide_eq_false h2
    have t3 : (n.toList == [100, 105, 103, 105, 116]) = false := by rw [tl_eq]; exact decide_eq_false h3
    have t4 : (n.toList == [97, 108, 110, 117, 109]) = false := by rw [tl_eq]; exact decide_eq_false h4
    have t5 : (n.toList == [120, 100, 105, 103, 105, 116]) = false := by rw [tl_eq]; exact decide_eq_false h5
    have t6 : (n.toList == [98, 108, 97, 110, 107]) = false := by rw [tl_eq]; exact decide_eq_false h6
    have t7 : (n.toList == [115, 112, 97, 99, 101]) = false := by rw [tl_eq]; exact decide_eq_false h7
    have t8 : (n.toList == [99, 110, 116, 114, 108]) = false := by rw [tl_eq]; exact decide_eq_false h8
    have t9 : (n.toList == [112, 114, 105, 110, 116]) = false := by rw [tl_eq]; exact decide_eq_false h9
    have t10 : (n.toList == [103, 114, 97, 112, 104]) = true := by rw [tl_eq]; exact decide_eq_true h10
    have HC : Hid (classS n.data.toList = some (S4.zero.rng 33 126)) := by unfold Hid classS; rw [h10]; rfl
    clear h0 h1 h2 h3 h4 h5 h6 h7 h8 h9 h10
    rw [HC.out]
    go_enter Try.func25, Try.ntmps25
    go_wp2_with fail
    refine (with_any14 S4.zero 33 126 (by decide) (by decide) _ _ _ _ S4V.nought _).mono ?_
    rintro e w0 ⟨a0, b0, c0, d0, rfl, sv0, bl0⟩
    have SV0 : Hid (S4V (S4.zero.rng 33 126) a0 b0 c0 d0) := sv0
    have BB0 : Hid (Below w.heap.size w w0) := (BL.out _ _).trans (bl0.mono (by simp; try omega))
    have BZ0 : Hid (Box4 w0 w.heap.size) := (BX.out _).below bl0 (by simp; try omega)
    have hz0 : w.heap.size < w0.heap.size := by have := bl0.size; simp at this; omega
    clear sv0 bl0
    obtain ⟨⟨ca, cb, cc, cd⟩, fa, fb, fc, fd⟩ := id BZ0.out
    go_wp2
    exact bodyPost_ret (v := .tuple #[.agg #[.int .u64 a0, .int .u64 b0, .int .u64 c0, .int .u64 d0], .bool true]) (by simp [results, Try.results25, go_sem, ca, cb, cc, cd]) rfl ⟨_, _, _, _, rfl, SV0.out, by have BBB := BB0.out; (repeat first | exact Below.refl _ _ | assumption | refine Below.setCell ?_ (by simp) _ | refine below_drewN ?_ _ | refine Below.drew ?_ | refine Below.alloc ?_ (by simp; try omega) _)⟩
  by_cases h11 : n.data.toList = [112, 117, 110, 99, 116]
  · have t0 : (n.toList == [117, 112, 112, 101, 114]) = false := by rw [tl_eq]; exact decide_eq_false h0
    have t1 : (n.toList == [108, 111, 119, 101, 114]) = false := by rw [tl_eq]; exact decide_eq_false h1
    have t2 : (n.toList == [97, 108, 112, 104, 97]) = false := by rw [tl_eq]; exact decide_eq_false h2
    have t3 : (n.toList == [100, 105, 103, 105, 116]) = false := by rw [tl_eq]; exact decide_eq_false h3
    have t4 : (n.toList == [97, 108, 110, 117, 109]) = false := by rw [tl_eq]; exact decide_eq_false h4
    have t5 : (n.toList == [120, 100, 105, 103, 105, 116]) = false := by rw [tl_eq]; exact decide_eq_false h5
    have t6 : (n.toList == [98, 108, 97, 110, 107]) = false := by rw [tl_eq]; exact decide_eq_false h6
    have t7 : (n.toList == [115, 112, 97, 99, 101]) = false := by rw [tl_eq]; exact decide_eq_false h7
    have t8 : (n.toList == [99, 110, 116, 114, 108]) = false := by rw [tl_eq]; exact decide_eq_false h8
    have t9 : (n.toList == [112, 114, 105, 110, 116]) = false := by rw [tl_eq]; exact decide_eq_false h9
    have t10 : (n.toList == [103, 114, 97, 112, 104]) = false := by rw [tl_eq]; exact decide_eq_false h10
    have t11 : (n.toList == [112, 117, 110, 99, 116]) = true := by rw [tl_eq]; exact decide_eq_true h11
    have HC : Hid (classS n.data.toList = some ((((S4.zero.rng 33 47).rng 58 64).rng 91 96).rng 123 126)) := by unfold Hid classS; rw [h11]; rfl
    clear h0 h1 h2 h3 h4 h5 h6 h7 h8 h9 h10 h11
    rw [HC.out]
    go_enter Try.func25, Try.ntmps25
    go_wp2_with fail
    refine (with_any14 S4.zero 33 47 (by decide) (by decide) _ _ _ _ S4V.nought _).mono ?_
    rintro e w0 ⟨a0, b0, c0, d0, rfl, sv0, bl0⟩
    have SV0 : Hid (S4V (S4.zero.rng 33 47) a0 b0 c0 d0) := sv0
    have BB0 : Hid (Below w.heap.size w w0) := (BL.out _ _).trans (bl0.mono (by simp; try omega))
    have BZ0 : Hid (Box4 w0 w.heap.size) := (BX.out _).below bl0 (by simp; try omega)
    have hz0 : w.heap.size < w0.heap.size := by have := bl0.size; simp at this; omega
    clear sv0 bl0
    go_wp2_with fail
    refine (with_any14 (S4.zero.rng 33 47) 58 64 (by decide) (by decide) _ _ _ _ SV0.out _).mono ?_
    rintro e w1 ⟨a1, b1, c1, d1, rfl, sv1, bl1⟩
    have SV1 : Hid (S4V ((S4.zero.rng 33 47).rng 58 64) a1 b1 c1 d1) := sv1
    have BB1 : Hid (Below w.heap.size w w1) := BB0.out.trans (bl1.mono (by omega))
    have BZ1 : Hid (Box4 w1 w.heap.size) := BZ0.out.below bl1 (by omega)
    have hz1 : w.heap.size < w1.heap.size := by have := bl1.size; omega
    clear sv1 bl1
    go_wp2_with fail
    refine (with_any14 ((S4.zero.rng 33 47).rng 58 64) 91 96 (by decide) (by decide) _ _ _ _ SV1.out _).mono ?_
    rintro e w2 ⟨a2, b2, c2, d2, rfl, sv2, bl2⟩
    have SV2 : Hid (S4V (((S4.zero.rng 33 47).rng 58 64).rng 91 96) a2 b2 c2 d2) := sv2
    have BB2 : Hid (Below w.heap.size w w2) := BB1.out.trans (bl2.mono (by omega))
    have BZ2 : Hid (Box4 w2 w.heap.size) := BZ1.out.below bl2 (by omega)
    have hz2 : w.heap.size < w2.heap.size := by have := bl2.size; omega
    clear sv2 bl2
    go_wp2_with fail
    refine (with_any14 (((S4.zero.rng 33 47).rng 58 64).rng 91 96) 123 126 (by decide) (by decide) _ _ _ _ SV2.out _).mono ?_
    rintro e w3 ⟨a3, b3, c3, d3, rfl, sv3, bl3⟩
    have SV3 : Hid (S4V ((((S4.zero.rng 33 47).rng 58 64).rng 91 96).rng 123 126) a3 b3 c3 d3) := sv3
    have BB3 : Hid (Below w.heap.size w w3) := BB2.out.trans (bl3.mono (by omega))
    have BZ3 : Hid (Box4 w3 w.heap.size) := BZ2.out.below bl3 (by omega)
    have hz3 : w.heap.size < w3.heap.size := by have := bl3.size; omega
    clear sv3 bl3
    obtain ⟨⟨ca, cb, cc, cd⟩, fa, fb, fc, fd⟩ := id BZ3.out
    go_wp2
    exact bodyPost_ret (v := .tuple #[.agg #[.int .u64 a3, .int .u64 b3, .int .u64 c3, .int .u64 d3], .bool true]) (by simp [results, Try.results25, go_sem, ca, cb, cc, cd]) rfl ⟨_, _, _, _, rfl, SV3.out, by have BBB := BB3.out; (repeat first | exact Below.refl _ _ | assumption | refine Below.setCell ?_ (by simp) _ | refine below_drewN ?_ _ | refine Below.drew ?_ | refine Below.alloc ?_ (by simp; try omega) _)⟩
  have t0 : (n.toList == [117, 112, 112, 101, 114]) = false := by rw [tl_eq]; exact decide_eq_false h0
  have t1 : (n.toList == [108, 111, 119, 101, 114]) = false := by rw [tl_eq]; exact decide_eq_false h1
  have t2 : (n.toList == [97, 108, 112, 104, 97]) = false := by rw [tl_eq]; exact decide_eq_false h2
  have t3 : (n.toList == [100, 105, 103, 105, 116]) = false := by rw [tl_eq]; exact decide_eq_false h3
  have t4 : (n.toList == [97, 108, 110, 117, 109]) = false := by rw [tl_eq]; exact decide_eq_false h4
  have t5 : (n.toList == [120, 100, 105, 103, 105, 116]) = false := by rw [tl_eq]; exact decide_eq_false h5
  have t6 : (n.toList == [98, 108, 97, 110, 107]) = false := by rw [tl_eq]; exact decide_eq_false h6
  have t7 : (n.toList == [115, 112, 97, 99, 101]) = false := by rw [tl_eq]; exact decide_eq_false h7
  have t8 : (n.toList == [99, 110, 116, 114, 108]) = false := by rw [tl_eq]; exact decide_eq_false h8
  have t9 : (n.toList == [112, 114, 105, 110, 116]) = false := by rw [tl_eq]; exact decide_eq_false h9
  have t10 : (n.toList == [103, 114, 97, 112, 104]) = false := by rw [tl_eq]; exact decide_eq_false h10
  have t11 : (n.toList == [112, 117, 110, 99, 116]) = false := by rw [tl_eq]; exact decide_eq_false h11
  have HC : Hid (classS n.data.toList = none) := by unfold Hid classS; simp only [h0, h1, h2, h3, h4, h5, h6, h7, h8, h9, h10, h11, if_false]
  clear h0 h1 h2 h3 h4 h5 h6 h7 h8 h9 h10 h11
  rw [HC.out]
  go_enter Try.func25, Try.ntmps25
  go_wp2
  exact bodyPost_ret (v := .tuple #[.agg #[.int .u64 0, .int .u64 0, .int .u64 0, .int .u64 0], .bool false]) (by simp [results, Try.results25, go_sem]) rfl ⟨_, _, _, _, rfl, S4V.nought, by (repeat first | exact Below.refl _ _ | assumption | refine Below.setCell ?_ (by simp) _ | refine below_drewN ?_ _ | refine Below.drew ?_ | refine Below.alloc ?_ (by simp; try omega) _)⟩
end Go.Proofs.Ytndmjndokokmnaa
