import Derived.Test.YtplihbncmmggjaaDoorLg
namespace Go.Proofs.YtplihbncmmggjaaDoor
set_option linter.unusedSimpArgs false
set_option linter.unusedVariables false
open Go.RowKit
set_option maxHeartbeats 2000000 in
set_option maxRecDepth 100000 in
theorem mturn_few (m : Msg) (hm : m.Ok) (a y h : Int) (ha : 0 ≤ a ∧ a ≤ 18446744073709551615) (hy : 0 ≤ y ∧ y ≤ 255) (hh : 0 ≤ h ∧ h ≤ 255) (hs : ¬ m.s.size ≤ 2000) (w : World) (hL : Laid w) : Calls Tryd.prog 12 #[.agg (mC m).toArray, .int .u64 a, .int .u8 y, .int .u8 h] w fun e w' => e = .returned (.bool true) ∧ Below w.heap.size w w' := by
  have s0 := hL.two
  obtain ⟨w1, hw1⟩ : ∃ w1, w1 = w.alloc (.cells (mC m).toArray 65) := ⟨_, rfl⟩
  have b1 : Below w.heap.size w w1 := by rw [hw1]; exact (Below.refl _ _).alloc (Nat.le_refl _) _
  have s1 : w1.heap.size = w.heap.size + 1 := by rw [hw1]; simp
  have g1 : BoxM 65 w1 w.heap.size m := by unfold BoxM; rw [hw1, heap_alloc_new]
  have G1 : Hid (∀ W, Below w1.heap.size w1 W → BoxM 65 W w.heap.size m) := fun W q => g1.below q
  have B1 : Hid (∀ W, Below w1.heap.size w1 W → Below w.heap.size w W) := fun W q => b1.trans (q.mono b1.size)
  have HM : Hid (m.Ok) := hm
  have AW : Hid (∀ W, Below w1.heap.size w1 W → Calls Tryd.prog 37 #[] W fun e w' => e = .returned (.bool true) ∧ Below w1.heap.size w1 w') := fun W q => (awake5_any W).mono fun e w' ⟨r1, r2⟩ => ⟨r1, q.trans (r2.mono q.size)⟩
  have FW : Hid (∀ W, Below w1.heap.size w1 W → Calls Tryd.prog 38 #[.agg (mC m).toArray] W fun e w' => e = .returned (.bool false) ∧ Below w1.heap.size w1 w') := fun W q => by
    have r := few5_any m hm W
    rw [decide_eq_false (show ¬ ((m.s.size : Int) ≤ 2000) by omega)] at r
    exact r.mono fun e w' ⟨r1, r2⟩ => ⟨r1, q.trans (r2.mono q.size)⟩
  have HW1 : Hid (w1 = w.alloc (.cells (mC m).toArray 65)) := hw1
  clear hm hL s0 hw1 b1 s1 g1 hs
  go_enter Tryd.func12, Tryd.ntmps12
  go_wp2_with fail
  rw [← HW1.out]
  refine (AW.out _ (Below.refl _ _)).mono ?_
  rintro e w2 ⟨rfl, b2⟩
  have X2 : Hid (BoxM 65 w2 w.heap.size m) := G1.out _ b2
  go_wp2_with (first | (refine loadM65g rfl _ rfl w.heap.size rfl m HM.out X2.out ?_))
  refine (FW.out _ b2).mono ?_
  rintro e w3 ⟨rfl, b3⟩
  have X3 : Hid (BoxM 65 w3 w.heap.size m) := G1.out _ b3
  clear b2 X2 FW
  go_wp2_with fail
  refine (AW.out _ b3).mono ?_
  rintro e w4 ⟨rfl, b4⟩
  go_wp2
  go_ret
  exact ⟨rfl, B1.out _ b4⟩
set_option maxHeartbeats 2000000 in
set_option maxRecDepth 100000 in
theorem mturn_no (m : Msg) (hm : m.Ok) (a y h : Int) (ha : 0 ≤ a ∧ a ≤ 18446744073709551615) (hy : 0 ≤ y ∧ y ≤ 255) (hh : 0 ≤ h ∧ h ≤ 255) (hs : m.s.size ≤ 2000) (hf : formB m = false) (w : World) (hL : Laid w) : Calls Tryd.prog 12 #[.agg (mC m).toArray, .int .u64 a, .int .u8 y, .int .u8 h] w fun e w' => e = .returned (.bool true) ∧ Below w.heap.size w w' := by
  have s0 := hL.two
  obtain ⟨w1, hw1⟩ : ∃ w1, w1 = w.alloc (.cells (mC m).toArray 65) := ⟨_, rfl⟩
  have b1 : Below w.heap.size w w1 := by rw [hw1]; exact (Below.refl _ _).alloc (Nat.le_refl _) _
  have s1 : w1.heap.size = w.heap.size + 1 := by rw [hw1]; simp
  have g1 : BoxM 65 w1 w.heap.size m := by unfold BoxM; rw [hw1, heap_alloc_new]
  have G1 : Hid (∀ W, Below w1.heap.size w1 W → BoxM 65 W w.heap.size m) := fun W q => g1.below q
  have B1 : Hid (∀ W, Below w1.heap.size w1 W → Below w.heap.size w W) := fun W q => b1.trans (q.mono b1.size)
  have HM : Hid (m.Ok) := hm
  have AW : Hid (∀ W, Below w1.heap.size w1 W → Calls Tryd.prog 37 #[] W fun e w' => e = .returned (.bool true) ∧ Below w1.heap.size w1 w') := fun W q => (awake5_any W).mono fun e w' ⟨r1, r2⟩ => ⟨r1, q.trans (r2.mono q.size)⟩
  have FW : Hid (∀ W, Below w1.heap.size w1 W → Calls Tryd.prog 38 #[.agg (mC m).toArray] W fun e w' => e = .returned (.bool true) ∧ Below w1.heap.size w1 w') := fun W q => by
    have r := few5_any m hm W
    rw [decide_eq_true (show ((m.s.size : Int) ≤ 2000) by omega)] at r
    exact r.mono fun e w' ⟨r1, r2⟩ => ⟨r1, q.trans (r2.mono q.size)⟩
  have WN : Hid (∀ W, Below w1.heap.size w1 W → Calls Tryd.prog 40 #[.agg (mC m).toArray] W fun e w' => e = .returned (.tuple #[.slice none 0 0, .int .i64 1]) ∧ Below w1.heap.size w1 w') := fun W q => (rwrite_no m hm hf W).mono fun e w' ⟨r1, r2⟩ => ⟨r1, q.trans (r2.mono q.size)⟩
  have ME : Hid (∀ W, Below w1.heap.size w1 W → Calls Tryd.prog 10 #[.agg (mC m).toArray] W fun e w' => e = .returned (.bool true) ∧ Below w1.heap.size w1 w') := fun W q => (messageEncodes_walk m hm W ((hL.below b1 s0).below q (by omega))).mono fun e w' ⟨r1, r2⟩ => ⟨r1, q.trans (r2.mono q.size)⟩
  clear hf
  have HW1 : Hid (w1 = w.alloc (.cells (mC m).toArray 65)) := hw1
  clear hm hL s0 hw1 b1 s1 g1 hs
  go_enter Tryd.func12, Tryd.ntmps12
  go_wp2_with fail
  rw [← HW1.out]
  refine (AW.out _ (Below.refl _ _)).mono ?_
  rintro e w2 ⟨rfl, b2⟩
  have X2 : Hid (BoxM 65 w2 w.heap.size m) := G1.out _ b2
  go_wp2_with (first | (refine loadM65g rfl _ rfl w.heap.size rfl m HM.out X2.out ?_))
  refine (FW.out _ b2).mono ?_
  rintro e w3 ⟨rfl, b3⟩
  have X3 : Hid (BoxM 65 w3 w.heap.size m) := G1.out _ b3
  clear b2 X2 FW
  go_wp2_with (first | (refine loadM65 rfl _ rfl w.heap.size rfl m HM.out X3.out ?_))
  refine (WN.out _ b3).mono ?_
  rintro e w4 ⟨rfl, b4⟩
  have X4 : Hid (BoxM 65 w4 w.heap.size m) := G1.out _ b4
  clear b3 X3 WN
  go_wp2_with (first | (refine loadM65 rfl _ rfl w.heap.size rfl m HM.out X4.out ?_))
  refine (ME.out _ b4).mono ?_
  rintro e w5 ⟨rfl, b5⟩
  go_wp2
  go_ret
  exact ⟨rfl, B1.out _ b5⟩
set_option maxHeartbeats 2000000 in
set_option maxRecDepth 100000 in
theorem mturn_0 (m : Msg) (hm : m.Ok) (a y h : Int) (ha : 0 ≤ a ∧ a ≤ 18446744073709551615) (hy : 0 ≤ y ∧ y ≤ 255) (hh : 0 ≤ h ∧ h ≤ 255) (hs : m.s.size ≤ 2000) (hf : formB m = true) (hq : h % 4 = 0) (w : World) (hL : Laid w) : Calls Tryd.prog 12 #[.agg (mC m).toArray, .int .u64 a, .int .u8 y, .int .u8 h] w fun e w' => e = .returned (.bool true) ∧ Below w.heap.size w w' := by
  have s0 := hL.two
  obtain ⟨w1, hw1⟩ : ∃ w1, w1 = w.alloc (.cells (mC m).toArray 65) := ⟨_, rfl⟩
  have b1 : Below w.heap.size w w1 := by rw [hw1]; exact (Below.refl _ _).alloc (Nat.le_refl _) _
  have s1 : w1.heap.size = w.heap.size + 1 := by rw [hw1]; simp
  have g1 : BoxM 65 w1 w.heap.size m := by unfold BoxM; rw [hw1, heap_alloc_new]
  have G1 : Hid (∀ W, Below w1.heap.size w1 W → BoxM 65 W w.heap.size m) := fun W q => g1.below q
  have B1 : Hid (∀ W, Below w1.heap.size w1 W → Below w.heap.size w W) := fun W q => b1.trans (q.mono b1.size)
  have HM : Hid (m.Ok) := hm
  have AW : Hid (∀ W, Below w1.heap.size w1 W → Calls Tryd.prog 37 #[] W fun e w' => e = .returned (.bool true) ∧ Below w1.heap.size w1 w') := fun W q => (awake5_any W).mono fun e w' ⟨r1, r2⟩ => ⟨r1, q.trans (r2.mono q.size)⟩
  have FW : Hid (∀ W, Below w1.heap.size w1 W → Calls Tryd.prog 38 #[.agg (mC m).toArray] W fun e w' => e = .returned (.bool true) ∧ Below w1.heap.size w1 w') := fun W q => by
    have r := few5_any m hm W
    rw [decide_eq_true (show ((m.s.size : Int) ≤ 2000) by omega)] at r
    exact r.mono fun e w' ⟨r1, r2⟩ => ⟨r1, q.trans (r2.mono q.size)⟩
  have f1 := (form_all hf).1
  have lb := body_le m hm hf
  have l6 : 6 ≤ (bodyB m).length := (cand_complete m hm hf).2
  have WY : Hid (∀ W, Below w1.heap.size w1 W → Calls Tryd.prog 40 #[.agg (mC m).toArray] W fun e w' => ∃ g cap cur, e = .returned (.tuple #[.slice (some ⟨g, 0, none⟩) ((bodyB m).length + 10) cap, .int .i64 0]) ∧ w1.heap.size ≤ g ∧ w'.heap[g]? = some (.cells cur 5) ∧ (bodyB m).length + 10 ≤ cap ∧ cap ≤ 9223372036854775807 ∧ cur.size = cap ∧ w'.rangeAt g 10 (vB (bodyB m)).toList ∧ w'.cell? ⟨g, 3, none⟩ = some (.int .u8 m.kind) ∧ Below w1.heap.size w1 w') := fun W q => by
    refine (rwrite_own m hm hf W (by have := q.size; omega)).mono fun e w' ⟨u, r1, r2, r3⟩ => ?_
    have hel : (encB m.kind (bodyB m)).length = (bodyB m).length + 10 := by rw [encB_length]
    have hpp := r2.partG (by have := q.size; have := r3.size; omega)
    obtain ⟨h1, h2⟩ := r2
    rcases h2 with ⟨_, hz⟩ | ⟨g, cap, cur, hv, hbg, hg, hnc, hcm, hcs, _⟩
    · omega
    · subst hv
      obtain ⟨av, pb, po, pc, e1, _, _, e3, e4, e5, _⟩ := hpp
      injection e1 with e1 _ e2
      have e6 := e3 (by omega)
      rw [e6] at e1
      injection e1 with e1
      injection e1 with e1 e7
      subst e1
      have e7 : po = 0 := e7.symm
      subst e7
      have ed := enc_drop m.kind (bodyB m) lb.1
      refine ⟨g, cap, cur, by rw [r1, hel], by have := q.size; omega, hg, by omega, by unfold maxLen at hcm; omega, by rw [hcs, Nat.mul_one], ?_, ?_, q.trans (r3.mono q.size)⟩
      · have := range_sub e4 10 (bodyB m).length
        rw [ed.1, List.take_of_length_le (Nat.le_refl _)] at this
        simpa using this
      · have := cell_at e4 3 (by omega)
        rw [ed.2] at this
        simpa using this
  have MF : Hid (∀ W t v b, Below w1.heap.size w1 W → 0 ≤ t ∧ t ≤ 255 → Bytes b → PartAt W v b → Calls Tryd.prog 45 #[.int .u8 t, v] W fun e w' => e = .returned (.bool true) ∧ Below w1.heap.size w1 w') := fun W t v b q ht hb p => (messageFrames_walk t ht v b hb W p).mono fun e w' ⟨r1, r2⟩ => ⟨r1, q.trans (r2.mono q.size)⟩
  obtain ⟨M, hM⟩ : ∃ M, M = (bodyB m).length := ⟨_, rfl⟩
  obtain ⟨bd, hbd⟩ : ∃ bd, bd = bodyB m := ⟨_, rfl⟩
  obtain ⟨kd, hkd⟩ : ∃ kd, kd = m.kind := ⟨_, rfl⟩
  rw [← hM, ← hbd, ← hkd] at WY
  have lM : M ≤ 1000 := by rw [hM]; exact lb.1
  have lM6 : 6 ≤ M := by rw [hM]; exact l6
  have HBD : Hid (Bytes bd ∧ bd.length = M) := by rw [hbd, hM]; exact ⟨lb.2, rfl⟩
  have HKD : Hid (0 ≤ kd ∧ kd ≤ 255) := by rw [hkd]; unfold Hid; omega
  have K0 : 0 ≤ a.tmod (M : Int) ∧ a.tmod (M : Int) < (M : Int) := by
    rw [Int.tmod_eq_emod_of_nonneg ha.1]
    exact ⟨Int.emod_nonneg _ (by omega), Int.emod_lt_of_pos _ (by omega)⟩
  obtain ⟨K, hK⟩ : ∃ K : Nat, (K : Int) = a.tmod (M : Int) := ⟨(a.tmod (M : Int)).toNat, by omega⟩
  have hKw : a.tmod (M : Int) = (K : Int) := hK.symm
  have hKM : K < M := by omega
  have hKi : (K : Int) < (M : Int) := by omega
  have hK0 : (0 : Int) ≤ (K : Int) := by omega
  have wM : IntKind.u64.wrap (M : Int) = (M : Int) := by rw [show IntKind.u64.wrap (M : Int) = (M : Int) % 18446744073709551616 from rfl]; omega
  have wM2 : (M : Int) % 18446744073709551616 = (M : Int) := by omega
  have wM3 : ¬ (M : Int) = 0 := by omega
  have l16 : ¬ ((M : Int) + 10 < 16) := by omega
  have l17 : decide ((M : Int) + 10 < 16) = false := decide_eq_false l16
  have q1 : h.tmod 4 = 0 := by rw [Int.tmod_eq_emod_of_nonneg hh.1]; exact hq
  have q2 : h % 4 = 0 := hq
  clear hf f1 lb l6 hM hbd hkd hK K0 ha hh hq
  have HW1 : Hid (w1 = w.alloc (.cells (mC m).toArray 65)) := hw1
  clear hm hL s0 hw1 b1 s1 g1 hs
  go_enter Tryd.func12, Tryd.ntmps12
  go_wp2_with fail
  rw [← HW1.out]
  refine (AW.out _ (Below.refl _ _)).mono ?_
  rintro e w2 ⟨rfl, b2⟩
  have X2 : Hid (BoxM 65 w2 w.heap.size m) := G1.out _ b2
  go_wp2_with (first | (refine loadM65g rfl _ rfl w.heap.size rfl m HM.out X2.out ?_))
  refine (FW.out _ b2).mono ?_
  rintro e w3 ⟨rfl, b3⟩
  have X3 : Hid (BoxM 65 w3 w.heap.size m) := G1.out _ b3
  clear b2 X2 FW
  go_wp2_with (first | (refine loadM65 rfl _ rfl w.heap.size rfl m HM.out X3.out ?_))
  refine (WY.out _ b3).mono ?_
  rintro e w4 ⟨g, cap, cur, rfl, gg, hg, hnc, hc63, hcs, hr, c3, b4⟩
  have nc10 : ¬ cap = 10 := by omega
  have nc11 : M + 10 - 10 = M := by omega
  have nc12 : (10 : Int) ≤ (M : Int) + 10 := by omega
  have nc13 : (3 : Int) < (M : Int) + 10 := by omega
  have PA : Hid (PartAt w4 (.slice (some ⟨g, 10, none⟩) M (cap - 10)) bd) := ⟨some ⟨g, 10, none⟩, g, 10, cap - 10, by rw [HBD.out.2], by rw [HBD.out.2]; omega, by omega, fun _ => rfl, hr, (Array.getElem?_eq_some_iff.1 hg).1, fun h => by cases h⟩
  have ck := cell_at hr K (by rw [HBD.out.2]; exact hKM)
  have fk : w4.frozen? ⟨g, 10 + K, none⟩ = false := unfrozen hg
  obtain ⟨x, hx⟩ : ∃ x, x = gi bd K := ⟨_, rfl⟩
  have bx := gi_b bd HBD.out.1 K
  rw [← hx] at ck bx
  have ps := part_set w4 w1.heap.size g cap M K bd ((x + y) % 256) cur gg hg HBD.out.2 hKM (by omega) hc63 hr
  have P1 : Hid (PartAt (w4.setCell ⟨g, 10 + K, none⟩ (.int .u8 ((x + y) % 256))) (.slice (some ⟨g, 10, none⟩) M (cap - 10)) (bd.set K ((x + y) % 256))) := ps.1
  have B4 : Hid (Below w1.heap.size w1 (w4.setCell ⟨g, 10 + K, none⟩ (.int .u8 ((x + y) % 256)))) := b4.trans ps.2
  have BB : Hid (Bytes (bd.set K ((x + y) % 256))) := HBD.out.1.set K (by omega)
  clear ps hx
  clear b3 X3 WY hr hg
  clear b4
  go_wp2_with fail
  refine (MF.out _ kd _ _ B4.out HKD.out BB.out P1.out).mono ?_
  rintro e w9 ⟨rfl, b9⟩
  go_wp2
  go_ret
  exact ⟨rfl, B1.out _ b9⟩
set_option maxHeartbeats 2000000 in
set_option maxRecDepth 100000 in
theorem mturn_1 (m : Msg) (hm : m.Ok) (a y h : Int) (ha : 0 ≤ a ∧ a ≤ 18446744073709551615) (hy : 0 ≤ y ∧ y ≤ 255) (hh : 0 ≤ h ∧ h ≤ 255) (hs : m.s.size ≤ 2000) (hf : formB m = true) (hq : h % 4 = 1) (w : World) (hL : Laid w) : Calls Tryd.prog 12 #[.agg (mC m).toArray, .int .u64 a, .int .u8 y, .int .u8 h] w fun e w' => e = .returned (.bool true) ∧ Below w.heap.size w w' := by
  have s0 := hL.two
  obtain ⟨w1, hw1⟩ : ∃ w1, w1 = w.alloc (.cells (mC m).toArray 65) := ⟨_, rfl⟩
  have b1 : Below w.heap.size w w1 := by rw [hw1]; exact (Below.refl _ _).alloc (Nat.le_refl _) _
  have s1 : w1.heap.size = w.heap.size + 1 := by rw [hw1]; simp
  have g1 : BoxM 65 w1 w.heap.size m := by unfold BoxM; rw [hw1, heap_alloc_new]
  have G1 : Hid (∀ W, Below w1.heap.size w1 W → BoxM 65 W w.heap.size m) := fun W q => g1.below q
  have B1 : Hid (∀ W, Below w1.heap.size w1 W → Below w.heap.size w W) := fun W q => b1.trans (q.mono b1.size)
  have HM : Hid (m.Ok) := hm
  have AW : Hid (∀ W, Below w1.heap.size w1 W → Calls Tryd.prog 37 #[] W fun e w' => e = .returned (.bool true) ∧ Below w1.heap.size w1 w') := fun W q => (awake5_any W).mono fun e w' ⟨r1, r2⟩ => ⟨r1, q.trans (r2.mono q.size)⟩
  have FW : Hid (∀ W, Below w1.heap.size w1 W → Calls Tryd.prog 38 #[.agg (mC m).toArray] W fun e w' => e = .returned (.bool true) ∧ Below w1.heap.size w1 w') := fun W q => by
    have r := few5_any m hm W
    rw [decide_eq_true (show ((m.s.size : Int) ≤ 2000) by omega)] at r
    exact r.mono fun e w' ⟨r1, r2⟩ => ⟨r1, q.trans (r2.mono q.size)⟩
  have f1 := (form_all hf).1
  have lb := body_le m hm hf
  have l6 : 6 ≤ (bodyB m).length := (cand_complete m hm hf).2
  have WY : Hid (∀ W, Below w1.heap.size w1 W → Calls Tryd.prog 40 #[.agg (mC m).toArray] W fun e w' => ∃ g cap cur, e = .returned (.tuple #[.slice (some ⟨g, 0, none⟩) ((bodyB m).length + 10) cap, .int .i64 0]) ∧ w1.heap.size ≤ g ∧ w'.heap[g]? = some (.cells cur 5) ∧ (bodyB m).length + 10 ≤ cap ∧ cap ≤ 9223372036854775807 ∧ cur.size = cap ∧ w'.rangeAt g 10 (vB (bodyB m)).toList ∧ w'.cell? ⟨g, 3, none⟩ = some (.int .u8 m.kind) ∧ Below w1.heap.size w1 w') := fun W q => by
    refine (rwrite_own m hm hf W (by have := q.size; omega)).mono fun e w' ⟨u, r1, r2, r3⟩ => ?_
    have hel : (encB m.kind (bodyB m)).length = (bodyB m).length + 10 := by rw [encB_length]
    have hpp := r2.partG (by have := q.size; have := r3.size; omega)
    obtain ⟨h1, h2⟩ := r2
    rcases h2 with ⟨_, hz⟩ | ⟨g, cap, cur, hv, hbg, hg, hnc, hcm, hcs, _⟩
    · omega
    · subst hv
      obtain ⟨av, pb, po, pc, e1, _, _, e3, e4, e5, _⟩ := hpp
      injection e1 with e1 _ e2
      have e6 := e3 (by omega)
      rw [e6] at e1
      injection e1 with e1
      injection e1 with e1 e7
      subst e1
      have e7 : po = 0 := e7.symm
      subst e7
      have ed := enc_drop m.kind (bodyB m) lb.1
      refine ⟨g, cap, cur, by rw [r1, hel], by have := q.size; omega, hg, by omega, by unfold maxLen at hcm; omega, by rw [hcs, Nat.mul_one], ?_, ?_, q.trans (r3.mono q.size)⟩
      · have := range_sub e4 10 (bodyB m).length
        rw [ed.1, List.take_of_length_le (Nat.le_refl _)] at this
        simpa using this
      · have := cell_at e4 3 (by omega)
        rw [ed.2] at this
        simpa using this
  have MF : Hid (∀ W t v b, Below w1.heap.size w1 W → 0 ≤ t ∧ t ≤ 255 → Bytes b → PartAt W v b → Calls Tryd.prog 45 #[.int .u8 t, v] W fun e w' => e = .returned (.bool true) ∧ Below w1.heap.size w1 w') := fun W t v b q ht hb p => (messageFrames_walk t ht v b hb W p).mono fun e w' ⟨r1, r2⟩ => ⟨r1, q.trans (r2.mono q.size)⟩
  obtain ⟨M, hM⟩ : ∃ M, M = (bodyB m).length := ⟨_, rfl⟩
  obtain ⟨bd, hbd⟩ : ∃ bd, bd = bodyB m := ⟨_, rfl⟩
  obtain ⟨kd, hkd⟩ : ∃ kd, kd = m.kind := ⟨_, rfl⟩
  rw [← hM, ← hbd, ← hkd] at WY
  have lM : M ≤ 1000 := by rw [hM]; exact lb.1
  have lM6 : 6 ≤ M := by rw [hM]; exact l6
  have HBD : Hid (Bytes bd ∧ bd.length = M) := by rw [hbd, hM]; exact ⟨lb.2, rfl⟩
  have HKD : Hid (0 ≤ kd ∧ kd ≤ 255) := by rw [hkd]; unfold Hid; omega
  have K0 : 0 ≤ a.tmod (M : Int) ∧ a.tmod (M : Int) < (M : Int) := by
    rw [Int.tmod_eq_emod_of_nonneg ha.1]
    exact ⟨Int.emod_nonneg _ (by omega), Int.emod_lt_of_pos _ (by omega)⟩
  obtain ⟨K, hK⟩ : ∃ K : Nat, (K : Int) = a.tmod (M : Int) := ⟨(a.tmod (M : Int)).toNat, by omega⟩
  have hKw : a.tmod (M : Int) = (K : Int) := hK.symm
  have hKM : K < M := by omega
  have hKi : (K : Int) < (M : Int) := by omega
  have hK0 : (0 : Int) ≤ (K : Int) := by omega
  have wM : IntKind.u64.wrap (M : Int) = (M : Int) := by rw [show IntKind.u64.wrap (M : Int) = (M : Int) % 18446744073709551616 from rfl]; omega
  have wM2 : (M : Int) % 18446744073709551616 = (M : Int) := by omega
  have wM3 : ¬ (M : Int) = 0 := by omega
  have l16 : ¬ ((M : Int) + 10 < 16) := by omega
  have l17 : decide ((M : Int) + 10 < 16) = false := decide_eq_false l16
  have q1 : h.tmod 4 = 1 := by rw [Int.tmod_eq_emod_of_nonneg hh.1]; exact hq
  have q2 : h % 4 = 1 := hq
  clear hf f1 lb l6 hM hbd hkd hK K0 ha hh hq
  have HW1 : Hid (w1 = w.alloc (.cells (mC m).toArray 65)) := hw1
  clear hm hL s0 hw1 b1 s1 g1 hs
  go_enter Tryd.func12, Tryd.ntmps12
  go_wp2_with fail
  rw [← HW1.out]
  refine (AW.out _ (Below.refl _ _)).mono ?_
  rintro e w2 ⟨rfl, b2⟩
  have X2 : Hid (BoxM 65 w2 w.heap.size m) := G1.out _ b2
  go_wp2_with (first | (refine loadM65g rfl _ rfl w.heap.size rfl m HM.out X2.out ?_))
  refine (FW.out _ b2).mono ?_
  rintro e w3 ⟨rfl, b3⟩
  have X3 : Hid (BoxM 65 w3 w.heap.size m) := G1.out _ b3
  clear b2 X2 FW
  go_wp2_with (first | (refine loadM65 rfl _ rfl w.heap.size rfl m HM.out X3.out ?_))
  refine (WY.out _ b3).mono ?_
  rintro e w4 ⟨g, cap, cur, rfl, gg, hg, hnc, hc63, hcs, hr, c3, b4⟩
  have nc10 : ¬ cap = 10 := by omega
  have nc11 : M + 10 - 10 = M := by omega
  have nc12 : (10 : Int) ≤ (M : Int) + 10 := by omega
  have nc13 : (3 : Int) < (M : Int) + 10 := by omega
  have PA : Hid (PartAt w4 (.slice (some ⟨g, 10, none⟩) M (cap - 10)) bd) := ⟨some ⟨g, 10, none⟩, g, 10, cap - 10, by rw [HBD.out.2], by rw [HBD.out.2]; omega, by omega, fun _ => rfl, hr, (Array.getElem?_eq_some_iff.1 hg).1, fun h => by cases h⟩
  have B4 : Hid (Below w1.heap.size w1 w4) := b4
  have kc1 : K ≤ cap - 10 := by omega
  have kc2 : (K : Int) ≤ ((cap - 10 : Nat) : Int) := by omega
  have P1 : Hid (PartAt w4 (.slice (some ⟨g, 10, none⟩) K (cap - 10)) (bd.take K)) := by
    have hl : (bd.take K).length = K := by rw [List.length_take, HBD.out.2]; omega
    have := range_sub hr 0 K
    exact ⟨some ⟨g, 10, none⟩, g, 10, cap - 10, by rw [hl], by rw [hl]; omega, by omega, fun _ => rfl, by simpa using this, (Array.getElem?_eq_some_iff.1 hg).1, fun h => by cases h⟩
  clear b3 X3 WY hr hg
  clear b4
  go_wp2_with fail
  refine (MF.out _ kd _ (bd.take K) B4.out HKD.out (fun x hx => HBD.out.1 x (List.take_subset _ _ hx)) P1.out).mono ?_
  rintro e w9 ⟨rfl, b9⟩
  go_wp2
  go_ret
  exact ⟨rfl, B1.out _ b9⟩
set_option maxHeartbeats 2000000 in
set_option maxRecDepth 100000 in
theorem mturn_2 (m : Msg) (hm : m.Ok) (a y h : Int) (ha : 0 ≤ a ∧ a ≤ 18446744073709551615) (hy : 0 ≤ y ∧ y ≤ 255) (hh : 0 ≤ h ∧ h ≤ 255) (hs : m.s.size ≤ 2000) (hf : formB m = true) (hq : h % 4 = 2) (w : World) (hL : Laid w) : Calls Tryd.prog 12 #[.agg (mC m).toArray, .int .u64 a, .int .u8 y, .int .u8 h] w fun e w' => e = .returned (.bool true) ∧ Below w.heap.size w w' := by
  have s0 := hL.two
  obtain ⟨w1, hw1⟩ : ∃ w1, w1 = w.alloc (.cells (mC m).toArray 65) := ⟨_, rfl⟩
  have b1 : Below w.heap.size w w1 := by rw [hw1]; exact (Below.refl _ _).alloc (Nat.le_refl _) _
  have s1 : w1.heap.size = w.heap.size + 1 := by rw [hw1]; simp
  have g1 : BoxM 65 w1 w.heap.size m := by unfold BoxM; rw [hw1, heap_alloc_new]
  have G1 : Hid (∀ W, Below w1.heap.size w1 W → BoxM 65 W w.heap.size m) := fun W q => g1.below q
  have B1 : Hid (∀ W, Below w1.heap.size w1 W → Below w.heap.size w W) := fun W q => b1.trans (q.mono b1.size)
  have HM : Hid (m.Ok) := hm
  have AW : Hid (∀ W, Below w1.heap.size w1 W → Calls Tryd.prog 37 #[] W fun e w' => e = .returned (.bool true) ∧ Below w1.heap.size w1 w') := fun W q => (awake5_any W).mono fun e w' ⟨r1, r2⟩ => ⟨r1, q.trans (r2.mono q.size)⟩
  have FW : Hid (∀ W, Below w1.heap.size w1 W → Calls Tryd.prog 38 #[.agg (mC m).toArray] W fun e w' => e = .returned (.bool true) ∧ Below w1.heap.size w1 w') := fun W q => by
    have r := few5_any m hm W
    rw [decide_eq_true (show ((m.s.size : Int) ≤ 2000) by omega)] at r
    exact r.mono fun e w' ⟨r1, r2⟩ => ⟨r1, q.trans (r2.mono q.size)⟩
  have f1 := (form_all hf).1
  have lb := body_le m hm hf
  have l6 : 6 ≤ (bodyB m).length := (cand_complete m hm hf).2
  have WY : Hid (∀ W, Below w1.heap.size w1 W → Calls Tryd.prog 40 #[.agg (mC m).toArray] W fun e w' => ∃ g cap cur, e = .returned (.tuple #[.slice (some ⟨g, 0, none⟩) ((bodyB m).length + 10) cap, .int .i64 0]) ∧ w1.heap.size ≤ g ∧ w'.heap[g]? = some (.cells cur 5) ∧ (bodyB m).length + 10 ≤ cap ∧ cap ≤ 9223372036854775807 ∧ cur.size = cap ∧ w'.rangeAt g 10 (vB (bodyB m)).toList ∧ w'.cell? ⟨g, 3, none⟩ = some (.int .u8 m.kind) ∧ Below w1.heap.size w1 w') := fun W q => by
    refine (rwrite_own m hm hf W (by have := q.size; omega)).mono fun e w' ⟨u, r1, r2, r3⟩ => ?_
    have hel : (encB m.kind (bodyB m)).length = (bodyB m).length + 10 := by rw [encB_length]
    have hpp := r2.partG (by have := q.size; have := r3.size; omega)
    obtain ⟨h1, h2⟩ := r2
    rcases h2 with ⟨_, hz⟩ | ⟨g, cap, cur, hv, hbg, hg, hnc, hcm, hcs, _⟩
    · omega
    · subst hv
      obtain ⟨av, pb, po, pc, e1, _, _, e3, e4, e5, _⟩ := hpp
      injection e1 with e1 _ e2
      have e6 := e3 (by omega)
      rw [e6] at e1
      injection e1 with e1
      injection e1 with e1 e7
      subst e1
      have e7 : po = 0 := e7.symm
      subst e7
      have ed := enc_drop m.kind (bodyB m) lb.1
      refine ⟨g, cap, cur, by rw [r1, hel], by have := q.size; omega, hg, by omega, by unfold maxLen at hcm; omega, by rw [hcs, Nat.mul_one], ?_, ?_, q.trans (r3.mono q.size)⟩
      · have := range_sub e4 10 (bodyB m).length
        rw [ed.1, List.take_of_length_le (Nat.le_refl _)] at this
        simpa using this
      · have := cell_at e4 3 (by omega)
        rw [ed.2] at this
        simpa using this
  have MF : Hid (∀ W t v b, Below w1.heap.size w1 W → 0 ≤ t ∧ t ≤ 255 → Bytes b → PartAt W v b → Calls Tryd.prog 45 #[.int .u8 t, v] W fun e w' => e = .returned (.bool true) ∧ Below w1.heap.size w1 w') := fun W t v b q ht hb p => (messageFrames_walk t ht v b hb W p).mono fun e w' ⟨r1, r2⟩ => ⟨r1, q.trans (r2.mono q.size)⟩
  obtain ⟨M, hM⟩ : ∃ M, M = (bodyB m).length := ⟨_, rfl⟩
  obtain ⟨bd, hbd⟩ : ∃ bd, bd = bodyB m := ⟨_, rfl⟩
  obtain ⟨kd, hkd⟩ : ∃ kd, kd = m.kind := ⟨_, rfl⟩
  rw [← hM, ← hbd, ← hkd] at WY
  have lM : M ≤ 1000 := by rw [hM]; exact lb.1
  have lM6 : 6 ≤ M := by rw [hM]; exact l6
  have HBD : Hid (Bytes bd ∧ bd.length = M) := by rw [hbd, hM]; exact ⟨lb.2, rfl⟩
  have HKD : Hid (0 ≤ kd ∧ kd ≤ 255) := by rw [hkd]; unfold Hid; omega
  have K0 : 0 ≤ a.tmod (M : Int) ∧ a.tmod (M : Int) < (M : Int) := by
    rw [Int.tmod_eq_emod_of_nonneg ha.1]
    exact ⟨Int.emod_nonneg _ (by omega), Int.emod_lt_of_pos _ (by omega)⟩
  obtain ⟨K, hK⟩ : ∃ K : Nat, (K : Int) = a.tmod (M : Int) := ⟨(a.tmod (M : Int)).toNat, by omega⟩
  have hKw : a.tmod (M : Int) = (K : Int) := hK.symm
  have hKM : K < M := by omega
  have hKi : (K : Int) < (M : Int) := by omega
  have hK0 : (0 : Int) ≤ (K : Int) := by omega
  have wM : IntKind.u64.wrap (M : Int) = (M : Int) := by rw [show IntKind.u64.wrap (M : Int) = (M : Int) % 18446744073709551616 from rfl]; omega
  have wM2 : (M : Int) % 18446744073709551616 = (M : Int) := by omega
  have wM3 : ¬ (M : Int) = 0 := by omega
  have l16 : ¬ ((M : Int) + 10 < 16) := by omega
  have l17 : decide ((M : Int) + 10 < 16) = false := decide_eq_false l16
  have q1 : h.tmod 4 = 2 := by rw [Int.tmod_eq_emod_of_nonneg hh.1]; exact hq
  have q2 : h % 4 = 2 := hq
  clear hf f1 lb l6 hM hbd hkd hK K0 ha hh hq
  have HW1 : Hid (w1 = w.alloc (.cells (mC m).toArray 65)) := hw1
  clear hm hL s0 hw1 b1 s1 g1 hs
  go_enter Tryd.func12, Tryd.ntmps12
  go_wp2_with fail
  rw [← HW1.out]
  refine (AW.out _ (Below.refl _ _)).mono ?_
  rintro e w2 ⟨rfl, b2⟩
  have X2 : Hid (BoxM 65 w2 w.heap.size m) := G1.out _ b2
  go_wp2_with (first | (refine loadM65g rfl _ rfl w.heap.size rfl m HM.out X2.out ?_))
  refine (FW.out _ b2).mono ?_
  rintro e w3 ⟨rfl, b3⟩
  have X3 : Hid (BoxM 65 w3 w.heap.size m) := G1.out _ b3
  clear b2 X2 FW
  go_wp2_with (first | (refine loadM65 rfl _ rfl w.heap.size rfl m HM.out X3.out ?_))
  refine (WY.out _ b3).mono ?_
  rintro e w4 ⟨g, cap, cur, rfl, gg, hg, hnc, hc63, hcs, hr, c3, b4⟩
  have nc10 : ¬ cap = 10 := by omega
  have nc11 : M + 10 - 10 = M := by omega
  have nc12 : (10 : Int) ≤ (M : Int) + 10 := by omega
  have nc13 : (3 : Int) < (M : Int) + 10 := by omega
  have PA : Hid (PartAt w4 (.slice (some ⟨g, 10, none⟩) M (cap - 10)) bd) := ⟨some ⟨g, 10, none⟩, g, 10, cap - 10, by rw [HBD.out.2], by rw [HBD.out.2]; omega, by omega, fun _ => rfl, hr, (Array.getElem?_eq_some_iff.1 hg).1, fun h => by cases h⟩
  have AP : Hid (∃ v' w', (Builtin.append_ #[22, 22] 22 #[.slice (some ⟨g, 10, none⟩) M (cap - 10), .slice (some ⟨w4.heap.size, 0, none⟩) 1 1]).run Tryd.prog (w4.alloc (.cells #[.int .u8 y] 5)) = .ok v' w' ∧ PartAt w' v' (bd ++ [y]) ∧ Below w1.heap.size w1 w') := by
    have ba : Below w1.heap.size w1 (w4.alloc (.cells #[.int .u8 y] 5)) := b4.alloc b4.size _
    have hlt := (Array.getElem?_eq_some_iff.1 hg).1
    have q1 : Below w4.heap.size w4 (w4.alloc (.cells #[.int .u8 y] 5)) := (Below.refl _ _).alloc (Nat.le_refl _) _
    obtain ⟨v', w', r1, r2, r3⟩ := append1 (w4.alloc (.cells #[.int .u8 y] 5)) w1.heap.size g cap M w4.heap.size bd y cur gg ba.size (by rw [Below.heap_alloc _ _ _ hlt]; exact hg) hcs HBD.out.2 (by omega) hnc hc63 (range_below hr q1 hlt) (row_cell (heap_alloc_new w4 (.cells #[.int .u8 y] 5)) rfl)
    exact ⟨v', w', r1, r2, ba.trans r3⟩
  have BB : Hid (Bytes (bd ++ [y])) := HBD.out.1.app (Bytes.cons' hy (fun x hx => by cases hx))
  obtain ⟨v', w5, hap, p5, b5⟩ := AP.out
  have P5 : Hid (PartAt w5 v' (bd ++ [y])) := p5
  have B5 : Hid (Below w1.heap.size w1 w5) := b5
  have HAP : Hid ((Builtin.append_ #[22, 22] 22 #[.slice (some ⟨g, 10, none⟩) M (cap - 10), .slice (some ⟨w4.heap.size, 0, none⟩) 1 1]).run Tryd.prog (w4.alloc (.cells #[.int .u8 y] 5)) = .ok v' w5) := hap
  clear AP hap p5 b5
  clear b3 X3 WY hr hg
  clear b4
  go_wp2_with (first | (at_builtin; refine Lib.wpList_append_run _ rfl _ _ _ _ rfl _ _ rfl rfl _ _ HAP.out ?_))
  refine (MF.out _ kd _ _ B5.out HKD.out BB.out P5.out).mono ?_
  rintro e w9 ⟨rfl, b9⟩
  go_wp2
  go_ret
  exact ⟨rfl, B1.out _ b9⟩
set_option maxHeartbeats 2000000 in
set_option maxRecDepth 100000 in
theorem mturn_3 (m : Msg) (hm : m.Ok) (a y h : Int) (ha : 0 ≤ a ∧ a ≤ 18446744073709551615) (hy : 0 ≤ y ∧ y ≤ 255) (hh : 0 ≤ h ∧ h ≤ 255) (hs : m.s.size ≤ 2000) (hf : formB m = true) (hq : h % 4 = 3) (w : World) (hL : Laid w) : Calls Tryd.prog 12 #[.agg (mC m).toArray, .int .u64 a, .int .u8 y, .int .u8 h] w fun e w' => e = .returned (.bool true) ∧ Below w.heap.size w w' := by
  have s0 := hL.two
  obtain ⟨w1, hw1⟩ : ∃ w1, w1 = w.alloc (.cells (mC m).toArray 65) := ⟨_, rfl⟩
  have b1 : Below w.heap.size w w1 := by rw [hw1]; exact (Below.refl _ _).alloc (Nat.le_refl _) _
  have s1 : w1.heap.size = w.heap.size + 1 := by rw [hw1]; simp
  have g1 : BoxM 65 w1 w.heap.size m := by unfold BoxM; rw [hw1, heap_alloc_new]
  have G1 : Hid (∀ W, Below w1.heap.size w1 W → BoxM 65 W w.heap.size m) := fun W q => g1.below q
  have B1 : Hid (∀ W, Below w1.heap.size w1 W → Below w.heap.size w W) := fun W q => b1.trans (q.mono b1.size)
  have HM : Hid (m.Ok) := hm
  have AW : Hid (∀ W, Below w1.heap.size w1 W → Calls Tryd.prog 37 #[] W fun e w' => e = .returned (.bool true) ∧ Below w1.heap.size w1 w') := fun W q => (awake5_any W).mono fun e w' ⟨r1, r2⟩ => ⟨r1, q.trans (r2.mono q.size)⟩
  have FW : Hid (∀ W, Below w1.heap.size w1 W → Calls Tryd.prog 38 #[.agg (mC m).toArray] W fun e w' => e = .returned (.bool true) ∧ Below w1.heap.size w1 w') := fun W q => by
    have r := few5_any m hm W
    rw [decide_eq_true (show ((m.s.size : Int) ≤ 2000) by omega)] at r
    exact r.mono fun e w' ⟨r1, r2⟩ => ⟨r1, q.trans (r2.mono q.size)⟩
  have f1 := (form_all hf).1
  have lb := body_le m hm hf
  have l6 : 6 ≤ (bodyB m).length := (cand_complete m hm hf).2
  have WY : Hid (∀ W, Below w1.heap.size w1 W → Calls Tryd.prog 40 #[.agg (mC m).toArray] W fun e w' => ∃ g cap cur, e = .returned (.tuple #[.slice (some ⟨g, 0, none⟩) ((bodyB m).length + 10) cap, .int .i64 0]) ∧ w1.heap.size ≤ g ∧ w'.heap[g]? = some (.cells cur 5) ∧ (bodyB m).length + 10 ≤ cap ∧ cap ≤ 9223372036854775807 ∧ cur.size = cap ∧ w'.rangeAt g 10 (vB (bodyB m)).toList ∧ w'.cell? ⟨g, 3, none⟩ = some (.int .u8 m.kind) ∧ Below w1.heap.size w1 w') := fun W q => by
    refine (rwrite_own m hm hf W (by have := q.size; omega)).mono fun e w' ⟨u, r1, r2, r3⟩ => ?_
    have hel : (encB m.kind (bodyB m)).length = (bodyB m).length + 10 := by rw [encB_length]
    have hpp := r2.partG (by have := q.size; have := r3.size; omega)
    obtain ⟨h1, h2⟩ := r2
    rcases h2 with ⟨_, hz⟩ | ⟨g, cap, cur, hv, hbg, hg, hnc, hcm, hcs, _⟩
    · omega
    · subst hv
      obtain ⟨av, pb, po, pc, e1, _, _, e3, e4, e5, _⟩ := hpp
      injection e1 with e1 _ e2
      have e6 := e3 (by omega)
      rw [e6] at e1
      injection e1 with e1
      injection e1 with e1 e7
      subst e1
      have e7 : po = 0 := e7.symm
      subst e7
      have ed := enc_drop m.kind (bodyB m) lb.1
      refine ⟨g, cap, cur, by rw [r1, hel], by have := q.size; omega, hg, by omega, by unfold maxLen at hcm; omega, by rw [hcs, Nat.mul_one], ?_, ?_, q.trans (r3.mono q.size)⟩
      · have := range_sub e4 10 (bodyB m).length
        rw [ed.1, List.take_of_length_le (Nat.le_refl _)] at this
        simpa using this
      · have := cell_at e4 3 (by omega)
        rw [ed.2] at this
        simpa using this
  have MF : Hid (∀ W t v b, Below w1.heap.size w1 W → 0 ≤ t ∧ t ≤ 255 → Bytes b → PartAt W v b → Calls Tryd.prog 45 #[.int .u8 t, v] W fun e w' => e = .returned (.bool true) ∧ Below w1.heap.size w1 w') := fun W t v b q ht hb p => (messageFrames_walk t ht v b hb W p).mono fun e w' ⟨r1, r2⟩ => ⟨r1, q.trans (r2.mono q.size)⟩
  obtain ⟨M, hM⟩ : ∃ M, M = (bodyB m).length := ⟨_, rfl⟩
  obtain ⟨bd, hbd⟩ : ∃ bd, bd = bodyB m := ⟨_, rfl⟩
  obtain ⟨kd, hkd⟩ : ∃ kd, kd = m.kind := ⟨_, rfl⟩
  rw [← hM, ← hbd, ← hkd] at WY
  have lM : M ≤ 1000 := by rw [hM]; exact lb.1
  have lM6 : 6 ≤ M := by rw [hM]; exact l6
  have HBD : Hid (Bytes bd ∧ bd.length = M) := by rw [hbd, hM]; exact ⟨lb.2, rfl⟩
  have HKD : Hid (0 ≤ kd ∧ kd ≤ 255) := by rw [hkd]; unfold Hid; omega
  have K0 : 0 ≤ a.tmod (M : Int) ∧ a.tmod (M : Int) < (M : Int) := by
    rw [Int.tmod_eq_emod_of_nonneg ha.1]
    exact ⟨Int.emod_nonneg _ (by omega), Int.emod_lt_of_pos _ (by omega)⟩
  obtain ⟨K, hK⟩ : ∃ K : Nat, (K : Int) = a.tmod (M : Int) := ⟨(a.tmod (M : Int)).toNat, by omega⟩
  have hKw : a.tmod (M : Int) = (K : Int) := hK.symm
  have hKM : K < M := by omega
  have hKi : (K : Int) < (M : Int) := by omega
  have hK0 : (0 : Int) ≤ (K : Int) := by omega
  have wM : IntKind.u64.wrap (M : Int) = (M : Int) := by rw [show IntKind.u64.wrap (M : Int) = (M : Int) % 18446744073709551616 from rfl]; omega
  have wM2 : (M : Int) % 18446744073709551616 = (M : Int) := by omega
  have wM3 : ¬ (M : Int) = 0 := by omega
  have l16 : ¬ ((M : Int) + 10 < 16) := by omega
  have l17 : decide ((M : Int) + 10 < 16) = false := decide_eq_false l16
  have q1 : h.tmod 4 = 3 := by rw [Int.tmod_eq_emod_of_nonneg hh.1]; exact hq
  have q2 : h % 4 = 3 := hq
  clear hf f1 lb l6 hM hbd hkd hK K0 ha hh hq
  have HW1 : Hid (w1 = w.alloc (.cells (mC m).toArray 65)) := hw1
  clear hm hL s0 hw1 b1 s1 g1 hs
  go_enter Tryd.func12, Tryd.ntmps12
  go_wp2_with fail
  rw [← HW1.out]
  refine (AW.out _ (Below.refl _ _)).mono ?_
  rintro e w2 ⟨rfl, b2⟩
  have X2 : Hid (BoxM 65 w2 w.heap.size m) := G1.out _ b2
  go_wp2_with (first | (refine loadM65g rfl _ rfl w.heap.size rfl m HM.out X2.out ?_))
  refine (FW.out _ b2).mono ?_
  rintro e w3 ⟨rfl, b3⟩
  have X3 : Hid (BoxM 65 w3 w.heap.size m) := G1.out _ b3
  clear b2 X2 FW
  go_wp2_with (first | (refine loadM65 rfl _ rfl w.heap.size rfl m HM.out X3.out ?_))
  refine (WY.out _ b3).mono ?_
  rintro e w4 ⟨g, cap, cur, rfl, gg, hg, hnc, hc63, hcs, hr, c3, b4⟩
  have nc10 : ¬ cap = 10 := by omega
  have nc11 : M + 10 - 10 = M := by omega
  have nc12 : (10 : Int) ≤ (M : Int) + 10 := by omega
  have nc13 : (3 : Int) < (M : Int) + 10 := by omega
  have PA : Hid (PartAt w4 (.slice (some ⟨g, 10, none⟩) M (cap - 10)) bd) := ⟨some ⟨g, 10, none⟩, g, 10, cap - 10, by rw [HBD.out.2], by rw [HBD.out.2]; omega, by omega, fun _ => rfl, hr, (Array.getElem?_eq_some_iff.1 hg).1, fun h => by cases h⟩
  have B4 : Hid (Below w1.heap.size w1 w4) := b4
  have wt : 0 ≤ (kd + y) % 256 ∧ (kd + y) % 256 ≤ 255 := by omega
  clear b3 X3 WY hr hg
  clear b4
  go_wp2_with fail
  refine (MF.out _ _ _ bd B4.out wt HBD.out.1 PA.out).mono ?_
  rintro e w9 ⟨rfl, b9⟩
  go_wp2
  go_ret
  exact ⟨rfl, B1.out _ b9⟩
theorem messageTurned_walk (m : Msg) (hm : m.Ok) (a y h : Int) (ha : 0 ≤ a ∧ a ≤ 18446744073709551615) (hy : 0 ≤ y ∧ y ≤ 255) (hh : 0 ≤ h ∧ h ≤ 255) (w : World) (hL : Laid w) : Calls Tryd.prog 12 #[.agg (mC m).toArray, .int .u64 a, .int .u8 y, .int .u8 h] w fun e w' => e = .returned (.bool true) ∧ Below w.heap.size w w' := by
  by_cases hs : m.s.size ≤ 2000
  · cases hf : formB m with
    | false => exact mturn_no m hm a y h ha hy hh hs hf w hL
    | true =>
      have hq : h % 4 = 0 ∨ h % 4 = 1 ∨ h % 4 = 2 ∨ h % 4 = 3 := by omega
      rcases hq with hq | hq | hq | hq
      · exact mturn_0 m hm a y h ha hy hh hs hf hq w hL
      · exact mturn_1 m hm a y h ha hy hh hs hf hq w hL
      · exact mturn_2 m hm a y h ha hy hh hs hf hq w hL
      · exact mturn_3 m hm a y h ha hy hh hs hf hq w hL
  · exact mturn_few m hm a y h ha hy hh hs w hL
end Go.Proofs.YtplihbncmmggjaaDoor
