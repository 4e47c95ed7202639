import Derived.Test.YtnpjknnalekdpaaDoorFg
namespace Go.Proofs.YtnpjknnalekdpaaDoor
set_option linter.unusedSimpArgs false
set_option linter.unusedVariables false
open Go.RowKit
set_option maxHeartbeats 1000000 in
set_option maxRecDepth 100000 in
theorem decode_short (v : Value) (bs : List Int) (w : World) (hp : PartAt w v bs) (hb : Bytes bs) (h : beginsB bs = true) (hl : bs.length < 10) : Calls Tryd.prog 32 #[v] w fun e w' => e = .returned (.tuple #[.agg #[.int .u8 0, .slice none 0 0], .int .i64 0, .int .i64 4]) ∧ Below w.heap.size w w' := by
  have b1 : Below w.heap.size w (w.alloc (.cells #[.int .u8 0, .slice none 0 0] 46)) := (Below.refl _ _).alloc (Nat.le_refl _) _
  have BG : Hid (Calls Tryd.prog 35 #[v] (w.alloc (.cells #[.int .u8 0, .slice none 0 0] 46)) fun e w' => e = .returned (.bool true) ∧ Below w.heap.size w w' ∧ w'.heap[w.heap.size]? = some (.cells #[.int .u8 0, .slice none 0 0] 46)) := by
    have q := begins_any v bs _ (hp.below b1) hb
    rw [h] at q
    exact q.mono fun e w' ⟨r1, r2⟩ => ⟨r1, b1.trans (r2.mono (by simp)), by rw [r2.block _ (by simp)]; exact heap_alloc_new _ _⟩
  obtain ⟨av, bb, ob, cp, rfl, _⟩ := hp
  have hli : (bs.length : Int) < 10 := by omega
  clear b1
  go_enter Tryd.func32, Tryd.ntmps32
  go_wp2_with fail
  refine BG.out.mono ?_
  rintro e w2 ⟨rfl, b2, k2⟩
  have K2 : Hid (w2.heap[w.heap.size]? = some (.cells #[.int .u8 0, .slice none 0 0] 46)) := k2
  clear k2 BG
  go_wp2_with (first | (refine store61 rfl _ _ rfl w.heap.size (.int .u8 0) (.slice none 0 0) rfl rfl (one61 _ _ _ _) (.int .u8 0) (.slice none 0 0) K2.out ?_))
  exact dec_end rfl rfl rfl (setRow_same K2.out) ⟨rfl, below_setRow b2 (Nat.le_refl _) _⟩
/-- A part of a slice. -/
theorem sub_part {w : World} {b o cp L : Nat} {bs : List Int} (hL : bs.length = L) (hcp : L ≤ cp) (h63 : cp ≤ 9223372036854775807) (hr : w.rangeAt b o (vB bs).toList) (hb : b < w.heap.size) (k m : Nat) (hk : k + m ≤ L) : PartAt w (.slice (some ⟨b, o + k, none⟩) m (cp - k)) ((bs.drop k).take m) := by
  have e : ((bs.drop k).take m).length = m := by simp; omega
  refine ⟨some ⟨b, o + k, none⟩, b, o + k, cp - k, by rw [e], by omega, by omega, fun _ => rfl, fun j u hu => ?_, hb, fun h => by cases h⟩
  have hj : j < m := by have := (List.getElem?_eq_some_iff.1 hu).1; rw [Array.length_toList, vB_size, e] at this; exact this
  have := hr (k + j) u (by
    rw [Array.getElem?_toList] at hu ⊢
    simp [vB, List.getElem?_take, List.getElem?_drop] at hu ⊢
    exact hu.2)
  rw [Nat.add_assoc]; exact this
theorem three_at (bs : List Int) (h : 6 ≤ bs.length) : (bs.drop 3).take 3 = [gi bs 3, gi bs 4, gi bs 5] := by
  match bs, h with
  | a :: b :: c :: x :: y :: z :: r, _ => rfl
set_option maxHeartbeats 1000000 in
set_option maxRecDepth 100000 in
theorem decode_short2 (b o L cp : Nat) (bs : List Int) (x3 x4 x5 : Int) (M : Nat) (w : World) (hp : PartAt w (.slice (some ⟨b, o, none⟩) L cp) bs) (hL : bs.length = L) (hb : Bytes bs) (h : beginsB bs = true) (hl : 10 ≤ L) (h3 : gi bs 3 = x3) (h4 : gi bs 4 = x4) (h5 : gi bs 5 = x5) (hM : x4 * 256 + x5 = (M : Int)) (hM1 : M ≤ 1000) (hs : L < 10 + M) : Calls Tryd.prog 32 #[.slice (some ⟨b, o, none⟩) L cp] w fun e w' => e = .returned (.tuple #[.agg #[.int .u8 0, .slice none 0 0], .int .i64 0, .int .i64 4]) ∧ Below w.heap.size w w' := by
  have b1 : Below w.heap.size w (w.alloc (.cells #[.int .u8 0, .slice none 0 0] 46)) := (Below.refl _ _).alloc (Nat.le_refl _) _
  have BG : Hid (Calls Tryd.prog 35 #[.slice (some ⟨b, o, none⟩) L cp] (w.alloc (.cells #[.int .u8 0, .slice none 0 0] 46)) fun e w' => e = .returned (.bool true) ∧ Below w.heap.size w w' ∧ w'.heap[w.heap.size]? = some (.cells #[.int .u8 0, .slice none 0 0] 46)) := by
    have q := begins_any _ bs _ (hp.below b1) hb
    rw [h] at q
    exact q.mono fun e w' ⟨r1, r2⟩ => ⟨r1, b1.trans (r2.mono (by simp)), by rw [r2.block _ (by simp)]; exact heap_alloc_new _ _⟩
  have hr : w.rangeAt b o (vB bs).toList ∧ b < w.heap.size ∧ L ≤ cp ∧ cp ≤ 9223372036854775807 := by
    obtain ⟨av, b', o', cp', e, q1, q2, q3, q4, q5, q6⟩ := hp
    have q3' := q3 (by omega)
    rw [hL] at e q1
    injection e with e1 e2 e3
    rw [← e1] at q3'
    injection q3' with q3'
    injection q3' with q3a q3b
    subst q3a q3b e3
    exact ⟨q4, q5, q1, q2⟩
  obtain ⟨hr, hbl, hcp, h63⟩ := hr
  have LAB : Hid (∀ W, Below w.heap.size w W → PartAt W (.slice (some ⟨b, o + 3, none⟩) 3 (cp - 3)) [x3, x4, x5]) := fun W q => by
    have := (sub_part hL hcp h63 hr hbl 3 3 (by omega)).below q
    rw [three_at bs (by omega), h3, h4, h5] at this; exact this
  have hby : Bytes [x3, x4, x5] := fun y hy => by
    rw [← h3, ← h4, ← h5, ← three_at bs (by omega)] at hy
    exact hb y (List.mem_of_mem_drop (List.mem_of_mem_take hy))
  have LB : Hid (∀ W, (Below w.heap.size w W ∧ W.heap[w.heap.size]? = some (.cells #[.int .u8 0, .slice none 0 0] 46)) → Calls Tryd.prog 66 #[.slice (some ⟨b, o + 3, none⟩) 3 (cp - 3)] W fun e w' => e = .returned (.tuple #[.int .u8 x3, .int .i64 M]) ∧ (Below w.heap.size w w' ∧ w'.heap[w.heap.size]? = some (.cells #[.int .u8 0, .slice none 0 0] 46))) := fun W q => by
    have r := label_any _ x3 x4 x5 W (LAB.out W q.1) hby
    rw [hM] at r
    exact r.mono fun e w' ⟨r1, r2⟩ => ⟨r1, q.1.trans (r2.mono q.1.size), by rw [r2.block _ (Array.getElem?_eq_some_iff.1 q.2).1]; exact q.2⟩
  have hli : ¬ (L : Int) < 10 := by omega
  have g1 : (6 : Int) ≤ (cp : Int) := by omega
  have g2 : (10 : Int) ≤ (cp : Int) := by omega
  have g3 : ¬ cp = 3 := by omega
  have g4 : ¬ cp = 6 := by omega
  have g5 : (10 : Int) ≤ (L : Int) := by omega
  have hsi : (L : Int) < 10 + (M : Int) := by omega
  clear b1 LAB hr hp hb hby h3 h4 h5 hM h
  go_enter Tryd.func32, Tryd.ntmps32
  go_wp2_with fail
  refine BG.out.mono ?_
  rintro e w2 ⟨rfl, b2, k2⟩
  have LB2 : Hid (Calls Tryd.prog 66 #[.slice (some ⟨b, o + 3, none⟩) 3 (cp - 3)] w2 fun e w' => e = .returned (.tuple #[.int .u8 x3, .int .i64 M]) ∧ (Below w.heap.size w w' ∧ w'.heap[w.heap.size]? = some (.cells #[.int .u8 0, .slice none 0 0] 46))) := LB.out w2 ⟨b2, k2⟩
  clear k2 BG LB b2
  go_wp2_with fail
  refine LB2.out.mono ?_
  rintro e w3 ⟨rfl, b3, k3⟩
  have K3 : Hid (w3.heap[w.heap.size]? = some (.cells #[.int .u8 0, .slice none 0 0] 46)) := k3
  clear k3 LB2
  go_wp2_with (first | (refine store61 rfl _ _ rfl w.heap.size (.int .u8 0) (.slice none 0 0) rfl rfl (one61 _ _ _ _) (.int .u8 0) (.slice none 0 0) K3.out ?_))
  exact dec_end rfl rfl rfl (setRow_same K3.out) ⟨rfl, below_setRow b3 (Nat.le_refl _) _⟩
set_option maxHeartbeats 1000000 in
set_option maxRecDepth 100000 in
theorem decode_sum_a (b o L cp : Nat) (bs : List Int) (x3 x4 x5 : Int) (M : Nat) (w : World) (hp : PartAt w (.slice (some ⟨b, o, none⟩) L cp) bs) (hL : bs.length = L) (hb : Bytes bs) (h : beginsB bs = true) (hl : 10 ≤ L) (h3 : gi bs 3 = x3) (h4 : gi bs 4 = x4) (h5 : gi bs 5 = x5) (hM : x4 * 256 + x5 = (M : Int)) (hM1 : M ≤ 1000) (hLd : Laid w) (hs : 10 + M ≤ L) (hc10 : ¬ cp = 10) (heq : (hashOf ([x3, x4, x5] ++ (bs.drop 10).take M)).take 4 ≠ (bs.drop 6).take 4) : Calls Tryd.prog 32 #[.slice (some ⟨b, o, none⟩) L cp] w fun e w' => e = .returned (.tuple #[.agg #[.int .u8 0, .slice none 0 0], .int .i64 0, .int .i64 3]) ∧ Below w.heap.size w w' := by
  have b1 : Below w.heap.size w (w.alloc (.cells #[.int .u8 0, .slice none 0 0] 46)) := (Below.refl _ _).alloc (Nat.le_refl _) _
  have BG : Hid (Calls Tryd.prog 35 #[.slice (some ⟨b, o, none⟩) L cp] (w.alloc (.cells #[.int .u8 0, .slice none 0 0] 46)) fun e w' => e = .returned (.bool true) ∧ Below w.heap.size w w' ∧ w'.heap[w.heap.size]? = some (.cells #[.int .u8 0, .slice none 0 0] 46)) := by
    have q := begins_any _ bs _ (hp.below b1) hb
    rw [h] at q
    exact q.mono fun e w' ⟨r1, r2⟩ => ⟨r1, b1.trans (r2.mono (by simp)), by rw [r2.block _ (by simp)]; exact heap_alloc_new _ _⟩
  have hr : w.rangeAt b o (vB bs).toList ∧ b < w.heap.size ∧ L ≤ cp ∧ cp ≤ 9223372036854775807 := by
    obtain ⟨av, b', o', cp', e, q1, q2, q3, q4, q5, q6⟩ := hp
    have q3' := q3 (by omega)
    rw [hL] at e q1
    injection e with e1 e2 e3
    rw [← e1] at q3'
    injection q3' with q3'
    injection q3' with q3a q3b
    subst q3a q3b e3
    exact ⟨q4, q5, q1, q2⟩
  obtain ⟨hr, hbl, hcp, h63⟩ := hr
  have LAB : Hid (∀ W, Below w.heap.size w W → PartAt W (.slice (some ⟨b, o + 3, none⟩) 3 (cp - 3)) [x3, x4, x5]) := fun W q => by
    have := (sub_part hL hcp h63 hr hbl 3 3 (by omega)).below q
    rw [three_at bs (by omega), h3, h4, h5] at this; exact this
  have hby : Bytes [x3, x4, x5] := fun y hy => by
    rw [← h3, ← h4, ← h5, ← three_at bs (by omega)] at hy
    exact hb y (List.mem_of_mem_drop (List.mem_of_mem_take hy))
  have LB : Hid (∀ W, (Below w.heap.size w W ∧ W.heap[w.heap.size]? = some (.cells #[.int .u8 0, .slice none 0 0] 46)) → Calls Tryd.prog 66 #[.slice (some ⟨b, o + 3, none⟩) 3 (cp - 3)] W fun e w' => e = .returned (.tuple #[.int .u8 x3, .int .i64 M]) ∧ (Below w.heap.size w w' ∧ w'.heap[w.heap.size]? = some (.cells #[.int .u8 0, .slice none 0 0] 46))) := fun W q => by
    have r := label_any _ x3 x4 x5 W (LAB.out W q.1) hby
    rw [hM] at r
    exact r.mono fun e w' ⟨r1, r2⟩ => ⟨r1, q.1.trans (r2.mono q.1.size), by rw [r2.block _ (Array.getElem?_eq_some_iff.1 q.2).1]; exact q.2⟩
  have hli : ¬ (L : Int) < 10 := by omega
  have g1 : (6 : Int) ≤ (cp : Int) := by omega
  have g2 : (10 : Int) ≤ (cp : Int) := by omega
  have g3 : ¬ cp = 3 := by omega
  have g4 : ¬ cp = 6 := by omega
  have g5 : (10 : Int) ≤ (L : Int) := by omega
  have h2 := hLd.two
  have hsi : ¬ (L : Int) < 10 + (M : Int) := by omega
  have BODY : Hid (∀ W, Below w.heap.size w W → PartAt W (.slice (some ⟨b, o + 10, none⟩) M (cp - 10)) ((bs.drop 10).take M)) := fun W q => (sub_part hL hcp h63 hr hbl 10 M hs).below q
  have g6 : (10 : Int) ≤ 10 + (M : Int) := by omega
  have g7 : 10 + (M : Int) ≤ (cp : Int) := by omega
  have g8 : (10 + (M : Int)).toNat - 10 = M := by omega
  have hbl4 : ((bs.drop 10).take M).length ≤ 1000 := by simp; omega
  have SO : Hid (∀ W, (Below w.heap.size w W ∧ W.heap[w.heap.size]? = some (.cells #[.int .u8 0, .slice none 0 0] 46)) → Calls Tryd.prog 63 #[.slice (some ⟨b, o + 3, none⟩) 3 (cp - 3), .slice (some ⟨b, o + 10, none⟩) M (cp - 10)] W fun e w' => e = .returned (.agg (vB ((hashOf ([x3, x4, x5] ++ (bs.drop 10).take M)).take 4))) ∧ (Below w.heap.size w w' ∧ w'.heap[w.heap.size]? = some (.cells #[.int .u8 0, .slice none 0 0] 46))) := fun W q =>
    (sumOf_any _ _ [x3, x4, x5] ((bs.drop 10).take M) W (hLd.below q.1 h2) (LAB.out W q.1) (BODY.out W q.1) (by simp; omega)).mono fun e w' ⟨r1, r2⟩ => ⟨r1, q.1.trans (r2.mono q.1.size), by rw [r2.block _ (Array.getElem?_eq_some_iff.1 q.2).1]; exact q.2⟩
  have P4 : Hid (∀ W, Below w.heap.size w W → PartAt W (.slice (some ⟨b, o + 6, none⟩) 4 (cp - 6)) ((bs.drop 6).take 4)) := fun W q => (sub_part hL hcp h63 hr hbl 6 4 (by omega)).below q
  have hS4 : ((hashOf ([x3, x4, x5] ++ (bs.drop 10).take M)).take 4).length = 4 := by rw [List.length_take, hashOf_length]; rfl
  have HSB : Hid (Bytes ((hashOf ([x3, x4, x5] ++ (bs.drop 10).take M)).take 4)) := fun y hy => hashOf_bytes _ y (List.mem_of_mem_take hy)
  have HB4 : Hid (Bytes ((bs.drop 6).take 4)) := fun y hy => hb y (List.mem_of_mem_drop (List.mem_of_mem_take hy))
  generalize (hashOf ([x3, x4, x5] ++ (bs.drop 10).take M)).take 4 = S4 at *
  generalize hQ4 : (bs.drop 6).take 4 = Q4 at *
  have CL : Hid (∀ W, (Below w.heap.size w W ∧ W.heap[w.heap.size]? = some (.cells #[.int .u8 0, .slice none 0 0] 46)) → Calls Tryd.prog 68 #[.slice (some ⟨b, o + 10, none⟩) M (cp - 10)] W fun e w' => ∃ av n c, e = .returned (.slice av n c) ∧ PartAt w' (.slice av n c) ((bs.drop 10).take M) ∧ (Below w.heap.size w w' ∧ w'.heap[w.heap.size]? = some (.cells #[.int .u8 0, .slice none 0 0] 46))) := fun W q =>
    (bclone_any _ ((bs.drop 10).take M) W (BODY.out W q.1) (by omega)).mono fun e w' ⟨u, r1, r2, r3⟩ => by
      obtain ⟨av, b', o', cp', rfl, r⟩ := r2
      exact ⟨av, _, cp', r1, ⟨av, b', o', cp', rfl, r⟩, q.1.trans (r3.mono q.1.size), by rw [r3.block _ (Array.getElem?_eq_some_iff.1 q.2).1]; exact q.2⟩
  clear b1 LAB hr hp hb hby h3 h4 h5 hM h BODY hQ4
  go_enter Tryd.func32, Tryd.ntmps32
  go_wp2_with fail
  refine BG.out.mono ?_
  rintro e w2 ⟨rfl, b2, k2⟩
  have LB2 : Hid (Calls Tryd.prog 66 #[.slice (some ⟨b, o + 3, none⟩) 3 (cp - 3)] w2 fun e w' => e = .returned (.tuple #[.int .u8 x3, .int .i64 M]) ∧ (Below w.heap.size w w' ∧ w'.heap[w.heap.size]? = some (.cells #[.int .u8 0, .slice none 0 0] 46))) := LB.out w2 ⟨b2, k2⟩
  clear k2 BG LB b2
  go_wp2_with fail
  refine LB2.out.mono ?_
  rintro e w3 ⟨rfl, k3⟩
  have SO3 : Hid (Calls Tryd.prog 63 #[.slice (some ⟨b, o + 3, none⟩) 3 (cp - 3), .slice (some ⟨b, o + 10, none⟩) M (cp - 10)] w3 fun e w' => e = .returned (.agg (vB S4)) ∧ (Below w.heap.size w w' ∧ w'.heap[w.heap.size]? = some (.cells #[.int .u8 0, .slice none 0 0] 46))) := SO.out w3 k3
  clear k3 SO LB2
  go_wp2_with fail
  refine SO3.out.mono ?_
  rintro e w4 ⟨rfl, k4⟩
  have K4 : Hid (Below w.heap.size w w4 ∧ w4.heap[w.heap.size]? = some (.cells #[.int .u8 0, .slice none 0 0] 46)) := k4
  clear k4 SO3
  go_wp2_with (first | (refine store96 rfl _ _ rfl w4.heap.size S4 rfl rfl hS4 (zs 4) rfl (heap_alloc_new _ _) ?_))
  have bb : Below w4.heap.size w4 ((w4.alloc (Obj.cells #[.int .u8 0, .int .u8 0, .int .u8 0, .int .u8 0] 105)).setRow w4.heap.size (vB S4)) := below_setRow ((Below.refl _ _).alloc (Nat.le_refl _) _) (Nat.le_refl _) _
  have kb : ((w4.alloc (Obj.cells #[.int .u8 0, .int .u8 0, .int .u8 0, .int .u8 0] 105)).setRow w4.heap.size (vB S4)).heap[w4.heap.size]? = some (.cells (vB S4) 105) := setRow_same (w := w4.alloc (Obj.cells #[.int .u8 0, .int .u8 0, .int .u8 0, .int .u8 0] 105)) (heap_alloc_new _ _)
  obtain ⟨w6, hw6⟩ : ∃ W, W = (w4.alloc (Obj.cells #[.int .u8 0, .int .u8 0, .int .u8 0, .int .u8 0] 105)).setRow w4.heap.size (vB S4) := ⟨_, rfl⟩
  rw [← hw6] at bb kb ⊢
  clear hw6
  have K6 : Hid (Below w.heap.size w w6.drew ∧ w6.drew.heap[w.heap.size]? = some (.cells #[.int .u8 0, .slice none 0 0] 46)) := ⟨(K4.out.1.trans (bb.mono K4.out.1.size)).drew, by show w6.heap[w.heap.size]? = _; rw [bb.block _ (Array.getElem?_eq_some_iff.1 K4.out.2).1]; exact K4.out.2⟩
  have p6 : PartAt w6 (.slice (some ⟨w4.heap.size, 0, none⟩) 4 4) S4 := ⟨some ⟨w4.heap.size, 0, none⟩, w4.heap.size, 0, 4, by rw [hS4], by omega, by omega, fun _ => rfl, range_of_block kb, (Array.getElem?_eq_some_iff.1 kb).1, fun h => by cases h⟩
  have EQ : Hid (Calls Tryd.prog 67 #[.slice (some ⟨w4.heap.size, 0, none⟩) 4 4, .slice (some ⟨b, o + 6, none⟩) 4 (cp - 6)] w6.drew fun e w' => e = .returned (.bool false) ∧ w' = w6.drew) := by
    have q := equal_any _ _ S4 Q4 w6.drew (p6.below ((Below.refl _ _).drew)) (P4.out _ K6.out.1)
    rw [str_neF S4 Q4 HSB.out HB4.out heq] at q
    exact q
  have BD6 : Hid (Below w.heap.size w w6.drew) := K6.out.1
  have CL6 : Hid (Calls Tryd.prog 68 #[.slice (some ⟨b, o + 10, none⟩) M (cp - 10)] w6.drew fun e w' => ∃ av n c, e = .returned (.slice av n c) ∧ PartAt w' (.slice av n c) ((bs.drop 10).take M) ∧ (Below w.heap.size w w' ∧ w'.heap[w.heap.size]? = some (.cells #[.int .u8 0, .slice none 0 0] 46))) := CL.out _ K6.out
  clear bb kb p6 K4 CL P4 heq HSB HB4
  refine wp_region_noPanic ?_
  refine wp_region_held_drew (S := fun w' => Below w.heap.size w w') (by kernel_rfl) (BD6.out) (fun hHeld => ?_)
  try simp only [Act.put, List.setIfInBounds_toArray, List.set_cons_zero, List.set_cons_succ]
  refine wpAnyH_take (i := 0) (oi := ⟨some 39, .slice 105 (.tmp 10) none none none, 22, "frame.go:62", #[], none⟩) (v := ?_) rfl (by kernel_rfl) (by kernel_rfl) (by kernel_rfl) (fun _ _ _ h => h) (Or.inl ⟨by rfl, ?_⟩) hHeld ?_
  rotate_left 1
  · (intro wq hSq; (try dsimp only at hSq); go_simp; first | done | with_reducible rfl)
  try simp only [Act.put, List.setIfInBounds_toArray, List.set_cons_zero, List.set_cons_succ]
  refine wpAnyH_take (i := 1) (oi := ⟨some 40, .move (.tmp 0), 22, "frame.go:62", #[], none⟩) (v := ?_) rfl (by kernel_rfl) (by kernel_rfl) (by kernel_rfl) (fun _ _ _ h => h) (Or.inl ⟨by rfl, ?_⟩) hHeld ?_
  rotate_left 1
  · (intro wq hSq; (try dsimp only at hSq); go_simp; first | done | with_reducible rfl)
  try simp only [Act.put, List.setIfInBounds_toArray, List.set_cons_zero, List.set_cons_succ]
  refine wpAnyH_take (i := 2) (oi := ⟨some 41, .slice 22 (.tmp 40) (some (.const (.int .i64 6))) (some (.const (.int .i64 10))) none, 22, "frame.go:62", #[⟨1, .data⟩], none⟩) (v := ?_) rfl (by kernel_rfl) (by kernel_rfl) (by kernel_rfl) (fun _ _ _ h => h) (Or.inl ⟨by rfl, ?_⟩) hHeld ?_
  rotate_left 1
  · (intro wq hSq; (try dsimp only at hSq); go_simp; first | done | with_reducible rfl)
  try simp only [Act.put, List.setIfInBounds_toArray, List.set_cons_zero, List.set_cons_succ]
  refine wpAnyH_ready (rs := [3]) (by kernel_rfl) (by simp) ?_
  refine AllReadyH.cons (o := ⟨some 42, .call ⟨.value (.func 67), #[.tmp 39, .tmp 41], #[22, 22]⟩, 4, "frame.go:62", #[⟨0, .data⟩, ⟨2, .data⟩], none⟩) rfl (fun K hK => ?_) AllReadyH.nil
  go_simp
  refine EQ.out.mono ?_
  rintro e w7 ⟨rfl, h7⟩
  subst h7
  refine hK.out _ _ (BD6.out) (fun hHeld1 => ?_)
  clear hK K hHeld
  try simp only [Act.put, List.setIfInBounds_toArray, List.set_cons_zero, List.set_cons_succ]
  refine wpAnyH_take (i := 4) (oi := ⟨some 43, .unOp .not 4 (.tmp 42), 4, "frame.go:62", #[⟨3, .data⟩], none⟩) (v := ?_) rfl (by kernel_rfl) (by kernel_rfl) (by kernel_rfl) (fun _ _ _ h => h) (Or.inl ⟨by rfl, ?_⟩) hHeld1 ?_
  rotate_left 1
  · (intro wq hSq; (try dsimp only at hSq); go_simp; first | done | with_reducible rfl)
  try simp only [Act.put, List.setIfInBounds_toArray, List.set_cons_zero, List.set_cons_succ]
  refine wpAnyH_done (by kernel_rfl) ?_ _
  refine NoPanic.normal ?_
  clear CL6 EQ
  go_wp2_with (first | (refine store61 rfl _ _ rfl w.heap.size (.int .u8 0) (.slice none 0 0) rfl rfl (one61 _ _ _ _) (.int .u8 0) (.slice none 0 0) K6.out.2 ?_))
  exact dec_end rfl rfl rfl (setRow_same K6.out.2) ⟨rfl, below_setRow BD6.out (Nat.le_refl _) _⟩
end Go.Proofs.YtnpjknnalekdpaaDoor
