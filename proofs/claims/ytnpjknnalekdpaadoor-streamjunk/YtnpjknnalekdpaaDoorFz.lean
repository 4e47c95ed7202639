import Derived.Test.YtnpjknnalekdpaaDoorFw
import Derived.Test.YtnpjknnalekdpaaDoorFr
namespace Go.Proofs.YtnpjknnalekdpaaDoor
set_option linter.unusedSimpArgs false
set_option linter.unusedVariables false
open Go.RowKit
set_option maxHeartbeats 1000000 in
set_option maxRecDepth 100000 in
theorem bclone_setT (x : Value) (l : List Int) (w : World) (g : Nat) (hg : g < w.heap.size) (hp : PartAt w x l) (hl : l.length ≤ 1000000000) : Calls Tryd.prog 68 #[x] w fun e w' => ∃ av n c, e = .returned (.slice av n c) ∧ (∀ cs, OwnB (w'.setRow g cs) w.heap.size (.slice av n c) l) ∧ Below w.heap.size w w' := by
  have hp0 := hp
  obtain ⟨av, b, o, cp, rfl, q1, q2, q3, q4, q5, q6⟩ := hp
  cases av with
  | none =>
    have h0 : l.length = 0 := by
      rcases Nat.eq_zero_or_pos l.length with h | h
      · exact h
      · have := q3 h; cases this
    have hc := q6 rfl
    subst hc
    have hl0 : l = [] := List.eq_nil_of_length_eq_zero h0
    subst hl0
    have P0 : Hid (∀ cs, OwnB (w.setRow g cs) w.heap.size (.slice none 0 0) []) := fun cs => ⟨rfl, Or.inl ⟨rfl, rfl⟩⟩
    clear q1 q3 q4 hp0 q6 h0
    rw [List.length_nil]
    have heq := eqnil_none w
    go_enter Tryd.func68, Tryd.ntmps68
    go_wp2
    go_ret
    exact ⟨_, _, _, rfl, P0.out, Below.refl _ _⟩
  | some a =>
    have E5 : Hid (PartAt (w.alloc (.cells #[] 5)) (.slice (some a) l.length cp) l ∧ OwnB (w.alloc (.cells #[] 5)) w.heap.size (.slice (some ⟨w.heap.size, 0, none⟩) 0 0) []) :=
      ⟨hp0.below ((Below.refl _ _).alloc (Nat.le_refl _) _), ⟨rfl, Or.inr ⟨w.heap.size, 0, #[], rfl, Nat.le_refl _, heap_alloc_new _ _, Nat.le_refl _, by unfold maxLen; omega, rfl, rfl⟩⟩⟩
    have B1 : Hid (Below w.heap.size w (w.alloc (.cells #[] 5))) := (Below.refl _ _).alloc (Nat.le_refl _) _
    clear q1 q3 q4 hp0 q6
    have heq := eqnil_some a l.length cp w
    go_enter Tryd.func68, Tryd.ntmps68
    go_wp2_with (first | (at_builtin; refine appendB rfl _ _ rfl w.heap.size _ [] rfl E5.out.2 _ l rfl E5.out.1 (by simp; omega) (by simp) ?_; intro v6 w6 o6 g6 d6))
    go_ret
    have b6 : Below w.heap.size w w6 := B1.out.grown g6 B1.out.size (fun k hk => by injection hk with hk; subst hk; exact Nat.le_refl _)
    have hz : 0 < w6.heap.size := by have := g6.size; simp at this; omega
    obtain ⟨av', b', o', cp', e', _⟩ := OwnB.partG o6 hz
    subst e'
    exact ⟨_, _, _, rfl, fun cs => by simpa using own_setRow o6 hg cs, b6⟩
set_option maxHeartbeats 1000000 in
set_option maxRecDepth 100000 in
theorem decode_ok_aT (b o L cp : Nat) (bs : List Int) (x3 x4 x5 : Int) (M : Nat) (w : World) (hp : PartAt w (.slice (some ⟨b, o, none⟩) L cp) bs) (hL : bs.length = L) (hb : Bytes bs) (h : beginsB bs = true) (hl : 10 ≤ L) (h3 : gi bs 3 = x3) (h4 : gi bs 4 = x4) (h5 : gi bs 5 = x5) (hM : x4 * 256 + x5 = (M : Int)) (hM1 : M ≤ 1000) (hLd : Laid w) (hs : 10 + M ≤ L) (hc10 : ¬ cp = 10) (heq : (hashOf ([x3, x4, x5] ++ (bs.drop 10).take M)).take 4 = (bs.drop 6).take 4) : Calls Tryd.prog 32 #[.slice (some ⟨b, o, none⟩) L cp] w fun e w' => ∃ u, e = .returned (.tuple #[.agg #[.int .u8 x3, u], .int .i64 (10 + (M : Int)), .int .i64 0]) ∧ OwnB w' w.heap.size u ((bs.drop 10).take M) ∧ Below w.heap.size w w' := by
  have b1 : Below w.heap.size w (w.alloc (.cells #[.int .u8 0, .slice none 0 0] 46)) := (Below.refl _ _).alloc (Nat.le_refl _) _
  have BG : Hid (Calls Tryd.prog 35 #[.slice (some ⟨b, o, none⟩) L cp] (w.alloc (.cells #[.int .u8 0, .slice none 0 0] 46)) fun e w' => e = .returned (.bool true) ∧ Below w.heap.size w w' ∧ w'.heap[w.heap.size]? = some (.cells #[.int .u8 0, .slice none 0 0] 46)) := by
    have q := begins_any _ bs _ (hp.below b1) hb
    rw [h] at q
    exact q.mono fun e w' ⟨r1, r2⟩ => ⟨r1, b1.trans (r2.mono (by simp)), by rw [r2.block _ (by simp)]; exact heap_alloc_new _ _⟩
  have hr : w.rangeAt b o (vB bs).toList ∧ b < w.heap.size ∧ L ≤ cp ∧ cp ≤ 9223372036854775807 := by
    obtain ⟨av, b', o', cp', e, q1, q2, q3, q4, q5, q6⟩ := hp
    have q3' := q3 (by omega)
    rw [hL] at e q1
    injection e with e1 e2 e3
    rw [← e1] at q3'
    injection q3' with q3'
    injection q3' with q3a q3b
    subst q3a q3b e3
    exact ⟨q4, q5, q1, q2⟩
  obtain ⟨hr, hbl, hcp, h63⟩ := hr
  have LAB : Hid (∀ W, Below w.heap.size w W → PartAt W (.slice (some ⟨b, o + 3, none⟩) 3 (cp - 3)) [x3, x4, x5]) := fun W q => by
    have := (sub_part hL hcp h63 hr hbl 3 3 (by omega)).below q
    rw [three_at bs (by omega), h3, h4, h5] at this; exact this
  have hby : Bytes [x3, x4, x5] := fun y hy => by
    rw [← h3, ← h4, ← h5, ← three_at bs (by omega)] at hy
    exact hb y (List.mem_of_mem_drop (List.mem_of_mem_take hy))
  have LB : Hid (∀ W, (Below w.heap.size w W ∧ W.heap[w.heap.size]? = some (.cells #[.int .u8 0, .slice none 0 0] 46)) → Calls Tryd.prog 66 #[.slice (some ⟨b, o + 3, none⟩) 3 (cp - 3)] W fun e w' => e = .returned (.tuple #[.int .u8 x3, .int .i64 M]) ∧ (Below w.heap.size w w' ∧ w'.heap[w.heap.size]? = some (.cells #[.int .u8 0, .slice none 0 0] 46))) := fun W q => by
    have r := label_any _ x3 x4 x5 W (LAB.out W q.1) hby
    rw [hM] at r
    exact r.mono fun e w' ⟨r1, r2⟩ => ⟨r1, q.1.trans (r2.mono q.1.size), by rw [r2.block _ (Array.getElem?_eq_some_iff.1 q.2).1]; exact q.2⟩
  have hli : ¬ (L : Int) < 10 := by omega
  have g1 : (6 : Int) ≤ (cp : Int) := by omega
  have g2 : (10 : Int) ≤ (cp : Int) := by omega
  have g3 : ¬ cp = 3 := by omega
  have g4 : ¬ cp = 6 := by omega
  have g5 : (10 : Int) ≤ (L : Int) := by omega
  have h2 := hLd.two
  have hsi : ¬ (L : Int) < 10 + (M : Int) := by omega
  have BODY : Hid (∀ W, Below w.heap.size w W → PartAt W (.slice (some ⟨b, o + 10, none⟩) M (cp - 10)) ((bs.drop 10).take M)) := fun W q => (sub_part hL hcp h63 hr hbl 10 M hs).below q
  have g6 : (10 : Int) ≤ 10 + (M : Int) := by omega
  have g7 : 10 + (M : Int) ≤ (cp : Int) := by omega
  have g8 : (10 + (M : Int)).toNat - 10 = M := by omega
  have hbl4 : ((bs.drop 10).take M).length ≤ 1000 := by simp; omega
  have SO : Hid (∀ W, (Below w.heap.size w W ∧ W.heap[w.heap.size]? = some (.cells #[.int .u8 0, .slice none 0 0] 46)) → Calls Tryd.prog 63 #[.slice (some ⟨b, o + 3, none⟩) 3 (cp - 3), .slice (some ⟨b, o + 10, none⟩) M (cp - 10)] W fun e w' => e = .returned (.agg (vB ((hashOf ([x3, x4, x5] ++ (bs.drop 10).take M)).take 4))) ∧ (Below w.heap.size w w' ∧ w'.heap[w.heap.size]? = some (.cells #[.int .u8 0, .slice none 0 0] 46))) := fun W q =>
    (sumOf_any _ _ [x3, x4, x5] ((bs.drop 10).take M) W (hLd.below q.1 h2) (LAB.out W q.1) (BODY.out W q.1) (by simp; omega)).mono fun e w' ⟨r1, r2⟩ => ⟨r1, q.1.trans (r2.mono q.1.size), by rw [r2.block _ (Array.getElem?_eq_some_iff.1 q.2).1]; exact q.2⟩
  have P4 : Hid (∀ W, Below w.heap.size w W → PartAt W (.slice (some ⟨b, o + 6, none⟩) 4 (cp - 6)) ((bs.drop 6).take 4)) := fun W q => (sub_part hL hcp h63 hr hbl 6 4 (by omega)).below q
  have hS4 : ((hashOf ([x3, x4, x5] ++ (bs.drop 10).take M)).take 4).length = 4 := by rw [List.length_take, hashOf_length]; rfl
  have HSB : Hid (Bytes ((hashOf ([x3, x4, x5] ++ (bs.drop 10).take M)).take 4)) := fun y hy => hashOf_bytes _ y (List.mem_of_mem_take hy)
  have HB4 : Hid (Bytes ((bs.drop 6).take 4)) := fun y hy => hb y (List.mem_of_mem_drop (List.mem_of_mem_take hy))
  have HEQ : Hid ((hashOf ([x3, x4, x5] ++ (bs.drop 10).take M)).take 4 = (bs.drop 6).take 4) := heq
  clear heq
  generalize (hashOf ([x3, x4, x5] ++ (bs.drop 10).take M)).take 4 = S4 at *
  generalize hQ4 : (bs.drop 6).take 4 = Q4 at *
  have CL : Hid (∀ W, (Below w.heap.size w W ∧ W.heap[w.heap.size]? = some (.cells #[.int .u8 0, .slice none 0 0] 46)) → Calls Tryd.prog 68 #[.slice (some ⟨b, o + 10, none⟩) M (cp - 10)] W fun e w' => ∃ av n c, e = .returned (.slice av n c) ∧ (∀ cs, OwnB (w'.setRow w.heap.size cs) w.heap.size (.slice av n c) ((bs.drop 10).take M)) ∧ (Below w.heap.size w w' ∧ w'.heap[w.heap.size]? = some (.cells #[.int .u8 0, .slice none 0 0] 46))) := fun W q =>
    (bclone_setT _ ((bs.drop 10).take M) W w.heap.size (Array.getElem?_eq_some_iff.1 q.2).1 (BODY.out W q.1) (by omega)).mono fun e w' ⟨av, n, c, r1, r2, r3⟩ =>
      ⟨av, n, c, r1, fun cs => (r2 cs).lower q.1.size, q.1.trans (r3.mono q.1.size), by rw [r3.block _ (Array.getElem?_eq_some_iff.1 q.2).1]; exact q.2⟩
  clear b1 LAB hr hp hb hby h3 h4 h5 hM h BODY hQ4 h63 hcp hbl hL hl h2 hLd
  go_enter Tryd.func32, Tryd.ntmps32
  go_wp2_with fail
  refine BG.out.mono ?_
  rintro e w2 ⟨rfl, b2, k2⟩
  have LB2 : Hid (Calls Tryd.prog 66 #[.slice (some ⟨b, o + 3, none⟩) 3 (cp - 3)] w2 fun e w' => e = .returned (.tuple #[.int .u8 x3, .int .i64 M]) ∧ (Below w.heap.size w w' ∧ w'.heap[w.heap.size]? = some (.cells #[.int .u8 0, .slice none 0 0] 46))) := LB.out w2 ⟨b2, k2⟩
  clear k2 BG LB b2
  go_wp2_with fail
  refine LB2.out.mono ?_
  rintro e w3 ⟨rfl, k3⟩
  have SO3 : Hid (Calls Tryd.prog 63 #[.slice (some ⟨b, o + 3, none⟩) 3 (cp - 3), .slice (some ⟨b, o + 10, none⟩) M (cp - 10)] w3 fun e w' => e = .returned (.agg (vB S4)) ∧ (Below w.heap.size w w' ∧ w'.heap[w.heap.size]? = some (.cells #[.int .u8 0, .slice none 0 0] 46))) := SO.out w3 k3
  clear k3 SO LB2
  go_wp2_with fail
  refine SO3.out.mono ?_
  rintro e w4 ⟨rfl, k4⟩
  have K4 : Hid (Below w.heap.size w w4 ∧ w4.heap[w.heap.size]? = some (.cells #[.int .u8 0, .slice none 0 0] 46)) := k4
  clear k4 SO3
  go_wp2_with (first | (refine store96 rfl _ _ rfl w4.heap.size S4 rfl rfl hS4 (zs 4) rfl (heap_alloc_new _ _) ?_))
  have bb : Below w4.heap.size w4 ((w4.alloc (Obj.cells #[.int .u8 0, .int .u8 0, .int .u8 0, .int .u8 0] 105)).setRow w4.heap.size (vB S4)) := below_setRow ((Below.refl _ _).alloc (Nat.le_refl _) _) (Nat.le_refl _) _
  have kb : ((w4.alloc (Obj.cells #[.int .u8 0, .int .u8 0, .int .u8 0, .int .u8 0] 105)).setRow w4.heap.size (vB S4)).heap[w4.heap.size]? = some (.cells (vB S4) 105) := setRow_same (w := w4.alloc (Obj.cells #[.int .u8 0, .int .u8 0, .int .u8 0, .int .u8 0] 105)) (heap_alloc_new _ _)
  obtain ⟨w6, hw6⟩ : ∃ W, W = (w4.alloc (Obj.cells #[.int .u8 0, .int .u8 0, .int .u8 0, .int .u8 0] 105)).setRow w4.heap.size (vB S4) := ⟨_, rfl⟩
  rw [← hw6] at bb kb ⊢
  clear hw6
  have K6 : Hid (Below w.heap.size w w6.drew ∧ w6.drew.heap[w.heap.size]? = some (.cells #[.int .u8 0, .slice none 0 0] 46)) := ⟨(K4.out.1.trans (bb.mono K4.out.1.size)).drew, by show w6.heap[w.heap.size]? = _; rw [bb.block _ (Array.getElem?_eq_some_iff.1 K4.out.2).1]; exact K4.out.2⟩
  have p6 : PartAt w6 (.slice (some ⟨w4.heap.size, 0, none⟩) 4 4) S4 := ⟨some ⟨w4.heap.size, 0, none⟩, w4.heap.size, 0, 4, by rw [hS4], by omega, by omega, fun _ => rfl, range_of_block kb, (Array.getElem?_eq_some_iff.1 kb).1, fun h => by cases h⟩
  have EQ : Hid (Calls Tryd.prog 67 #[.slice (some ⟨w4.heap.size, 0, none⟩) 4 4, .slice (some ⟨b, o + 6, none⟩) 4 (cp - 6)] w6.drew fun e w' => e = .returned (.bool true) ∧ w' = w6.drew) := by
    have q := equal_any _ _ S4 Q4 w6.drew (p6.below ((Below.refl _ _).drew)) (P4.out _ K6.out.1)
    rw [show ((strOfNums S4).toList == (strOfNums Q4).toList) = true by rw [HEQ.out]; simp] at q
    exact q
  have BD6 : Hid (Below w.heap.size w w6.drew) := K6.out.1
  have CL6 : Hid (Calls Tryd.prog 68 #[.slice (some ⟨b, o + 10, none⟩) M (cp - 10)] w6.drew fun e w' => ∃ av n c, e = .returned (.slice av n c) ∧ (∀ cs, OwnB (w'.setRow w.heap.size cs) w.heap.size (.slice av n c) ((bs.drop 10).take M)) ∧ (Below w.heap.size w w' ∧ w'.heap[w.heap.size]? = some (.cells #[.int .u8 0, .slice none 0 0] 46))) := CL.out _ K6.out
  clear bb kb p6 K4 CL P4 HEQ HSB HB4
  refine wp_region_noPanic ?_
  refine wp_region_held_drew (S := fun w' => Below w.heap.size w w') (by kernel_rfl) (BD6.out) (fun hHeld => ?_)
  try simp only [Act.put, List.setIfInBounds_toArray, List.set_cons_zero, List.set_cons_succ]
  refine wpAnyH_take (i := 0) (oi := ⟨some 39, .slice 105 (.tmp 10) none none none, 22, "frame.go:62", #[], none⟩) (v := ?_) rfl (by kernel_rfl) (by kernel_rfl) (by kernel_rfl) (fun _ _ _ h => h) (Or.inl ⟨by rfl, ?_⟩) hHeld ?_
  rotate_left 1
  · (intro wq hSq; (try dsimp only at hSq); go_simp; first | done | with_reducible rfl)
  try simp only [Act.put, List.setIfInBounds_toArray, List.set_cons_zero, List.set_cons_succ]
  refine wpAnyH_take (i := 1) (oi := ⟨some 40, .move (.tmp 0), 22, "frame.go:62", #[], none⟩) (v := ?_) rfl (by kernel_rfl) (by kernel_rfl) (by kernel_rfl) (fun _ _ _ h => h) (Or.inl ⟨by rfl, ?_⟩) hHeld ?_
  rotate_left 1
  · (intro wq hSq; (try dsimp only at hSq); go_simp; first | done | with_reducible rfl)
  try simp only [Act.put, List.setIfInBounds_toArray, List.set_cons_zero, List.set_cons_succ]
  refine wpAnyH_take (i := 2) (oi := ⟨some 41, .slice 22 (.tmp 40) (some (.const (.int .i64 6))) (some (.const (.int .i64 10))) none, 22, "frame.go:62", #[⟨1, .data⟩], none⟩) (v := ?_) rfl (by kernel_rfl) (by kernel_rfl) (by kernel_rfl) (fun _ _ _ h => h) (Or.inl ⟨by rfl, ?_⟩) hHeld ?_
  rotate_left 1
  · (intro wq hSq; (try dsimp only at hSq); go_simp; first | done | with_reducible rfl)
  try simp only [Act.put, List.setIfInBounds_toArray, List.set_cons_zero, List.set_cons_succ]
  refine wpAnyH_ready (rs := [3]) (by kernel_rfl) (by simp) ?_
  refine AllReadyH.cons (o := ⟨some 42, .call ⟨.value (.func 67), #[.tmp 39, .tmp 41], #[22, 22]⟩, 4, "frame.go:62", #[⟨0, .data⟩, ⟨2, .data⟩], none⟩) rfl (fun K hK => ?_) AllReadyH.nil
  go_simp
  refine EQ.out.mono ?_
  rintro e w7 ⟨rfl, h7⟩
  subst h7
  refine hK.out _ _ (BD6.out) (fun hHeld1 => ?_)
  clear hK K hHeld
  try simp only [Act.put, List.setIfInBounds_toArray, List.set_cons_zero, List.set_cons_succ]
  refine wpAnyH_take (i := 4) (oi := ⟨some 43, .unOp .not 4 (.tmp 42), 4, "frame.go:62", #[⟨3, .data⟩], none⟩) (v := ?_) rfl (by kernel_rfl) (by kernel_rfl) (by kernel_rfl) (fun _ _ _ h => h) (Or.inl ⟨by rfl, ?_⟩) hHeld1 ?_
  rotate_left 1
  · (intro wq hSq; (try dsimp only at hSq); go_simp; first | done | with_reducible rfl)
  try simp only [Act.put, List.setIfInBounds_toArray, List.set_cons_zero, List.set_cons_succ]
  refine wpAnyH_done (by kernel_rfl) ?_ _
  refine NoPanic.normal ?_
  go_wp2_with fail
  refine CL6.out.mono ?_
  rintro e w8 ⟨av8, n8, c8, rfl, p8, b8, k8⟩
  have K8 : Hid (w8.heap[w.heap.size]? = some (.cells #[.int .u8 0, .slice none 0 0] 46)) := k8
  clear k8 CL6 K6 EQ
  go_wp2_with (first | (refine store61 rfl _ _ rfl w.heap.size (.int .u8 x3) (.slice av8 n8 c8) rfl rfl (one61 _ _ _ _) (.int .u8 0) (.slice none 0 0) K8.out ?_))
  refine dec_end rfl rfl rfl (setRow_same K8.out) ⟨_, rfl, ?_, below_setRow b8 (Nat.le_refl _) _⟩
  exact p8 _
set_option maxHeartbeats 1000000 in
set_option maxRecDepth 100000 in
theorem decode_ok_bT (b o L : Nat) (bs : List Int) (x3 x4 x5 : Int) (M : Nat) (w : World) (hp : PartAt w (.slice (some ⟨b, o, none⟩) L 10) bs) (hL : bs.length = L) (hb : Bytes bs) (h : beginsB bs = true) (hl : 10 ≤ L) (h3 : gi bs 3 = x3) (h4 : gi bs 4 = x4) (h5 : gi bs 5 = x5) (hM : x4 * 256 + x5 = (M : Int)) (hM1 : M ≤ 1000) (hLd : Laid w) (hs : 10 + M ≤ L) (heq : (hashOf ([x3, x4, x5] ++ (bs.drop 10).take M)).take 4 = (bs.drop 6).take 4) : Calls Tryd.prog 32 #[.slice (some ⟨b, o, none⟩) L 10] w fun e w' => ∃ u, e = .returned (.tuple #[.agg #[.int .u8 x3, u], .int .i64 (10 + (M : Int)), .int .i64 0]) ∧ OwnB w' w.heap.size u ((bs.drop 10).take M) ∧ Below w.heap.size w w' := by
  have b1 : Below w.heap.size w (w.alloc (.cells #[.int .u8 0, .slice none 0 0] 46)) := (Below.refl _ _).alloc (Nat.le_refl _) _
  have BG : Hid (Calls Tryd.prog 35 #[.slice (some ⟨b, o, none⟩) L 10] (w.alloc (.cells #[.int .u8 0, .slice none 0 0] 46)) fun e w' => e = .returned (.bool true) ∧ Below w.heap.size w w' ∧ w'.heap[w.heap.size]? = some (.cells #[.int .u8 0, .slice none 0 0] 46)) := by
    have q := begins_any _ bs _ (hp.below b1) hb
    rw [h] at q
    exact q.mono fun e w' ⟨r1, r2⟩ => ⟨r1, b1.trans (r2.mono (by simp)), by rw [r2.block _ (by simp)]; exact heap_alloc_new _ _⟩
  have hr : w.rangeAt b o (vB bs).toList ∧ b < w.heap.size ∧ L ≤ 10 ∧ 10 ≤ 9223372036854775807 := by
    obtain ⟨av, b', o', cp', e, q1, q2, q3, q4, q5, q6⟩ := hp
    have q3' := q3 (by omega)
    rw [hL] at e q1
    injection e with e1 e2 e3
    rw [← e1] at q3'
    injection q3' with q3'
    injection q3' with q3a q3b
    subst q3a q3b e3
    exact ⟨q4, q5, q1, q2⟩
  obtain ⟨hr, hbl, hcp, h63⟩ := hr
  have LAB : Hid (∀ W, Below w.heap.size w W → PartAt W (.slice (some ⟨b, o + 3, none⟩) 3 7) [x3, x4, x5]) := fun W q => by
    have := (sub_part hL hcp h63 hr hbl 3 3 (by omega)).below q
    rw [three_at bs (by omega), h3, h4, h5] at this; exact this
  have hby : Bytes [x3, x4, x5] := fun y hy => by
    rw [← h3, ← h4, ← h5, ← three_at bs (by omega)] at hy
    exact hb y (List.mem_of_mem_drop (List.mem_of_mem_take hy))
  have LB : Hid (∀ W, (Below w.heap.size w W ∧ W.heap[w.heap.size]? = some (.cells #[.int .u8 0, .slice none 0 0] 46)) → Calls Tryd.prog 66 #[.slice (some ⟨b, o + 3, none⟩) 3 7] W fun e w' => e = .returned (.tuple #[.int .u8 x3, .int .i64 M]) ∧ (Below w.heap.size w w' ∧ w'.heap[w.heap.size]? = some (.cells #[.int .u8 0, .slice none 0 0] 46))) := fun W q => by
    have r := label_any _ x3 x4 x5 W (LAB.out W q.1) hby
    rw [hM] at r
    exact r.mono fun e w' ⟨r1, r2⟩ => ⟨r1, q.1.trans (r2.mono q.1.size), by rw [r2.block _ (Array.getElem?_eq_some_iff.1 q.2).1]; exact q.2⟩
  have hli : ¬ (L : Int) < 10 := by omega
  have g5 : (10 : Int) ≤ (L : Int) := by omega
  have h2 := hLd.two
  have hsi : ¬ (L : Int) < 10 + (M : Int) := by omega
  have BODY : Hid (∀ W, Below w.heap.size w W → PartAt W (.slice (some ⟨b, o, none⟩) M 0) ((bs.drop 10).take M)) := fun W q => by
    have M0 : M = 0 := by omega
    subst M0
    rw [List.take_zero]; exact ⟨some ⟨b, o, none⟩, b, o, 0, rfl, by simp, by omega, fun _ => rfl, fun j u hu => by simp [vB] at hu, Nat.lt_of_lt_of_le hbl q.size, fun h => by cases h⟩
  have g6 : (10 : Int) ≤ 10 + (M : Int) := by omega
  have g7 : 10 + (M : Int) ≤ 10 := by omega
  have g8 : (10 + (M : Int)).toNat - 10 = M := by omega
  have hbl4 : ((bs.drop 10).take M).length ≤ 1000 := by simp; omega
  have SO : Hid (∀ W, (Below w.heap.size w W ∧ W.heap[w.heap.size]? = some (.cells #[.int .u8 0, .slice none 0 0] 46)) → Calls Tryd.prog 63 #[.slice (some ⟨b, o + 3, none⟩) 3 7, .slice (some ⟨b, o, none⟩) M 0] W fun e w' => e = .returned (.agg (vB ((hashOf ([x3, x4, x5] ++ (bs.drop 10).take M)).take 4))) ∧ (Below w.heap.size w w' ∧ w'.heap[w.heap.size]? = some (.cells #[.int .u8 0, .slice none 0 0] 46))) := fun W q =>
    (sumOf_any _ _ [x3, x4, x5] ((bs.drop 10).take M) W (hLd.below q.1 h2) (LAB.out W q.1) (BODY.out W q.1) (by simp; omega)).mono fun e w' ⟨r1, r2⟩ => ⟨r1, q.1.trans (r2.mono q.1.size), by rw [r2.block _ (Array.getElem?_eq_some_iff.1 q.2).1]; exact q.2⟩
  have P4 : Hid (∀ W, Below w.heap.size w W → PartAt W (.slice (some ⟨b, o + 6, none⟩) 4 4) ((bs.drop 6).take 4)) := fun W q => (sub_part hL hcp h63 hr hbl 6 4 (by omega)).below q
  have hS4 : ((hashOf ([x3, x4, x5] ++ (bs.drop 10).take M)).take 4).length = 4 := by rw [List.length_take, hashOf_length]; rfl
  have HSB : Hid (Bytes ((hashOf ([x3, x4, x5] ++ (bs.drop 10).take M)).take 4)) := fun y hy => hashOf_bytes _ y (List.mem_of_mem_take hy)
  have HB4 : Hid (Bytes ((bs.drop 6).take 4)) := fun y hy => hb y (List.mem_of_mem_drop (List.mem_of_mem_take hy))
  have HEQ : Hid ((hashOf ([x3, x4, x5] ++ (bs.drop 10).take M)).take 4 = (bs.drop 6).take 4) := heq
  clear heq
  generalize (hashOf ([x3, x4, x5] ++ (bs.drop 10).take M)).take 4 = S4 at *
  generalize hQ4 : (bs.drop 6).take 4 = Q4 at *
  have CL : Hid (∀ W, (Below w.heap.size w W ∧ W.heap[w.heap.size]? = some (.cells #[.int .u8 0, .slice none 0 0] 46)) → Calls Tryd.prog 68 #[.slice (some ⟨b, o, none⟩) M 0] W fun e w' => ∃ av n c, e = .returned (.slice av n c) ∧ (∀ cs, OwnB (w'.setRow w.heap.size cs) w.heap.size (.slice av n c) ((bs.drop 10).take M)) ∧ (Below w.heap.size w w' ∧ w'.heap[w.heap.size]? = some (.cells #[.int .u8 0, .slice none 0 0] 46))) := fun W q =>
    (bclone_setT _ ((bs.drop 10).take M) W w.heap.size (Array.getElem?_eq_some_iff.1 q.2).1 (BODY.out W q.1) (by omega)).mono fun e w' ⟨av, n, c, r1, r2, r3⟩ =>
      ⟨av, n, c, r1, fun cs => (r2 cs).lower q.1.size, q.1.trans (r3.mono q.1.size), by rw [r3.block _ (Array.getElem?_eq_some_iff.1 q.2).1]; exact q.2⟩
  clear b1 LAB hr hp hb hby h3 h4 h5 hM h BODY hQ4 h63 hcp hbl hL hl h2 hLd
  go_enter Tryd.func32, Tryd.ntmps32
  go_wp2_with fail
  refine BG.out.mono ?_
  rintro e w2 ⟨rfl, b2, k2⟩
  have LB2 : Hid (Calls Tryd.prog 66 #[.slice (some ⟨b, o + 3, none⟩) 3 7] w2 fun e w' => e = .returned (.tuple #[.int .u8 x3, .int .i64 M]) ∧ (Below w.heap.size w w' ∧ w'.heap[w.heap.size]? = some (.cells #[.int .u8 0, .slice none 0 0] 46))) := LB.out w2 ⟨b2, k2⟩
  clear k2 BG LB b2
  go_wp2_with fail
  refine LB2.out.mono ?_
  rintro e w3 ⟨rfl, k3⟩
  have SO3 : Hid (Calls Tryd.prog 63 #[.slice (some ⟨b, o + 3, none⟩) 3 7, .slice (some ⟨b, o, none⟩) M 0] w3 fun e w' => e = .returned (.agg (vB S4)) ∧ (Below w.heap.size w w' ∧ w'.heap[w.heap.size]? = some (.cells #[.int .u8 0, .slice none 0 0] 46))) := SO.out w3 k3
  clear k3 SO LB2
  go_wp2_with fail
  refine SO3.out.mono ?_
  rintro e w4 ⟨rfl, k4⟩
  have K4 : Hid (Below w.heap.size w w4 ∧ w4.heap[w.heap.size]? = some (.cells #[.int .u8 0, .slice none 0 0] 46)) := k4
  clear k4 SO3
  go_wp2_with (first | (refine store96 rfl _ _ rfl w4.heap.size S4 rfl rfl hS4 (zs 4) rfl (heap_alloc_new _ _) ?_))
  have bb : Below w4.heap.size w4 ((w4.alloc (Obj.cells #[.int .u8 0, .int .u8 0, .int .u8 0, .int .u8 0] 105)).setRow w4.heap.size (vB S4)) := below_setRow ((Below.refl _ _).alloc (Nat.le_refl _) _) (Nat.le_refl _) _
  have kb : ((w4.alloc (Obj.cells #[.int .u8 0, .int .u8 0, .int .u8 0, .int .u8 0] 105)).setRow w4.heap.size (vB S4)).heap[w4.heap.size]? = some (.cells (vB S4) 105) := setRow_same (w := w4.alloc (Obj.cells #[.int .u8 0, .int .u8 0, .int .u8 0, .int .u8 0] 105)) (heap_alloc_new _ _)
  obtain ⟨w6, hw6⟩ : ∃ W, W = (w4.alloc (Obj.cells #[.int .u8 0, .int .u8 0, .int .u8 0, .int .u8 0] 105)).setRow w4.heap.size (vB S4) := ⟨_, rfl⟩
  rw [← hw6] at bb kb ⊢
  clear hw6
  have K6 : Hid (Below w.heap.size w w6.drew ∧ w6.drew.heap[w.heap.size]? = some (.cells #[.int .u8 0, .slice none 0 0] 46)) := ⟨(K4.out.1.trans (bb.mono K4.out.1.size)).drew, by show w6.heap[w.heap.size]? = _; rw [bb.block _ (Array.getElem?_eq_some_iff.1 K4.out.2).1]; exact K4.out.2⟩
  have p6 : PartAt w6 (.slice (some ⟨w4.heap.size, 0, none⟩) 4 4) S4 := ⟨some ⟨w4.heap.size, 0, none⟩, w4.heap.size, 0, 4, by rw [hS4], by omega, by omega, fun _ => rfl, range_of_block kb, (Array.getElem?_eq_some_iff.1 kb).1, fun h => by cases h⟩
  have EQ : Hid (Calls Tryd.prog 67 #[.slice (some ⟨w4.heap.size, 0, none⟩) 4 4, .slice (some ⟨b, o + 6, none⟩) 4 4] w6.drew fun e w' => e = .returned (.bool true) ∧ w' = w6.drew) := by
    have q := equal_any _ _ S4 Q4 w6.drew (p6.below ((Below.refl _ _).drew)) (P4.out _ K6.out.1)
    rw [show ((strOfNums S4).toList == (strOfNums Q4).toList) = true by rw [HEQ.out]; simp] at q
    exact q
  have BD6 : Hid (Below w.heap.size w w6.drew) := K6.out.1
  have CL6 : Hid (Calls Tryd.prog 68 #[.slice (some ⟨b, o, none⟩) M 0] w6.drew fun e w' => ∃ av n c, e = .returned (.slice av n c) ∧ (∀ cs, OwnB (w'.setRow w.heap.size cs) w.heap.size (.slice av n c) ((bs.drop 10).take M)) ∧ (Below w.heap.size w w' ∧ w'.heap[w.heap.size]? = some (.cells #[.int .u8 0, .slice none 0 0] 46))) := CL.out _ K6.out
  clear bb kb p6 K4 CL P4 HEQ HSB HB4
  refine wp_region_noPanic ?_
  refine wp_region_held_drew (S := fun w' => Below w.heap.size w w') (by kernel_rfl) (BD6.out) (fun hHeld => ?_)
  try simp only [Act.put, List.setIfInBounds_toArray, List.set_cons_zero, List.set_cons_succ]
  refine wpAnyH_take (i := 0) (oi := ⟨some 39, .slice 105 (.tmp 10) none none none, 22, "frame.go:62", #[], none⟩) (v := ?_) rfl (by kernel_rfl) (by kernel_rfl) (by kernel_rfl) (fun _ _ _ h => h) (Or.inl ⟨by rfl, ?_⟩) hHeld ?_
  rotate_left 1
  · (intro wq hSq; (try dsimp only at hSq); go_simp; first | done | with_reducible rfl)
  try simp only [Act.put, List.setIfInBounds_toArray, List.set_cons_zero, List.set_cons_succ]
  refine wpAnyH_take (i := 1) (oi := ⟨some 40, .move (.tmp 0), 22, "frame.go:62", #[], none⟩) (v := ?_) rfl (by kernel_rfl) (by kernel_rfl) (by kernel_rfl) (fun _ _ _ h => h) (Or.inl ⟨by rfl, ?_⟩) hHeld ?_
  rotate_left 1
  · (intro wq hSq; (try dsimp only at hSq); go_simp; first | done | with_reducible rfl)
  try simp only [Act.put, List.setIfInBounds_toArray, List.set_cons_zero, List.set_cons_succ]
  refine wpAnyH_take (i := 2) (oi := ⟨some 41, .slice 22 (.tmp 40) (some (.const (.int .i64 6))) (some (.const (.int .i64 10))) none, 22, "frame.go:62", #[⟨1, .data⟩], none⟩) (v := ?_) rfl (by kernel_rfl) (by kernel_rfl) (by kernel_rfl) (fun _ _ _ h => h) (Or.inl ⟨by rfl, ?_⟩) hHeld ?_
  rotate_left 1
  · (intro wq hSq; (try dsimp only at hSq); go_simp; first | done | with_reducible rfl)
  try simp only [Act.put, List.setIfInBounds_toArray, List.set_cons_zero, List.set_cons_succ]
  refine wpAnyH_ready (rs := [3]) (by kernel_rfl) (by simp) ?_
  refine AllReadyH.cons (o := ⟨some 42, .call ⟨.value (.func 67), #[.tmp 39, .tmp 41], #[22, 22]⟩, 4, "frame.go:62", #[⟨0, .data⟩, ⟨2, .data⟩], none⟩) rfl (fun K hK => ?_) AllReadyH.nil
  go_simp
  refine EQ.out.mono ?_
  rintro e w7 ⟨rfl, h7⟩
  subst h7
  refine hK.out _ _ (BD6.out) (fun hHeld1 => ?_)
  clear hK K hHeld
  try simp only [Act.put, List.setIfInBounds_toArray, List.set_cons_zero, List.set_cons_succ]
  refine wpAnyH_take (i := 4) (oi := ⟨some 43, .unOp .not 4 (.tmp 42), 4, "frame.go:62", #[⟨3, .data⟩], none⟩) (v := ?_) rfl (by kernel_rfl) (by kernel_rfl) (by kernel_rfl) (fun _ _ _ h => h) (Or.inl ⟨by rfl, ?_⟩) hHeld1 ?_
  rotate_left 1
  · (intro wq hSq; (try dsimp only at hSq); go_simp; first | done | with_reducible rfl)
  try simp only [Act.put, List.setIfInBounds_toArray, List.set_cons_zero, List.set_cons_succ]
  refine wpAnyH_done (by kernel_rfl) ?_ _
  refine NoPanic.normal ?_
  go_wp2_with fail
  refine CL6.out.mono ?_
  rintro e w8 ⟨av8, n8, c8, rfl, p8, b8, k8⟩
  have K8 : Hid (w8.heap[w.heap.size]? = some (.cells #[.int .u8 0, .slice none 0 0] 46)) := k8
  clear k8 CL6 K6 EQ
  go_wp2_with (first | (refine store61 rfl _ _ rfl w.heap.size (.int .u8 x3) (.slice av8 n8 c8) rfl rfl (one61 _ _ _ _) (.int .u8 0) (.slice none 0 0) K8.out ?_))
  refine dec_end rfl rfl rfl (setRow_same K8.out) ⟨_, rfl, ?_, below_setRow b8 (Nat.le_refl _) _⟩
  exact p8 _
/-- Decode's answer, the body in memory of its own. -/
def DecO (r : Int × List Int × Int × Int) (w : World) (e : Ending) (w' : World) : Prop :=
  ∃ u, e = .returned (.tuple #[.agg #[.int .u8 r.1, u], .int .i64 r.2.2.1, .int .i64 r.2.2.2]) ∧ OwnB w' w.heap.size u r.2.1 ∧ Below w.heap.size w w'

theorem decode_anyT (v : Value) (bs : List Int) (w : World) (hLd : Laid w) (hp : PartAt w v bs) (hb : Bytes bs) : Calls Tryd.prog 32 #[v] w (DecO (decR bs) w) := by
  have h2 := hLd.two
  have fault : ∀ c : Int, Calls Tryd.prog 32 #[v] w (fun e w' => e = .returned (.tuple #[.agg #[.int .u8 0, .slice none 0 0], .int .i64 0, .int .i64 c]) ∧ Below w.heap.size w w') → Calls Tryd.prog 32 #[v] w (DecO (0, [], 0, c) w) := fun c q =>
    q.mono fun e w' ⟨r1, r2⟩ => ⟨_, r1, ⟨rfl, Or.inl ⟨rfl, rfl⟩⟩, r2⟩
  unfold decR
  by_cases h : beginsB bs = false
  · rw [if_pos h]; exact fault _ (decode_form v bs w hp hb h)
  rw [if_neg h]
  have h : beginsB bs = true := by simpa using h
  by_cases hl : bs.length < 10
  · rw [if_pos hl, if_pos (by omega)]; exact fault _ (decode_short v bs w hp hb h hl)
  rw [if_neg hl]
  have hM := lenD_le bs (by omega) h hb
  obtain ⟨av, b, o, cp, hv, q1, q2, q3, q4, q5, q6⟩ := hp
  have hav := q3 (by omega)
  subst hav
  subst hv
  have hp : PartAt w (.slice (some ⟨b, o, none⟩) bs.length cp) bs := ⟨_, b, o, cp, rfl, q1, q2, q3, q4, q5, q6⟩
  by_cases hs : bs.length < 10 + lenD bs
  · rw [if_pos hs]; exact fault _ (decode_short2 b o _ cp bs _ _ _ (lenD bs) w hp rfl hb h (by omega) rfl rfl rfl hM.1 hM.2 hs)
  rw [if_neg hs]
  by_cases heq : (hashOf ([gi bs 3, gi bs 4, gi bs 5] ++ (bs.drop 10).take (lenD bs))).take 4 = (bs.drop 6).take 4
  · rw [if_pos heq]
    by_cases hc : cp = 10
    · subst hc
      exact decode_ok_bT b o _ bs _ _ _ (lenD bs) w hp rfl hb h (by omega) rfl rfl rfl hM.1 hM.2 hLd (by omega) heq
    · exact decode_ok_aT b o _ cp bs _ _ _ (lenD bs) w hp rfl hb h (by omega) rfl rfl rfl hM.1 hM.2 hLd (by omega) hc heq
  · rw [if_neg heq]
    by_cases hc : cp = 10
    · subst hc
      exact fault _ (decode_sum_b b o _ bs _ _ _ (lenD bs) w hp rfl hb h (by omega) rfl rfl rfl hM.1 hM.2 hLd (by omega) heq)
    · exact fault _ (decode_sum_a b o _ cp bs _ _ _ (lenD bs) w hp rfl hb h (by omega) rfl rfl rfl hM.1 hM.2 hLd (by omega) hc heq)
end Go.Proofs.YtnpjknnalekdpaaDoor
