import Derived.Test.YtplihbncmmggjaaDoorJy
import Derived.Test.YtplihbncmmggjaaDoorHx
import Derived.Test.YtplihbncmmggjaaDoorGn
namespace Go.Proofs.YtplihbncmmggjaaDoor
set_option linter.unusedSimpArgs false
set_option linter.unusedVariables false
open Go.RowKit
theorem valList {ops : Array Oper} {rest : List Oper} {o : Oper} {a : Act} {w : World} {Q : Exit → Act → World → Prop} (hw : Region.wanted o (yielded ops a.tmps) = true) (v : Value) (hr : (execOp a.eval o).run Tryd.prog w = .ok (.value v) w) (h : wpList Tryd.prog ops Q rest (a.put o.dst v) w) : wpList Tryd.prog ops Q (o :: rest) a w := by
  unfold wpList
  rw [if_pos hw]
  exact Or.inl (by unfold Oper.wp; rw [hr]; exact h)
theorem eq65_self (m : Msg) (hm : m.Ok) (w : World) : (Op.equalIn 10000 65 (.agg (mC m).toArray) (.agg (mC m).toArray)).run Tryd.prog w = .ok true w := by
  have q := eq65_any 9996 m m hm hm w
  rw [(eqM_iff m m).2 rfl] at q
  exact q
/-- What was encoded is decoded. -/
theorem md_enc (m : Msg) (hm : m.Ok) (hf : formB m = true) : mdM (encB m.kind (bodyB m)) = m ∧ mdC (encB m.kind (bodyB m)) = 0 := by
  obtain ⟨f1, _⟩ := form_all hf
  have hbd := body_le m hm hf
  have q := dec_enc m.kind (by omega) (bodyB m) [] hbd.1
  rw [List.append_nil] at q
  have hl : (encB m.kind (bodyB m)).length = 10 + (bodyB m).length := by rw [encB_length]; omega
  obtain ⟨o1, o2⟩ := of_complete m hm hf
  unfold mdM mdC ofR ofC
  rw [q]
  simp only
  refine ⟨?_, ?_⟩
  · rw [if_pos trivial, if_neg (by rw [hl]; omega), if_pos ⟨o1, by rw [o2]; exact hf⟩, o2]
  · rw [if_pos trivial, if_neg (by rw [hl]; omega), if_pos ⟨o1, by rw [o2]; exact hf⟩]
theorem mdM0_ok : (mdM []).Ok := by
  unfold mdM
  split
  · split
    · exact msg0_ok
    · rename_i h1 h2
      have dk := decR_ok [] (fun x hx => by cases hx) h1
      exact ofR_ok _ dk.1 _ dk.2.1
  · exact msg0_ok
set_option maxHeartbeats 1000000 in
set_option maxRecDepth 100000 in
theorem menc_few (m : Msg) (hm : m.Ok) (hs : ¬ m.s.size ≤ 2000) (w : World) (hL : Laid w) : Calls Tryd.prog 10 #[.agg (mC m).toArray] w fun e w' => e = .returned (.bool true) ∧ Below w.heap.size w w' := by
  have hd : decide ((m.s.size : Int) ≤ 2000) = false := decide_eq_false (by omega)
  obtain ⟨w1, hw1⟩ : ∃ w1, w1 = w.alloc (.cells (mC m).toArray 65) := ⟨_, rfl⟩
  have b1 : Below w.heap.size w w1 := by rw [hw1]; exact (Below.refl _ _).alloc (Nat.le_refl _) _
  have g1 : BoxM 65 w1 w.heap.size m := by unfold BoxM; rw [hw1, heap_alloc_new]
  have G1 : Hid (∀ W, Below w1.heap.size w1 W → BoxM 65 W w.heap.size m) := fun W q => g1.below q
  have B1 : Hid (∀ W, Below w1.heap.size w1 W → Below w.heap.size w W) := fun W q => b1.trans (q.mono b1.size)
  have HM : Hid (m.Ok) := hm
  have AW : Hid (∀ W, Below w1.heap.size w1 W → Calls Tryd.prog 37 #[] W fun e w' => e = .returned (.bool true) ∧ Below w1.heap.size w1 w') := fun W q => (awake5_any W).mono fun e w' ⟨r1, r2⟩ => ⟨r1, q.trans (r2.mono q.size)⟩
  have FW : Hid (∀ W, Below w1.heap.size w1 W → Calls Tryd.prog 38 #[.agg (mC m).toArray] W fun e w' => e = .returned (.bool false) ∧ Below w1.heap.size w1 w') := fun W q => by
    have r := few5_any m hm W
    rw [hd] at r
    exact r.mono fun e w' ⟨r1, r2⟩ => ⟨r1, q.trans (r2.mono q.size)⟩
  have HW1 : Hid (w1 = w.alloc (.cells (mC m).toArray 65)) := hw1
  clear hm hs hL hd hw1 b1 g1
  go_enter Tryd.func10, Tryd.ntmps10
  go_wp2_with fail
  rw [← HW1.out]
  refine (AW.out _ (Below.refl _ _)).mono ?_
  rintro e w2 ⟨rfl, b2⟩
  have X2 : Hid (BoxM 65 w2 w.heap.size m) := G1.out _ b2
  go_wp2_with (first | (refine loadM65g rfl _ rfl w.heap.size rfl m HM.out X2.out ?_))
  refine (FW.out _ b2).mono ?_
  rintro e w3 ⟨rfl, b3⟩
  go_wp2_with fail
  refine (AW.out _ b3).mono ?_
  rintro e w4 ⟨rfl, b4⟩
  go_wp2
  go_ret
  exact ⟨rfl, B1.out _ b4⟩
set_option maxHeartbeats 2000000 in
set_option maxRecDepth 100000 in
theorem menc_no (m : Msg) (hm : m.Ok) (hs : m.s.size ≤ 2000) (hf : formB m = false) (w : World) (hL : Laid w) : Calls Tryd.prog 10 #[.agg (mC m).toArray] w fun e w' => e = .returned (.bool true) ∧ Below w.heap.size w w' := by
  have s0 := hL.two
  have hd : decide ((m.s.size : Int) ≤ 2000) = true := decide_eq_true (by omega)
  obtain ⟨w1, hw1⟩ : ∃ w1, w1 = w.alloc (.cells (mC m).toArray 65) := ⟨_, rfl⟩
  have b1 : Below w.heap.size w w1 := by rw [hw1]; exact (Below.refl _ _).alloc (Nat.le_refl _) _
  have s1 : w1.heap.size = w.heap.size + 1 := by rw [hw1]; simp
  have g1 : BoxM 65 w1 w.heap.size m := by unfold BoxM; rw [hw1, heap_alloc_new]
  have G1 : Hid (∀ W, Below w1.heap.size w1 W → BoxM 65 W w.heap.size m) := fun W q => g1.below q
  have B1 : Hid (∀ W, Below w1.heap.size w1 W → Below w.heap.size w W) := fun W q => b1.trans (q.mono b1.size)
  have HM : Hid (m.Ok) := hm
  have LW : Hid (∀ W, Below w1.heap.size w1 W → Laid W) := fun W q => (hL.below b1 s0).below q (by omega)
  have AW : Hid (Calls Tryd.prog 37 #[] w1 fun e w' => e = .returned (.bool true) ∧ Below w1.heap.size w1 w') := awake5_any w1
  have FW : Hid (∀ W, Below w1.heap.size w1 W → Calls Tryd.prog 38 #[.agg (mC m).toArray] W fun e w' => e = .returned (.bool true) ∧ Below w1.heap.size w1 w') := fun W q => by
    have r := few5_any m hm W
    rw [hd] at r
    exact r.mono fun e w' ⟨r1, r2⟩ => ⟨r1, q.trans (r2.mono q.size)⟩
  have hfa := hf
  have EN : Hid (∀ W, Below w1.heap.size w1 W → Calls Tryd.prog 39 #[.agg (mC m).toArray] W fun e w' => e = .returned (.tuple #[.slice none 0 0, .int .i64 1]) ∧ PartAt w' (.slice none 0 0) [] ∧ Below w1.heap.size w1 w') := fun W q => (mencode_no m hm hfa W).mono fun e w' ⟨r1, r2⟩ => ⟨r1, part_none w' (by have := q.size; have := r2.size; omega), q.trans (r2.mono q.size)⟩
  have WR : Hid (∀ W, Below w1.heap.size w1 W → Calls Tryd.prog 40 #[.agg (mC m).toArray] W fun e w' => e = .returned (.tuple #[.slice none 0 0, .int .i64 1]) ∧ PartAt w' (.slice none 0 0) [] ∧ Below w1.heap.size w1 w' ∧ Below W.heap.size W w') := fun W q => (rwrite_no m hm hfa W).mono fun e w' ⟨r1, r2⟩ => ⟨r1, part_none w' (by have := q.size; have := r2.size; omega), q.trans (r2.mono q.size), r2⟩
  have FM : Hid (∀ W, Calls Tryd.prog 41 #[.agg (mC m).toArray] W fun e w' => e = .returned (.bool false) ∧ Below W.heap.size W w') := fun W => by have q := formed_any m hm W; rw [hfa] at q; exact q
  have RM : Hid (∀ W, Calls Tryd.prog 42 #[.agg (mC m).toArray] W fun e w' => e = .returned (.bool false) ∧ Below W.heap.size W w') := fun W => by have q := rformed_any m hm W; rw [hfa] at q; exact q
  have DC : Hid (∀ W v, Below w1.heap.size w1 W → PartAt W v [] → Calls Tryd.prog 43 #[v] W fun e w' => e = .returned (.tuple #[.agg (mC (mdM [])).toArray, .int .i64 (mdC [])]) ∧ Below W.heap.size W w') := fun W v q p => mdec_any [] (fun x hx => by cases hx) (by simp) v W ((hL.below b1 s0).below q (by omega)) p
  clear hfa
  have HW1 : Hid (w1 = w.alloc (.cells (mC m).toArray 65)) := hw1
  clear hm hs hf hL s0 hd hw1 b1 s1 g1
  go_enter Tryd.func10, Tryd.ntmps10
  go_wp2_with fail
  rw [← HW1.out]
  refine AW.out.mono ?_
  rintro e w2 ⟨rfl, b2⟩
  have X2 : Hid (BoxM 65 w2 w.heap.size m) := G1.out _ b2
  go_wp2_with (first | (refine loadM65g rfl _ rfl w.heap.size rfl m HM.out X2.out ?_))
  refine (FW.out _ b2).mono ?_
  rintro e w3 ⟨rfl, b3⟩
  have X3 : Hid (BoxM 65 w3 w.heap.size m) := G1.out _ b3
  clear b2 X2 AW FW
  go_wp2_with (first | (refine loadM65 rfl _ rfl w.heap.size rfl m HM.out X3.out ?_))
  refine (EN.out _ b3).mono ?_
  rintro e w4 ⟨rfl, p4, b4⟩
  have X4 : Hid (BoxM 65 w4 w.heap.size m) := G1.out _ b4
  have P4 : Hid (PartAt w4 (.slice none 0 0) ([])) := p4
  clear b3 X3 p4 EN
  go_wp2_with (first | (refine loadM65 rfl _ rfl w.heap.size rfl m HM.out X4.out ?_))
  refine (WR.out _ b4).mono ?_
  rintro e w5 ⟨rfl, p5, b5, b45⟩
  have P45 : Hid (∀ W, Below w5.heap.size w5 W → PartAt W (.slice none 0 0) ([])) := fun W q => (P4.out.below b45).below q
  have P5 : Hid (∀ W, Below w5.heap.size w5 W → PartAt W (.slice none 0 0) ([])) := fun W q => p5.below q
  have G5 : Hid (∀ W, Below w5.heap.size w5 W → BoxM 65 W w.heap.size m) := fun W q => G1.out _ (b5.trans (q.mono b5.size))
  have B5 : Hid (∀ W, Below w5.heap.size w5 W → Below w1.heap.size w1 W) := fun W q => b5.trans (q.mono b5.size)
  have D5 : Hid (Below w5.heap.size w5 w5.drew) := (Below.refl _ _).drew
  obtain ⟨SB, hSB⟩ : ∃ S, S = strOfNums ([]) := ⟨_, rfl⟩
  have CA : Hid (∀ W, Below w5.heap.size w5 W → (convert 22 9 (.slice none 0 0)).run Tryd.prog W = .ok (.string SB) W) := fun W q => by rw [hSB]; exact run_conv (P45.out W q)
  have CB : Hid (∀ W, Below w5.heap.size w5 W → (convert 22 9 (.slice none 0 0)).run Tryd.prog W = .ok (.string SB) W) := fun W q => by rw [hSB]; exact run_conv (P5.out W q)
  have FA : Hid (∀ W, Below w5.heap.size w5 W → Calls Tryd.prog 41 #[.agg (mC m).toArray] W fun e w' => e = .returned (.bool false) ∧ Below w5.heap.size w5 w') := fun W q => (FM.out W).mono fun e w' ⟨r1, r2⟩ => ⟨r1, q.trans (r2.mono q.size)⟩
  have FB : Hid (∀ W, Below w5.heap.size w5 W → Calls Tryd.prog 42 #[.agg (mC m).toArray] W fun e w' => e = .returned (.bool false) ∧ Below w5.heap.size w5 w') := fun W q => (RM.out W).mono fun e w' ⟨r1, r2⟩ => ⟨r1, q.trans (r2.mono q.size)⟩
  clear b4 X4 p5 b5 b45 WR P4 hSB FM RM G1
  go_wp2_with fail
  refine wp_region_noPanic ?_
  refine wp_region_held_drew (S := fun w' => Below w5.heap.size w5 w') (by kernel_rfl) (D5.out) (fun hHeld => ?_)
  try simp only [Act.put, List.setIfInBounds_toArray, List.set_cons_zero, List.set_cons_succ]
  refine wpAnyH_take (i := 0) (oi := ⟨some 27, .load 65 (.tmp 1), 65, "law.go:26", #[], none⟩) (v := .agg (List.toArray (mC m))) rfl (by kernel_rfl) (by kernel_rfl) (by kernel_rfl) (fun _ _ _ h => h) (yieldsIf_load_mid rfl 65 _ rfl w.heap.size 0 rfl (mC m) _ (fun wq hSq => box_range (G5.out _ hSq)) Tryd.underlying65 rfl (by rw [size65, mC_length m HM.out])) hHeld ?_
  try simp only [Act.put, List.setIfInBounds_toArray, List.set_cons_zero, List.set_cons_succ]
  refine wpAnyH_take (i := 2) (oi := ⟨some 29, .load 65 (.tmp 1), 65, "law.go:26", #[], none⟩) (v := .agg (List.toArray (mC m))) rfl (by kernel_rfl) (by kernel_rfl) (by kernel_rfl) (fun _ _ _ h => h) (yieldsIf_load_mid rfl 65 _ rfl w.heap.size 0 rfl (mC m) _ (fun wq hSq => box_range (G5.out _ hSq)) Tryd.underlying65 rfl (by rw [size65, mC_length m HM.out])) hHeld ?_
  try simp only [Act.put, List.setIfInBounds_toArray, List.set_cons_zero, List.set_cons_succ]
  refine wpAnyH_ready (rs := [1]) (by kernel_rfl) (by simp) ?_
  refine AllReadyH.cons (o := ⟨some 28, .call ⟨.value (.func 41), #[.tmp 27], #[68]⟩, 4, "law.go:26", #[⟨0, .data⟩], none⟩) rfl (fun K hK => ?_) AllReadyH.nil
  go_simp
  refine (FA.out _ (by assumption)).mono ?_
  rintro e w6 ⟨rfl, b6⟩
  refine hK.out _ _ (b6) (fun hHeld1 => ?_)
  clear hK K hHeld
  try simp only [Act.put, List.setIfInBounds_toArray, List.set_cons_zero, List.set_cons_succ]
  refine wpAnyH_ready (rs := [3]) (by kernel_rfl) (by simp) ?_
  refine AllReadyH.cons (o := ⟨some 30, .call ⟨.value (.func 42), #[.tmp 29], #[65]⟩, 4, "law.go:26", #[⟨2, .data⟩, ⟨1, .chain⟩], none⟩) rfl (fun K hK => ?_) AllReadyH.nil
  go_simp
  refine (FB.out _ b6).mono ?_
  rintro e w7 ⟨rfl, b7⟩
  refine hK.out _ _ (b7) (fun hHeld2 => ?_)
  clear hK K hHeld1
  try simp only [Act.put, List.setIfInBounds_toArray, List.set_cons_zero, List.set_cons_succ]
  refine wpAnyH_take (i := 4) (oi := ⟨some 31, .binOp .neq 4 (.tmp 28) (.tmp 30) 4, 4, "law.go:26", #[⟨1, .data⟩, ⟨3, .data⟩], none⟩) (v := ?_) rfl (by kernel_rfl) (by kernel_rfl) (by kernel_rfl) (fun _ _ _ h => h) (Or.inl ⟨by rfl, ?_⟩) hHeld2 ?_
  rotate_left 1
  · (intro wq hSq; (try dsimp only at hSq); go_simp; first | done | with_reducible rfl)
  try simp only [Act.put, List.setIfInBounds_toArray, List.set_cons_zero, List.set_cons_succ]
  refine wpAnyH_take (i := 5) (oi := ⟨some 32, .move (.tmp 31), 4, "law.go:26", #[⟨4, .data⟩, ⟨3, .chain⟩], none⟩) (v := ?_) rfl (by kernel_rfl) (by kernel_rfl) (by kernel_rfl) (fun _ _ _ h => h) (Or.inl ⟨by rfl, ?_⟩) hHeld2 ?_
  rotate_left 1
  · (intro wq hSq; (try dsimp only at hSq); go_simp; first | done | with_reducible rfl)
  try simp only [Act.put, List.setIfInBounds_toArray, List.set_cons_zero, List.set_cons_succ]
  refine wpAnyH_take (i := 6) (oi := ⟨some 33, .move (.tmp 3), 22, "law.go:26", #[⟨5, .guard⟩], some (5, false)⟩) (v := ?_) rfl (by kernel_rfl) (by kernel_rfl) (by kernel_rfl) (fun _ _ _ h => h) (Or.inl ⟨by rfl, ?_⟩) hHeld2 ?_
  rotate_left 1
  · (intro wq hSq; (try dsimp only at hSq); go_simp; first | done | with_reducible rfl)
  try simp only [Act.put, List.setIfInBounds_toArray, List.set_cons_zero, List.set_cons_succ]
  refine wpAnyH_take (i := 7) (oi := ⟨some 34, .convert 22 9 (.tmp 33), 9, "law.go:26", #[⟨6, .data⟩, ⟨5, .guard⟩], some (5, false)⟩) (v := ?_) rfl (by kernel_rfl) (by kernel_rfl) (by kernel_rfl) (fun _ _ _ h => h) (Or.inl ⟨by rfl, ?_⟩) hHeld2 ?_
  rotate_left 1
  · (intro wq hSq; (try dsimp only at hSq); have hq := CA.out _ hSq; go_simp; first | done | with_reducible rfl)
  try simp only [Act.put, List.setIfInBounds_toArray, List.set_cons_zero, List.set_cons_succ]
  refine wpAnyH_take (i := 8) (oi := ⟨some 35, .move (.tmp 5), 22, "law.go:26", #[⟨5, .guard⟩], some (5, false)⟩) (v := ?_) rfl (by kernel_rfl) (by kernel_rfl) (by kernel_rfl) (fun _ _ _ h => h) (Or.inl ⟨by rfl, ?_⟩) hHeld2 ?_
  rotate_left 1
  · (intro wq hSq; (try dsimp only at hSq); go_simp; first | done | with_reducible rfl)
  try simp only [Act.put, List.setIfInBounds_toArray, List.set_cons_zero, List.set_cons_succ]
  refine wpAnyH_take (i := 9) (oi := ⟨some 36, .convert 22 9 (.tmp 35), 9, "law.go:26", #[⟨8, .data⟩, ⟨5, .guard⟩], some (5, false)⟩) (v := ?_) rfl (by kernel_rfl) (by kernel_rfl) (by kernel_rfl) (fun _ _ _ h => h) (Or.inl ⟨by rfl, ?_⟩) hHeld2 ?_
  rotate_left 1
  · (intro wq hSq; (try dsimp only at hSq); have hq := CB.out _ hSq; go_simp; first | done | with_reducible rfl)
  try simp only [Act.put, List.setIfInBounds_toArray, List.set_cons_zero, List.set_cons_succ]
  refine wpAnyH_take (i := 10) (oi := ⟨some 37, .binOp .neq 9 (.tmp 34) (.tmp 36) 9, 4, "law.go:26", #[⟨7, .data⟩, ⟨9, .data⟩, ⟨5, .guard⟩], some (5, false)⟩) (v := ?_) rfl (by kernel_rfl) (by kernel_rfl) (by kernel_rfl) (fun _ _ _ h => h) (Or.inl ⟨by rfl, ?_⟩) hHeld2 ?_
  rotate_left 1
  · (intro wq hSq; (try dsimp only at hSq); go_simp; first | done | with_reducible rfl)
  try simp only [Act.put, List.setIfInBounds_toArray, List.set_cons_zero, List.set_cons_succ]
  refine wpAnyH_take (i := 11) (oi := ⟨some 38, .pick (.tmp 32) (.const (.bool true)) (.tmp 37), 4, "law.go:26", #[⟨5, .data⟩, ⟨10, .data⟩], none⟩) (v := ?_) rfl (by kernel_rfl) (by kernel_rfl) (by kernel_rfl) (fun _ _ _ h => h) (Or.inl ⟨by rfl, ?_⟩) hHeld2 ?_
  rotate_left 1
  · (intro wq hSq; (try dsimp only at hSq); go_simp; first | done | with_reducible rfl)
  try simp only [Act.put, List.setIfInBounds_toArray, List.set_cons_zero, List.set_cons_succ]
  refine wpAnyH_take (i := 12) (oi := ⟨some 39, .move (.tmp 38), 4, "law.go:26", #[⟨11, .data⟩, ⟨5, .chain⟩], none⟩) (v := ?_) rfl (by kernel_rfl) (by kernel_rfl) (by kernel_rfl) (fun _ _ _ h => h) (Or.inl ⟨by rfl, ?_⟩) hHeld2 ?_
  rotate_left 1
  · (intro wq hSq; (try dsimp only at hSq); go_simp; first | done | with_reducible rfl)
  try simp only [Act.put, List.setIfInBounds_toArray, List.set_cons_zero, List.set_cons_succ]
  refine wpAnyH_take (i := 13) (oi := ⟨some 40, .move (.tmp 4), 42, "law.go:26", #[⟨12, .guard⟩], some (12, false)⟩) (v := ?_) rfl (by kernel_rfl) (by kernel_rfl) (by kernel_rfl) (fun _ _ _ h => h) (Or.inl ⟨by rfl, ?_⟩) hHeld2 ?_
  rotate_left 1
  · (intro wq hSq; (try dsimp only at hSq); go_simp; first | done | with_reducible rfl)
  try simp only [Act.put, List.setIfInBounds_toArray, List.set_cons_zero, List.set_cons_succ]
  refine wpAnyH_take (i := 14) (oi := ⟨some 41, .move (.tmp 6), 42, "law.go:26", #[⟨12, .guard⟩], some (12, false)⟩) (v := ?_) rfl (by kernel_rfl) (by kernel_rfl) (by kernel_rfl) (fun _ _ _ h => h) (Or.inl ⟨by rfl, ?_⟩) hHeld2 ?_
  rotate_left 1
  · (intro wq hSq; (try dsimp only at hSq); go_simp; first | done | with_reducible rfl)
  try simp only [Act.put, List.setIfInBounds_toArray, List.set_cons_zero, List.set_cons_succ]
  refine wpAnyH_take (i := 15) (oi := ⟨some 42, .binOp .neq 42 (.tmp 40) (.tmp 41) 42, 4, "law.go:26", #[⟨13, .data⟩, ⟨14, .data⟩, ⟨12, .guard⟩], some (12, false)⟩) (v := ?_) rfl (by kernel_rfl) (by kernel_rfl) (by kernel_rfl) (fun _ _ _ h => h) (Or.inl ⟨by rfl, ?_⟩) hHeld2 ?_
  rotate_left 1
  · (intro wq hSq; (try dsimp only at hSq); go_simp; first | done | with_reducible rfl)
  try simp only [Act.put, List.setIfInBounds_toArray, List.set_cons_zero, List.set_cons_succ]
  refine wpAnyH_take (i := 16) (oi := ⟨some 43, .pick (.tmp 39) (.const (.bool true)) (.tmp 42), 4, "law.go:26", #[⟨12, .data⟩, ⟨15, .data⟩], none⟩) (v := ?_) rfl (by kernel_rfl) (by kernel_rfl) (by kernel_rfl) (fun _ _ _ h => h) (Or.inl ⟨by rfl, ?_⟩) hHeld2 ?_
  rotate_left 1
  · (intro wq hSq; (try dsimp only at hSq); go_simp; first | done | with_reducible rfl)
  try simp only [Act.put, List.setIfInBounds_toArray, List.set_cons_zero, List.set_cons_succ]
  refine wpAnyH_done (by kernel_rfl) ?_ _
  refine NoPanic.normal ?_
  go_wp2_with fail
  refine (DC.out w7 _ (B5.out _ b7) (P45.out _ b7)).mono ?_
  rintro e w8 ⟨rfl, b8⟩
  have b78 := b7.trans (b8.mono b7.size)
  have Y8 : Hid (BoxM 68 (w8.alloc (.cells Tryd.zeroCells68 68)) w8.heap.size msg0) := by unfold Hid BoxM; rw [heap_alloc_new, zero68]
  have Z8 : Hid (∀ W, W = (w8.alloc (.cells Tryd.zeroCells68 68)).setRow w8.heap.size (mC (mdM [])).toArray → Below w.heap.size w W ∧ BoxM 65 W w.heap.size m ∧ BoxM 68 W w8.heap.size (mdM [])) := fun W hW => by
    subst hW
    have q1 : Below w8.heap.size w8 ((w8.alloc (.cells Tryd.zeroCells68 68)).setRow w8.heap.size (mC (mdM [])).toArray) := below_setRow ((Below.refl _ _).alloc (Nat.le_refl _) _) (Nat.le_refl _) _
    have q2 := b78.trans (q1.mono b78.size)
    exact ⟨B1.out _ (B5.out _ q2), G5.out _ q2, setRow_same Y8.out⟩
  clear b7 b8 b78 b6
  go_wp2_with (first | (refine storeM68 rfl _ _ rfl w8.heap.size rfl (mdM []) msg0 rfl mdM0_ok msg0_ok Y8.out ?_; (obtain ⟨w9, hw9⟩ : ∃ W, W = (w8.alloc (.cells Tryd.zeroCells68 68)).setRow w8.heap.size (mC (mdM [])).toArray := ⟨_, rfl⟩); rw [← hw9]; obtain ⟨q1, q2, q3⟩ := Z8.out w9 hw9; have Q1 : Hid (Below w.heap.size w w9) := q1; have Q2 : Hid (BoxM 65 w9 w.heap.size m) := q2; have Q3 : Hid (BoxM 68 w9 w8.heap.size (mdM [])) := q3; clear q1 q2 q3 Z8 hw9 Y8))
  go_ret
  exact ⟨rfl, Q1.out⟩
set_option maxHeartbeats 2000000 in
set_option maxRecDepth 100000 in
theorem menc_yes (m : Msg) (hm : m.Ok) (hs : m.s.size ≤ 2000) (hf : formB m = true) (w : World) (hL : Laid w) : Calls Tryd.prog 10 #[.agg (mC m).toArray] w fun e w' => e = .returned (.bool true) ∧ Below w.heap.size w w' := by
  have s0 := hL.two
  have hd : decide ((m.s.size : Int) ≤ 2000) = true := decide_eq_true (by omega)
  obtain ⟨w1, hw1⟩ : ∃ w1, w1 = w.alloc (.cells (mC m).toArray 65) := ⟨_, rfl⟩
  have b1 : Below w.heap.size w w1 := by rw [hw1]; exact (Below.refl _ _).alloc (Nat.le_refl _) _
  have s1 : w1.heap.size = w.heap.size + 1 := by rw [hw1]; simp
  have g1 : BoxM 65 w1 w.heap.size m := by unfold BoxM; rw [hw1, heap_alloc_new]
  have G1 : Hid (∀ W, Below w1.heap.size w1 W → BoxM 65 W w.heap.size m) := fun W q => g1.below q
  have B1 : Hid (∀ W, Below w1.heap.size w1 W → Below w.heap.size w W) := fun W q => b1.trans (q.mono b1.size)
  have HM : Hid (m.Ok) := hm
  have LW : Hid (∀ W, Below w1.heap.size w1 W → Laid W) := fun W q => (hL.below b1 s0).below q (by omega)
  have AW : Hid (Calls Tryd.prog 37 #[] w1 fun e w' => e = .returned (.bool true) ∧ Below w1.heap.size w1 w') := awake5_any w1
  have FW : Hid (∀ W, Below w1.heap.size w1 W → Calls Tryd.prog 38 #[.agg (mC m).toArray] W fun e w' => e = .returned (.bool true) ∧ Below w1.heap.size w1 w') := fun W q => by
    have r := few5_any m hm W
    rw [hd] at r
    exact r.mono fun e w' ⟨r1, r2⟩ => ⟨r1, q.trans (r2.mono q.size)⟩
  have hfa := hf
  have f1 := (form_all hfa).1
  have hbd := body_le m hm hfa
  have hlen : (encB m.kind (bodyB m)).length ≤ 1000000 := by rw [encB_length]; omega
  have heb := encB_bytes m.kind (by omega) (bodyB m) hbd.1 hbd.2
  have hmd := md_enc m hm hfa
  have EN : Hid (∀ W, Below w1.heap.size w1 W → Calls Tryd.prog 39 #[.agg (mC m).toArray] W fun e w' => ∃ u, e = .returned (.tuple #[u, .int .i64 0]) ∧ PartAt w' u (encB m.kind (bodyB m)) ∧ Below w1.heap.size w1 w') := fun W q => (mencode_yes m hm hfa W ((hL.below b1 s0).below q (by omega))).mono fun e w' ⟨u, r1, r2, r3⟩ => ⟨u, r1, r2, q.trans (r3.mono q.size)⟩
  have WR : Hid (∀ W, Below w1.heap.size w1 W → Calls Tryd.prog 40 #[.agg (mC m).toArray] W fun e w' => ∃ u, e = .returned (.tuple #[u, .int .i64 0]) ∧ PartAt w' u (encB m.kind (bodyB m)) ∧ Below w1.heap.size w1 w' ∧ Below W.heap.size W w') := fun W q => (rwrite_own m hm hfa W (by have := q.size; omega)).mono fun e w' ⟨u, r1, r2, r3⟩ => ⟨u, r1, r2.partG (by have := q.size; have := r3.size; omega), q.trans (r3.mono q.size), r3⟩
  have FM : Hid (∀ W, Calls Tryd.prog 41 #[.agg (mC m).toArray] W fun e w' => e = .returned (.bool true) ∧ Below W.heap.size W w') := fun W => by have q := formed_any m hm W; rw [hfa] at q; exact q
  have RM : Hid (∀ W, Calls Tryd.prog 42 #[.agg (mC m).toArray] W fun e w' => e = .returned (.bool true) ∧ Below W.heap.size W w') := fun W => by have q := rformed_any m hm W; rw [hfa] at q; exact q
  have DC : Hid (∀ W v, Below w1.heap.size w1 W → PartAt W v (encB m.kind (bodyB m)) → Calls Tryd.prog 43 #[v] W fun e w' => e = .returned (.tuple #[.agg (mC m).toArray, .int .i64 0]) ∧ Below W.heap.size W w') := fun W v q p => by
    have r := mdec_any (encB m.kind (bodyB m)) heb hlen v W ((hL.below b1 s0).below q (by omega)) p
    rw [hmd.1, hmd.2] at r
    exact r
  have EQ : Hid (∀ W, (Op.equalIn 10000 65 (.agg (mC m).toArray) (.agg (mC m).toArray)).run Tryd.prog W = .ok true W) := fun W => eq65_self m hm W
  clear hfa f1 hbd hlen heb hmd
  generalize encB m.kind (bodyB m) = LL at *
  have HW1 : Hid (w1 = w.alloc (.cells (mC m).toArray 65)) := hw1
  clear hm hs hf hL s0 hd hw1 b1 s1 g1
  go_enter Tryd.func10, Tryd.ntmps10
  go_wp2_with fail
  rw [← HW1.out]
  refine AW.out.mono ?_
  rintro e w2 ⟨rfl, b2⟩
  have X2 : Hid (BoxM 65 w2 w.heap.size m) := G1.out _ b2
  go_wp2_with (first | (refine loadM65g rfl _ rfl w.heap.size rfl m HM.out X2.out ?_))
  refine (FW.out _ b2).mono ?_
  rintro e w3 ⟨rfl, b3⟩
  have X3 : Hid (BoxM 65 w3 w.heap.size m) := G1.out _ b3
  clear b2 X2 AW FW
  go_wp2_with (first | (refine loadM65 rfl _ rfl w.heap.size rfl m HM.out X3.out ?_))
  refine (EN.out _ b3).mono ?_
  rintro e w4 ⟨u, rfl, p4, b4⟩
  obtain ⟨va, ba, oa, ca, ha, _⟩ := id p4
  subst ha
  have X4 : Hid (BoxM 65 w4 w.heap.size m) := G1.out _ b4
  have P4 : Hid (PartAt w4 (.slice va LL.length ca) (LL)) := p4
  clear b3 X3 p4 EN
  go_wp2_with (first | (refine loadM65 rfl _ rfl w.heap.size rfl m HM.out X4.out ?_))
  refine (WR.out _ b4).mono ?_
  rintro e w5 ⟨u5, rfl, p5, b5, b45⟩
  obtain ⟨vb, bb, ob, cb, hb5, _⟩ := id p5
  subst hb5
  have P45 : Hid (∀ W, Below w5.heap.size w5 W → PartAt W (.slice va LL.length ca) (LL)) := fun W q => (P4.out.below b45).below q
  have P5 : Hid (∀ W, Below w5.heap.size w5 W → PartAt W (.slice vb LL.length cb) (LL)) := fun W q => p5.below q
  have G5 : Hid (∀ W, Below w5.heap.size w5 W → BoxM 65 W w.heap.size m) := fun W q => G1.out _ (b5.trans (q.mono b5.size))
  have B5 : Hid (∀ W, Below w5.heap.size w5 W → Below w1.heap.size w1 W) := fun W q => b5.trans (q.mono b5.size)
  have D5 : Hid (Below w5.heap.size w5 w5.drew) := (Below.refl _ _).drew
  obtain ⟨SB, hSB⟩ : ∃ S, S = strOfNums (LL) := ⟨_, rfl⟩
  have CA : Hid (∀ W, Below w5.heap.size w5 W → (convert 22 9 (.slice va LL.length ca)).run Tryd.prog W = .ok (.string SB) W) := fun W q => by rw [hSB]; exact run_conv (P45.out W q)
  have CB : Hid (∀ W, Below w5.heap.size w5 W → (convert 22 9 (.slice vb LL.length cb)).run Tryd.prog W = .ok (.string SB) W) := fun W q => by rw [hSB]; exact run_conv (P5.out W q)
  have FA : Hid (∀ W, Below w5.heap.size w5 W → Calls Tryd.prog 41 #[.agg (mC m).toArray] W fun e w' => e = .returned (.bool true) ∧ Below w5.heap.size w5 w') := fun W q => (FM.out W).mono fun e w' ⟨r1, r2⟩ => ⟨r1, q.trans (r2.mono q.size)⟩
  have FB : Hid (∀ W, Below w5.heap.size w5 W → Calls Tryd.prog 42 #[.agg (mC m).toArray] W fun e w' => e = .returned (.bool true) ∧ Below w5.heap.size w5 w') := fun W q => (RM.out W).mono fun e w' ⟨r1, r2⟩ => ⟨r1, q.trans (r2.mono q.size)⟩
  clear b4 X4 p5 b5 b45 WR P4 hSB FM RM G1
  go_wp2_with fail
  refine wp_region_noPanic ?_
  refine wp_region_held_drew (S := fun w' => Below w5.heap.size w5 w') (by kernel_rfl) (D5.out) (fun hHeld => ?_)
  try simp only [Act.put, List.setIfInBounds_toArray, List.set_cons_zero, List.set_cons_succ]
  refine wpAnyH_take (i := 0) (oi := ⟨some 27, .load 65 (.tmp 1), 65, "law.go:26", #[], none⟩) (v := .agg (List.toArray (mC m))) rfl (by kernel_rfl) (by kernel_rfl) (by kernel_rfl) (fun _ _ _ h => h) (yieldsIf_load_mid rfl 65 _ rfl w.heap.size 0 rfl (mC m) _ (fun wq hSq => box_range (G5.out _ hSq)) Tryd.underlying65 rfl (by rw [size65, mC_length m HM.out])) hHeld ?_
  try simp only [Act.put, List.setIfInBounds_toArray, List.set_cons_zero, List.set_cons_succ]
  refine wpAnyH_take (i := 2) (oi := ⟨some 29, .load 65 (.tmp 1), 65, "law.go:26", #[], none⟩) (v := .agg (List.toArray (mC m))) rfl (by kernel_rfl) (by kernel_rfl) (by kernel_rfl) (fun _ _ _ h => h) (yieldsIf_load_mid rfl 65 _ rfl w.heap.size 0 rfl (mC m) _ (fun wq hSq => box_range (G5.out _ hSq)) Tryd.underlying65 rfl (by rw [size65, mC_length m HM.out])) hHeld ?_
  try simp only [Act.put, List.setIfInBounds_toArray, List.set_cons_zero, List.set_cons_succ]
  refine wpAnyH_ready (rs := [1]) (by kernel_rfl) (by simp) ?_
  refine AllReadyH.cons (o := ⟨some 28, .call ⟨.value (.func 41), #[.tmp 27], #[68]⟩, 4, "law.go:26", #[⟨0, .data⟩], none⟩) rfl (fun K hK => ?_) AllReadyH.nil
  go_simp
  refine (FA.out _ (by assumption)).mono ?_
  rintro e w6 ⟨rfl, b6⟩
  refine hK.out _ _ (b6) (fun hHeld1 => ?_)
  clear hK K hHeld
  try simp only [Act.put, List.setIfInBounds_toArray, List.set_cons_zero, List.set_cons_succ]
  refine wpAnyH_ready (rs := [3]) (by kernel_rfl) (by simp) ?_
  refine AllReadyH.cons (o := ⟨some 30, .call ⟨.value (.func 42), #[.tmp 29], #[65]⟩, 4, "law.go:26", #[⟨2, .data⟩, ⟨1, .chain⟩], none⟩) rfl (fun K hK => ?_) AllReadyH.nil
  go_simp
  refine (FB.out _ b6).mono ?_
  rintro e w7 ⟨rfl, b7⟩
  refine hK.out _ _ (b7) (fun hHeld2 => ?_)
  clear hK K hHeld1
  try simp only [Act.put, List.setIfInBounds_toArray, List.set_cons_zero, List.set_cons_succ]
  refine wpAnyH_take (i := 4) (oi := ⟨some 31, .binOp .neq 4 (.tmp 28) (.tmp 30) 4, 4, "law.go:26", #[⟨1, .data⟩, ⟨3, .data⟩], none⟩) (v := ?_) rfl (by kernel_rfl) (by kernel_rfl) (by kernel_rfl) (fun _ _ _ h => h) (Or.inl ⟨by rfl, ?_⟩) hHeld2 ?_
  rotate_left 1
  · (intro wq hSq; (try dsimp only at hSq); go_simp; first | done | with_reducible rfl)
  try simp only [Act.put, List.setIfInBounds_toArray, List.set_cons_zero, List.set_cons_succ]
  refine wpAnyH_take (i := 5) (oi := ⟨some 32, .move (.tmp 31), 4, "law.go:26", #[⟨4, .data⟩, ⟨3, .chain⟩], none⟩) (v := ?_) rfl (by kernel_rfl) (by kernel_rfl) (by kernel_rfl) (fun _ _ _ h => h) (Or.inl ⟨by rfl, ?_⟩) hHeld2 ?_
  rotate_left 1
  · (intro wq hSq; (try dsimp only at hSq); go_simp; first | done | with_reducible rfl)
  try simp only [Act.put, List.setIfInBounds_toArray, List.set_cons_zero, List.set_cons_succ]
  refine wpAnyH_take (i := 6) (oi := ⟨some 33, .move (.tmp 3), 22, "law.go:26", #[⟨5, .guard⟩], some (5, false)⟩) (v := ?_) rfl (by kernel_rfl) (by kernel_rfl) (by kernel_rfl) (fun _ _ _ h => h) (Or.inl ⟨by rfl, ?_⟩) hHeld2 ?_
  rotate_left 1
  · (intro wq hSq; (try dsimp only at hSq); go_simp; first | done | with_reducible rfl)
  try simp only [Act.put, List.setIfInBounds_toArray, List.set_cons_zero, List.set_cons_succ]
  refine wpAnyH_take (i := 7) (oi := ⟨some 34, .convert 22 9 (.tmp 33), 9, "law.go:26", #[⟨6, .data⟩, ⟨5, .guard⟩], some (5, false)⟩) (v := ?_) rfl (by kernel_rfl) (by kernel_rfl) (by kernel_rfl) (fun _ _ _ h => h) (Or.inl ⟨by rfl, ?_⟩) hHeld2 ?_
  rotate_left 1
  · (intro wq hSq; (try dsimp only at hSq); have hq := CA.out _ hSq; go_simp; first | done | with_reducible rfl)
  try simp only [Act.put, List.setIfInBounds_toArray, List.set_cons_zero, List.set_cons_succ]
  refine wpAnyH_take (i := 8) (oi := ⟨some 35, .move (.tmp 5), 22, "law.go:26", #[⟨5, .guard⟩], some (5, false)⟩) (v := ?_) rfl (by kernel_rfl) (by kernel_rfl) (by kernel_rfl) (fun _ _ _ h => h) (Or.inl ⟨by rfl, ?_⟩) hHeld2 ?_
  rotate_left 1
  · (intro wq hSq; (try dsimp only at hSq); go_simp; first | done | with_reducible rfl)
  try simp only [Act.put, List.setIfInBounds_toArray, List.set_cons_zero, List.set_cons_succ]
  refine wpAnyH_take (i := 9) (oi := ⟨some 36, .convert 22 9 (.tmp 35), 9, "law.go:26", #[⟨8, .data⟩, ⟨5, .guard⟩], some (5, false)⟩) (v := ?_) rfl (by kernel_rfl) (by kernel_rfl) (by kernel_rfl) (fun _ _ _ h => h) (Or.inl ⟨by rfl, ?_⟩) hHeld2 ?_
  rotate_left 1
  · (intro wq hSq; (try dsimp only at hSq); have hq := CB.out _ hSq; go_simp; first | done | with_reducible rfl)
  try simp only [Act.put, List.setIfInBounds_toArray, List.set_cons_zero, List.set_cons_succ]
  refine wpAnyH_take (i := 10) (oi := ⟨some 37, .binOp .neq 9 (.tmp 34) (.tmp 36) 9, 4, "law.go:26", #[⟨7, .data⟩, ⟨9, .data⟩, ⟨5, .guard⟩], some (5, false)⟩) (v := ?_) rfl (by kernel_rfl) (by kernel_rfl) (by kernel_rfl) (fun _ _ _ h => h) (Or.inl ⟨by rfl, ?_⟩) hHeld2 ?_
  rotate_left 1
  · (intro wq hSq; (try dsimp only at hSq); go_simp; first | done | with_reducible rfl)
  try simp only [Act.put, List.setIfInBounds_toArray, List.set_cons_zero, List.set_cons_succ]
  refine wpAnyH_take (i := 11) (oi := ⟨some 38, .pick (.tmp 32) (.const (.bool true)) (.tmp 37), 4, "law.go:26", #[⟨5, .data⟩, ⟨10, .data⟩], none⟩) (v := ?_) rfl (by kernel_rfl) (by kernel_rfl) (by kernel_rfl) (fun _ _ _ h => h) (Or.inl ⟨by rfl, ?_⟩) hHeld2 ?_
  rotate_left 1
  · (intro wq hSq; (try dsimp only at hSq); go_simp; first | done | with_reducible rfl)
  try simp only [Act.put, List.setIfInBounds_toArray, List.set_cons_zero, List.set_cons_succ]
  refine wpAnyH_take (i := 12) (oi := ⟨some 39, .move (.tmp 38), 4, "law.go:26", #[⟨11, .data⟩, ⟨5, .chain⟩], none⟩) (v := ?_) rfl (by kernel_rfl) (by kernel_rfl) (by kernel_rfl) (fun _ _ _ h => h) (Or.inl ⟨by rfl, ?_⟩) hHeld2 ?_
  rotate_left 1
  · (intro wq hSq; (try dsimp only at hSq); go_simp; first | done | with_reducible rfl)
  try simp only [Act.put, List.setIfInBounds_toArray, List.set_cons_zero, List.set_cons_succ]
  refine wpAnyH_take (i := 13) (oi := ⟨some 40, .move (.tmp 4), 42, "law.go:26", #[⟨12, .guard⟩], some (12, false)⟩) (v := ?_) rfl (by kernel_rfl) (by kernel_rfl) (by kernel_rfl) (fun _ _ _ h => h) (Or.inl ⟨by rfl, ?_⟩) hHeld2 ?_
  rotate_left 1
  · (intro wq hSq; (try dsimp only at hSq); go_simp; first | done | with_reducible rfl)
  try simp only [Act.put, List.setIfInBounds_toArray, List.set_cons_zero, List.set_cons_succ]
  refine wpAnyH_take (i := 14) (oi := ⟨some 41, .move (.tmp 6), 42, "law.go:26", #[⟨12, .guard⟩], some (12, false)⟩) (v := ?_) rfl (by kernel_rfl) (by kernel_rfl) (by kernel_rfl) (fun _ _ _ h => h) (Or.inl ⟨by rfl, ?_⟩) hHeld2 ?_
  rotate_left 1
  · (intro wq hSq; (try dsimp only at hSq); go_simp; first | done | with_reducible rfl)
  try simp only [Act.put, List.setIfInBounds_toArray, List.set_cons_zero, List.set_cons_succ]
  refine wpAnyH_take (i := 15) (oi := ⟨some 42, .binOp .neq 42 (.tmp 40) (.tmp 41) 42, 4, "law.go:26", #[⟨13, .data⟩, ⟨14, .data⟩, ⟨12, .guard⟩], some (12, false)⟩) (v := ?_) rfl (by kernel_rfl) (by kernel_rfl) (by kernel_rfl) (fun _ _ _ h => h) (Or.inl ⟨by rfl, ?_⟩) hHeld2 ?_
  rotate_left 1
  · (intro wq hSq; (try dsimp only at hSq); go_simp; first | done | with_reducible rfl)
  try simp only [Act.put, List.setIfInBounds_toArray, List.set_cons_zero, List.set_cons_succ]
  refine wpAnyH_take (i := 16) (oi := ⟨some 43, .pick (.tmp 39) (.const (.bool true)) (.tmp 42), 4, "law.go:26", #[⟨12, .data⟩, ⟨15, .data⟩], none⟩) (v := ?_) rfl (by kernel_rfl) (by kernel_rfl) (by kernel_rfl) (fun _ _ _ h => h) (Or.inl ⟨by rfl, ?_⟩) hHeld2 ?_
  rotate_left 1
  · (intro wq hSq; (try dsimp only at hSq); go_simp; first | done | with_reducible rfl)
  try simp only [Act.put, List.setIfInBounds_toArray, List.set_cons_zero, List.set_cons_succ]
  refine wpAnyH_done (by kernel_rfl) ?_ _
  refine NoPanic.normal ?_
  go_wp2_with fail
  refine (DC.out w7 _ (B5.out _ b7) (P45.out _ b7)).mono ?_
  rintro e w8 ⟨rfl, b8⟩
  have b78 := b7.trans (b8.mono b7.size)
  have Y8 : Hid (BoxM 68 (w8.alloc (.cells Tryd.zeroCells68 68)) w8.heap.size msg0) := by unfold Hid BoxM; rw [heap_alloc_new, zero68]
  have Z8 : Hid (∀ W, W = (w8.alloc (.cells Tryd.zeroCells68 68)).setRow w8.heap.size (mC (m)).toArray → Below w.heap.size w W ∧ BoxM 65 W w.heap.size m ∧ BoxM 68 W w8.heap.size (m)) := fun W hW => by
    subst hW
    have q1 : Below w8.heap.size w8 ((w8.alloc (.cells Tryd.zeroCells68 68)).setRow w8.heap.size (mC (m)).toArray) := below_setRow ((Below.refl _ _).alloc (Nat.le_refl _) _) (Nat.le_refl _) _
    have q2 := b78.trans (q1.mono b78.size)
    exact ⟨B1.out _ (B5.out _ q2), G5.out _ q2, setRow_same Y8.out⟩
  clear b7 b8 b78 b6
  go_wp2_with (first | (refine storeM68 rfl _ _ rfl w8.heap.size rfl (m) msg0 rfl HM.out msg0_ok Y8.out ?_; (obtain ⟨w9, hw9⟩ : ∃ W, W = (w8.alloc (.cells Tryd.zeroCells68 68)).setRow w8.heap.size (mC (m)).toArray := ⟨_, rfl⟩); rw [← hw9]; obtain ⟨q1, q2, q3⟩ := Z8.out w9 hw9; have Q1 : Hid (Below w.heap.size w w9) := q1; have Q2 : Hid (BoxM 65 w9 w.heap.size m) := q2; have Q3 : Hid (BoxM 68 w9 w8.heap.size (m)) := q3; clear q1 q2 q3 Z8 hw9 Y8) | (refine loadM68g rfl _ rfl w8.heap.size rfl m HM.out Q3.out ?_) | (refine loadM65g rfl _ rfl w.heap.size rfl m HM.out Q2.out ?_) | (refine valList rfl (.bool true) (run_eql 65 guard65 _ _ _ _ _ rfl _ _ rfl rfl _ _ (EQ.out _)) ?_))
  go_ret
  exact ⟨rfl, Q1.out⟩
theorem messageEncodes_walk (m : Msg) (hm : m.Ok) (w : World) (hL : Laid w) : Calls Tryd.prog 10 #[.agg (mC m).toArray] w fun e w' => e = .returned (.bool true) ∧ Below w.heap.size w w' := by
  by_cases hs : m.s.size ≤ 2000
  · cases hf : formB m with
    | true => exact menc_yes m hm hs hf w hL
    | false => exact menc_no m hm hs hf w hL
  · exact menc_few m hm hs w hL
end Go.Proofs.YtplihbncmmggjaaDoor
