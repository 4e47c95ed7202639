import Derived.Test.YtaoobmpjlagkpaaIb
import Derived.Test.YtaoobmpjlagkpaaTi
namespace Go.Proofs.Ytaoobmpjlagkpaa
set_option linter.unusedSimpArgs false
set_option linter.unusedVariables false
open Go.RowKit
open Go.Deep
set_option maxHeartbeats 4000000 in
set_option maxRecDepth 100000 in
theorem least_mk (k : Int) (c x0 : Nat) (x1 x2 x3 nn lo hi : Int) (l : List T) (ih : ∀ t ∈ l, LeastP 39 t) : LeastP 39 (T.mk ⟨k, c, x0, x1, x2, x3, nn, lo, hi⟩ l) := by
  intro w u hu
  rw [T.kids_mk] at hu
  rw [T.hd_mk]
  rw [leastT_mk]
  have B0 : Hid (Below w.heap.size w (w.alloc (.cells (cN ⟨k, c, x0, x1, x2, x3, nn, lo, hi⟩ u).toArray 55))) := (Below.refl _ _).alloc (Nat.le_refl _) _
  have X0 : Hid (BoxN 55 (w.alloc (.cells (cN ⟨k, c, x0, x1, x2, x3, nn, lo, hi⟩ u).toArray 55)) w.heap.size ⟨k, c, x0, x1, x2, x3, nn, lo, hi⟩ u) := BoxN.new 55 w ⟨k, c, x0, x1, x2, x3, nn, lo, hi⟩ u
  have FST : Hid (∀ W, Below w.heap.size w W → Calls Try.prog 56 #[u] W fun e w' => e = .returned (.int .i64 (firstL l)) ∧ Below W.heap.size W w') := fun W hW => lfirst_any l ih W u (hu.below hW)
  have ALL : Hid (∀ W, Below w.heap.size w W → Calls Try.prog 58 #[u] W fun e w' => e = .returned (.int .i64 (sumF 0 l)) ∧ Below W.heap.size W w') := fun W hW => lall_any l ih W u (hu.below hW)
  have ONE : Hid (∀ W, Below w.heap.size w W → Calls Try.prog 59 #[u] W fun e w' => e = .returned (.int .i64 (if l = [] then 0 else minF mostI l)) ∧ Below W.heap.size W w') := fun W hW => lone_any l ih W u (hu.below hW)
  have hfb := (least_bd.2 l).1
  obtain ⟨FL, hFL⟩ : ∃ FL, FL = firstL l := ⟨_, rfl⟩
  obtain ⟨SL, hSL⟩ : ∃ SL, SL = sumF 0 l := ⟨_, rfl⟩
  obtain ⟨ML, hML⟩ : ∃ ML, ML = if l = [] then 0 else minF mostI l := ⟨_, rfl⟩
  rw [← hFL] at FST hfb ⊢
  rw [← hSL] at ALL ⊢
  rw [← hML] at ONE ⊢
  clear ih hFL hSL hML hu
  have hf1 : 0 ≤ FL := hfb.1
  have hf2 : FL ≤ 2147483647 := hfb.2
  clear hfb
  have TIM : Hid (∀ W, Calls Try.prog 57 #[.int .i64 lo, .int .i64 FL] W fun e w' => e = .returned (.int .i64 (timesI lo FL)) ∧ Below W.heap.size W w') := fun W => ltimes_any lo FL hf1 hf2 W
  by_cases k1 : k = 1
  · subst k1
    rw [show (if ((⟨1, c, x0, x1, x2, x3, nn, lo, hi⟩ : Hd).k = 1 ∨ (⟨1, c, x0, x1, x2, x3, nn, lo, hi⟩ : Hd).k = 2 ∨ (⟨1, c, x0, x1, x2, x3, nn, lo, hi⟩ : Hd).k = 3) then (1 : Int) else if (⟨1, c, x0, x1, x2, x3, nn, lo, hi⟩ : Hd).k = 6 then FL else if (⟨1, c, x0, x1, x2, x3, nn, lo, hi⟩ : Hd).k = 10 then timesI (⟨1, c, x0, x1, x2, x3, nn, lo, hi⟩ : Hd).lo FL else if (⟨1, c, x0, x1, x2, x3, nn, lo, hi⟩ : Hd).k = 8 then SL else if (⟨1, c, x0, x1, x2, x3, nn, lo, hi⟩ : Hd).k = 9 then ML else 0) = 1 from rfl]
    change Calls Try.prog 39 #[.agg #[.int .i64 1, .int .u8 (c : Int), .int .u64 (x0 : Int), .int .u64 x1, .int .u64 x2, .int .u64 x3, .int .i64 nn, .int .i64 lo, .int .i64 hi, u]] w _
    have a0 := X0.out.cell 0 _ rfl
    have a9 := X0.out.cell 9 _ rfl
    go_enter Try.func39, Try.ntmps39
    go_wp2
    go_ret
    exact ⟨rfl, B0.out⟩
  by_cases k2 : k = 2
  · subst k2
    rw [show (if ((⟨2, c, x0, x1, x2, x3, nn, lo, hi⟩ : Hd).k = 1 ∨ (⟨2, c, x0, x1, x2, x3, nn, lo, hi⟩ : Hd).k = 2 ∨ (⟨2, c, x0, x1, x2, x3, nn, lo, hi⟩ : Hd).k = 3) then (1 : Int) else if (⟨2, c, x0, x1, x2, x3, nn, lo, hi⟩ : Hd).k = 6 then FL else if (⟨2, c, x0, x1, x2, x3, nn, lo, hi⟩ : Hd).k = 10 then timesI (⟨2, c, x0, x1, x2, x3, nn, lo, hi⟩ : Hd).lo FL else if (⟨2, c, x0, x1, x2, x3, nn, lo, hi⟩ : Hd).k = 8 then SL else if (⟨2, c, x0, x1, x2, x3, nn, lo, hi⟩ : Hd).k = 9 then ML else 0) = 1 from rfl]
    change Calls Try.prog 39 #[.agg #[.int .i64 2, .int .u8 (c : Int), .int .u64 (x0 : Int), .int .u64 x1, .int .u64 x2, .int .u64 x3, .int .i64 nn, .int .i64 lo, .int .i64 hi, u]] w _
    have a0 := X0.out.cell 0 _ rfl
    have a9 := X0.out.cell 9 _ rfl
    go_enter Try.func39, Try.ntmps39
    go_wp2
    go_ret
    exact ⟨rfl, B0.out⟩
  by_cases k3 : k = 3
  · subst k3
    rw [show (if ((⟨3, c, x0, x1, x2, x3, nn, lo, hi⟩ : Hd).k = 1 ∨ (⟨3, c, x0, x1, x2, x3, nn, lo, hi⟩ : Hd).k = 2 ∨ (⟨3, c, x0, x1, x2, x3, nn, lo, hi⟩ : Hd).k = 3) then (1 : Int) else if (⟨3, c, x0, x1, x2, x3, nn, lo, hi⟩ : Hd).k = 6 then FL else if (⟨3, c, x0, x1, x2, x3, nn, lo, hi⟩ : Hd).k = 10 then timesI (⟨3, c, x0, x1, x2, x3, nn, lo, hi⟩ : Hd).lo FL else if (⟨3, c, x0, x1, x2, x3, nn, lo, hi⟩ : Hd).k = 8 then SL else if (⟨3, c, x0, x1, x2, x3, nn, lo, hi⟩ : Hd).k = 9 then ML else 0) = 1 from rfl]
    change Calls Try.prog 39 #[.agg #[.int .i64 3, .int .u8 (c : Int), .int .u64 (x0 : Int), .int .u64 x1, .int .u64 x2, .int .u64 x3, .int .i64 nn, .int .i64 lo, .int .i64 hi, u]] w _
    have a0 := X0.out.cell 0 _ rfl
    have a9 := X0.out.cell 9 _ rfl
    go_enter Try.func39, Try.ntmps39
    go_wp2
    go_ret
    exact ⟨rfl, B0.out⟩
  by_cases k6 : k = 6
  · subst k6
    rw [show (if ((⟨6, c, x0, x1, x2, x3, nn, lo, hi⟩ : Hd).k = 1 ∨ (⟨6, c, x0, x1, x2, x3, nn, lo, hi⟩ : Hd).k = 2 ∨ (⟨6, c, x0, x1, x2, x3, nn, lo, hi⟩ : Hd).k = 3) then (1 : Int) else if (⟨6, c, x0, x1, x2, x3, nn, lo, hi⟩ : Hd).k = 6 then FL else if (⟨6, c, x0, x1, x2, x3, nn, lo, hi⟩ : Hd).k = 10 then timesI (⟨6, c, x0, x1, x2, x3, nn, lo, hi⟩ : Hd).lo FL else if (⟨6, c, x0, x1, x2, x3, nn, lo, hi⟩ : Hd).k = 8 then SL else if (⟨6, c, x0, x1, x2, x3, nn, lo, hi⟩ : Hd).k = 9 then ML else 0) = FL from rfl]
    change Calls Try.prog 39 #[.agg #[.int .i64 6, .int .u8 (c : Int), .int .u64 (x0 : Int), .int .u64 x1, .int .u64 x2, .int .u64 x3, .int .i64 nn, .int .i64 lo, .int .i64 hi, u]] w _
    have a0 := X0.out.cell 0 _ rfl
    have a9 := X0.out.cell 9 _ rfl
    go_enter Try.func39, Try.ntmps39
    go_wp2_with (first | (go_at_call 56; refine (FST.out _ B0.out).mono ?_; rintro e w6 ⟨rfl, b6⟩))
    go_ret
    exact ⟨rfl, B0.out.trans (b6.mono B0.out.size)⟩
  by_cases k10 : k = 10
  · subst k10
    rw [show (if ((⟨10, c, x0, x1, x2, x3, nn, lo, hi⟩ : Hd).k = 1 ∨ (⟨10, c, x0, x1, x2, x3, nn, lo, hi⟩ : Hd).k = 2 ∨ (⟨10, c, x0, x1, x2, x3, nn, lo, hi⟩ : Hd).k = 3) then (1 : Int) else if (⟨10, c, x0, x1, x2, x3, nn, lo, hi⟩ : Hd).k = 6 then FL else if (⟨10, c, x0, x1, x2, x3, nn, lo, hi⟩ : Hd).k = 10 then timesI (⟨10, c, x0, x1, x2, x3, nn, lo, hi⟩ : Hd).lo FL else if (⟨10, c, x0, x1, x2, x3, nn, lo, hi⟩ : Hd).k = 8 then SL else if (⟨10, c, x0, x1, x2, x3, nn, lo, hi⟩ : Hd).k = 9 then ML else 0) = timesI lo FL from rfl]
    change Calls Try.prog 39 #[.agg #[.int .i64 10, .int .u8 (c : Int), .int .u64 (x0 : Int), .int .u64 x1, .int .u64 x2, .int .u64 x3, .int .i64 nn, .int .i64 lo, .int .i64 hi, u]] w _
    have a0 := X0.out.cell 0 _ rfl
    have a9 := X0.out.cell 9 _ rfl
    go_enter Try.func39, Try.ntmps39
    have XD : Hid (BoxN 55 (w.alloc (.cells (cN ⟨10, c, x0, x1, x2, x3, nn, lo, hi⟩ u).toArray 55)).drew w.heap.size ⟨10, c, x0, x1, x2, x3, nn, lo, hi⟩ u) := X0.out.blk rfl
    have BD : Hid (Below w.heap.size w (w.alloc (.cells (cN ⟨10, c, x0, x1, x2, x3, nn, lo, hi⟩ u).toArray 55)).drew) := B0.out.drew
    go_wp2
    refine wp_region_noPanic ?_
    refine wp_region_held_drew (S := fun W => BoxN 55 W w.heap.size ⟨10, c, x0, x1, x2, x3, nn, lo, hi⟩ u) (by kernel_rfl) (XD.out) (fun hHeld => ?_)
    try simp only [Act.put, List.setIfInBounds_toArray, List.set_cons_zero, List.set_cons_succ]
    refine wpAnyH_take (i := 0) (oi := { dst := some 16, op := Go.Op.fieldAddr 55 (Go.Operand.tmp 1) 4, type := 0, pos := "tree.go:84", after := #[], guard := none }) (v := ?_) rfl (by kernel_rfl) (by kernel_rfl) (by kernel_rfl) (fun _ _ _ h => h) (Or.inl ⟨by rfl, ?_⟩) hHeld ?_
    rotate_left 1
    · (intro wq hSq; (try dsimp only at hSq); go_simp; first | done | with_reducible rfl)
    try simp only [Act.put, List.setIfInBounds_toArray, List.set_cons_zero, List.set_cons_succ]
    refine wpAnyH_take (i := 1) (oi := { dst := some 17, op := Go.Op.load 3 (Go.Operand.tmp 16), type := 3, pos := "tree.go:84", after := #[{ on := 0, ground := Go.Ground.data }], guard := none }) (v := ?_) rfl (by kernel_rfl) (by kernel_rfl) (by kernel_rfl) (fun _ _ _ h => h) (Or.inl ⟨by rfl, ?_⟩) hHeld ?_
    rotate_left 1
    · (intro wq hSq; (try dsimp only at hSq); have c := BoxN.cell hSq 7 _ rfl; go_simp; first | done | with_reducible rfl)
    try simp only [Act.put, List.setIfInBounds_toArray, List.set_cons_zero, List.set_cons_succ]
    refine wpAnyH_take (i := 2) (oi := { dst := some 18, op := Go.Op.fieldAddr 55 (Go.Operand.tmp 1) 6, type := 0, pos := "tree.go:84", after := #[], guard := none }) (v := ?_) rfl (by kernel_rfl) (by kernel_rfl) (by kernel_rfl) (fun _ _ _ h => h) (Or.inl ⟨by rfl, ?_⟩) hHeld ?_
    rotate_left 1
    · (intro wq hSq; (try dsimp only at hSq); go_simp; first | done | with_reducible rfl)
    try simp only [Act.put, List.setIfInBounds_toArray, List.set_cons_zero, List.set_cons_succ]
    refine wpAnyH_take (i := 3) (oi := { dst := some 19, op := Go.Op.load 53 (Go.Operand.tmp 18), type := 53, pos := "tree.go:84", after := #[{ on := 2, ground := Go.Ground.data }], guard := none }) (v := ?_) rfl (by kernel_rfl) (by kernel_rfl) (by kernel_rfl) (fun _ _ _ h => h) (Or.inl ⟨by rfl, ?_⟩) hHeld ?_
    rotate_left 1
    · (intro wq hSq; (try dsimp only at hSq); have c := BoxN.cell hSq 9 _ rfl; go_simp; first | done | with_reducible rfl)
    try simp only [Act.put, List.setIfInBounds_toArray, List.set_cons_zero, List.set_cons_succ]
    refine wpAnyH_ready (rs := [4]) (by kernel_rfl) (by simp) ?_
    refine AllReadyH.cons (o := { dst := some 20, op := Go.Op.call { callee := Go.Callee.value (Go.Operand.func 56), args := #[Go.Operand.tmp 19], argTypes := #[53] }, type := 3, pos := "tree.go:84", after := #[{ on := 3, ground := Go.Ground.data }], guard := none }) rfl (fun K hK => ?_) AllReadyH.nil
    go_simp
    refine (FST.out _ BD.out).mono ?_
    rintro e w1 ⟨rfl, b1⟩
    have X1 : Hid (BoxN 55 w1 w.heap.size ⟨10, c, x0, x1, x2, x3, nn, lo, hi⟩ u) := XD.out.below b1 XD.out.lt
    have B1 : Hid (Below w.heap.size w w1) := BD.out.trans (b1.mono BD.out.size)
    clear b1
    refine hK.out _ _ (X1.out) (fun hHeld1 => ?_)
    clear hK K hHeld
    try simp only [Act.put, List.setIfInBounds_toArray, List.set_cons_zero, List.set_cons_succ]
    refine wpAnyH_ready (rs := [5]) (by kernel_rfl) (by simp) ?_
    refine AllReadyH.cons (o := { dst := some 21, op := Go.Op.call { callee := Go.Callee.value (Go.Operand.func 57), args := #[Go.Operand.tmp 17, Go.Operand.tmp 20], argTypes := #[3, 3] }, type := 3, pos := "tree.go:84", after := #[{ on := 1, ground := Go.Ground.data }, { on := 4, ground := Go.Ground.data }, { on := 4, ground := Go.Ground.chain }], guard := none }) rfl (fun K hK => ?_) AllReadyH.nil
    go_simp
    refine (TIM.out _).mono ?_
    rintro e w2 ⟨rfl, b2⟩
    have X2 : Hid (BoxN 55 w2 w.heap.size ⟨10, c, x0, x1, x2, x3, nn, lo, hi⟩ u) := X1.out.below b2 X1.out.lt
    have B2 : Hid (Below w.heap.size w w2) := B1.out.trans (b2.mono B1.out.size)
    clear b2
    refine hK.out _ _ (X2.out) (fun hHeld2 => ?_)
    clear hK K hHeld1
    try simp only [Act.put, List.setIfInBounds_toArray, List.set_cons_zero, List.set_cons_succ]
    refine wpAnyH_take (i := 6) (oi := { dst := some 2, op := Go.Op.assign (Go.Operand.tmp 21), type := 3, pos := "tree.go:84", after := #[{ on := 5, ground := Go.Ground.data }, { on := 5, ground := Go.Ground.chain }, { on := 0, ground := Go.Ground.phase }, { on := 1, ground := Go.Ground.phase }, { on := 2, ground := Go.Ground.phase }, { on := 3, ground := Go.Ground.phase }, { on := 4, ground := Go.Ground.phase }, { on := 5, ground := Go.Ground.phase }], guard := none }) (v := ?_) rfl (by kernel_rfl) (by kernel_rfl) (by kernel_rfl) (fun _ _ _ h => h) (Or.inl ⟨by rfl, ?_⟩) hHeld2 ?_
    rotate_left 1
    · (intro wq hSq; (try dsimp only at hSq); go_simp; first | done | with_reducible rfl)
    try simp only [Act.put, List.setIfInBounds_toArray, List.set_cons_zero, List.set_cons_succ]
    refine wpAnyH_done (by kernel_rfl) ?_ _
    refine NoPanic.normal ?_
    go_wp2
    go_ret
    exact ⟨rfl, B2.out⟩
  by_cases k8 : k = 8
  · subst k8
    rw [show (if ((⟨8, c, x0, x1, x2, x3, nn, lo, hi⟩ : Hd).k = 1 ∨ (⟨8, c, x0, x1, x2, x3, nn, lo, hi⟩ : Hd).k = 2 ∨ (⟨8, c, x0, x1, x2, x3, nn, lo, hi⟩ : Hd).k = 3) then (1 : Int) else if (⟨8, c, x0, x1, x2, x3, nn, lo, hi⟩ : Hd).k = 6 then FL else if (⟨8, c, x0, x1, x2, x3, nn, lo, hi⟩ : Hd).k = 10 then timesI (⟨8, c, x0, x1, x2, x3, nn, lo, hi⟩ : Hd).lo FL else if (⟨8, c, x0, x1, x2, x3, nn, lo, hi⟩ : Hd).k = 8 then SL else if (⟨8, c, x0, x1, x2, x3, nn, lo, hi⟩ : Hd).k = 9 then ML else 0) = SL from rfl]
    change Calls Try.prog 39 #[.agg #[.int .i64 8, .int .u8 (c : Int), .int .u64 (x0 : Int), .int .u64 x1, .int .u64 x2, .int .u64 x3, .int .i64 nn, .int .i64 lo, .int .i64 hi, u]] w _
    have a0 := X0.out.cell 0 _ rfl
    have a9 := X0.out.cell 9 _ rfl
    go_enter Try.func39, Try.ntmps39
    go_wp2_with (first | (go_at_call 58; refine (ALL.out _ B0.out).mono ?_; rintro e w6 ⟨rfl, b6⟩))
    go_ret
    exact ⟨rfl, B0.out.trans (b6.mono B0.out.size)⟩
  by_cases k9 : k = 9
  · subst k9
    rw [show (if ((⟨9, c, x0, x1, x2, x3, nn, lo, hi⟩ : Hd).k = 1 ∨ (⟨9, c, x0, x1, x2, x3, nn, lo, hi⟩ : Hd).k = 2 ∨ (⟨9, c, x0, x1, x2, x3, nn, lo, hi⟩ : Hd).k = 3) then (1 : Int) else if (⟨9, c, x0, x1, x2, x3, nn, lo, hi⟩ : Hd).k = 6 then FL else if (⟨9, c, x0, x1, x2, x3, nn, lo, hi⟩ : Hd).k = 10 then timesI (⟨9, c, x0, x1, x2, x3, nn, lo, hi⟩ : Hd).lo FL else if (⟨9, c, x0, x1, x2, x3, nn, lo, hi⟩ : Hd).k = 8 then SL else if (⟨9, c, x0, x1, x2, x3, nn, lo, hi⟩ : Hd).k = 9 then ML else 0) = ML from rfl]
    change Calls Try.prog 39 #[.agg #[.int .i64 9, .int .u8 (c : Int), .int .u64 (x0 : Int), .int .u64 x1, .int .u64 x2, .int .u64 x3, .int .i64 nn, .int .i64 lo, .int .i64 hi, u]] w _
    have a0 := X0.out.cell 0 _ rfl
    have a9 := X0.out.cell 9 _ rfl
    go_enter Try.func39, Try.ntmps39
    go_wp2_with (first | (go_at_call 59; refine (ONE.out _ B0.out).mono ?_; rintro e w6 ⟨rfl, b6⟩))
    go_ret
    exact ⟨rfl, B0.out.trans (b6.mono B0.out.size)⟩
  have b1 : (k == 1) = false := by simpa using k1
  have b2 : (k == 2) = false := by simpa using k2
  have b3 : (k == 3) = false := by simpa using k3
  have b6 : (k == 6) = false := by simpa using k6
  have b8 : (k == 8) = false := by simpa using k8
  have b9 : (k == 9) = false := by simpa using k9
  have b10 : (k == 10) = false := by simpa using k10
  have HE : Hid ((if ((⟨k, c, x0, x1, x2, x3, nn, lo, hi⟩ : Hd).k = 1 ∨ (⟨k, c, x0, x1, x2, x3, nn, lo, hi⟩ : Hd).k = 2 ∨ (⟨k, c, x0, x1, x2, x3, nn, lo, hi⟩ : Hd).k = 3) then (1 : Int) else if (⟨k, c, x0, x1, x2, x3, nn, lo, hi⟩ : Hd).k = 6 then FL else if (⟨k, c, x0, x1, x2, x3, nn, lo, hi⟩ : Hd).k = 10 then timesI (⟨k, c, x0, x1, x2, x3, nn, lo, hi⟩ : Hd).lo FL else if (⟨k, c, x0, x1, x2, x3, nn, lo, hi⟩ : Hd).k = 8 then SL else if (⟨k, c, x0, x1, x2, x3, nn, lo, hi⟩ : Hd).k = 9 then ML else 0) = 0) := by
    unfold Hid
    rw [if_neg (by intro q; rcases q with q | q | q; exact k1 q; exact k2 q; exact k3 q), if_neg k6, if_neg k10, if_neg k8, if_neg k9]
  rw [HE.out]
  clear HE k1 k2 k3 k6 k8 k9 k10
  change Calls Try.prog 39 #[.agg #[.int .i64 k, .int .u8 (c : Int), .int .u64 (x0 : Int), .int .u64 x1, .int .u64 x2, .int .u64 x3, .int .i64 nn, .int .i64 lo, .int .i64 hi, u]] w _
  have a0 := X0.out.cell 0 _ rfl
  go_enter Try.func39, Try.ntmps39
  go_wp2
  go_ret
  exact ⟨rfl, B0.out⟩
theorem least_any (t : T) : LeastP 39 t := by
  induction t using T.ind; rename_i h l ih
  obtain ⟨k, c, x0, x1, x2, x3, nn, lo, hi⟩ := h
  exact least_mk k c x0 x1 x2 x3 nn lo hi l ih
end Go.Proofs.Ytaoobmpjlagkpaa
