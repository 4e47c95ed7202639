import Derived.Test.YtaoobmpjlagkpaaIb
import Derived.Test.YtaoobmpjlagkpaaTi
namespace Go.Proofs.Ytaoobmpjlagkpaa
set_option linter.unusedSimpArgs false
set_option linter.unusedVariables false
open Go.RowKit
open Go.Deep
set_option maxHeartbeats 4000000 in
set_option maxRecDepth 100000 in
theorem rleast_10 (c x0 : Nat) (x1 x2 x3 nn lo hi : Int) (l : List T) (ih : ∀ t ∈ l, LeastP 40 t) : LeastP 40 (T.mk ⟨10, c, x0, x1, x2, x3, nn, lo, hi⟩ l) := by
  intro w u hu
  rw [T.kids_mk] at hu
  rw [T.hd_mk]
  rw [leastT_mk]
  rw [show (if ((⟨10, c, x0, x1, x2, x3, nn, lo, hi⟩ : Hd).k = 1 ∨ (⟨10, c, x0, x1, x2, x3, nn, lo, hi⟩ : Hd).k = 2 ∨ (⟨10, c, x0, x1, x2, x3, nn, lo, hi⟩ : Hd).k = 3) then (1 : Int) else if (⟨10, c, x0, x1, x2, x3, nn, lo, hi⟩ : Hd).k = 6 then firstL l else if (⟨10, c, x0, x1, x2, x3, nn, lo, hi⟩ : Hd).k = 10 then timesI (⟨10, c, x0, x1, x2, x3, nn, lo, hi⟩ : Hd).lo (firstL l) else if (⟨10, c, x0, x1, x2, x3, nn, lo, hi⟩ : Hd).k = 8 then sumF 0 l else if (⟨10, c, x0, x1, x2, x3, nn, lo, hi⟩ : Hd).k = 9 then (if l = [] then 0 else minF mostI l) else 0) = timesI lo (firstL l) from rfl]
  have IH : Hid (∀ t ∈ l, LeastP 40 t) := ih
  clear ih
  obtain ⟨av, cp, b, o, rfl, h1, h2, h3, h4⟩ := hu
  obtain ⟨n, hn⟩ : ∃ n, n = l.length := ⟨_, rfl⟩
  have HN : Hid (n = l.length) := hn
  have HL : Hid (LAt AnyB w b o l) := h4
  have HA : Hid (0 < n → av = some ⟨b, o, none⟩) := by rw [hn]; exact h3
  rw [← hn] at h1 ⊢
  clear hn h3 h4
  have B0 : Hid (Below w.heap.size w (w.alloc (.cells (cN ⟨10, c, x0, x1, x2, x3, nn, lo, hi⟩ (.slice av n cp)).toArray 51))) := (Below.refl _ _).alloc (Nat.le_refl _) _
  have X0 : Hid (BoxN 51 (w.alloc (.cells (cN ⟨10, c, x0, x1, x2, x3, nn, lo, hi⟩ (.slice av n cp)).toArray 51)) w.heap.size ⟨10, c, x0, x1, x2, x3, nn, lo, hi⟩ (.slice av n cp)) := BoxN.new 51 w ⟨10, c, x0, x1, x2, x3, nn, lo, hi⟩ (.slice av n cp)
  by_cases hn0 : n = 0
  · have hl0 : l = [] := List.eq_nil_of_length_eq_zero (by rw [← HN.out]; exact hn0)
    have HE : Hid (firstL l = 0) := by unfold Hid; rw [hl0]; rfl
    rw [HE.out]
    rw [show timesI lo 0 = 0 from by unfold timesI; rw [if_pos (.inr rfl)]]
    clear HE hl0 HN HL HA IH
    subst hn0
    have a0 := X0.out.cell 0 _ rfl
    have a9 := X0.out.cell 9 _ rfl
    change Calls Try.prog 40 #[.agg #[.int .i64 10, .int .u8 (c : Int), .int .u64 (x0 : Int), .int .u64 x1, .int .u64 x2, .int .u64 x3, .int .i64 nn, .int .i64 lo, .int .i64 hi, (.slice av 0 cp)]] w _
    go_enter Try.func40, Try.ntmps40
    go_wp2
    go_ret
    exact ⟨rfl, B0.out⟩
  obtain rfl := HA.out (by omega)
  have hn1 : ((n : Int) == 0) = false := by simpa using hn0
  have hn2 : ¬ (n : Int) = 0 := by omega
  have hn3 : (0 : Int) < (n : Int) := by omega
  obtain ⟨t, ht⟩ : ∃ t, l[0]? = some t := ⟨l[0]'(by rw [← HN.out]; omega), List.getElem?_eq_getElem (by rw [← HN.out]; omega)⟩
  have hF : firstL l = leastT t := by
    cases l with
    | nil => cases ht
    | cons a r => simp only [List.getElem?_cons_zero, Option.some.injEq] at ht; rw [firstL_cons, ht]
  have hmem := List.mem_of_getElem? ht
  have hat := HL.out.get ht
  have hIH := IH.out t hmem
  have hbd := least_bd.1 t
  rw [hF]
  have hC1 : 0 ≤ leastT t := hbd.1
  have hC2 : leastT t ≤ 2147483647 := hbd.2
  obtain ⟨h', l', rfl⟩ := t.out
  obtain ⟨u', r1, _, r3, r4⟩ := hat.out
  have HR : Hid ((w.alloc (.cells (cN ⟨10, c, x0, x1, x2, x3, nn, lo, hi⟩ (.slice (some ⟨b, o, none⟩) n cp)).toArray 51)).rangeAt b o (cN h' u')) := range_block (by simpa using r1) (B0.out.block b r3)
  have CALL : Hid (∀ W, Below w.heap.size w W → Calls Try.prog 40 #[vN h' u'] W fun e w' => e = .returned (.int .i64 (leastT (.mk h' l'))) ∧ Below W.heap.size W w') := fun W hW => by
    have q := hIH W u' (by rw [T.kids_mk]; exact r4.below hW)
    rw [T.hd_mk] at q; exact q
  generalize leastT (.mk h' l') = C at *
  clear hIH HN HL HA IH hat r1 r3 r4 hn0 hF hbd hmem ht
  by_cases h1 : lo < 1
  · have HE : Hid (timesI lo C = 0) := by unfold Hid timesI; rw [if_pos (.inl h1)]
    rw [HE.out]
    clear HE
    have a0 := X0.out.cell 0 _ rfl
    have a9 := X0.out.cell 9 _ rfl
    change Calls Try.prog 40 #[.agg #[.int .i64 10, .int .u8 (c : Int), .int .u64 (x0 : Int), .int .u64 x1, .int .u64 x2, .int .u64 x3, .int .i64 nn, .int .i64 lo, .int .i64 hi, (.slice (some ⟨b, o, none⟩) n cp)]] w _
    go_enter Try.func40, Try.ntmps40
    go_wp2_with (first | (refine loadN51 rfl _ rfl b o rfl h' _ HR.out ?_) | (go_at_call 40; refine (CALL.out _ B0.out).mono ?_; rintro e w6 ⟨rfl, b6⟩; have X6 := X0.out.below b6 X0.out.lt; have B6 := B0.out.trans (b6.mono B0.out.size); have c0 := X6.cell 0 _ rfl; have c7 := X6.cell 7 _ rfl; have X7 : Hid (BoxN 51 w6.drew w.heap.size ⟨10, c, x0, x1, x2, x3, nn, lo, hi⟩ (.slice (some ⟨b, o, none⟩) n cp)) := X6.blk rfl; have c7d := X7.out.cell 7 _ rfl))
    go_ret
    exact ⟨rfl, B6⟩
  by_cases h2 : C = 0
  · have HE : Hid (timesI lo C = 0) := by unfold Hid timesI; rw [if_pos (.inr h2)]
    rw [HE.out]
    subst h2
    clear HE
    have a0 := X0.out.cell 0 _ rfl
    have a9 := X0.out.cell 9 _ rfl
    change Calls Try.prog 40 #[.agg #[.int .i64 10, .int .u8 (c : Int), .int .u64 (x0 : Int), .int .u64 x1, .int .u64 x2, .int .u64 x3, .int .i64 nn, .int .i64 lo, .int .i64 hi, (.slice (some ⟨b, o, none⟩) n cp)]] w _
    go_enter Try.func40, Try.ntmps40
    go_wp2_with (first | (refine loadN51 rfl _ rfl b o rfl h' _ HR.out ?_) | (go_at_call 40; refine (CALL.out _ B0.out).mono ?_; rintro e w6 ⟨rfl, b6⟩; have X6 := X0.out.below b6 X0.out.lt; have B6 := B0.out.trans (b6.mono B0.out.size); have c0 := X6.cell 0 _ rfl; have c7 := X6.cell 7 _ rfl; have X7 : Hid (BoxN 51 w6.drew w.heap.size ⟨10, c, x0, x1, x2, x3, nn, lo, hi⟩ (.slice (some ⟨b, o, none⟩) n cp)) := X6.blk rfl; have c7d := X7.out.cell 7 _ rfl))
    go_ret
    exact ⟨rfl, B6⟩
  have h2b : (C == 0) = false := by simpa using h2
  have hq : Int.tdiv 2147483647 C = 2147483647 / C := by rw [Int.tdiv_eq_ediv_of_nonneg (by omega)]
  have hq0 : 0 ≤ 2147483647 / C := Int.ediv_nonneg (by omega) hC1
  have hq1 : 2147483647 / C ≤ 2147483647 := Int.ediv_le_self _ (by omega)
  by_cases h3 : 2147483647 / C < lo
  · have HE : Hid (timesI lo C = 2147483647) := by unfold Hid timesI mostI; rw [if_neg (by omega), if_pos h3]
    rw [HE.out]
    clear HE
    generalize 2147483647 / C = Q at *
    have hwq : IntKind.i64.wrap Q = Q := by rw [IntKind.wrap_i64]; omega
    have a0 := X0.out.cell 0 _ rfl
    have a9 := X0.out.cell 9 _ rfl
    change Calls Try.prog 40 #[.agg #[.int .i64 10, .int .u8 (c : Int), .int .u64 (x0 : Int), .int .u64 x1, .int .u64 x2, .int .u64 x3, .int .i64 nn, .int .i64 lo, .int .i64 hi, (.slice (some ⟨b, o, none⟩) n cp)]] w _
    go_enter Try.func40, Try.ntmps40
    go_wp2_with (first | (refine loadN51 rfl _ rfl b o rfl h' _ HR.out ?_) | (go_at_call 40; refine (CALL.out _ B0.out).mono ?_; rintro e w6 ⟨rfl, b6⟩; have X6 := X0.out.below b6 X0.out.lt; have B6 := B0.out.trans (b6.mono B0.out.size); have c0 := X6.cell 0 _ rfl; have c7 := X6.cell 7 _ rfl; have X7 : Hid (BoxN 51 w6.drew w.heap.size ⟨10, c, x0, x1, x2, x3, nn, lo, hi⟩ (.slice (some ⟨b, o, none⟩) n cp)) := X6.blk rfl; have c7d := X7.out.cell 7 _ rfl))
    refine wp_region_noPanic ?_
    refine wp_region_held_drew (S := fun W => BoxN 51 W w.heap.size ⟨10, c, x0, x1, x2, x3, nn, lo, hi⟩ (.slice (some ⟨b, o, none⟩) n cp)) (by kernel_rfl) (X7.out) (fun hHeld => ?_)
    try simp only [Act.put, List.setIfInBounds_toArray, List.set_cons_zero, List.set_cons_succ]
    refine wpAnyH_take (i := 0) (oi := { dst := some 37, op := Go.Op.fieldAddr 51 (Go.Operand.tmp 1) 4, type := 0, pos := "ref.go:217", after := #[], guard := none }) (v := ?_) rfl (by kernel_rfl) (by kernel_rfl) (by kernel_rfl) (fun _ _ _ h => h) (Or.inl ⟨by rfl, ?_⟩) hHeld ?_
    rotate_left 1
    · (intro wq hSq; (try dsimp only at hSq); go_simp; first | done | with_reducible rfl)
    try simp only [Act.put, List.setIfInBounds_toArray, List.set_cons_zero, List.set_cons_succ]
    refine wpAnyH_take (i := 1) (oi := { dst := some 38, op := Go.Op.load 3 (Go.Operand.tmp 37), type := 3, pos := "ref.go:217", after := #[{ on := 0, ground := Go.Ground.data }], guard := none }) (v := ?_) rfl (by kernel_rfl) (by kernel_rfl) (by kernel_rfl) (fun _ _ _ h => h) (Or.inl ⟨by rfl, ?_⟩) hHeld ?_
    rotate_left 1
    · (intro wq hSq; (try dsimp only at hSq); have c := BoxN.cell hSq 7 _ rfl; go_simp; first | done | with_reducible rfl)
    try simp only [Act.put, List.setIfInBounds_toArray, List.set_cons_zero, List.set_cons_succ]
    refine wpAnyH_take (i := 2) (oi := { dst := some 39, op := Go.Op.move (Go.Operand.tmp 3), type := 3, pos := "ref.go:217", after := #[], guard := none }) (v := ?_) rfl (by kernel_rfl) (by kernel_rfl) (by kernel_rfl) (fun _ _ _ h => h) (Or.inl ⟨by rfl, ?_⟩) hHeld ?_
    rotate_left 1
    · (intro wq hSq; (try dsimp only at hSq); go_simp; first | done | with_reducible rfl)
    try simp only [Act.put, List.setIfInBounds_toArray, List.set_cons_zero, List.set_cons_succ]
    refine wpAnyH_take (i := 3) (oi := { dst := some 40, op := Go.Op.binOp Go.BinOp.quo 3 (Go.Operand.const (Go.Value.int Go.IntKind.i64 2147483647)) (Go.Operand.tmp 39) 3, type := 3, pos := "ref.go:217", after := #[{ on := 2, ground := Go.Ground.data }], guard := none }) (v := ?_) rfl (by kernel_rfl) (by kernel_rfl) (by kernel_rfl) (fun _ _ _ h => h) (Or.inl ⟨by rfl, ?_⟩) hHeld ?_
    rotate_left 1
    · (intro wq hSq; (try dsimp only at hSq); go_simp; first | done | with_reducible rfl)
    try simp only [Act.put, List.setIfInBounds_toArray, List.set_cons_zero, List.set_cons_succ]
    refine wpAnyH_take (i := 4) (oi := { dst := some 41, op := Go.Op.binOp Go.BinOp.gtr 3 (Go.Operand.tmp 38) (Go.Operand.tmp 40) 3, type := 4, pos := "ref.go:217", after := #[{ on := 1, ground := Go.Ground.data }, { on := 3, ground := Go.Ground.data }], guard := none }) (v := ?_) rfl (by kernel_rfl) (by kernel_rfl) (by kernel_rfl) (fun _ _ _ h => h) (Or.inl ⟨by rfl, ?_⟩) hHeld ?_
    rotate_left 1
    · (intro wq hSq; (try dsimp only at hSq); go_simp; first | done | with_reducible rfl)
    try simp only [Act.put, List.setIfInBounds_toArray, List.set_cons_zero, List.set_cons_succ]
    refine wpAnyH_done (by kernel_rfl) ?_ _
    refine NoPanic.normal ?_
    go_wp2
    go_ret
    exact ⟨rfl, B6.drew⟩
  · have HE : Hid (timesI lo C = lo * C) := by unfold Hid timesI mostI; rw [if_neg (by omega), if_neg h3]
    have hm1 : lo * C ≤ 2147483647 := by
      have q1 : lo * C ≤ 2147483647 / C * C := Int.mul_le_mul_of_nonneg_right (by omega) hC1
      have q2 := Int.ediv_mul_le 2147483647 (show C ≠ 0 from h2)
      omega
    have hm0 : 0 ≤ lo * C := Int.mul_nonneg (by omega) hC1
    rw [HE.out]
    clear HE
    generalize 2147483647 / C = Q at *
    have hwq : IntKind.i64.wrap Q = Q := by rw [IntKind.wrap_i64]; omega
    have a0 := X0.out.cell 0 _ rfl
    have a9 := X0.out.cell 9 _ rfl
    change Calls Try.prog 40 #[.agg #[.int .i64 10, .int .u8 (c : Int), .int .u64 (x0 : Int), .int .u64 x1, .int .u64 x2, .int .u64 x3, .int .i64 nn, .int .i64 lo, .int .i64 hi, (.slice (some ⟨b, o, none⟩) n cp)]] w _
    go_enter Try.func40, Try.ntmps40
    go_wp2_with (first | (refine loadN51 rfl _ rfl b o rfl h' _ HR.out ?_) | (go_at_call 40; refine (CALL.out _ B0.out).mono ?_; rintro e w6 ⟨rfl, b6⟩; have X6 := X0.out.below b6 X0.out.lt; have B6 := B0.out.trans (b6.mono B0.out.size); have c0 := X6.cell 0 _ rfl; have c7 := X6.cell 7 _ rfl; have X7 : Hid (BoxN 51 w6.drew w.heap.size ⟨10, c, x0, x1, x2, x3, nn, lo, hi⟩ (.slice (some ⟨b, o, none⟩) n cp)) := X6.blk rfl; have c7d := X7.out.cell 7 _ rfl))
    refine wp_region_noPanic ?_
    refine wp_region_held_drew (S := fun W => BoxN 51 W w.heap.size ⟨10, c, x0, x1, x2, x3, nn, lo, hi⟩ (.slice (some ⟨b, o, none⟩) n cp)) (by kernel_rfl) (X7.out) (fun hHeld => ?_)
    try simp only [Act.put, List.setIfInBounds_toArray, List.set_cons_zero, List.set_cons_succ]
    refine wpAnyH_take (i := 0) (oi := { dst := some 37, op := Go.Op.fieldAddr 51 (Go.Operand.tmp 1) 4, type := 0, pos := "ref.go:217", after := #[], guard := none }) (v := ?_) rfl (by kernel_rfl) (by kernel_rfl) (by kernel_rfl) (fun _ _ _ h => h) (Or.inl ⟨by rfl, ?_⟩) hHeld ?_
    rotate_left 1
    · (intro wq hSq; (try dsimp only at hSq); go_simp; first | done | with_reducible rfl)
    try simp only [Act.put, List.setIfInBounds_toArray, List.set_cons_zero, List.set_cons_succ]
    refine wpAnyH_take (i := 1) (oi := { dst := some 38, op := Go.Op.load 3 (Go.Operand.tmp 37), type := 3, pos := "ref.go:217", after := #[{ on := 0, ground := Go.Ground.data }], guard := none }) (v := ?_) rfl (by kernel_rfl) (by kernel_rfl) (by kernel_rfl) (fun _ _ _ h => h) (Or.inl ⟨by rfl, ?_⟩) hHeld ?_
    rotate_left 1
    · (intro wq hSq; (try dsimp only at hSq); have c := BoxN.cell hSq 7 _ rfl; go_simp; first | done | with_reducible rfl)
    try simp only [Act.put, List.setIfInBounds_toArray, List.set_cons_zero, List.set_cons_succ]
    refine wpAnyH_take (i := 2) (oi := { dst := some 39, op := Go.Op.move (Go.Operand.tmp 3), type := 3, pos := "ref.go:217", after := #[], guard := none }) (v := ?_) rfl (by kernel_rfl) (by kernel_rfl) (by kernel_rfl) (fun _ _ _ h => h) (Or.inl ⟨by rfl, ?_⟩) hHeld ?_
    rotate_left 1
    · (intro wq hSq; (try dsimp only at hSq); go_simp; first | done | with_reducible rfl)
    try simp only [Act.put, List.setIfInBounds_toArray, List.set_cons_zero, List.set_cons_succ]
    refine wpAnyH_take (i := 3) (oi := { dst := some 40, op := Go.Op.binOp Go.BinOp.quo 3 (Go.Operand.const (Go.Value.int Go.IntKind.i64 2147483647)) (Go.Operand.tmp 39) 3, type := 3, pos := "ref.go:217", after := #[{ on := 2, ground := Go.Ground.data }], guard := none }) (v := ?_) rfl (by kernel_rfl) (by kernel_rfl) (by kernel_rfl) (fun _ _ _ h => h) (Or.inl ⟨by rfl, ?_⟩) hHeld ?_
    rotate_left 1
    · (intro wq hSq; (try dsimp only at hSq); go_simp; first | done | with_reducible rfl)
    try simp only [Act.put, List.setIfInBounds_toArray, List.set_cons_zero, List.set_cons_succ]
    refine wpAnyH_take (i := 4) (oi := { dst := some 41, op := Go.Op.binOp Go.BinOp.gtr 3 (Go.Operand.tmp 38) (Go.Operand.tmp 40) 3, type := 4, pos := "ref.go:217", after := #[{ on := 1, ground := Go.Ground.data }, { on := 3, ground := Go.Ground.data }], guard := none }) (v := ?_) rfl (by kernel_rfl) (by kernel_rfl) (by kernel_rfl) (fun _ _ _ h => h) (Or.inl ⟨by rfl, ?_⟩) hHeld ?_
    rotate_left 1
    · (intro wq hSq; (try dsimp only at hSq); go_simp; first | done | with_reducible rfl)
    try simp only [Act.put, List.setIfInBounds_toArray, List.set_cons_zero, List.set_cons_succ]
    refine wpAnyH_done (by kernel_rfl) ?_ _
    refine NoPanic.normal ?_
    go_wp2
    go_ret
    exact ⟨rfl, B6.drew⟩
end Go.Proofs.Ytaoobmpjlagkpaa
