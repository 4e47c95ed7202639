import Derived.Test.YtnhbjjjoocpedaaYc
namespace Go.Proofs.Ytnhbjjjoocpedaa
set_option linter.unusedSimpArgs false
set_option linter.unusedVariables false
open Go.RowKit
def isSpecial (c : Nat) : Prop := c = 91 ∨ c = 93 ∨ c = 94 ∨ c = 45 ∨ c = 92 ∨ c = 10
set_option maxHeartbeats 1000000 in
set_option maxRecDepth 100000 in
theorem special_yes (c : Nat) (h : isSpecial c) (w : World) : Calls Try.prog 23 #[.int .u8 c] w fun e w' => e = .returned (.bool true) ∧ w = w' := by
  rcases h with rfl | rfl | rfl | rfl | rfl | rfl
  all_goals
    go_enter Try.func23, Try.ntmps23
    go_wp2
    go_ret
    exact ⟨rfl, rfl⟩
set_option maxHeartbeats 1000000 in
set_option maxRecDepth 100000 in
theorem special_no (c : Nat) (h : ¬ isSpecial c) (w : World) : Calls Try.prog 23 #[.int .u8 c] w fun e w' => e = .returned (.bool false) ∧ w = w' := by
  have h1 : ((c : Int) == 91) = false := by rw [beq_eq_false_iff_ne]; intro q; exact h (.inl (by omega))
  have h2 : ((c : Int) == 93) = false := by rw [beq_eq_false_iff_ne]; intro q; exact h (.inr (.inl (by omega)))
  have h3 : ((c : Int) == 94) = false := by rw [beq_eq_false_iff_ne]; intro q; exact h (.inr (.inr (.inl (by omega))))
  have h4 : ((c : Int) == 45) = false := by rw [beq_eq_false_iff_ne]; intro q; exact h (.inr (.inr (.inr (.inl (by omega)))))
  have h5 : ((c : Int) == 92) = false := by rw [beq_eq_false_iff_ne]; intro q; exact h (.inr (.inr (.inr (.inr (.inl (by omega))))))
  have h6 : ((c : Int) == 10) = false := by rw [beq_eq_false_iff_ne]; intro q; exact h (.inr (.inr (.inr (.inr (.inr (by omega))))))
  clear h
  go_enter Try.func23, Try.ntmps23
  go_wp2
  go_ret
  exact ⟨rfl, rfl⟩
theorem range_vals (a b : UInt8) (ha : ¬ isSpecial a.toNat) (hb : ¬ isSpecial b.toNat) :
    parseP [91, a, 45, b, 93] 0 = if b.toNat < a.toNat then (S4.zero, 0, 10) else (S4.zero.rng a.toNat b.toNat, 5, 0) := by
  have na : ∀ k : UInt8, isSpecial k.toNat → (k == a) = false := fun k hk => by
    rw [beq_eq_false_iff_ne]; intro q; rw [q] at hk; exact ha hk
  have nb : ∀ k : UInt8, isSpecial k.toNat → (k == b) = false := fun k hk => by
    rw [beq_eq_false_iff_ne]; intro q; rw [q] at hk; exact hb hk
  have a91 := na 91 (.inl rfl)
  have a93 := na 93 (.inr (.inl rfl))
  have a94 := na 94 (.inr (.inr (.inl rfl)))
  have a92 := na 92 (.inr (.inr (.inr (.inr (.inl rfl)))))
  have b91 := nb 91 (.inl rfl)
  have b93 := nb 93 (.inr (.inl rfl))
  have b45 := nb 45 (.inr (.inr (.inr (.inl rfl))))
  have b92 := nb 92 (.inr (.inr (.inr (.inr (.inl rfl)))))
  have a10 : ¬ a = 10 := fun q => ha (by rw [q]; exact .inr (.inr (.inr (.inr (.inr rfl)))))
  have b10 : ¬ b = 10 := fun q => hb (by rw [q]; exact .inr (.inr (.inr (.inr (.inr rfl)))))
  have s1 : signP (a :: 45 :: b :: [93]) = some (a, 45 :: b :: [93]) := by simp [signP, singleP, pre, List.isPrefixOf, byteA, a91, a92, a10]
  have s2 : signP (b :: [93]) = some (b, [93]) := by simp [signP, singleP, pre, List.isPrefixOf, byteA, b91, b92, b10]
  have m1 : memberP (a :: 45 :: b :: [93]) = if b.toNat < a.toNat then none else some (S4.zero.rng a.toNat b.toNat, [93]) := by
    unfold memberP
    rw [s1]
    have p1 : pre [91, 61] (a :: 45 :: b :: [93]) = false := by simp [pre, List.isPrefixOf, a91]
    have p2 : pre [91, 58] (a :: 45 :: b :: [93]) = false := by simp [pre, List.isPrefixOf, a91]
    have p3 : pre [45, 93] (45 :: b :: [93]) = false := by simp [pre, List.isPrefixOf, b93]
    have p4 : pre [45] (45 :: b :: [93]) = true := by simp [pre, List.isPrefixOf]
    have p5 : pre [45] (b :: [93]) = false := by simp [pre, List.isPrefixOf, b45]
    rw [p1, p2]
    simp only [Bool.false_eq_true, if_false]
    unfold tailP
    rw [p3, p4]
    simp only [Bool.not_true, Bool.or_self, Bool.false_eq_true, if_false, List.drop_succ_cons, List.drop_zero, s2, p5]
    by_cases h : b.toNat < a.toNat
    · rw [if_pos (.inl h), if_pos h]
    · rw [if_neg (by rintro (q | ⟨q, _⟩); exact h q; exact q), if_neg h]
  have e1 : exprP (a :: 45 :: b :: [93]) = if b.toNat < a.toNat then none else some (S4.zero.rng a.toNat b.toNat, []) := by
    rw [exprP_eq]
    have p : pre [94] (a :: 45 :: b :: [93]) = false := by simp [pre, List.isPrefixOf, a94]
    rw [p]
    simp only [Bool.false_eq_true, if_false]
    by_cases h : b.toNat < a.toNat
    · rw [if_pos h] at m1 ⊢
      exact restP_none true _ _ (by simp) m1
    · rw [if_neg h] at m1 ⊢
      rw [restP_some true _ _ (by simp) m1, or_zero, restP_end _ _ (by simp [pre, List.isPrefixOf])]
      rfl
  rw [parse_open, e1]
  by_cases h : b.toNat < a.toNat
  · rw [if_pos h, if_pos h]
  · rw [if_neg h, if_neg h]; rfl
theorem conv3 (w : World) (a m b : Int) : (convert 47 9 (.slice (some ⟨w.heap.size, 0, none⟩) 3 3)).run Try.prog (w.alloc (.cells #[.int .u8 a, .int .u8 m, .int .u8 b] 5)) = .ok (.string (strOfNums [a, m, b])) (w.alloc (.cells #[.int .u8 a, .int .u8 m, .int .u8 b] 5)) :=
  run_convert_bytes_arg _ 47 5 Try.underlying47 Try.underlying5 w.heap.size 0 3 3 [a, m, b] rfl (fun i hi => by
    have h : i = 0 ∨ i = 1 ∨ i = 2 := by omega
    rcases h with rfl | rfl | rfl <;> go_simp <;> rfl) 9 Try.underlying9
set_option maxHeartbeats 4000000 in
set_option maxRecDepth 100000 in
theorem range_a (a b : Nat) (ha : a < 256) (hb : b < 256) (w : World) (hM : MaxL w) (h1 : isSpecial a) : Calls Try.prog 8 #[.int .u8 a, .int .u8 b] w fun e w' => e = .returned (.bool true) ∧ Below w.heap.size w w' := by
  have HM : Hid (MaxL w) := hM
  have AW : Hid (∀ w, MaxL w → Calls Try.prog 9 #[] w fun e w' => e = .returned (.bool true) ∧ Below w.heap.size w w') := fun w h => awake_any w h
  have SA : Hid (∀ w, Calls Try.prog 23 #[.int .u8 a] w fun e w' => e = .returned (.bool true) ∧ w = w') := fun w => special_yes a h1 w
  clear hM h1
  go_enter Try.func8, Try.ntmps8
  go_wp2_with fail
  refine (AW.out _ HM.out).mono ?_
  rintro e w1 ⟨rfl, b1⟩
  have B1 : Hid (Below w.heap.size w w1) := b1
  have M1 : Hid (MaxL w1) := HM.out.below b1
  clear b1
  go_wp2_with fail
  refine (SA.out _).mono ?_
  rintro e w' ⟨rfl, hww⟩
  subst hww
  go_wp2_with fail
  refine (AW.out _ M1.out).mono ?_
  rintro e w2 ⟨rfl, b2⟩
  have B2 : Hid (Below w.heap.size w w2) := B1.out.trans (b2.mono B1.out.size)
  clear b2
  go_wp2
  go_ret
  exact ⟨rfl, B2.out⟩
set_option maxHeartbeats 4000000 in
set_option maxRecDepth 100000 in
theorem range_b (a b : Nat) (ha : a < 256) (hb : b < 256) (w : World) (hM : MaxL w) (h1 : ¬ isSpecial a) (h2 : isSpecial b) : Calls Try.prog 8 #[.int .u8 a, .int .u8 b] w fun e w' => e = .returned (.bool true) ∧ Below w.heap.size w w' := by
  have HM : Hid (MaxL w) := hM
  have AW : Hid (∀ w, MaxL w → Calls Try.prog 9 #[] w fun e w' => e = .returned (.bool true) ∧ Below w.heap.size w w') := fun w h => awake_any w h
  have SA : Hid (∀ w, Calls Try.prog 23 #[.int .u8 a] w fun e w' => e = .returned (.bool false) ∧ w = w') := fun w => special_no a h1 w
  have SB : Hid (∀ w, Calls Try.prog 23 #[.int .u8 b] w fun e w' => e = .returned (.bool true) ∧ w = w') := fun w => special_yes b h2 w
  clear hM h1 h2
  go_enter Try.func8, Try.ntmps8
  go_wp2_with fail
  refine (AW.out _ HM.out).mono ?_
  rintro e w1 ⟨rfl, b1⟩
  have B1 : Hid (Below w.heap.size w w1) := b1
  have M1 : Hid (MaxL w1) := HM.out.below b1
  clear b1
  go_wp2_with fail
  refine (SA.out _).mono ?_
  rintro e w' ⟨rfl, hww⟩
  subst hww
  go_wp2_with fail
  refine (SB.out _).mono ?_
  rintro e w' ⟨rfl, hww⟩
  subst hww
  go_wp2_with fail
  refine (AW.out _ M1.out).mono ?_
  rintro e w2 ⟨rfl, b2⟩
  have B2 : Hid (Below w.heap.size w w2) := B1.out.trans (b2.mono B1.out.size)
  clear b2
  go_wp2
  go_ret
  exact ⟨rfl, B2.out⟩
set_option maxHeartbeats 4000000 in
set_option maxRecDepth 100000 in
theorem range_c (a b : Nat) (ha : a < 256) (hb : b < 256) (w : World) (hM : MaxL w) (h1 : ¬ isSpecial a) (h2 : ¬ isSpecial b) (hab : b < a) : Calls Try.prog 8 #[.int .u8 a, .int .u8 b] w fun e w' => e = .returned (.bool true) ∧ Below w.heap.size w w' := by
  have HM : Hid (MaxL w) := hM
  have AW : Hid (∀ w, MaxL w → Calls Try.prog 9 #[] w fun e w' => e = .returned (.bool true) ∧ Below w.heap.size w w') := fun w h => awake_any w h
  have SA : Hid (∀ w, Calls Try.prog 23 #[.int .u8 a] w fun e w' => e = .returned (.bool false) ∧ w = w') := fun w => special_no a h1 w
  have SB : Hid (∀ w, Calls Try.prog 23 #[.int .u8 b] w fun e w' => e = .returned (.bool false) ∧ w = w') := fun w => special_no b h2 w
  obtain ⟨T, hT⟩ : ∃ T, strOfNums [(a : Int), 45, (b : Int)] = T := ⟨_, rfl⟩
  have hTd : T.data.toList = [UInt8.ofNat a, 45, UInt8.ofNat b] := by rw [← hT, strOfNums_data]; simp
  have hTs : T.size = 3 := by rw [Lib.size_eq, hTd]; rfl
  have CV : Hid (∀ W : World, (convert 47 9 (.slice (some ⟨W.heap.size, 0, none⟩) 3 3)).run Try.prog (W.alloc (.cells #[.int .u8 a, .int .u8 45, .int .u8 b] 5)) = .ok (.string T) (W.alloc (.cells #[.int .u8 a, .int .u8 45, .int .u8 b] 5))) := fun W => by rw [← hT]; exact conv3 W a 45 b
  have na : (UInt8.ofNat a).toNat = a := by simp; omega
  have nb : (UInt8.ofNat b).toNat = b := by simp; omega
  have hd : (⟨#[91]⟩ ++ T ++ ⟨#[93]⟩ : ByteArray).data.toList = [91, UInt8.ofNat a, 45, UInt8.ofNat b, 93] := by rw [app_data, app_data, hTd]; rfl
  have hds : (⟨#[91]⟩ ++ T ++ ⟨#[93]⟩ : ByteArray).size ≤ 4000000 := by rw [Lib.size_eq, hd]; simp
  have PP := parse_call (⟨#[91]⟩ ++ T ++ ⟨#[93]⟩) S4.zero 0 10 hds (by rw [hd, range_vals _ _ (by rw [na]; exact h1) (by rw [nb]; exact h2), na, nb, if_pos hab])
  have hlt : (b : Int) < (a : Int) := by omega
  clear hM h1 h2 hT hTd na nb hd hds hab
  go_enter Try.func8, Try.ntmps8
  go_wp2_with fail
  refine (AW.out _ HM.out).mono ?_
  rintro e w1 ⟨rfl, b1⟩
  have B1 : Hid (Below w.heap.size w w1) := b1
  have M1 : Hid (MaxL w1) := HM.out.below b1
  clear b1
  go_wp2_with fail
  refine (SA.out _).mono ?_
  rintro e w' ⟨rfl, hww⟩
  subst hww
  go_wp2_with fail
  refine (SB.out _).mono ?_
  rintro e w' ⟨rfl, hww⟩
  subst hww
  have cv := CV.out w1
  have M2 : Hid (MaxL (w1.alloc (.cells #[.int .u8 a, .int .u8 45, .int .u8 b] 5))) := M1.out.alloc _
  have B2 : Hid (Below w.heap.size w (w1.alloc (.cells #[.int .u8 a, .int .u8 45, .int .u8 b] 5))) := B1.out.alloc B1.out.size _
  clear CV
  go_wp2_with fail
  refine (PP.out _ M2.out).mono ?_
  rintro e w3 ⟨x0, x1, x2, x3, rfl, sv, b3⟩
  have B3 : Hid (Below w.heap.size w w3) := B2.out.trans (b3.mono B2.out.size)
  obtain ⟨rfl, rfl, rfl, rfl⟩ := SV.nought.uniq sv
  have heq : ∀ W, (Op.equalIn 10000 26 (.agg #[.int .u64 0, .int .u64 0, .int .u64 0, .int .u64 0]) (.agg #[.int .u64 0, .int .u64 0, .int .u64 0, .int .u64 0])).run Try.prog W = .ok true W := fun W => eq26_self 0 0 0 0 W
  clear b3 sv PP cv B1 B2 M2 M1
  go_wp2
  go_ret
  exact ⟨rfl, B3.out.alloc B3.out.size _⟩
set_option maxHeartbeats 4000000 in
set_option maxRecDepth 100000 in
theorem range_d (a b : Nat) (ha : a < 256) (hb : b < 256) (w : World) (hM : MaxL w) (h1 : ¬ isSpecial a) (h2 : ¬ isSpecial b) (hab : ¬ b < a) : Calls Try.prog 8 #[.int .u8 a, .int .u8 b] w fun e w' => e = .returned (.bool true) ∧ Below w.heap.size w w' := by
  have HM : Hid (MaxL w) := hM
  have AW : Hid (∀ w, MaxL w → Calls Try.prog 9 #[] w fun e w' => e = .returned (.bool true) ∧ Below w.heap.size w w') := fun w h => awake_any w h
  have SA : Hid (∀ w, Calls Try.prog 23 #[.int .u8 a] w fun e w' => e = .returned (.bool false) ∧ w = w') := fun w => special_no a h1 w
  have SB : Hid (∀ w, Calls Try.prog 23 #[.int .u8 b] w fun e w' => e = .returned (.bool false) ∧ w = w') := fun w => special_no b h2 w
  obtain ⟨T, hT⟩ : ∃ T, strOfNums [(a : Int), 45, (b : Int)] = T := ⟨_, rfl⟩
  have hTd : T.data.toList = [UInt8.ofNat a, 45, UInt8.ofNat b] := by rw [← hT, strOfNums_data]; simp
  have hTs : T.size = 3 := by rw [Lib.size_eq, hTd]; rfl
  have CV : Hid (∀ W : World, (convert 47 9 (.slice (some ⟨W.heap.size, 0, none⟩) 3 3)).run Try.prog (W.alloc (.cells #[.int .u8 a, .int .u8 45, .int .u8 b] 5)) = .ok (.string T) (W.alloc (.cells #[.int .u8 a, .int .u8 45, .int .u8 b] 5))) := fun W => by rw [← hT]; exact conv3 W a 45 b
  have na : (UInt8.ofNat a).toNat = a := by simp; omega
  have nb : (UInt8.ofNat b).toNat = b := by simp; omega
  have hd : (⟨#[91]⟩ ++ T ++ ⟨#[93]⟩ : ByteArray).data.toList = [91, UInt8.ofNat a, 45, UInt8.ofNat b, 93] := by rw [app_data, app_data, hTd]; rfl
  have hds : (⟨#[91]⟩ ++ T ++ ⟨#[93]⟩ : ByteArray).size ≤ 4000000 := by rw [Lib.size_eq, hd]; simp
  have PP := parse_call (⟨#[91]⟩ ++ T ++ ⟨#[93]⟩) (S4.zero.rng a b) 5 0 hds (by rw [hd, range_vals _ _ (by rw [na]; exact h1) (by rw [nb]; exact h2), na, nb, if_neg hab])
  have C15 : Hid (∀ w, Calls Try.prog 15 #[.agg #[.int .u64 0, .int .u64 0, .int .u64 0, .int .u64 0], .int .u8 a, .int .u8 b] w fun e w' => ∃ y0 y1 y2 y3, e = .returned (.agg #[.int .u64 y0, .int .u64 y1, .int .u64 y2, .int .u64 y3]) ∧ SV (S4.zero.rng a b) y0 y1 y2 y3 ∧ Below w.heap.size w w') := fun w => with_any15 S4.zero a b ha hb 0 0 0 0 SV.nought w
  have hlt : ¬ (b : Int) < (a : Int) := by omega
  clear hM h1 h2 hT hTd na nb hd hds hab
  go_enter Try.func8, Try.ntmps8
  go_wp2_with fail
  refine (AW.out _ HM.out).mono ?_
  rintro e w1 ⟨rfl, b1⟩
  have B1 : Hid (Below w.heap.size w w1) := b1
  have M1 : Hid (MaxL w1) := HM.out.below b1
  clear b1
  go_wp2_with fail
  refine (SA.out _).mono ?_
  rintro e w' ⟨rfl, hww⟩
  subst hww
  go_wp2_with fail
  refine (SB.out _).mono ?_
  rintro e w' ⟨rfl, hww⟩
  subst hww
  have cv := CV.out w1
  have M2 : Hid (MaxL (w1.alloc (.cells #[.int .u8 a, .int .u8 45, .int .u8 b] 5))) := M1.out.alloc _
  have B2 : Hid (Below w.heap.size w (w1.alloc (.cells #[.int .u8 a, .int .u8 45, .int .u8 b] 5))) := B1.out.alloc B1.out.size _
  clear CV
  go_wp2_with fail
  refine (PP.out _ M2.out).mono ?_
  rintro e w3 ⟨x0, x1, x2, x3, rfl, sv, b3⟩
  have B3 : Hid (Below w.heap.size w w3) := B2.out.trans (b3.mono B2.out.size)
  have C15 := same_call _ _ _ _ _ _ _ () () sv C15
  have heq : ∀ W, (Op.equalIn 10000 24 (.agg #[.int .u64 x0, .int .u64 x1, .int .u64 x2, .int .u64 x3]) (.agg #[.int .u64 x0, .int .u64 x1, .int .u64 x2, .int .u64 x3])).run Try.prog W = .ok true W := fun W => eq24_self x0 x1 x2 x3 W
  clear b3 sv PP cv B1 B2 M2 M1
  go_wp2
  obtain ⟨W, hW⟩ : ∃ W, W = w3.alloc (.cells #[.int .u64 x0, .int .u64 x1, .int .u64 x2, .int .u64 x3] 26) := ⟨_, rfl⟩
  have BA : Hid (BoxS W w3.heap.size x0 x1 x2 x3) := by rw [hW]; exact BoxS.new w3 26 x0 x1 x2 x3
  have BW : Hid (Below w.heap.size w W ∧ w.heap.size ≤ W.heap.size) := by rw [hW]; exact ⟨B3.out.alloc B3.out.size _, by have := B3.out.size; simp; omega⟩
  have hwa : w3.heap.size < W.heap.size := by rw [hW]; simp
  rw [← hW]
  clear hW
  refine wp_region_noPanic ?_
  refine wp_region_held_drew (S := fun w' => Below W.heap.size W w') (by kernel_rfl) ((Below.refl _ _).drew) (fun hHeld => ?_)
  try simp only [Act.put, List.setIfInBounds_toArray, List.set_cons_zero, List.set_cons_succ]
  refine wpAnyH_take (i := 0) (oi := { dst := some 46, op := Go.Op.move (Go.Operand.tmp 8), type := 39, pos := "law.go:79", after := #[], guard := none }) (v := ?_) rfl (by kernel_rfl) (by kernel_rfl) (by kernel_rfl) (fun _ _ _ h => h) (Or.inl ⟨by rfl, ?_⟩) hHeld ?_
  rotate_left 1
  · (intro wq hSq; (try dsimp only at hSq); go_simp; first | done | with_reducible rfl)
  try simp only [Act.put, List.setIfInBounds_toArray, List.set_cons_zero, List.set_cons_succ]
  refine wpAnyH_take (i := 1) (oi := { dst := some 47, op := Go.Op.binOp Go.BinOp.eql 39 (Go.Operand.tmp 46) (Go.Operand.const (Go.Value.int Go.IntKind.i64 0)) 39, type := 4, pos := "law.go:79", after := #[{ on := 0, ground := Go.Ground.data }], guard := none }) (v := ?_) rfl (by kernel_rfl) (by kernel_rfl) (by kernel_rfl) (fun _ _ _ h => h) (Or.inl ⟨by rfl, ?_⟩) hHeld ?_
  rotate_left 1
  · (intro wq hSq; (try dsimp only at hSq); go_simp; first | done | with_reducible rfl)
  try simp only [Act.put, List.setIfInBounds_toArray, List.set_cons_zero, List.set_cons_succ]
  refine wpAnyH_take (i := 2) (oi := { dst := some 48, op := Go.Op.move (Go.Operand.tmp 47), type := 4, pos := "law.go:79", after := #[{ on := 1, ground := Go.Ground.data }], guard := none }) (v := ?_) rfl (by kernel_rfl) (by kernel_rfl) (by kernel_rfl) (fun _ _ _ h => h) (Or.inl ⟨by rfl, ?_⟩) hHeld ?_
  rotate_left 1
  · (intro wq hSq; (try dsimp only at hSq); go_simp; first | done | with_reducible rfl)
  try simp only [Act.put, List.setIfInBounds_toArray, List.set_cons_zero, List.set_cons_succ]
  refine wpAnyH_take (i := 3) (oi := { dst := some 49, op := Go.Op.move (Go.Operand.tmp 7), type := 3, pos := "law.go:79", after := #[{ on := 2, ground := Go.Ground.guard }], guard := some (2, true) }) (v := ?_) rfl (by kernel_rfl) (by kernel_rfl) (by kernel_rfl) (fun _ _ _ h => h) (Or.inl ⟨by rfl, ?_⟩) hHeld ?_
  rotate_left 1
  · (intro wq hSq; (try dsimp only at hSq); go_simp; first | done | with_reducible rfl)
  try simp only [Act.put, List.setIfInBounds_toArray, List.set_cons_zero, List.set_cons_succ]
  refine wpAnyH_take (i := 4) (oi := { dst := some 50, op := Go.Op.binOp Go.BinOp.eql 3 (Go.Operand.tmp 49) (Go.Operand.const (Go.Value.int Go.IntKind.i64 5)) 3, type := 4, pos := "law.go:79", after := #[{ on := 3, ground := Go.Ground.data }, { on := 2, ground := Go.Ground.guard }], guard := some (2, true) }) (v := ?_) rfl (by kernel_rfl) (by kernel_rfl) (by kernel_rfl) (fun _ _ _ h => h) (Or.inl ⟨by rfl, ?_⟩) hHeld ?_
  rotate_left 1
  · (intro wq hSq; (try dsimp only at hSq); go_simp; first | done | with_reducible rfl)
  try simp only [Act.put, List.setIfInBounds_toArray, List.set_cons_zero, List.set_cons_succ]
  refine wpAnyH_take (i := 5) (oi := { dst := some 51, op := Go.Op.pick (Go.Operand.tmp 48) (Go.Operand.tmp 50) (Go.Operand.const (Go.Value.bool false)), type := 4, pos := "law.go:79", after := #[{ on := 2, ground := Go.Ground.data }, { on := 4, ground := Go.Ground.data }], guard := none }) (v := ?_) rfl (by kernel_rfl) (by kernel_rfl) (by kernel_rfl) (fun _ _ _ h => h) (Or.inl ⟨by rfl, ?_⟩) hHeld ?_
  rotate_left 1
  · (intro wq hSq; (try dsimp only at hSq); go_simp; first | done | with_reducible rfl)
  try simp only [Act.put, List.setIfInBounds_toArray, List.set_cons_zero, List.set_cons_succ]
  refine wpAnyH_take (i := 6) (oi := { dst := some 52, op := Go.Op.move (Go.Operand.tmp 51), type := 4, pos := "law.go:79", after := #[{ on := 5, ground := Go.Ground.data }, { on := 2, ground := Go.Ground.chain }], guard := none }) (v := ?_) rfl (by kernel_rfl) (by kernel_rfl) (by kernel_rfl) (fun _ _ _ h => h) (Or.inl ⟨by rfl, ?_⟩) hHeld ?_
  rotate_left 1
  · (intro wq hSq; (try dsimp only at hSq); go_simp; first | done | with_reducible rfl)
  try simp only [Act.put, List.setIfInBounds_toArray, List.set_cons_zero, List.set_cons_succ]
  refine wpAnyH_take (i := 7) (oi := { dst := some 53, op := Go.Op.load 26 (Go.Operand.tmp 6), type := 26, pos := "law.go:79", after := #[{ on := 6, ground := Go.Ground.guard }], guard := some (6, true) }) (v := .agg #[.int .u64 x0, .int .u64 x1, .int .u64 x2, .int .u64 x3]) rfl (by kernel_rfl) (by kernel_rfl) (by kernel_rfl) (fun _ _ _ h => h) (Or.inl ⟨by rfl, ?_⟩) hHeld ?_
  · (intro wq hSq; (try dsimp only at hSq); obtain ⟨⟨qa, qb, qc, qd⟩, _⟩ := BA.out.below hSq hwa; go_simp; first | done | with_reducible rfl)
  try simp only [Act.put, List.setIfInBounds_toArray, List.set_cons_zero, List.set_cons_succ]
  refine wpAnyH_take (i := 8) (oi := { dst := some 54, op := Go.Op.build 24 #[], type := 24, pos := "law.go:79", after := #[{ on := 6, ground := Go.Ground.guard }], guard := some (6, true) }) (v := .agg #[.int .u64 0, .int .u64 0, .int .u64 0, .int .u64 0]) rfl (by kernel_rfl) (by kernel_rfl) (by kernel_rfl) (fun _ _ _ h => h) (Or.inl ⟨by rfl, ?_⟩) hHeld ?_
  · (intro wq hSq; (try dsimp only at hSq); go_simp; first | done | with_reducible rfl)
  try simp only [Act.put, List.setIfInBounds_toArray, List.set_cons_zero, List.set_cons_succ]
  refine wpAnyH_take (i := 9) (oi := { dst := some 55, op := Go.Op.move (Go.Operand.tmp 0), type := 5, pos := "law.go:79", after := #[{ on := 6, ground := Go.Ground.guard }], guard := some (6, true) }) (v := ?_) rfl (by kernel_rfl) (by kernel_rfl) (by kernel_rfl) (fun _ _ _ h => h) (Or.inl ⟨by rfl, ?_⟩) hHeld ?_
  rotate_left 1
  · (intro wq hSq; (try dsimp only at hSq); go_simp; first | done | with_reducible rfl)
  try simp only [Act.put, List.setIfInBounds_toArray, List.set_cons_zero, List.set_cons_succ]
  refine wpAnyH_take (i := 10) (oi := { dst := some 56, op := Go.Op.move (Go.Operand.tmp 1), type := 5, pos := "law.go:79", after := #[{ on := 6, ground := Go.Ground.guard }], guard := some (6, true) }) (v := ?_) rfl (by kernel_rfl) (by kernel_rfl) (by kernel_rfl) (fun _ _ _ h => h) (Or.inl ⟨by rfl, ?_⟩) hHeld ?_
  rotate_left 1
  · (intro wq hSq; (try dsimp only at hSq); go_simp; first | done | with_reducible rfl)
  try simp only [Act.put, List.setIfInBounds_toArray, List.set_cons_zero, List.set_cons_succ]
  refine wpAnyH_ready (rs := [11]) (by kernel_rfl) (by simp) ?_
  refine AllReadyH.cons (o := { dst := some 57, op := Go.Op.call { callee := Go.Callee.value (Go.Operand.func 15), args := #[Go.Operand.tmp 54, Go.Operand.tmp 55, Go.Operand.tmp 56], argTypes := #[24, 5, 5] }, type := 24, pos := "law.go:79", after := #[{ on := 8, ground := Go.Ground.data }, { on := 9, ground := Go.Ground.data }, { on := 10, ground := Go.Ground.data }, { on := 6, ground := Go.Ground.chain }, { on := 6, ground := Go.Ground.guard }], guard := some (6, true) }) rfl (fun K hK => ?_) AllReadyH.nil
  go_simp
  refine (C15.out _).mono ?_
  rintro e w5 ⟨rfl, b5⟩
  refine hK.out _ _ (hHeld.trans (b5.mono hHeld.size)) (fun hHeld1 => ?_)
  clear hK K hHeld
  try simp only [Act.put, List.setIfInBounds_toArray, List.set_cons_zero, List.set_cons_succ]
  refine wpAnyH_take (i := 12) (oi := { dst := some 58, op := Go.Op.binOp Go.BinOp.eql 24 (Go.Operand.tmp 53) (Go.Operand.tmp 57) 24, type := 4, pos := "law.go:79", after := #[{ on := 7, ground := Go.Ground.data }, { on := 11, ground := Go.Ground.data }, { on := 6, ground := Go.Ground.guard }], guard := some (6, true) }) (v := .bool true) rfl (by kernel_rfl) (by kernel_rfl) (by kernel_rfl) (fun _ _ _ h => h) (Or.inl ⟨by rfl, ?_⟩) hHeld1 ?_
  · (intro wq hSq; (try dsimp only at hSq); go_simp; first | done | with_reducible rfl)
  try simp only [Act.put, List.setIfInBounds_toArray, List.set_cons_zero, List.set_cons_succ]
  refine wpAnyH_take (i := 13) (oi := { dst := some 59, op := Go.Op.pick (Go.Operand.tmp 52) (Go.Operand.tmp 58) (Go.Operand.const (Go.Value.bool false)), type := 4, pos := "law.go:79", after := #[{ on := 6, ground := Go.Ground.data }, { on := 12, ground := Go.Ground.data }], guard := none }) (v := ?_) rfl (by kernel_rfl) (by kernel_rfl) (by kernel_rfl) (fun _ _ _ h => h) (Or.inl ⟨by rfl, ?_⟩) hHeld1 ?_
  rotate_left 1
  · (intro wq hSq; (try dsimp only at hSq); go_simp; first | done | with_reducible rfl)
  try simp only [Act.put, List.setIfInBounds_toArray, List.set_cons_zero, List.set_cons_succ]
  refine wpAnyH_take (i := 14) (oi := { dst := some 4, op := Go.Op.assign (Go.Operand.tmp 59), type := 4, pos := "law.go:79", after := #[{ on := 13, ground := Go.Ground.data }, { on := 11, ground := Go.Ground.chain }, { on := 0, ground := Go.Ground.phase }, { on := 1, ground := Go.Ground.phase }, { on := 2, ground := Go.Ground.phase }, { on := 3, ground := Go.Ground.phase }, { on := 4, ground := Go.Ground.phase }, { on := 5, ground := Go.Ground.phase }, { on := 6, ground := Go.Ground.phase }, { on := 7, ground := Go.Ground.phase }, { on := 8, ground := Go.Ground.phase }, { on := 9, ground := Go.Ground.phase }, { on := 10, ground := Go.Ground.phase }, { on := 11, ground := Go.Ground.phase }, { on := 12, ground := Go.Ground.phase }, { on := 13, ground := Go.Ground.phase }], guard := none }) (v := ?_) rfl (by kernel_rfl) (by kernel_rfl) (by kernel_rfl) (fun _ _ _ h => h) (Or.inl ⟨by rfl, ?_⟩) hHeld1 ?_
  rotate_left 1
  · (intro wq hSq; (try dsimp only at hSq); go_simp; first | done | with_reducible rfl)
  try simp only [Act.put, List.setIfInBounds_toArray, List.set_cons_zero, List.set_cons_succ]
  refine wpAnyH_done (by kernel_rfl) ?_ _
  refine NoPanic.normal ?_
  go_wp2
  go_ret
  exact ⟨rfl, BW.out.1.trans (hHeld1.mono BW.out.2)⟩
theorem range_walk (a b : Nat) (ha : a < 256) (hb : b < 256) (w : World) (hM : MaxL w) : Calls Try.prog 8 #[.int .u8 a, .int .u8 b] w fun e w' => e = .returned (.bool true) ∧ Below w.heap.size w w' := by
  by_cases h1 : isSpecial a
  · exact range_a a b ha hb w hM h1
  · by_cases h2 : isSpecial b
    · exact range_b a b ha hb w hM h1 h2
    · by_cases hab : b < a
      · exact range_c a b ha hb w hM h1 h2 hab
      · exact range_d a b ha hb w hM h1 h2 hab
end Go.Proofs.Ytnhbjjjoocpedaa
