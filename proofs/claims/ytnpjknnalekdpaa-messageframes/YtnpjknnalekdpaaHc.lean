import Derived.Test.YtnpjknnalekdpaaHb
namespace Go.Proofs.Ytnpjknnalekdpaa
set_option linter.unusedSimpArgs false
set_option linter.unusedVariables false
open Go.RowKit
/-- Join of what is there and a few bytes more. -/
theorem join2 (W : World) (x : Value) (l1 l2 : List Int) (n2 : Nat) (hn2 : l2.length = n2) (hx : PartAt W x l1) (hb : (l1 ++ l2).length ≤ 1000) : Calls Try.prog 28 #[.slice (some ⟨W.heap.size + 1, 0, none⟩) 2 2] ((W.alloc (.cells (vB l2) 5)).alloc (.cells #[x, .slice (some ⟨W.heap.size, 0, none⟩) n2 n2] 22)) fun e w' => ∃ av cp, e = .returned (.slice av (l1 ++ l2).length cp) ∧ PartAt w' (.slice av (l1 ++ l2).length cp) (l1 ++ l2) ∧ Below W.heap.size W w' := by
  have k1 : Below W.heap.size W (W.alloc (.cells (vB l2) 5)) := (Below.refl _ _).alloc (Nat.le_refl _) _
  have k2 : Below (W.alloc (.cells (vB l2) 5)).heap.size (W.alloc (.cells (vB l2) 5)) ((W.alloc (.cells (vB l2) 5)).alloc (.cells #[x, .slice (some ⟨W.heap.size, 0, none⟩) n2 n2] 22)) := (Below.refl _ _).alloc (Nat.le_refl _) _
  have p2 : PartAt (W.alloc (.cells (vB l2) 5)) (.slice (some ⟨W.heap.size, 0, none⟩) n2 n2) l2 := partRow (heap_alloc_new W (.cells (vB l2) 5)) n2 hn2 (by simp at hb; omega)
  have e : [l1, l2].flatten = l1 ++ l2 := by simp
  have r := range_alloc (W.alloc (.cells (vB l2) 5)) [x, .slice (some ⟨W.heap.size, 0, none⟩) n2 n2] 22
  rw [show (W.alloc (.cells (vB l2) 5)).heap.size = W.heap.size + 1 by simp] at r
  have q := join_form ((W.alloc (.cells (vB l2) 5)).alloc (.cells #[x, .slice (some ⟨W.heap.size, 0, none⟩) n2 n2] 22)) (W.heap.size + 1) 2 [x, .slice (some ⟨W.heap.size, 0, none⟩) n2 n2] [l1, l2] rfl rfl (by omega) (by simp) r (parts_cons ((hx.below k1).below k2) (parts_cons (p2.below k2) parts_nil)) (by rw [e]; omega)
  rw [e] at q
  exact q.mono fun e w' ⟨av, cp, r1, r2, r3⟩ => ⟨av, cp, r1, r2, (k1.trans (k2.mono (by simp))).trans (r3.mono (by simp; omega))⟩
set_option maxHeartbeats 1000000 in
set_option maxRecDepth 100000 in
theorem rwrite_3 (m : Msg) (hm : m.Ok) (h : formB m = true) (hk : m.kind = 3) (w : World) (h0 : 0 < w.heap.size) : Calls Try.prog 13 #[.agg (mC m).toArray] w fun e w' => ∃ u, e = .returned (.tuple #[u, .int .i64 0]) ∧ OwnB w' w.heap.size u (encB m.kind (bodyB m)) ∧ Below w.heap.size w w' := by
  obtain ⟨f1, f2, f3, f4, f5, f6, f7, f8⟩ := form_all h
  have hbs := base_of h
  have hbd := body_le m hm h
  have b1 : Below w.heap.size w (w.alloc (.cells (mC m).toArray 37)) := (Below.refl _ _).alloc (Nat.le_refl _) _
  have FM : Hid (Calls Try.prog 27 #[.agg (mC m).toArray] (w.alloc (.cells (mC m).toArray 37)) fun e w' => e = .returned (.bool true) ∧ BoxM 37 w' w.heap.size m ∧ Below w.heap.size w w') := by
    have q := rformed_any m hm (w.alloc (.cells (mC m).toArray 37))
    rw [h] at q
    exact q.mono fun e w' ⟨r1, r2⟩ => ⟨r1, BoxM.below (heap_alloc_new w (.cells (mC m).toArray 37)) r2, b1.trans (r2.mono b1.size)⟩
  have G1 : Hid (BoxM 37 (w.alloc (.cells (mC m).toArray 37)) w.heap.size m) := heap_alloc_new w (.cells (mC m).toArray 37)
  have HM : Hid (m.Ok) := hm
  have N4 : Hid (∀ (W : World) (n : Int), 0 ≤ n → n ≤ 4294967295 → Calls Try.prog 29 #[.int .u64 n, .int .i64 4] W fun e w' => ∃ g, e = .returned (.slice (some ⟨g, 0, none⟩) 4 4) ∧ PartAt w' (.slice (some ⟨g, 0, none⟩) 4 4) (numB n 4) ∧ Below W.heap.size W w') := fun W n h0 h1 =>
    (rnumk_any n h0 (by omega) 4 (by omega) (by omega) _).mono fun e w' ⟨g, r1, r2, r3, r4⟩ => ⟨g, r1, partRow r3 4 (numB_length _ _) (by omega), r4⟩
  have EN : Hid (∀ (W : World) (av : Option Addr) (n cp : Nat), Below w.heap.size w W → n = (bodyB m).length → PartAt W (.slice av n cp) (bodyB m) → Calls Try.prog 14 #[.agg #[.int .u8 m.kind, .slice av n cp]] W fun e w' => ∃ u, e = .returned (.tuple #[u, .int .i64 0]) ∧ OwnB w' w.heap.size u (encB m.kind (bodyB m)) ∧ Below w.heap.size w w') := fun W av n cp q hn p =>
    (rencode_own m.kind (by omega) av n cp (bodyB m) hn.symm (by omega) hbd.2 W (by have := q.size; omega) p).mono fun e w' ⟨u, r1, r2, r3⟩ => ⟨u, r1, r2.lower q.size, q.trans (r3.mono q.size)⟩
  have a1 : m.frm % 256 = m.frm := by omega
  have a2 : m.to % 256 = m.to := by omega
  have a3 : m.kind % 256 = m.kind := by omega
  have a4 : IntKind.u8.wrap m.frm = m.frm := by rw [show IntKind.u8.wrap m.frm = m.frm % 256 from rfl]; omega
  have a5 : IntKind.u8.wrap m.to = m.to := by rw [show IntKind.u8.wrap m.to = m.to % 256 from rfl]; omega
  have a6 : IntKind.u8.wrap m.kind = m.kind := by rw [show IntKind.u8.wrap m.kind = m.kind % 256 from rfl]; omega
  have HB : Hid ((0 ≤ m.frm ∧ m.frm ≤ 16) ∧ (0 ≤ m.to ∧ m.to ≤ 16) ∧ 0 < m.id ∧ m.id ≤ 4294967295 ∧ m.base ≤ 4294967295 ∧ m.s.size ≤ 500) := ⟨f2, f3, f5, f6, hbs.1, hbs.2⟩
  have HIN : Hid (inB m = true) := f8
  have HBO : Hid (bodyB m = ([m.frm, m.to] ++ numB m.id 4) ++ ([tb m.commit])) := by unfold Hid bodyB ownB; rw [if_neg (by omega), if_neg (by omega), if_pos (by omega)]; simp
  have HK : Hid (m.kind = 3) := hk
  clear hk
  clear hm h b1 hbs hbd f1 f2 f3 f4 f5 f6 f7 f8 h0
  go_enter Try.func13, Try.ntmps13
  go_wp2_with (first | (refine loadM65 rfl _ rfl w.heap.size rfl m HM.out G1.out ?_))
  refine FM.out.mono ?_
  rintro e w2 ⟨rfl, g2, b2⟩
  have G2 : Hid (∀ W, Below w2.heap.size w2 W → BoxM 37 W w.heap.size m) := fun W q => g2.below q
  have B2 : Hid (∀ W, Below w2.heap.size w2 W → Below w.heap.size w W) := fun W q => b2.trans (q.mono b2.size)
  have BD : Hid (Below w2.heap.size w2 w2.drew) := (Below.refl _ _).drew
  clear g2 b2 FM G1
  go_wp2_with fail
  refine wp_region_noPanic ?_
  refine wp_region_held_drew (S := fun w' => Below w2.heap.size w2 w') (by kernel_rfl) (BD.out) (fun hHeld => ?_)
  try simp only [Act.put, List.setIfInBounds_toArray, List.set_cons_zero, List.set_cons_succ]
  refine wpAnyH_take (i := 0) (oi := { dst := some 8, op := Go.Op.fieldAddr 37 (Go.Operand.tmp 1) 1, type := 0, pos := "ref.go:319", after := #[], guard := none }) (v := ?_) rfl (by kernel_rfl) (by kernel_rfl) (by kernel_rfl) (fun _ _ _ h => h) (Or.inl ⟨by rfl, ?_⟩) hHeld ?_
  rotate_left 1
  · (intro wq hSq; (try dsimp only at hSq); go_simp; first | done | with_reducible rfl)
  try simp only [Act.put, List.setIfInBounds_toArray, List.set_cons_zero, List.set_cons_succ]
  refine wpAnyH_take (i := 1) (oi := { dst := some 9, op := Go.Op.load 3 (Go.Operand.tmp 8), type := 3, pos := "ref.go:319", after := #[{ on := 0, ground := Go.Ground.data }], guard := none }) (v := ?_) rfl (by kernel_rfl) (by kernel_rfl) (by kernel_rfl) (fun _ _ _ h => h) (Or.inl ⟨by rfl, ?_⟩) hHeld ?_
  rotate_left 1
  · (intro wq hSq; (try dsimp only at hSq); have hq := row_cell (G2.out _ hSq) (mC_1 m); go_simp; first | done | with_reducible rfl)
  try simp only [Act.put, List.setIfInBounds_toArray, List.set_cons_zero, List.set_cons_succ]
  refine wpAnyH_take (i := 2) (oi := { dst := some 10, op := Go.Op.convert 3 5 (Go.Operand.tmp 9), type := 5, pos := "ref.go:319", after := #[{ on := 1, ground := Go.Ground.data }], guard := none }) (v := ?_) rfl (by kernel_rfl) (by kernel_rfl) (by kernel_rfl) (fun _ _ _ h => h) (Or.inl ⟨by rfl, ?_⟩) hHeld ?_
  rotate_left 1
  · (intro wq hSq; (try dsimp only at hSq); go_simp; first | done | with_reducible rfl)
  try simp only [Act.put, List.setIfInBounds_toArray, List.set_cons_zero, List.set_cons_succ]
  refine wpAnyH_take (i := 3) (oi := { dst := some 11, op := Go.Op.fieldAddr 37 (Go.Operand.tmp 1) 2, type := 0, pos := "ref.go:319", after := #[], guard := none }) (v := ?_) rfl (by kernel_rfl) (by kernel_rfl) (by kernel_rfl) (fun _ _ _ h => h) (Or.inl ⟨by rfl, ?_⟩) hHeld ?_
  rotate_left 1
  · (intro wq hSq; (try dsimp only at hSq); go_simp; first | done | with_reducible rfl)
  try simp only [Act.put, List.setIfInBounds_toArray, List.set_cons_zero, List.set_cons_succ]
  refine wpAnyH_take (i := 4) (oi := { dst := some 12, op := Go.Op.load 3 (Go.Operand.tmp 11), type := 3, pos := "ref.go:319", after := #[{ on := 3, ground := Go.Ground.data }], guard := none }) (v := ?_) rfl (by kernel_rfl) (by kernel_rfl) (by kernel_rfl) (fun _ _ _ h => h) (Or.inl ⟨by rfl, ?_⟩) hHeld ?_
  rotate_left 1
  · (intro wq hSq; (try dsimp only at hSq); have hq := row_cell (G2.out _ hSq) (mC_2 m); go_simp; first | done | with_reducible rfl)
  try simp only [Act.put, List.setIfInBounds_toArray, List.set_cons_zero, List.set_cons_succ]
  refine wpAnyH_take (i := 5) (oi := { dst := some 13, op := Go.Op.convert 3 5 (Go.Operand.tmp 12), type := 5, pos := "ref.go:319", after := #[{ on := 4, ground := Go.Ground.data }], guard := none }) (v := ?_) rfl (by kernel_rfl) (by kernel_rfl) (by kernel_rfl) (fun _ _ _ h => h) (Or.inl ⟨by rfl, ?_⟩) hHeld ?_
  rotate_left 1
  · (intro wq hSq; (try dsimp only at hSq); go_simp; first | done | with_reducible rfl)
  try simp only [Act.put, List.setIfInBounds_toArray, List.set_cons_zero, List.set_cons_succ]
  refine wpAnyH_take (i := 7) (oi := { dst := some 15, op := Go.Op.fieldAddr 37 (Go.Operand.tmp 1) 3, type := 0, pos := "ref.go:319", after := #[], guard := none }) (v := ?_) rfl (by kernel_rfl) (by kernel_rfl) (by kernel_rfl) (fun _ _ _ h => h) (Or.inl ⟨by rfl, ?_⟩) hHeld ?_
  rotate_left 1
  · (intro wq hSq; (try dsimp only at hSq); go_simp; first | done | with_reducible rfl)
  try simp only [Act.put, List.setIfInBounds_toArray, List.set_cons_zero, List.set_cons_succ]
  refine wpAnyH_take (i := 8) (oi := { dst := some 16, op := Go.Op.load 24 (Go.Operand.tmp 15), type := 24, pos := "ref.go:319", after := #[{ on := 7, ground := Go.Ground.data }], guard := none }) (v := ?_) rfl (by kernel_rfl) (by kernel_rfl) (by kernel_rfl) (fun _ _ _ h => h) (Or.inl ⟨by rfl, ?_⟩) hHeld ?_
  rotate_left 1
  · (intro wq hSq; (try dsimp only at hSq); have hq := row_cell (G2.out _ hSq) (mC_3 m); go_simp; first | done | with_reducible rfl)
  try simp only [Act.put, List.setIfInBounds_toArray, List.set_cons_zero, List.set_cons_succ]
  refine wpAnyH_batch (B := [(6, 14, []), (9, 17, []), (10, 18, [14, 17])]) (R := fun w w' => Below w.heap.size w w') (Φ := PhiW m) 2 (by kernel_rfl) (fun _ _ _ _ h => h) (Below.refl _ _) (fun _ _ h1 h2 => h1.trans (h2.mono h1.size)) (fun _ _ _ _ _ h k => phiW_below _ _ _ _ _ h k) (fun _ h => BD.out.trans h) ⟨StepB.mk ({ dst := some 14, op := Go.Op.buildSlice 22 2 #[(0, Go.Operand.tmp 10), (1, Go.Operand.tmp 13)], type := 22, pos := "ref.go:319", after := #[{ on := 2, ground := Go.Ground.data }, { on := 5, ground := Go.Ground.data }], guard := none } : Oper) rfl ?_, StepB.mk ({ dst := some 17, op := Go.Op.call { callee := Go.Callee.value (Go.Operand.func 29), args := #[Go.Operand.tmp 16, Go.Operand.const (Go.Value.int Go.IntKind.i64 4)], argTypes := #[24, 3] }, type := 22, pos := "ref.go:319", after := #[{ on := 8, ground := Go.Ground.data }], guard := none } : Oper) rfl ?_, StepB.mk ({ dst := some 18, op := Go.Op.buildSlice 69 2 #[(0, Go.Operand.tmp 14), (1, Go.Operand.tmp 17)], type := 69, pos := "ref.go:319", after := #[{ on := 6, ground := Go.Ground.data }, { on := 9, ground := Go.Ground.data }], guard := none } : Oper) rfl ?_, trivial⟩ ?_
  · intro f wS hRS hFS K hK
    simp only [putT, Act.put, List.setIfInBounds_toArray, List.set_cons_zero, List.set_cons_succ] at hK ⊢
    go_simp
    exact hK.out _ _ ((Below.refl _ _).alloc (Nat.le_refl _) _) ⟨wS.heap.size, rfl, part_new wS [m.frm, m.to] (by simp)⟩
  · intro f wS hRS hFS K hK
    simp only [putT, Act.put, List.setIfInBounds_toArray, List.set_cons_zero, List.set_cons_succ] at hK ⊢
    go_simp
    refine (N4.out wS m.id (by have := HB.out.2.2.1; omega) HB.out.2.2.2.1).mono ?_
    rintro e w' ⟨g, rfl, r1, r2⟩
    exact hK.out _ _ r2 ⟨g, rfl, r1⟩
  · intro f wS hRS hFS K hK
    simp only [putT, Act.put, List.setIfInBounds_toArray, List.set_cons_zero, List.set_cons_succ] at hK ⊢
    obtain ⟨g14, e14, q14⟩ := hFS 14 (by simp)
    obtain ⟨g17, e17, q17⟩ := hFS 17 (by simp)
    rw [e14, e17] at hK ⊢
    rw [e14] at q14
    rw [e17] at q17
    clear e14 e17 hFS
    have kA : ∀ o, Below wS.heap.size wS (wS.alloc o) := fun o => (Below.refl _ _).alloc (Nat.le_refl _) _
    go_simp
    exact hK.out _ _ (kA _) ⟨wS.heap.size, _, _, rfl, by simp, range_alloc wS _ _, q14.below (kA _), q17.below (kA _)⟩
  intro f wB hRB hFB
  simp only [List.map, setL, putT, Act.put, List.setIfInBounds_toArray, List.set_cons_zero, List.set_cons_succ]
  have hHeldB1 : Below w2.heap.size w2 wB := BD.out.trans hRB
  obtain ⟨g, x1, x2, e18, r1, r2, r3, r4⟩ := hFB 18 (by simp)
  rw [e18]
  have JH : Hid (Calls Try.prog 28 #[.slice (some ⟨g, 0, none⟩) 2 2] wB fun e w' => ∃ av cp, e = .returned (.slice av 6 cp) ∧ PartAt w' (.slice av 6 cp) ([m.frm, m.to] ++ numB m.id 4) ∧ Below wB.heap.size wB w') := by
    have q := join_form wB g 2 [x1, x2] [[m.frm, m.to], numB m.id 4] rfl rfl (by omega) r1 r2 (parts_cons r3 (parts_cons r4 parts_nil)) (by simp [numB_length])
    have e : [[m.frm, m.to], numB m.id 4].flatten = ([m.frm, m.to] ++ numB m.id 4) := by simp
    have e6 : ([m.frm, m.to] ++ numB m.id 4).length = 6 := by simp [numB_length]
    rw [e, e6] at q
    exact q
  have HB1 : Hid (Below w2.heap.size w2 wB) := hHeldB1
  generalize f 14 = u14
  generalize f 17 = u17
  clear hFB hRB e18 r1 r2 r3 r4
  refine wpAnyH_ready (rs := [11]) (by kernel_rfl) (by simp) ?_
  refine AllReadyH.cons (o := { dst := some 19, op := Go.Op.call { callee := Go.Callee.value (Go.Operand.func 28), args := #[Go.Operand.tmp 18], argTypes := #[69] }, type := 22, pos := "ref.go:319", after := #[{ on := 10, ground := Go.Ground.data }, { on := 9, ground := Go.Ground.chain }], guard := none }) rfl (fun K hK => ?_) AllReadyH.nil
  go_simp
  refine JH.out.mono ?_
  rintro e w4 ⟨av4, c4, rfl, p4, b4⟩
  have P4 : Hid (PartAt w4 (.slice av4 6 c4) ([m.frm, m.to] ++ numB m.id 4)) := p4
  have B4 : Hid (Below w2.heap.size w2 w4) := HB1.out.trans (b4.mono HB1.out.size)
  clear p4 b4 JH HB1
  refine hK.out _ _ (B4.out) (fun hHeld2 => ?_)
  clear hK K hHeldB1
  try simp only [Act.put, List.setIfInBounds_toArray, List.set_cons_zero, List.set_cons_succ]
  refine wpAnyH_take (i := 12) (oi := { dst := some 4, op := Go.Op.assign (Go.Operand.tmp 19), type := 22, pos := "ref.go:319", after := #[{ on := 11, ground := Go.Ground.data }, { on := 11, ground := Go.Ground.chain }, { on := 0, ground := Go.Ground.phase }, { on := 1, ground := Go.Ground.phase }, { on := 2, ground := Go.Ground.phase }, { on := 3, ground := Go.Ground.phase }, { on := 4, ground := Go.Ground.phase }, { on := 5, ground := Go.Ground.phase }, { on := 6, ground := Go.Ground.phase }, { on := 7, ground := Go.Ground.phase }, { on := 8, ground := Go.Ground.phase }, { on := 9, ground := Go.Ground.phase }, { on := 10, ground := Go.Ground.phase }, { on := 11, ground := Go.Ground.phase }], guard := none }) (v := ?_) rfl (by kernel_rfl) (by kernel_rfl) (by kernel_rfl) (fun _ _ _ h => h) (Or.inl ⟨by rfl, ?_⟩) hHeld2 ?_
  rotate_left 1
  · (intro wq hSq; (try dsimp only at hSq); go_simp; first | done | with_reducible rfl)
  try simp only [Act.put, List.setIfInBounds_toArray, List.set_cons_zero, List.set_cons_succ]
  refine wpAnyH_done (by kernel_rfl) ?_ _
  refine NoPanic.normal ?_
  have c0 := row_cell (G2.out _ B4.out) (mC_0 m)
  rw [HK.out] at c0
  have c6 := row_cell (G2.out _ B4.out) (mC_106 m HM.out)
  have J5 : Hid (Calls Try.prog 28 #[.slice (some ⟨w4.heap.size + 1, 0, none⟩) 2 2] ((w4.alloc (.cells #[.int .u8 (tb m.commit)] 5)).alloc (.cells #[.slice av4 6 c4, .slice (some ⟨w4.heap.size, 0, none⟩) 1 1] 22)) fun e w' => ∃ av cp, e = .returned (.slice av (([m.frm, m.to] ++ numB m.id 4) ++ [tb m.commit]).length cp) ∧ PartAt w' (.slice av (([m.frm, m.to] ++ numB m.id 4) ++ [tb m.commit]).length cp) (([m.frm, m.to] ++ numB m.id 4) ++ [tb m.commit]) ∧ Below w4.heap.size w4 w') := join2 w4 _ _ [tb m.commit] 1 rfl P4.out (by simp [numB_length])
  clear hHeld2
  go_wp2_with fail
  refine (rtruth5_any _ _).mono ?_
  rintro e w' ⟨rfl, q⟩
  subst q
  generalize tb m.commit = tc at *
  clear c0 c6
  go_wp2_with fail
  refine J5.out.mono ?_
  rintro e w5 ⟨av5, c5, rfl, p5, b5⟩
  have P5 : Hid (PartAt w5 (.slice av5 (([m.frm, m.to] ++ numB m.id 4) ++ ([tc])).length c5) (bodyB m)) := by unfold Hid; rw [HBO.out]; exact p5
  have B5 : Hid (Below w2.heap.size w2 w5) := B4.out.trans (b5.mono B4.out.size)
  have c0 := row_cell (G2.out _ B5.out) (mC_0 m)
  clear p5 b5
  go_wp2_with fail
  refine (EN.out _ _ _ _ (B2.out _ B5.out) (by rw [HBO.out]) P5.out).mono ?_
  rintro e w9 ⟨u, rfl, o9, b9⟩
  go_wp2
  go_ret2
  exact ⟨u, rfl, o9, b9⟩
set_option maxHeartbeats 1000000 in
set_option maxRecDepth 100000 in
theorem rwrite_6 (m : Msg) (hm : m.Ok) (h : formB m = true) (hk : m.kind = 6) (w : World) (h0 : 0 < w.heap.size) : Calls Try.prog 13 #[.agg (mC m).toArray] w fun e w' => ∃ u, e = .returned (.tuple #[u, .int .i64 0]) ∧ OwnB w' w.heap.size u (encB m.kind (bodyB m)) ∧ Below w.heap.size w w' := by
  obtain ⟨f1, f2, f3, f4, f5, f6, f7, f8⟩ := form_all h
  have hbs := base_of h
  have hbd := body_le m hm h
  have b1 : Below w.heap.size w (w.alloc (.cells (mC m).toArray 37)) := (Below.refl _ _).alloc (Nat.le_refl _) _
  have FM : Hid (Calls Try.prog 27 #[.agg (mC m).toArray] (w.alloc (.cells (mC m).toArray 37)) fun e w' => e = .returned (.bool true) ∧ BoxM 37 w' w.heap.size m ∧ Below w.heap.size w w') := by
    have q := rformed_any m hm (w.alloc (.cells (mC m).toArray 37))
    rw [h] at q
    exact q.mono fun e w' ⟨r1, r2⟩ => ⟨r1, BoxM.below (heap_alloc_new w (.cells (mC m).toArray 37)) r2, b1.trans (r2.mono b1.size)⟩
  have G1 : Hid (BoxM 37 (w.alloc (.cells (mC m).toArray 37)) w.heap.size m) := heap_alloc_new w (.cells (mC m).toArray 37)
  have HM : Hid (m.Ok) := hm
  have N4 : Hid (∀ (W : World) (n : Int), 0 ≤ n → n ≤ 4294967295 → Calls Try.prog 29 #[.int .u64 n, .int .i64 4] W fun e w' => ∃ g, e = .returned (.slice (some ⟨g, 0, none⟩) 4 4) ∧ PartAt w' (.slice (some ⟨g, 0, none⟩) 4 4) (numB n 4) ∧ Below W.heap.size W w') := fun W n h0 h1 =>
    (rnumk_any n h0 (by omega) 4 (by omega) (by omega) _).mono fun e w' ⟨g, r1, r2, r3, r4⟩ => ⟨g, r1, partRow r3 4 (numB_length _ _) (by omega), r4⟩
  have EN : Hid (∀ (W : World) (av : Option Addr) (n cp : Nat), Below w.heap.size w W → n = (bodyB m).length → PartAt W (.slice av n cp) (bodyB m) → Calls Try.prog 14 #[.agg #[.int .u8 m.kind, .slice av n cp]] W fun e w' => ∃ u, e = .returned (.tuple #[u, .int .i64 0]) ∧ OwnB w' w.heap.size u (encB m.kind (bodyB m)) ∧ Below w.heap.size w w') := fun W av n cp q hn p =>
    (rencode_own m.kind (by omega) av n cp (bodyB m) hn.symm (by omega) hbd.2 W (by have := q.size; omega) p).mono fun e w' ⟨u, r1, r2, r3⟩ => ⟨u, r1, r2.lower q.size, q.trans (r3.mono q.size)⟩
  have a1 : m.frm % 256 = m.frm := by omega
  have a2 : m.to % 256 = m.to := by omega
  have a3 : m.kind % 256 = m.kind := by omega
  have a4 : IntKind.u8.wrap m.frm = m.frm := by rw [show IntKind.u8.wrap m.frm = m.frm % 256 from rfl]; omega
  have a5 : IntKind.u8.wrap m.to = m.to := by rw [show IntKind.u8.wrap m.to = m.to % 256 from rfl]; omega
  have a6 : IntKind.u8.wrap m.kind = m.kind := by rw [show IntKind.u8.wrap m.kind = m.kind % 256 from rfl]; omega
  have HB : Hid ((0 ≤ m.frm ∧ m.frm ≤ 16) ∧ (0 ≤ m.to ∧ m.to ≤ 16) ∧ 0 < m.id ∧ m.id ≤ 4294967295 ∧ m.base ≤ 4294967295 ∧ m.s.size ≤ 500) := ⟨f2, f3, f5, f6, hbs.1, hbs.2⟩
  have HIN : Hid (inB m = true) := f8
  have HBO : Hid (bodyB m = ([m.frm, m.to] ++ numB m.id 4) ++ ([tb m.commit])) := by unfold Hid bodyB ownB; rw [if_neg (by omega), if_neg (by omega), if_pos (by omega)]; simp
  have HK : Hid (m.kind = 6) := hk
  clear hk
  clear hm h b1 hbs hbd f1 f2 f3 f4 f5 f6 f7 f8 h0
  go_enter Try.func13, Try.ntmps13
  go_wp2_with (first | (refine loadM65 rfl _ rfl w.heap.size rfl m HM.out G1.out ?_))
  refine FM.out.mono ?_
  rintro e w2 ⟨rfl, g2, b2⟩
  have G2 : Hid (∀ W, Below w2.heap.size w2 W → BoxM 37 W w.heap.size m) := fun W q => g2.below q
  have B2 : Hid (∀ W, Below w2.heap.size w2 W → Below w.heap.size w W) := fun W q => b2.trans (q.mono b2.size)
  have BD : Hid (Below w2.heap.size w2 w2.drew) := (Below.refl _ _).drew
  clear g2 b2 FM G1
  go_wp2_with fail
  refine wp_region_noPanic ?_
  refine wp_region_held_drew (S := fun w' => Below w2.heap.size w2 w') (by kernel_rfl) (BD.out) (fun hHeld => ?_)
  try simp only [Act.put, List.setIfInBounds_toArray, List.set_cons_zero, List.set_cons_succ]
  refine wpAnyH_take (i := 0) (oi := { dst := some 8, op := Go.Op.fieldAddr 37 (Go.Operand.tmp 1) 1, type := 0, pos := "ref.go:319", after := #[], guard := none }) (v := ?_) rfl (by kernel_rfl) (by kernel_rfl) (by kernel_rfl) (fun _ _ _ h => h) (Or.inl ⟨by rfl, ?_⟩) hHeld ?_
  rotate_left 1
  · (intro wq hSq; (try dsimp only at hSq); go_simp; first | done | with_reducible rfl)
  try simp only [Act.put, List.setIfInBounds_toArray, List.set_cons_zero, List.set_cons_succ]
  refine wpAnyH_take (i := 1) (oi := { dst := some 9, op := Go.Op.load 3 (Go.Operand.tmp 8), type := 3, pos := "ref.go:319", after := #[{ on := 0, ground := Go.Ground.data }], guard := none }) (v := ?_) rfl (by kernel_rfl) (by kernel_rfl) (by kernel_rfl) (fun _ _ _ h => h) (Or.inl ⟨by rfl, ?_⟩) hHeld ?_
  rotate_left 1
  · (intro wq hSq; (try dsimp only at hSq); have hq := row_cell (G2.out _ hSq) (mC_1 m); go_simp; first | done | with_reducible rfl)
  try simp only [Act.put, List.setIfInBounds_toArray, List.set_cons_zero, List.set_cons_succ]
  refine wpAnyH_take (i := 2) (oi := { dst := some 10, op := Go.Op.convert 3 5 (Go.Operand.tmp 9), type := 5, pos := "ref.go:319", after := #[{ on := 1, ground := Go.Ground.data }], guard := none }) (v := ?_) rfl (by kernel_rfl) (by kernel_rfl) (by kernel_rfl) (fun _ _ _ h => h) (Or.inl ⟨by rfl, ?_⟩) hHeld ?_
  rotate_left 1
  · (intro wq hSq; (try dsimp only at hSq); go_simp; first | done | with_reducible rfl)
  try simp only [Act.put, List.setIfInBounds_toArray, List.set_cons_zero, List.set_cons_succ]
  refine wpAnyH_take (i := 3) (oi := { dst := some 11, op := Go.Op.fieldAddr 37 (Go.Operand.tmp 1) 2, type := 0, pos := "ref.go:319", after := #[], guard := none }) (v := ?_) rfl (by kernel_rfl) (by kernel_rfl) (by kernel_rfl) (fun _ _ _ h => h) (Or.inl ⟨by rfl, ?_⟩) hHeld ?_
  rotate_left 1
  · (intro wq hSq; (try dsimp only at hSq); go_simp; first | done | with_reducible rfl)
  try simp only [Act.put, List.setIfInBounds_toArray, List.set_cons_zero, List.set_cons_succ]
  refine wpAnyH_take (i := 4) (oi := { dst := some 12, op := Go.Op.load 3 (Go.Operand.tmp 11), type := 3, pos := "ref.go:319", after := #[{ on := 3, ground := Go.Ground.data }], guard := none }) (v := ?_) rfl (by kernel_rfl) (by kernel_rfl) (by kernel_rfl) (fun _ _ _ h => h) (Or.inl ⟨by rfl, ?_⟩) hHeld ?_
  rotate_left 1
  · (intro wq hSq; (try dsimp only at hSq); have hq := row_cell (G2.out _ hSq) (mC_2 m); go_simp; first | done | with_reducible rfl)
  try simp only [Act.put, List.setIfInBounds_toArray, List.set_cons_zero, List.set_cons_succ]
  refine wpAnyH_take (i := 5) (oi := { dst := some 13, op := Go.Op.convert 3 5 (Go.Operand.tmp 12), type := 5, pos := "ref.go:319", after := #[{ on := 4, ground := Go.Ground.data }], guard := none }) (v := ?_) rfl (by kernel_rfl) (by kernel_rfl) (by kernel_rfl) (fun _ _ _ h => h) (Or.inl ⟨by rfl, ?_⟩) hHeld ?_
  rotate_left 1
  · (intro wq hSq; (try dsimp only at hSq); go_simp; first | done | with_reducible rfl)
  try simp only [Act.put, List.setIfInBounds_toArray, List.set_cons_zero, List.set_cons_succ]
  refine wpAnyH_take (i := 7) (oi := { dst := some 15, op := Go.Op.fieldAddr 37 (Go.Operand.tmp 1) 3, type := 0, pos := "ref.go:319", after := #[], guard := none }) (v := ?_) rfl (by kernel_rfl) (by kernel_rfl) (by kernel_rfl) (fun _ _ _ h => h) (Or.inl ⟨by rfl, ?_⟩) hHeld ?_
  rotate_left 1
  · (intro wq hSq; (try dsimp only at hSq); go_simp; first | done | with_reducible rfl)
  try simp only [Act.put, List.setIfInBounds_toArray, List.set_cons_zero, List.set_cons_succ]
  refine wpAnyH_take (i := 8) (oi := { dst := some 16, op := Go.Op.load 24 (Go.Operand.tmp 15), type := 24, pos := "ref.go:319", after := #[{ on := 7, ground := Go.Ground.data }], guard := none }) (v := ?_) rfl (by kernel_rfl) (by kernel_rfl) (by kernel_rfl) (fun _ _ _ h => h) (Or.inl ⟨by rfl, ?_⟩) hHeld ?_
  rotate_left 1
  · (intro wq hSq; (try dsimp only at hSq); have hq := row_cell (G2.out _ hSq) (mC_3 m); go_simp; first | done | with_reducible rfl)
  try simp only [Act.put, List.setIfInBounds_toArray, List.set_cons_zero, List.set_cons_succ]
  refine wpAnyH_batch (B := [(6, 14, []), (9, 17, []), (10, 18, [14, 17])]) (R := fun w w' => Below w.heap.size w w') (Φ := PhiW m) 2 (by kernel_rfl) (fun _ _ _ _ h => h) (Below.refl _ _) (fun _ _ h1 h2 => h1.trans (h2.mono h1.size)) (fun _ _ _ _ _ h k => phiW_below _ _ _ _ _ h k) (fun _ h => BD.out.trans h) ⟨StepB.mk ({ dst := some 14, op := Go.Op.buildSlice 22 2 #[(0, Go.Operand.tmp 10), (1, Go.Operand.tmp 13)], type := 22, pos := "ref.go:319", after := #[{ on := 2, ground := Go.Ground.data }, { on := 5, ground := Go.Ground.data }], guard := none } : Oper) rfl ?_, StepB.mk ({ dst := some 17, op := Go.Op.call { callee := Go.Callee.value (Go.Operand.func 29), args := #[Go.Operand.tmp 16, Go.Operand.const (Go.Value.int Go.IntKind.i64 4)], argTypes := #[24, 3] }, type := 22, pos := "ref.go:319", after := #[{ on := 8, ground := Go.Ground.data }], guard := none } : Oper) rfl ?_, StepB.mk ({ dst := some 18, op := Go.Op.buildSlice 69 2 #[(0, Go.Operand.tmp 14), (1, Go.Operand.tmp 17)], type := 69, pos := "ref.go:319", after := #[{ on := 6, ground := Go.Ground.data }, { on := 9, ground := Go.Ground.data }], guard := none } : Oper) rfl ?_, trivial⟩ ?_
  · intro f wS hRS hFS K hK
    simp only [putT, Act.put, List.setIfInBounds_toArray, List.set_cons_zero, List.set_cons_succ] at hK ⊢
    go_simp
    exact hK.out _ _ ((Below.refl _ _).alloc (Nat.le_refl _) _) ⟨wS.heap.size, rfl, part_new wS [m.frm, m.to] (by simp)⟩
  · intro f wS hRS hFS K hK
    simp only [putT, Act.put, List.setIfInBounds_toArray, List.set_cons_zero, List.set_cons_succ] at hK ⊢
    go_simp
    refine (N4.out wS m.id (by have := HB.out.2.2.1; omega) HB.out.2.2.2.1).mono ?_
    rintro e w' ⟨g, rfl, r1, r2⟩
    exact hK.out _ _ r2 ⟨g, rfl, r1⟩
  · intro f wS hRS hFS K hK
    simp only [putT, Act.put, List.setIfInBounds_toArray, List.set_cons_zero, List.set_cons_succ] at hK ⊢
    obtain ⟨g14, e14, q14⟩ := hFS 14 (by simp)
    obtain ⟨g17, e17, q17⟩ := hFS 17 (by simp)
    rw [e14, e17] at hK ⊢
    rw [e14] at q14
    rw [e17] at q17
    clear e14 e17 hFS
    have kA : ∀ o, Below wS.heap.size wS (wS.alloc o) := fun o => (Below.refl _ _).alloc (Nat.le_refl _) _
    go_simp
    exact hK.out _ _ (kA _) ⟨wS.heap.size, _, _, rfl, by simp, range_alloc wS _ _, q14.below (kA _), q17.below (kA _)⟩
  intro f wB hRB hFB
  simp only [List.map, setL, putT, Act.put, List.setIfInBounds_toArray, List.set_cons_zero, List.set_cons_succ]
  have hHeldB1 : Below w2.heap.size w2 wB := BD.out.trans hRB
  obtain ⟨g, x1, x2, e18, r1, r2, r3, r4⟩ := hFB 18 (by simp)
  rw [e18]
  have JH : Hid (Calls Try.prog 28 #[.slice (some ⟨g, 0, none⟩) 2 2] wB fun e w' => ∃ av cp, e = .returned (.slice av 6 cp) ∧ PartAt w' (.slice av 6 cp) ([m.frm, m.to] ++ numB m.id 4) ∧ Below wB.heap.size wB w') := by
    have q := join_form wB g 2 [x1, x2] [[m.frm, m.to], numB m.id 4] rfl rfl (by omega) r1 r2 (parts_cons r3 (parts_cons r4 parts_nil)) (by simp [numB_length])
    have e : [[m.frm, m.to], numB m.id 4].flatten = ([m.frm, m.to] ++ numB m.id 4) := by simp
    have e6 : ([m.frm, m.to] ++ numB m.id 4).length = 6 := by simp [numB_length]
    rw [e, e6] at q
    exact q
  have HB1 : Hid (Below w2.heap.size w2 wB) := hHeldB1
  generalize f 14 = u14
  generalize f 17 = u17
  clear hFB hRB e18 r1 r2 r3 r4
  refine wpAnyH_ready (rs := [11]) (by kernel_rfl) (by simp) ?_
  refine AllReadyH.cons (o := { dst := some 19, op := Go.Op.call { callee := Go.Callee.value (Go.Operand.func 28), args := #[Go.Operand.tmp 18], argTypes := #[69] }, type := 22, pos := "ref.go:319", after := #[{ on := 10, ground := Go.Ground.data }, { on := 9, ground := Go.Ground.chain }], guard := none }) rfl (fun K hK => ?_) AllReadyH.nil
  go_simp
  refine JH.out.mono ?_
  rintro e w4 ⟨av4, c4, rfl, p4, b4⟩
  have P4 : Hid (PartAt w4 (.slice av4 6 c4) ([m.frm, m.to] ++ numB m.id 4)) := p4
  have B4 : Hid (Below w2.heap.size w2 w4) := HB1.out.trans (b4.mono HB1.out.size)
  clear p4 b4 JH HB1
  refine hK.out _ _ (B4.out) (fun hHeld2 => ?_)
  clear hK K hHeldB1
  try simp only [Act.put, List.setIfInBounds_toArray, List.set_cons_zero, List.set_cons_succ]
  refine wpAnyH_take (i := 12) (oi := { dst := some 4, op := Go.Op.assign (Go.Operand.tmp 19), type := 22, pos := "ref.go:319", after := #[{ on := 11, ground := Go.Ground.data }, { on := 11, ground := Go.Ground.chain }, { on := 0, ground := Go.Ground.phase }, { on := 1, ground := Go.Ground.phase }, { on := 2, ground := Go.Ground.phase }, { on := 3, ground := Go.Ground.phase }, { on := 4, ground := Go.Ground.phase }, { on := 5, ground := Go.Ground.phase }, { on := 6, ground := Go.Ground.phase }, { on := 7, ground := Go.Ground.phase }, { on := 8, ground := Go.Ground.phase }, { on := 9, ground := Go.Ground.phase }, { on := 10, ground := Go.Ground.phase }, { on := 11, ground := Go.Ground.phase }], guard := none }) (v := ?_) rfl (by kernel_rfl) (by kernel_rfl) (by kernel_rfl) (fun _ _ _ h => h) (Or.inl ⟨by rfl, ?_⟩) hHeld2 ?_
  rotate_left 1
  · (intro wq hSq; (try dsimp only at hSq); go_simp; first | done | with_reducible rfl)
  try simp only [Act.put, List.setIfInBounds_toArray, List.set_cons_zero, List.set_cons_succ]
  refine wpAnyH_done (by kernel_rfl) ?_ _
  refine NoPanic.normal ?_
  have c0 := row_cell (G2.out _ B4.out) (mC_0 m)
  rw [HK.out] at c0
  have c6 := row_cell (G2.out _ B4.out) (mC_106 m HM.out)
  have J5 : Hid (Calls Try.prog 28 #[.slice (some ⟨w4.heap.size + 1, 0, none⟩) 2 2] ((w4.alloc (.cells #[.int .u8 (tb m.commit)] 5)).alloc (.cells #[.slice av4 6 c4, .slice (some ⟨w4.heap.size, 0, none⟩) 1 1] 22)) fun e w' => ∃ av cp, e = .returned (.slice av (([m.frm, m.to] ++ numB m.id 4) ++ [tb m.commit]).length cp) ∧ PartAt w' (.slice av (([m.frm, m.to] ++ numB m.id 4) ++ [tb m.commit]).length cp) (([m.frm, m.to] ++ numB m.id 4) ++ [tb m.commit]) ∧ Below w4.heap.size w4 w') := join2 w4 _ _ [tb m.commit] 1 rfl P4.out (by simp [numB_length])
  clear hHeld2
  go_wp2_with fail
  refine (rtruth5_any _ _).mono ?_
  rintro e w' ⟨rfl, q⟩
  subst q
  generalize tb m.commit = tc at *
  clear c0 c6
  go_wp2_with fail
  refine J5.out.mono ?_
  rintro e w5 ⟨av5, c5, rfl, p5, b5⟩
  have P5 : Hid (PartAt w5 (.slice av5 (([m.frm, m.to] ++ numB m.id 4) ++ ([tc])).length c5) (bodyB m)) := by unfold Hid; rw [HBO.out]; exact p5
  have B5 : Hid (Below w2.heap.size w2 w5) := B4.out.trans (b5.mono B4.out.size)
  have c0 := row_cell (G2.out _ B5.out) (mC_0 m)
  clear p5 b5
  go_wp2_with fail
  refine (EN.out _ _ _ _ (B2.out _ B5.out) (by rw [HBO.out]) P5.out).mono ?_
  rintro e w9 ⟨u, rfl, o9, b9⟩
  go_wp2
  go_ret2
  exact ⟨u, rfl, o9, b9⟩
set_option maxHeartbeats 1000000 in
set_option maxRecDepth 100000 in
theorem rwrite_2n (m : Msg) (hm : m.Ok) (h : formB m = true) (hk : m.kind = 2) (hy : m.yes = false) (w : World) (h0 : 0 < w.heap.size) : Calls Try.prog 13 #[.agg (mC m).toArray] w fun e w' => ∃ u, e = .returned (.tuple #[u, .int .i64 0]) ∧ OwnB w' w.heap.size u (encB m.kind (bodyB m)) ∧ Below w.heap.size w w' := by
  obtain ⟨f1, f2, f3, f4, f5, f6, f7, f8⟩ := form_all h
  have hbs := base_of h
  have hbd := body_le m hm h
  have b1 : Below w.heap.size w (w.alloc (.cells (mC m).toArray 37)) := (Below.refl _ _).alloc (Nat.le_refl _) _
  have FM : Hid (Calls Try.prog 27 #[.agg (mC m).toArray] (w.alloc (.cells (mC m).toArray 37)) fun e w' => e = .returned (.bool true) ∧ BoxM 37 w' w.heap.size m ∧ Below w.heap.size w w') := by
    have q := rformed_any m hm (w.alloc (.cells (mC m).toArray 37))
    rw [h] at q
    exact q.mono fun e w' ⟨r1, r2⟩ => ⟨r1, BoxM.below (heap_alloc_new w (.cells (mC m).toArray 37)) r2, b1.trans (r2.mono b1.size)⟩
  have G1 : Hid (BoxM 37 (w.alloc (.cells (mC m).toArray 37)) w.heap.size m) := heap_alloc_new w (.cells (mC m).toArray 37)
  have HM : Hid (m.Ok) := hm
  have N4 : Hid (∀ (W : World) (n : Int), 0 ≤ n → n ≤ 4294967295 → Calls Try.prog 29 #[.int .u64 n, .int .i64 4] W fun e w' => ∃ g, e = .returned (.slice (some ⟨g, 0, none⟩) 4 4) ∧ PartAt w' (.slice (some ⟨g, 0, none⟩) 4 4) (numB n 4) ∧ Below W.heap.size W w') := fun W n h0 h1 =>
    (rnumk_any n h0 (by omega) 4 (by omega) (by omega) _).mono fun e w' ⟨g, r1, r2, r3, r4⟩ => ⟨g, r1, partRow r3 4 (numB_length _ _) (by omega), r4⟩
  have EN : Hid (∀ (W : World) (av : Option Addr) (n cp : Nat), Below w.heap.size w W → n = (bodyB m).length → PartAt W (.slice av n cp) (bodyB m) → Calls Try.prog 14 #[.agg #[.int .u8 m.kind, .slice av n cp]] W fun e w' => ∃ u, e = .returned (.tuple #[u, .int .i64 0]) ∧ OwnB w' w.heap.size u (encB m.kind (bodyB m)) ∧ Below w.heap.size w w') := fun W av n cp q hn p =>
    (rencode_own m.kind (by omega) av n cp (bodyB m) hn.symm (by omega) hbd.2 W (by have := q.size; omega) p).mono fun e w' ⟨u, r1, r2, r3⟩ => ⟨u, r1, r2.lower q.size, q.trans (r3.mono q.size)⟩
  have a1 : m.frm % 256 = m.frm := by omega
  have a2 : m.to % 256 = m.to := by omega
  have a3 : m.kind % 256 = m.kind := by omega
  have a4 : IntKind.u8.wrap m.frm = m.frm := by rw [show IntKind.u8.wrap m.frm = m.frm % 256 from rfl]; omega
  have a5 : IntKind.u8.wrap m.to = m.to := by rw [show IntKind.u8.wrap m.to = m.to % 256 from rfl]; omega
  have a6 : IntKind.u8.wrap m.kind = m.kind := by rw [show IntKind.u8.wrap m.kind = m.kind % 256 from rfl]; omega
  have HB : Hid ((0 ≤ m.frm ∧ m.frm ≤ 16) ∧ (0 ≤ m.to ∧ m.to ≤ 16) ∧ 0 < m.id ∧ m.id ≤ 4294967295 ∧ m.base ≤ 4294967295 ∧ m.s.size ≤ 500) := ⟨f2, f3, f5, f6, hbs.1, hbs.2⟩
  have HIN : Hid (inB m = true) := f8
  have HBO : Hid (bodyB m = ([m.frm, m.to] ++ numB m.id 4) ++ ([0, m.code])) := by unfold Hid bodyB ownB; rw [if_neg (by omega), if_pos hk, if_neg (by rw [hy]; simp)]; simp
  have HC : 1 ≤ m.code ∧ m.code ≤ 17 := by unfold inB at f8; rw [if_neg (by omega), if_pos hk, hy] at f8; simpa using f8
  have y1 : m.code % 256 = m.code := by omega
  have y2 : IntKind.u8.wrap m.code = m.code := by rw [show IntKind.u8.wrap m.code = m.code % 256 from rfl]; omega
  have HK : Hid (m.kind = 2) := hk
  have HY : Hid (m.yes = false) := hy
  clear hk hy HC
  clear hm h b1 hbs hbd f1 f2 f3 f4 f5 f6 f7 f8 h0
  go_enter Try.func13, Try.ntmps13
  go_wp2_with (first | (refine loadM65 rfl _ rfl w.heap.size rfl m HM.out G1.out ?_))
  refine FM.out.mono ?_
  rintro e w2 ⟨rfl, g2, b2⟩
  have G2 : Hid (∀ W, Below w2.heap.size w2 W → BoxM 37 W w.heap.size m) := fun W q => g2.below q
  have B2 : Hid (∀ W, Below w2.heap.size w2 W → Below w.heap.size w W) := fun W q => b2.trans (q.mono b2.size)
  have BD : Hid (Below w2.heap.size w2 w2.drew) := (Below.refl _ _).drew
  clear g2 b2 FM G1
  go_wp2_with fail
  refine wp_region_noPanic ?_
  refine wp_region_held_drew (S := fun w' => Below w2.heap.size w2 w') (by kernel_rfl) (BD.out) (fun hHeld => ?_)
  try simp only [Act.put, List.setIfInBounds_toArray, List.set_cons_zero, List.set_cons_succ]
  refine wpAnyH_take (i := 0) (oi := { dst := some 8, op := Go.Op.fieldAddr 37 (Go.Operand.tmp 1) 1, type := 0, pos := "ref.go:319", after := #[], guard := none }) (v := ?_) rfl (by kernel_rfl) (by kernel_rfl) (by kernel_rfl) (fun _ _ _ h => h) (Or.inl ⟨by rfl, ?_⟩) hHeld ?_
  rotate_left 1
  · (intro wq hSq; (try dsimp only at hSq); go_simp; first | done | with_reducible rfl)
  try simp only [Act.put, List.setIfInBounds_toArray, List.set_cons_zero, List.set_cons_succ]
  refine wpAnyH_take (i := 1) (oi := { dst := some 9, op := Go.Op.load 3 (Go.Operand.tmp 8), type := 3, pos := "ref.go:319", after := #[{ on := 0, ground := Go.Ground.data }], guard := none }) (v := ?_) rfl (by kernel_rfl) (by kernel_rfl) (by kernel_rfl) (fun _ _ _ h => h) (Or.inl ⟨by rfl, ?_⟩) hHeld ?_
  rotate_left 1
  · (intro wq hSq; (try dsimp only at hSq); have hq := row_cell (G2.out _ hSq) (mC_1 m); go_simp; first | done | with_reducible rfl)
  try simp only [Act.put, List.setIfInBounds_toArray, List.set_cons_zero, List.set_cons_succ]
  refine wpAnyH_take (i := 2) (oi := { dst := some 10, op := Go.Op.convert 3 5 (Go.Operand.tmp 9), type := 5, pos := "ref.go:319", after := #[{ on := 1, ground := Go.Ground.data }], guard := none }) (v := ?_) rfl (by kernel_rfl) (by kernel_rfl) (by kernel_rfl) (fun _ _ _ h => h) (Or.inl ⟨by rfl, ?_⟩) hHeld ?_
  rotate_left 1
  · (intro wq hSq; (try dsimp only at hSq); go_simp; first | done | with_reducible rfl)
  try simp only [Act.put, List.setIfInBounds_toArray, List.set_cons_zero, List.set_cons_succ]
  refine wpAnyH_take (i := 3) (oi := { dst := some 11, op := Go.Op.fieldAddr 37 (Go.Operand.tmp 1) 2, type := 0, pos := "ref.go:319", after := #[], guard := none }) (v := ?_) rfl (by kernel_rfl) (by kernel_rfl) (by kernel_rfl) (fun _ _ _ h => h) (Or.inl ⟨by rfl, ?_⟩) hHeld ?_
  rotate_left 1
  · (intro wq hSq; (try dsimp only at hSq); go_simp; first | done | with_reducible rfl)
  try simp only [Act.put, List.setIfInBounds_toArray, List.set_cons_zero, List.set_cons_succ]
  refine wpAnyH_take (i := 4) (oi := { dst := some 12, op := Go.Op.load 3 (Go.Operand.tmp 11), type := 3, pos := "ref.go:319", after := #[{ on := 3, ground := Go.Ground.data }], guard := none }) (v := ?_) rfl (by kernel_rfl) (by kernel_rfl) (by kernel_rfl) (fun _ _ _ h => h) (Or.inl ⟨by rfl, ?_⟩) hHeld ?_
  rotate_left 1
  · (intro wq hSq; (try dsimp only at hSq); have hq := row_cell (G2.out _ hSq) (mC_2 m); go_simp; first | done | with_reducible rfl)
  try simp only [Act.put, List.setIfInBounds_toArray, List.set_cons_zero, List.set_cons_succ]
  refine wpAnyH_take (i := 5) (oi := { dst := some 13, op := Go.Op.convert 3 5 (Go.Operand.tmp 12), type := 5, pos := "ref.go:319", after := #[{ on := 4, ground := Go.Ground.data }], guard := none }) (v := ?_) rfl (by kernel_rfl) (by kernel_rfl) (by kernel_rfl) (fun _ _ _ h => h) (Or.inl ⟨by rfl, ?_⟩) hHeld ?_
  rotate_left 1
  · (intro wq hSq; (try dsimp only at hSq); go_simp; first | done | with_reducible rfl)
  try simp only [Act.put, List.setIfInBounds_toArray, List.set_cons_zero, List.set_cons_succ]
  refine wpAnyH_take (i := 7) (oi := { dst := some 15, op := Go.Op.fieldAddr 37 (Go.Operand.tmp 1) 3, type := 0, pos := "ref.go:319", after := #[], guard := none }) (v := ?_) rfl (by kernel_rfl) (by kernel_rfl) (by kernel_rfl) (fun _ _ _ h => h) (Or.inl ⟨by rfl, ?_⟩) hHeld ?_
  rotate_left 1
  · (intro wq hSq; (try dsimp only at hSq); go_simp; first | done | with_reducible rfl)
  try simp only [Act.put, List.setIfInBounds_toArray, List.set_cons_zero, List.set_cons_succ]
  refine wpAnyH_take (i := 8) (oi := { dst := some 16, op := Go.Op.load 24 (Go.Operand.tmp 15), type := 24, pos := "ref.go:319", after := #[{ on := 7, ground := Go.Ground.data }], guard := none }) (v := ?_) rfl (by kernel_rfl) (by kernel_rfl) (by kernel_rfl) (fun _ _ _ h => h) (Or.inl ⟨by rfl, ?_⟩) hHeld ?_
  rotate_left 1
  · (intro wq hSq; (try dsimp only at hSq); have hq := row_cell (G2.out _ hSq) (mC_3 m); go_simp; first | done | with_reducible rfl)
  try simp only [Act.put, List.setIfInBounds_toArray, List.set_cons_zero, List.set_cons_succ]
  refine wpAnyH_batch (B := [(6, 14, []), (9, 17, []), (10, 18, [14, 17])]) (R := fun w w' => Below w.heap.size w w') (Φ := PhiW m) 2 (by kernel_rfl) (fun _ _ _ _ h => h) (Below.refl _ _) (fun _ _ h1 h2 => h1.trans (h2.mono h1.size)) (fun _ _ _ _ _ h k => phiW_below _ _ _ _ _ h k) (fun _ h => BD.out.trans h) ⟨StepB.mk ({ dst := some 14, op := Go.Op.buildSlice 22 2 #[(0, Go.Operand.tmp 10), (1, Go.Operand.tmp 13)], type := 22, pos := "ref.go:319", after := #[{ on := 2, ground := Go.Ground.data }, { on := 5, ground := Go.Ground.data }], guard := none } : Oper) rfl ?_, StepB.mk ({ dst := some 17, op := Go.Op.call { callee := Go.Callee.value (Go.Operand.func 29), args := #[Go.Operand.tmp 16, Go.Operand.const (Go.Value.int Go.IntKind.i64 4)], argTypes := #[24, 3] }, type := 22, pos := "ref.go:319", after := #[{ on := 8, ground := Go.Ground.data }], guard := none } : Oper) rfl ?_, StepB.mk ({ dst := some 18, op := Go.Op.buildSlice 69 2 #[(0, Go.Operand.tmp 14), (1, Go.Operand.tmp 17)], type := 69, pos := "ref.go:319", after := #[{ on := 6, ground := Go.Ground.data }, { on := 9, ground := Go.Ground.data }], guard := none } : Oper) rfl ?_, trivial⟩ ?_
  · intro f wS hRS hFS K hK
    simp only [putT, Act.put, List.setIfInBounds_toArray, List.set_cons_zero, List.set_cons_succ] at hK ⊢
    go_simp
    exact hK.out _ _ ((Below.refl _ _).alloc (Nat.le_refl _) _) ⟨wS.heap.size, rfl, part_new wS [m.frm, m.to] (by simp)⟩
  · intro f wS hRS hFS K hK
    simp only [putT, Act.put, List.setIfInBounds_toArray, List.set_cons_zero, List.set_cons_succ] at hK ⊢
    go_simp
    refine (N4.out wS m.id (by have := HB.out.2.2.1; omega) HB.out.2.2.2.1).mono ?_
    rintro e w' ⟨g, rfl, r1, r2⟩
    exact hK.out _ _ r2 ⟨g, rfl, r1⟩
  · intro f wS hRS hFS K hK
    simp only [putT, Act.put, List.setIfInBounds_toArray, List.set_cons_zero, List.set_cons_succ] at hK ⊢
    obtain ⟨g14, e14, q14⟩ := hFS 14 (by simp)
    obtain ⟨g17, e17, q17⟩ := hFS 17 (by simp)
    rw [e14, e17] at hK ⊢
    rw [e14] at q14
    rw [e17] at q17
    clear e14 e17 hFS
    have kA : ∀ o, Below wS.heap.size wS (wS.alloc o) := fun o => (Below.refl _ _).alloc (Nat.le_refl _) _
    go_simp
    exact hK.out _ _ (kA _) ⟨wS.heap.size, _, _, rfl, by simp, range_alloc wS _ _, q14.below (kA _), q17.below (kA _)⟩
  intro f wB hRB hFB
  simp only [List.map, setL, putT, Act.put, List.setIfInBounds_toArray, List.set_cons_zero, List.set_cons_succ]
  have hHeldB1 : Below w2.heap.size w2 wB := BD.out.trans hRB
  obtain ⟨g, x1, x2, e18, r1, r2, r3, r4⟩ := hFB 18 (by simp)
  rw [e18]
  have JH : Hid (Calls Try.prog 28 #[.slice (some ⟨g, 0, none⟩) 2 2] wB fun e w' => ∃ av cp, e = .returned (.slice av 6 cp) ∧ PartAt w' (.slice av 6 cp) ([m.frm, m.to] ++ numB m.id 4) ∧ Below wB.heap.size wB w') := by
    have q := join_form wB g 2 [x1, x2] [[m.frm, m.to], numB m.id 4] rfl rfl (by omega) r1 r2 (parts_cons r3 (parts_cons r4 parts_nil)) (by simp [numB_length])
    have e : [[m.frm, m.to], numB m.id 4].flatten = ([m.frm, m.to] ++ numB m.id 4) := by simp
    have e6 : ([m.frm, m.to] ++ numB m.id 4).length = 6 := by simp [numB_length]
    rw [e, e6] at q
    exact q
  have HB1 : Hid (Below w2.heap.size w2 wB) := hHeldB1
  generalize f 14 = u14
  generalize f 17 = u17
  clear hFB hRB e18 r1 r2 r3 r4
  refine wpAnyH_ready (rs := [11]) (by kernel_rfl) (by simp) ?_
  refine AllReadyH.cons (o := { dst := some 19, op := Go.Op.call { callee := Go.Callee.value (Go.Operand.func 28), args := #[Go.Operand.tmp 18], argTypes := #[69] }, type := 22, pos := "ref.go:319", after := #[{ on := 10, ground := Go.Ground.data }, { on := 9, ground := Go.Ground.chain }], guard := none }) rfl (fun K hK => ?_) AllReadyH.nil
  go_simp
  refine JH.out.mono ?_
  rintro e w4 ⟨av4, c4, rfl, p4, b4⟩
  have P4 : Hid (PartAt w4 (.slice av4 6 c4) ([m.frm, m.to] ++ numB m.id 4)) := p4
  have B4 : Hid (Below w2.heap.size w2 w4) := HB1.out.trans (b4.mono HB1.out.size)
  clear p4 b4 JH HB1
  refine hK.out _ _ (B4.out) (fun hHeld2 => ?_)
  clear hK K hHeldB1
  try simp only [Act.put, List.setIfInBounds_toArray, List.set_cons_zero, List.set_cons_succ]
  refine wpAnyH_take (i := 12) (oi := { dst := some 4, op := Go.Op.assign (Go.Operand.tmp 19), type := 22, pos := "ref.go:319", after := #[{ on := 11, ground := Go.Ground.data }, { on := 11, ground := Go.Ground.chain }, { on := 0, ground := Go.Ground.phase }, { on := 1, ground := Go.Ground.phase }, { on := 2, ground := Go.Ground.phase }, { on := 3, ground := Go.Ground.phase }, { on := 4, ground := Go.Ground.phase }, { on := 5, ground := Go.Ground.phase }, { on := 6, ground := Go.Ground.phase }, { on := 7, ground := Go.Ground.phase }, { on := 8, ground := Go.Ground.phase }, { on := 9, ground := Go.Ground.phase }, { on := 10, ground := Go.Ground.phase }, { on := 11, ground := Go.Ground.phase }], guard := none }) (v := ?_) rfl (by kernel_rfl) (by kernel_rfl) (by kernel_rfl) (fun _ _ _ h => h) (Or.inl ⟨by rfl, ?_⟩) hHeld2 ?_
  rotate_left 1
  · (intro wq hSq; (try dsimp only at hSq); go_simp; first | done | with_reducible rfl)
  try simp only [Act.put, List.setIfInBounds_toArray, List.set_cons_zero, List.set_cons_succ]
  refine wpAnyH_done (by kernel_rfl) ?_ _
  refine NoPanic.normal ?_
  have c0 := row_cell (G2.out _ B4.out) (mC_0 m)
  rw [HK.out] at c0
  have c40 := row_cell (G2.out _ B4.out) (mC_40 m HM.out)
  rw [HY.out] at c40
  have c41 := row_cell (G2.out _ B4.out) (mC_41 m HM.out)
  have J5 : Hid (Calls Try.prog 28 #[.slice (some ⟨w4.heap.size + 1, 0, none⟩) 2 2] ((w4.alloc (.cells #[.int .u8 0, .int .u8 m.code] 5)).alloc (.cells #[.slice av4 6 c4, .slice (some ⟨w4.heap.size, 0, none⟩) 2 2] 22)) fun e w' => ∃ av cp, e = .returned (.slice av (([m.frm, m.to] ++ numB m.id 4) ++ [0, m.code]).length cp) ∧ PartAt w' (.slice av (([m.frm, m.to] ++ numB m.id 4) ++ [0, m.code]).length cp) (([m.frm, m.to] ++ numB m.id 4) ++ [0, m.code]) ∧ Below w4.heap.size w4 w') := join2 w4 _ _ [0, m.code] 2 rfl P4.out (by simp [numB_length])
  clear hHeld2
  go_wp2_with fail
  refine J5.out.mono ?_
  rintro e w5 ⟨av5, c5, rfl, p5, b5⟩
  clear c0
  have P5 : Hid (PartAt w5 (.slice av5 (([m.frm, m.to] ++ numB m.id 4) ++ ([0, m.code])).length c5) (bodyB m)) := by unfold Hid; rw [HBO.out]; exact p5
  have B5 : Hid (Below w2.heap.size w2 w5) := B4.out.trans (b5.mono B4.out.size)
  have c0 := row_cell (G2.out _ B5.out) (mC_0 m)
  clear p5 b5
  go_wp2_with fail
  refine (EN.out _ _ _ _ (B2.out _ B5.out) (by rw [HBO.out]) P5.out).mono ?_
  rintro e w9 ⟨u, rfl, o9, b9⟩
  go_wp2
  go_ret2
  exact ⟨u, rfl, o9, b9⟩
end Go.Proofs.Ytnpjknnalekdpaa
