import Derived.Test.YtnpjknnalekdpaaHc
namespace Go.Proofs.Ytnpjknnalekdpaa
set_option linter.unusedSimpArgs false
set_option linter.unusedVariables false
open Go.RowKit
set_option maxHeartbeats 4000000 in
set_option maxRecDepth 100000 in
theorem rwrite_2y (m : Msg) (hm : m.Ok) (h : formB m = true) (hk : m.kind = 2) (hy : m.yes = true) (w : World) (h0 : 0 < w.heap.size) : Calls Try.prog 13 #[.agg (mC m).toArray] w fun e w' => ∃ u, e = .returned (.tuple #[u, .int .i64 0]) ∧ OwnB w' w.heap.size u (encB m.kind (bodyB m)) ∧ Below w.heap.size w w' := by
  obtain ⟨f1, f2, f3, f4, f5, f6, f7, f8⟩ := form_all h
  have hbs := base_of h
  have hbd := body_le m hm h
  have b1 : Below w.heap.size w (w.alloc (.cells (mC m).toArray 37)) := (Below.refl _ _).alloc (Nat.le_refl _) _
  have FM : Hid (Calls Try.prog 27 #[.agg (mC m).toArray] (w.alloc (.cells (mC m).toArray 37)) fun e w' => e = .returned (.bool true) ∧ BoxM 37 w' w.heap.size m ∧ Below w.heap.size w w') := by
    have q := rformed_any m hm (w.alloc (.cells (mC m).toArray 37))
    rw [h] at q
    exact q.mono fun e w' ⟨r1, r2⟩ => ⟨r1, BoxM.below (heap_alloc_new w (.cells (mC m).toArray 37)) r2, b1.trans (r2.mono b1.size)⟩
  have G1 : Hid (BoxM 37 (w.alloc (.cells (mC m).toArray 37)) w.heap.size m) := heap_alloc_new w (.cells (mC m).toArray 37)
  have HM : Hid (m.Ok) := hm
  have N4 : Hid (∀ (W : World) (n : Int), 0 ≤ n → n ≤ 4294967295 → Calls Try.prog 29 #[.int .u64 n, .int .i64 4] W fun e w' => ∃ g, e = .returned (.slice (some ⟨g, 0, none⟩) 4 4) ∧ PartAt w' (.slice (some ⟨g, 0, none⟩) 4 4) (numB n 4) ∧ Below W.heap.size W w') := fun W n h0 h1 =>
    (rnumk_any n h0 (by omega) 4 (by omega) (by omega) _).mono fun e w' ⟨g, r1, r2, r3, r4⟩ => ⟨g, r1, partRow r3 4 (numB_length _ _) (by omega), r4⟩
  have EN : Hid (∀ (W : World) (av : Option Addr) (n cp : Nat), Below w.heap.size w W → n = (bodyB m).length → PartAt W (.slice av n cp) (bodyB m) → Calls Try.prog 14 #[.agg #[.int .u8 m.kind, .slice av n cp]] W fun e w' => ∃ u, e = .returned (.tuple #[u, .int .i64 0]) ∧ OwnB w' w.heap.size u (encB m.kind (bodyB m)) ∧ Below w.heap.size w w') := fun W av n cp q hn p =>
    (rencode_own m.kind (by omega) av n cp (bodyB m) hn.symm (by omega) hbd.2 W (by have := q.size; omega) p).mono fun e w' ⟨u, r1, r2, r3⟩ => ⟨u, r1, r2.lower q.size, q.trans (r3.mono q.size)⟩
  have a1 : m.frm % 256 = m.frm := by omega
  have a2 : m.to % 256 = m.to := by omega
  have a3 : m.kind % 256 = m.kind := by omega
  have a4 : IntKind.u8.wrap m.frm = m.frm := by rw [show IntKind.u8.wrap m.frm = m.frm % 256 from rfl]; omega
  have a5 : IntKind.u8.wrap m.to = m.to := by rw [show IntKind.u8.wrap m.to = m.to % 256 from rfl]; omega
  have a6 : IntKind.u8.wrap m.kind = m.kind := by rw [show IntKind.u8.wrap m.kind = m.kind % 256 from rfl]; omega
  have HB : Hid ((0 ≤ m.frm ∧ m.frm ≤ 16) ∧ (0 ≤ m.to ∧ m.to ≤ 16) ∧ 0 < m.id ∧ m.id ≤ 4294967295 ∧ m.base ≤ 4294967295 ∧ m.s.size ≤ 500) := ⟨f2, f3, f5, f6, hbs.1, hbs.2⟩
  have HIN : Hid (inB m = true) := f8
  have HBO : Hid (bodyB m = ([m.frm, m.to] ++ numB m.id 4) ++ ([1] ++ (m.vh ++ m.vr))) := by unfold Hid bodyB ownB; rw [if_neg (by omega), if_pos hk, if_pos hy]; simp
  have HK : Hid (m.kind = 2) := hk
  have HY : Hid (m.yes = true) := hy
  clear hk hy
  clear hm h b1 hbs hbd f1 f2 f3 f4 f5 f6 f7 f8 h0
  go_enter Try.func13, Try.ntmps13
  go_wp2_with (first | (refine loadM65 rfl _ rfl w.heap.size rfl m HM.out G1.out ?_))
  refine FM.out.mono ?_
  rintro e w2 ⟨rfl, g2, b2⟩
  have G2 : Hid (∀ W, Below w2.heap.size w2 W → BoxM 37 W w.heap.size m) := fun W q => g2.below q
  have B2 : Hid (∀ W, Below w2.heap.size w2 W → Below w.heap.size w W) := fun W q => b2.trans (q.mono b2.size)
  have BD : Hid (Below w2.heap.size w2 w2.drew) := (Below.refl _ _).drew
  clear g2 b2 FM G1
  go_wp2_with fail
  refine wp_region_noPanic ?_
  refine wp_region_held_drew (S := fun w' => Below w2.heap.size w2 w') (by kernel_rfl) (BD.out) (fun hHeld => ?_)
  try simp only [Act.put, List.setIfInBounds_toArray, List.set_cons_zero, List.set_cons_succ]
  refine wpAnyH_take (i := 0) (oi := { dst := some 8, op := Go.Op.fieldAddr 37 (Go.Operand.tmp 1) 1, type := 0, pos := "ref.go:319", after := #[], guard := none }) (v := ?_) rfl (by kernel_rfl) (by kernel_rfl) (by kernel_rfl) (fun _ _ _ h => h) (Or.inl ⟨by rfl, ?_⟩) hHeld ?_
  rotate_left 1
  · (intro wq hSq; (try dsimp only at hSq); go_simp; first | done | with_reducible rfl)
  try simp only [Act.put, List.setIfInBounds_toArray, List.set_cons_zero, List.set_cons_succ]
  refine wpAnyH_take (i := 1) (oi := { dst := some 9, op := Go.Op.load 3 (Go.Operand.tmp 8), type := 3, pos := "ref.go:319", after := #[{ on := 0, ground := Go.Ground.data }], guard := none }) (v := ?_) rfl (by kernel_rfl) (by kernel_rfl) (by kernel_rfl) (fun _ _ _ h => h) (Or.inl ⟨by rfl, ?_⟩) hHeld ?_
  rotate_left 1
  · (intro wq hSq; (try dsimp only at hSq); have hq := row_cell (G2.out _ hSq) (mC_1 m); go_simp; first | done | with_reducible rfl)
  try simp only [Act.put, List.setIfInBounds_toArray, List.set_cons_zero, List.set_cons_succ]
  refine wpAnyH_take (i := 2) (oi := { dst := some 10, op := Go.Op.convert 3 5 (Go.Operand.tmp 9), type := 5, pos := "ref.go:319", after := #[{ on := 1, ground := Go.Ground.data }], guard := none }) (v := ?_) rfl (by kernel_rfl) (by kernel_rfl) (by kernel_rfl) (fun _ _ _ h => h) (Or.inl ⟨by rfl, ?_⟩) hHeld ?_
  rotate_left 1
  · (intro wq hSq; (try dsimp only at hSq); go_simp; first | done | with_reducible rfl)
  try simp only [Act.put, List.setIfInBounds_toArray, List.set_cons_zero, List.set_cons_succ]
  refine wpAnyH_take (i := 3) (oi := { dst := some 11, op := Go.Op.fieldAddr 37 (Go.Operand.tmp 1) 2, type := 0, pos := "ref.go:319", after := #[], guard := none }) (v := ?_) rfl (by kernel_rfl) (by kernel_rfl) (by kernel_rfl) (fun _ _ _ h => h) (Or.inl ⟨by rfl, ?_⟩) hHeld ?_
  rotate_left 1
  · (intro wq hSq; (try dsimp only at hSq); go_simp; first | done | with_reducible rfl)
  try simp only [Act.put, List.setIfInBounds_toArray, List.set_cons_zero, List.set_cons_succ]
  refine wpAnyH_take (i := 4) (oi := { dst := some 12, op := Go.Op.load 3 (Go.Operand.tmp 11), type := 3, pos := "ref.go:319", after := #[{ on := 3, ground := Go.Ground.data }], guard := none }) (v := ?_) rfl (by kernel_rfl) (by kernel_rfl) (by kernel_rfl) (fun _ _ _ h => h) (Or.inl ⟨by rfl, ?_⟩) hHeld ?_
  rotate_left 1
  · (intro wq hSq; (try dsimp only at hSq); have hq := row_cell (G2.out _ hSq) (mC_2 m); go_simp; first | done | with_reducible rfl)
  try simp only [Act.put, List.setIfInBounds_toArray, List.set_cons_zero, List.set_cons_succ]
  refine wpAnyH_take (i := 5) (oi := { dst := some 13, op := Go.Op.convert 3 5 (Go.Operand.tmp 12), type := 5, pos := "ref.go:319", after := #[{ on := 4, ground := Go.Ground.data }], guard := none }) (v := ?_) rfl (by kernel_rfl) (by kernel_rfl) (by kernel_rfl) (fun _ _ _ h => h) (Or.inl ⟨by rfl, ?_⟩) hHeld ?_
  rotate_left 1
  · (intro wq hSq; (try dsimp only at hSq); go_simp; first | done | with_reducible rfl)
  try simp only [Act.put, List.setIfInBounds_toArray, List.set_cons_zero, List.set_cons_succ]
  refine wpAnyH_take (i := 7) (oi := { dst := some 15, op := Go.Op.fieldAddr 37 (Go.Operand.tmp 1) 3, type := 0, pos := "ref.go:319", after := #[], guard := none }) (v := ?_) rfl (by kernel_rfl) (by kernel_rfl) (by kernel_rfl) (fun _ _ _ h => h) (Or.inl ⟨by rfl, ?_⟩) hHeld ?_
  rotate_left 1
  · (intro wq hSq; (try dsimp only at hSq); go_simp; first | done | with_reducible rfl)
  try simp only [Act.put, List.setIfInBounds_toArray, List.set_cons_zero, List.set_cons_succ]
  refine wpAnyH_take (i := 8) (oi := { dst := some 16, op := Go.Op.load 24 (Go.Operand.tmp 15), type := 24, pos := "ref.go:319", after := #[{ on := 7, ground := Go.Ground.data }], guard := none }) (v := ?_) rfl (by kernel_rfl) (by kernel_rfl) (by kernel_rfl) (fun _ _ _ h => h) (Or.inl ⟨by rfl, ?_⟩) hHeld ?_
  rotate_left 1
  · (intro wq hSq; (try dsimp only at hSq); have hq := row_cell (G2.out _ hSq) (mC_3 m); go_simp; first | done | with_reducible rfl)
  try simp only [Act.put, List.setIfInBounds_toArray, List.set_cons_zero, List.set_cons_succ]
  refine wpAnyH_batch (B := [(6, 14, []), (9, 17, []), (10, 18, [14, 17])]) (R := fun w w' => Below w.heap.size w w') (Φ := PhiW m) 2 (by kernel_rfl) (fun _ _ _ _ h => h) (Below.refl _ _) (fun _ _ h1 h2 => h1.trans (h2.mono h1.size)) (fun _ _ _ _ _ h k => phiW_below _ _ _ _ _ h k) (fun _ h => BD.out.trans h) ⟨StepB.mk ({ dst := some 14, op := Go.Op.buildSlice 22 2 #[(0, Go.Operand.tmp 10), (1, Go.Operand.tmp 13)], type := 22, pos := "ref.go:319", after := #[{ on := 2, ground := Go.Ground.data }, { on := 5, ground := Go.Ground.data }], guard := none } : Oper) rfl ?_, StepB.mk ({ dst := some 17, op := Go.Op.call { callee := Go.Callee.value (Go.Operand.func 29), args := #[Go.Operand.tmp 16, Go.Operand.const (Go.Value.int Go.IntKind.i64 4)], argTypes := #[24, 3] }, type := 22, pos := "ref.go:319", after := #[{ on := 8, ground := Go.Ground.data }], guard := none } : Oper) rfl ?_, StepB.mk ({ dst := some 18, op := Go.Op.buildSlice 69 2 #[(0, Go.Operand.tmp 14), (1, Go.Operand.tmp 17)], type := 69, pos := "ref.go:319", after := #[{ on := 6, ground := Go.Ground.data }, { on := 9, ground := Go.Ground.data }], guard := none } : Oper) rfl ?_, trivial⟩ ?_
  · intro f wS hRS hFS K hK
    simp only [putT, Act.put, List.setIfInBounds_toArray, List.set_cons_zero, List.set_cons_succ] at hK ⊢
    go_simp
    exact hK.out _ _ ((Below.refl _ _).alloc (Nat.le_refl _) _) ⟨wS.heap.size, rfl, part_new wS [m.frm, m.to] (by simp)⟩
  · intro f wS hRS hFS K hK
    simp only [putT, Act.put, List.setIfInBounds_toArray, List.set_cons_zero, List.set_cons_succ] at hK ⊢
    go_simp
    refine (N4.out wS m.id (by have := HB.out.2.2.1; omega) HB.out.2.2.2.1).mono ?_
    rintro e w' ⟨g, rfl, r1, r2⟩
    exact hK.out _ _ r2 ⟨g, rfl, r1⟩
  · intro f wS hRS hFS K hK
    simp only [putT, Act.put, List.setIfInBounds_toArray, List.set_cons_zero, List.set_cons_succ] at hK ⊢
    obtain ⟨g14, e14, q14⟩ := hFS 14 (by simp)
    obtain ⟨g17, e17, q17⟩ := hFS 17 (by simp)
    rw [e14, e17] at hK ⊢
    rw [e14] at q14
    rw [e17] at q17
    clear e14 e17 hFS
    have kA : ∀ o, Below wS.heap.size wS (wS.alloc o) := fun o => (Below.refl _ _).alloc (Nat.le_refl _) _
    go_simp
    exact hK.out _ _ (kA _) ⟨wS.heap.size, _, _, rfl, by simp, range_alloc wS _ _, q14.below (kA _), q17.below (kA _)⟩
  intro f wB hRB hFB
  simp only [List.map, setL, putT, Act.put, List.setIfInBounds_toArray, List.set_cons_zero, List.set_cons_succ]
  have hHeldB1 : Below w2.heap.size w2 wB := BD.out.trans hRB
  obtain ⟨g, x1, x2, e18, r1, r2, r3, r4⟩ := hFB 18 (by simp)
  rw [e18]
  have JH : Hid (Calls Try.prog 28 #[.slice (some ⟨g, 0, none⟩) 2 2] wB fun e w' => ∃ av cp, e = .returned (.slice av 6 cp) ∧ PartAt w' (.slice av 6 cp) ([m.frm, m.to] ++ numB m.id 4) ∧ Below wB.heap.size wB w') := by
    have q := join_form wB g 2 [x1, x2] [[m.frm, m.to], numB m.id 4] rfl rfl (by omega) r1 r2 (parts_cons r3 (parts_cons r4 parts_nil)) (by simp [numB_length])
    have e : [[m.frm, m.to], numB m.id 4].flatten = ([m.frm, m.to] ++ numB m.id 4) := by simp
    have e6 : ([m.frm, m.to] ++ numB m.id 4).length = 6 := by simp [numB_length]
    rw [e, e6] at q
    exact q
  have HB1 : Hid (Below w2.heap.size w2 wB) := hHeldB1
  generalize f 14 = u14
  generalize f 17 = u17
  clear hFB hRB e18 r1 r2 r3 r4
  refine wpAnyH_ready (rs := [11]) (by kernel_rfl) (by simp) ?_
  refine AllReadyH.cons (o := { dst := some 19, op := Go.Op.call { callee := Go.Callee.value (Go.Operand.func 28), args := #[Go.Operand.tmp 18], argTypes := #[69] }, type := 22, pos := "ref.go:319", after := #[{ on := 10, ground := Go.Ground.data }, { on := 9, ground := Go.Ground.chain }], guard := none }) rfl (fun K hK => ?_) AllReadyH.nil
  go_simp
  refine JH.out.mono ?_
  rintro e w4 ⟨av4, c4, rfl, p4, b4⟩
  have P4 : Hid (PartAt w4 (.slice av4 6 c4) ([m.frm, m.to] ++ numB m.id 4)) := p4
  have B4 : Hid (Below w2.heap.size w2 w4) := HB1.out.trans (b4.mono HB1.out.size)
  clear p4 b4 JH HB1
  refine hK.out _ _ (B4.out) (fun hHeld2 => ?_)
  clear hK K hHeldB1
  try simp only [Act.put, List.setIfInBounds_toArray, List.set_cons_zero, List.set_cons_succ]
  refine wpAnyH_take (i := 12) (oi := { dst := some 4, op := Go.Op.assign (Go.Operand.tmp 19), type := 22, pos := "ref.go:319", after := #[{ on := 11, ground := Go.Ground.data }, { on := 11, ground := Go.Ground.chain }, { on := 0, ground := Go.Ground.phase }, { on := 1, ground := Go.Ground.phase }, { on := 2, ground := Go.Ground.phase }, { on := 3, ground := Go.Ground.phase }, { on := 4, ground := Go.Ground.phase }, { on := 5, ground := Go.Ground.phase }, { on := 6, ground := Go.Ground.phase }, { on := 7, ground := Go.Ground.phase }, { on := 8, ground := Go.Ground.phase }, { on := 9, ground := Go.Ground.phase }, { on := 10, ground := Go.Ground.phase }, { on := 11, ground := Go.Ground.phase }], guard := none }) (v := ?_) rfl (by kernel_rfl) (by kernel_rfl) (by kernel_rfl) (fun _ _ _ h => h) (Or.inl ⟨by rfl, ?_⟩) hHeld2 ?_
  rotate_left 1
  · (intro wq hSq; (try dsimp only at hSq); go_simp; first | done | with_reducible rfl)
  try simp only [Act.put, List.setIfInBounds_toArray, List.set_cons_zero, List.set_cons_succ]
  refine wpAnyH_done (by kernel_rfl) ?_ _
  refine NoPanic.normal ?_
  have c0 := row_cell (G2.out _ B4.out) (mC_0 m)
  rw [HK.out] at c0
  have c40 := row_cell (G2.out _ B4.out) (mC_40 m HM.out)
  rw [HY.out] at c40
  have HV : Hid (∀ (W : World) (o : Nat) (l : List Int), Below w2.heap.size w2 W → l.length = 32 → (mC m).toArray.extract o (o + 32) = vB l → PartAt W (.slice (some ⟨w.heap.size, o, none⟩) 32 32) l) := fun W o l q hl he =>
    ⟨some ⟨w.heap.size, o, none⟩, w.heap.size, o, 32, by rw [hl], by rw [hl]; exact Nat.le_refl _, by omega, fun _ => rfl, range_of (G2.out W q) o 32 _ he, (G2.out W q).lt, fun h => by cases h⟩
  have D4 : Hid (Below w4.heap.size w4 w4.drew) := (Below.refl _ _).drew
  have J5 : Hid (Calls Try.prog 28 #[.slice (some ⟨w4.heap.size + 1, 0, none⟩) 4 4] ((w4.drew.alloc (.cells #[.int .u8 1] 5)).alloc (.cells #[.slice av4 6 c4, .slice (some ⟨w4.heap.size, 0, none⟩) 1 1, .slice (some ⟨w.heap.size, 42, none⟩) 32 32, .slice (some ⟨w.heap.size, 74, none⟩) 32 32] 22)) fun e w' => ∃ av n cp, e = .returned (.slice av n cp) ∧ n = (bodyB m).length ∧ PartAt w' (.slice av n cp) (bodyB m) ∧ Below w4.heap.size w4 w') := by
    have k1 : Below w4.heap.size w4 (w4.drew.alloc (.cells #[.int .u8 1] 5)) := D4.out.alloc (Nat.le_refl _) _
    have k2 : Below (w4.drew.alloc (.cells #[.int .u8 1] 5)).heap.size (w4.drew.alloc (.cells #[.int .u8 1] 5)) ((w4.drew.alloc (.cells #[.int .u8 1] 5)).alloc (.cells #[.slice av4 6 c4, .slice (some ⟨w4.heap.size, 0, none⟩) 1 1, .slice (some ⟨w.heap.size, 42, none⟩) 32 32, .slice (some ⟨w.heap.size, 74, none⟩) 32 32] 22)) := (Below.refl _ _).alloc (Nat.le_refl _) _
    have k3 : Below w4.heap.size w4 ((w4.drew.alloc (.cells #[.int .u8 1] 5)).alloc (.cells #[.slice av4 6 c4, .slice (some ⟨w4.heap.size, 0, none⟩) 1 1, .slice (some ⟨w.heap.size, 42, none⟩) 32 32, .slice (some ⟨w.heap.size, 74, none⟩) 32 32] 22)) := k1.trans (k2.mono (by simp))
    have k4 : Below w2.heap.size w2 ((w4.drew.alloc (.cells #[.int .u8 1] 5)).alloc (.cells #[.slice av4 6 c4, .slice (some ⟨w4.heap.size, 0, none⟩) 1 1, .slice (some ⟨w.heap.size, 42, none⟩) 32 32, .slice (some ⟨w.heap.size, 74, none⟩) 32 32] 22)) := B4.out.trans (k3.mono B4.out.size)
    have e : [([m.frm, m.to] ++ numB m.id 4), [1], m.vh, m.vr].flatten = ([m.frm, m.to] ++ numB m.id 4) ++ ([1] ++ (m.vh ++ m.vr)) := by simp
    have r := range_alloc (w4.drew.alloc (.cells #[.int .u8 1] 5)) [.slice av4 6 c4, .slice (some ⟨w4.heap.size, 0, none⟩) 1 1, .slice (some ⟨w.heap.size, 42, none⟩) 32 32, .slice (some ⟨w.heap.size, 74, none⟩) 32 32] 22
    rw [show (w4.drew.alloc (.cells #[.int .u8 1] 5)).heap.size = w4.heap.size + 1 by simp] at r
    have q := join_form ((w4.drew.alloc (.cells #[.int .u8 1] 5)).alloc (.cells #[.slice av4 6 c4, .slice (some ⟨w4.heap.size, 0, none⟩) 1 1, .slice (some ⟨w.heap.size, 42, none⟩) 32 32, .slice (some ⟨w.heap.size, 74, none⟩) 32 32] 22)) (w4.heap.size + 1) 4 [.slice av4 6 c4, .slice (some ⟨w4.heap.size, 0, none⟩) 1 1, .slice (some ⟨w.heap.size, 42, none⟩) 32 32, .slice (some ⟨w.heap.size, 74, none⟩) 32 32] [([m.frm, m.to] ++ numB m.id 4), [1], m.vh, m.vr] rfl rfl (by omega) (by simp) r (parts_cons (P4.out.below k3) (parts_cons ((part_new w4.drew [1] (by simp)).below k2) (parts_cons (HV.out _ 42 m.vh k4 HM.out.v (mC_vh m HM.out)) (parts_cons (HV.out _ 74 m.vr k4 HM.out.r (mC_vr m HM.out)) parts_nil)))) (by rw [e]; simp [numB_length, HM.out.v, HM.out.r])
    rw [e] at q
    exact q.mono fun e w' ⟨av, cp, r1, r2, r3⟩ => ⟨av, _, cp, r1, by rw [HBO.out], by rw [HBO.out]; exact r2, k3.trans (r3.mono (by simp; omega))⟩
  clear hHeld2
  go_wp2_with fail
  refine wp_region_noPanic ?_
  refine wp_region_held_drew (S := fun w' => Below w4.heap.size w4 w') (by kernel_rfl) (D4.out) (fun hHeld => ?_)
  try simp only [Act.put, List.setIfInBounds_toArray, List.set_cons_zero, List.set_cons_succ]
  refine wpAnyH_take (i := 0) (oi := { dst := some 41, op := Go.Op.move (Go.Operand.tmp 4), type := 22, pos := "ref.go:324", after := #[], guard := none }) (v := ?_) rfl (by kernel_rfl) (by kernel_rfl) (by kernel_rfl) (fun _ _ _ h => h) (Or.inl ⟨by rfl, ?_⟩) hHeld ?_
  rotate_left 1
  · (intro wq hSq; (try dsimp only at hSq); go_simp; first | done | with_reducible rfl)
  try simp only [Act.put, List.setIfInBounds_toArray, List.set_cons_zero, List.set_cons_succ]
  refine wpAnyH_take (i := 2) (oi := { dst := some 43, op := Go.Op.fieldAddr 37 (Go.Operand.tmp 1) 8, type := 0, pos := "ref.go:324", after := #[], guard := none }) (v := ?_) rfl (by kernel_rfl) (by kernel_rfl) (by kernel_rfl) (fun _ _ _ h => h) (Or.inl ⟨by rfl, ?_⟩) hHeld ?_
  rotate_left 1
  · (intro wq hSq; (try dsimp only at hSq); go_simp; first | done | with_reducible rfl)
  try simp only [Act.put, List.setIfInBounds_toArray, List.set_cons_zero, List.set_cons_succ]
  refine wpAnyH_take (i := 3) (oi := { dst := some 44, op := Go.Op.slice 27 (Go.Operand.tmp 43) none none none, type := 22, pos := "ref.go:324", after := #[{ on := 2, ground := Go.Ground.data }], guard := none }) (v := ?_) rfl (by kernel_rfl) (by kernel_rfl) (by kernel_rfl) (fun _ _ _ h => h) (Or.inl ⟨by rfl, ?_⟩) hHeld ?_
  rotate_left 1
  · (intro wq hSq; (try dsimp only at hSq); go_simp; first | done | with_reducible rfl)
  try simp only [Act.put, List.setIfInBounds_toArray, List.set_cons_zero, List.set_cons_succ]
  refine wpAnyH_take (i := 4) (oi := { dst := some 45, op := Go.Op.fieldAddr 37 (Go.Operand.tmp 1) 9, type := 0, pos := "ref.go:324", after := #[], guard := none }) (v := ?_) rfl (by kernel_rfl) (by kernel_rfl) (by kernel_rfl) (fun _ _ _ h => h) (Or.inl ⟨by rfl, ?_⟩) hHeld ?_
  rotate_left 1
  · (intro wq hSq; (try dsimp only at hSq); go_simp; first | done | with_reducible rfl)
  try simp only [Act.put, List.setIfInBounds_toArray, List.set_cons_zero, List.set_cons_succ]
  refine wpAnyH_take (i := 5) (oi := { dst := some 46, op := Go.Op.slice 27 (Go.Operand.tmp 45) none none none, type := 22, pos := "ref.go:324", after := #[{ on := 4, ground := Go.Ground.data }], guard := none }) (v := ?_) rfl (by kernel_rfl) (by kernel_rfl) (by kernel_rfl) (fun _ _ _ h => h) (Or.inl ⟨by rfl, ?_⟩) hHeld ?_
  rotate_left 1
  · (intro wq hSq; (try dsimp only at hSq); go_simp; first | done | with_reducible rfl)
  try simp only [Act.put, List.setIfInBounds_toArray, List.set_cons_zero, List.set_cons_succ]
  refine wpAnyH_ready (rs := [1]) (by kernel_rfl) (by simp) ?_
  refine AllReadyH.cons (o := { dst := some 42, op := Go.Op.buildSlice 22 1 #[(0, Go.Operand.const (Go.Value.int Go.IntKind.u8 1))], type := 22, pos := "ref.go:324", after := #[], guard := none }) rfl (fun K hK => ?_) AllReadyH.nil
  go_simp
  refine hK.out _ _ (Below.alloc D4.out (Nat.le_refl _) _) (fun hHeld1 => ?_)
  clear hK K hHeld
  try simp only [Act.put, List.setIfInBounds_toArray, List.set_cons_zero, List.set_cons_succ]
  refine wpAnyH_ready (rs := [6]) (by kernel_rfl) (by simp) ?_
  refine AllReadyH.cons (o := { dst := some 47, op := Go.Op.buildSlice 69 4 #[(0, Go.Operand.tmp 41), (1, Go.Operand.tmp 42), (2, Go.Operand.tmp 44), (3, Go.Operand.tmp 46)], type := 69, pos := "ref.go:324", after := #[{ on := 0, ground := Go.Ground.data }, { on := 1, ground := Go.Ground.data }, { on := 3, ground := Go.Ground.data }, { on := 5, ground := Go.Ground.data }], guard := none }) rfl (fun K hK => ?_) AllReadyH.nil
  go_simp
  refine hK.out _ _ (Below.alloc (Below.alloc D4.out (Nat.le_refl _) _) (by simp) _) (fun hHeld2 => ?_)
  clear hK K hHeld1
  try simp only [Act.put, List.setIfInBounds_toArray, List.set_cons_zero, List.set_cons_succ]
  refine wpAnyH_ready (rs := [7]) (by kernel_rfl) (by simp) ?_
  refine AllReadyH.cons (o := { dst := some 48, op := Go.Op.call { callee := Go.Callee.value (Go.Operand.func 28), args := #[Go.Operand.tmp 47], argTypes := #[69] }, type := 22, pos := "ref.go:324", after := #[{ on := 6, ground := Go.Ground.data }], guard := none }) rfl (fun K hK => ?_) AllReadyH.nil
  go_simp
  refine J5.out.mono ?_
  rintro e w5 ⟨av5, n5, c5, rfl, hn5, p5, b5⟩
  refine hK.out _ _ (b5) (fun hHeld3 => ?_)
  clear hK K hHeld2
  try simp only [Act.put, List.setIfInBounds_toArray, List.set_cons_zero, List.set_cons_succ]
  refine wpAnyH_take (i := 8) (oi := { dst := some 4, op := Go.Op.assign (Go.Operand.tmp 48), type := 22, pos := "ref.go:324", after := #[{ on := 7, ground := Go.Ground.data }, { on := 7, ground := Go.Ground.chain }, { on := 0, ground := Go.Ground.phase }, { on := 1, ground := Go.Ground.phase }, { on := 2, ground := Go.Ground.phase }, { on := 3, ground := Go.Ground.phase }, { on := 4, ground := Go.Ground.phase }, { on := 5, ground := Go.Ground.phase }, { on := 6, ground := Go.Ground.phase }, { on := 7, ground := Go.Ground.phase }], guard := none }) (v := ?_) rfl (by kernel_rfl) (by kernel_rfl) (by kernel_rfl) (fun _ _ _ h => h) (Or.inl ⟨by rfl, ?_⟩) hHeld3 ?_
  rotate_left 1
  · (intro wq hSq; (try dsimp only at hSq); go_simp; first | done | with_reducible rfl)
  try simp only [Act.put, List.setIfInBounds_toArray, List.set_cons_zero, List.set_cons_succ]
  refine wpAnyH_done (by kernel_rfl) ?_ _
  refine NoPanic.normal ?_
  clear c0
  subst hn5
  have P5 : Hid (PartAt w5 (.slice av5 (bodyB m).length c5) (bodyB m)) := p5

  have B5 : Hid (Below w2.heap.size w2 w5) := B4.out.trans (b5.mono B4.out.size)
  have c0 := row_cell (G2.out _ B5.out) (mC_0 m)
  clear p5 b5
  go_wp2_with fail
  refine (EN.out _ _ _ _ (B2.out _ B5.out) rfl P5.out).mono ?_
  rintro e w9 ⟨u, rfl, o9, b9⟩
  go_wp2
  go_ret2
  exact ⟨u, rfl, o9, b9⟩
end Go.Proofs.Ytnpjknnalekdpaa
namespace Go.Proofs.Ytnpjknnalekdpaa
set_option linter.unusedSimpArgs false
set_option linter.unusedVariables false
open Go.RowKit
set_option maxHeartbeats 4000000 in
set_option maxRecDepth 100000 in
theorem rwrite_1 (m : Msg) (hm : m.Ok) (h : formB m = true) (hk : m.kind = 1) (w : World) (h0 : 0 < w.heap.size) : Calls Try.prog 13 #[.agg (mC m).toArray] w fun e w' => ∃ u, e = .returned (.tuple #[u, .int .i64 0]) ∧ OwnB w' w.heap.size u (encB m.kind (bodyB m)) ∧ Below w.heap.size w w' := by
  obtain ⟨f1, f2, f3, f4, f5, f6, f7, f8⟩ := form_all h
  have hbs := base_of h
  have hbd := body_le m hm h
  have b1 : Below w.heap.size w (w.alloc (.cells (mC m).toArray 37)) := (Below.refl _ _).alloc (Nat.le_refl _) _
  have FM : Hid (Calls Try.prog 27 #[.agg (mC m).toArray] (w.alloc (.cells (mC m).toArray 37)) fun e w' => e = .returned (.bool true) ∧ BoxM 37 w' w.heap.size m ∧ Below w.heap.size w w') := by
    have q := rformed_any m hm (w.alloc (.cells (mC m).toArray 37))
    rw [h] at q
    exact q.mono fun e w' ⟨r1, r2⟩ => ⟨r1, BoxM.below (heap_alloc_new w (.cells (mC m).toArray 37)) r2, b1.trans (r2.mono b1.size)⟩
  have G1 : Hid (BoxM 37 (w.alloc (.cells (mC m).toArray 37)) w.heap.size m) := heap_alloc_new w (.cells (mC m).toArray 37)
  have HM : Hid (m.Ok) := hm
  have N4 : Hid (∀ (W : World) (n : Int), 0 ≤ n → n ≤ 4294967295 → Calls Try.prog 29 #[.int .u64 n, .int .i64 4] W fun e w' => ∃ g, e = .returned (.slice (some ⟨g, 0, none⟩) 4 4) ∧ PartAt w' (.slice (some ⟨g, 0, none⟩) 4 4) (numB n 4) ∧ Below W.heap.size W w') := fun W n h0 h1 =>
    (rnumk_any n h0 (by omega) 4 (by omega) (by omega) _).mono fun e w' ⟨g, r1, r2, r3, r4⟩ => ⟨g, r1, partRow r3 4 (numB_length _ _) (by omega), r4⟩
  have EN : Hid (∀ (W : World) (av : Option Addr) (n cp : Nat), Below w.heap.size w W → n = (bodyB m).length → PartAt W (.slice av n cp) (bodyB m) → Calls Try.prog 14 #[.agg #[.int .u8 m.kind, .slice av n cp]] W fun e w' => ∃ u, e = .returned (.tuple #[u, .int .i64 0]) ∧ OwnB w' w.heap.size u (encB m.kind (bodyB m)) ∧ Below w.heap.size w w') := fun W av n cp q hn p =>
    (rencode_own m.kind (by omega) av n cp (bodyB m) hn.symm (by omega) hbd.2 W (by have := q.size; omega) p).mono fun e w' ⟨u, r1, r2, r3⟩ => ⟨u, r1, r2.lower q.size, q.trans (r3.mono q.size)⟩
  have a1 : m.frm % 256 = m.frm := by omega
  have a2 : m.to % 256 = m.to := by omega
  have a3 : m.kind % 256 = m.kind := by omega
  have a4 : IntKind.u8.wrap m.frm = m.frm := by rw [show IntKind.u8.wrap m.frm = m.frm % 256 from rfl]; omega
  have a5 : IntKind.u8.wrap m.to = m.to := by rw [show IntKind.u8.wrap m.to = m.to % 256 from rfl]; omega
  have a6 : IntKind.u8.wrap m.kind = m.kind := by rw [show IntKind.u8.wrap m.kind = m.kind % 256 from rfl]; omega
  have HB : Hid ((0 ≤ m.frm ∧ m.frm ≤ 16) ∧ (0 ≤ m.to ∧ m.to ≤ 16) ∧ 0 < m.id ∧ m.id ≤ 4294967295 ∧ m.base ≤ 4294967295 ∧ m.s.size ≤ 500) := ⟨f2, f3, f5, f6, hbs.1, hbs.2⟩
  have HIN : Hid (inB m = true) := f8
  have HBO : Hid (bodyB m = ([m.frm, m.to] ++ numB m.id 4) ++ (numB m.base 4 ++ editB m)) := by unfold Hid bodyB ownB; rw [if_pos hk]; unfold editB; simp
  have HK : Hid (m.kind = 1) := hk
  clear hk
  clear hm h b1 hbs hbd f1 f2 f3 f4 f5 f6 f7 f8 h0
  go_enter Try.func13, Try.ntmps13
  go_wp2_with (first | (refine loadM65 rfl _ rfl w.heap.size rfl m HM.out G1.out ?_))
  refine FM.out.mono ?_
  rintro e w2 ⟨rfl, g2, b2⟩
  have G2 : Hid (∀ W, Below w2.heap.size w2 W → BoxM 37 W w.heap.size m) := fun W q => g2.below q
  have B2 : Hid (∀ W, Below w2.heap.size w2 W → Below w.heap.size w W) := fun W q => b2.trans (q.mono b2.size)
  have BD : Hid (Below w2.heap.size w2 w2.drew) := (Below.refl _ _).drew
  clear g2 b2 FM G1
  go_wp2_with fail
  refine wp_region_noPanic ?_
  refine wp_region_held_drew (S := fun w' => Below w2.heap.size w2 w') (by kernel_rfl) (BD.out) (fun hHeld => ?_)
  try simp only [Act.put, List.setIfInBounds_toArray, List.set_cons_zero, List.set_cons_succ]
  refine wpAnyH_take (i := 0) (oi := { dst := some 8, op := Go.Op.fieldAddr 37 (Go.Operand.tmp 1) 1, type := 0, pos := "ref.go:319", after := #[], guard := none }) (v := ?_) rfl (by kernel_rfl) (by kernel_rfl) (by kernel_rfl) (fun _ _ _ h => h) (Or.inl ⟨by rfl, ?_⟩) hHeld ?_
  rotate_left 1
  · (intro wq hSq; (try dsimp only at hSq); go_simp; first | done | with_reducible rfl)
  try simp only [Act.put, List.setIfInBounds_toArray, List.set_cons_zero, List.set_cons_succ]
  refine wpAnyH_take (i := 1) (oi := { dst := some 9, op := Go.Op.load 3 (Go.Operand.tmp 8), type := 3, pos := "ref.go:319", after := #[{ on := 0, ground := Go.Ground.data }], guard := none }) (v := ?_) rfl (by kernel_rfl) (by kernel_rfl) (by kernel_rfl) (fun _ _ _ h => h) (Or.inl ⟨by rfl, ?_⟩) hHeld ?_
  rotate_left 1
  · (intro wq hSq; (try dsimp only at hSq); have hq := row_cell (G2.out _ hSq) (mC_1 m); go_simp; first | done | with_reducible rfl)
  try simp only [Act.put, List.setIfInBounds_toArray, List.set_cons_zero, List.set_cons_succ]
  refine wpAnyH_take (i := 2) (oi := { dst := some 10, op := Go.Op.convert 3 5 (Go.Operand.tmp 9), type := 5, pos := "ref.go:319", after := #[{ on := 1, ground := Go.Ground.data }], guard := none }) (v := ?_) rfl (by kernel_rfl) (by kernel_rfl) (by kernel_rfl) (fun _ _ _ h => h) (Or.inl ⟨by rfl, ?_⟩) hHeld ?_
  rotate_left 1
  · (intro wq hSq; (try dsimp only at hSq); go_simp; first | done | with_reducible rfl)
  try simp only [Act.put, List.setIfInBounds_toArray, List.set_cons_zero, List.set_cons_succ]
  refine wpAnyH_take (i := 3) (oi := { dst := some 11, op := Go.Op.fieldAddr 37 (Go.Operand.tmp 1) 2, type := 0, pos := "ref.go:319", after := #[], guard := none }) (v := ?_) rfl (by kernel_rfl) (by kernel_rfl) (by kernel_rfl) (fun _ _ _ h => h) (Or.inl ⟨by rfl, ?_⟩) hHeld ?_
  rotate_left 1
  · (intro wq hSq; (try dsimp only at hSq); go_simp; first | done | with_reducible rfl)
  try simp only [Act.put, List.setIfInBounds_toArray, List.set_cons_zero, List.set_cons_succ]
  refine wpAnyH_take (i := 4) (oi := { dst := some 12, op := Go.Op.load 3 (Go.Operand.tmp 11), type := 3, pos := "ref.go:319", after := #[{ on := 3, ground := Go.Ground.data }], guard := none }) (v := ?_) rfl (by kernel_rfl) (by kernel_rfl) (by kernel_rfl) (fun _ _ _ h => h) (Or.inl ⟨by rfl, ?_⟩) hHeld ?_
  rotate_left 1
  · (intro wq hSq; (try dsimp only at hSq); have hq := row_cell (G2.out _ hSq) (mC_2 m); go_simp; first | done | with_reducible rfl)
  try simp only [Act.put, List.setIfInBounds_toArray, List.set_cons_zero, List.set_cons_succ]
  refine wpAnyH_take (i := 5) (oi := { dst := some 13, op := Go.Op.convert 3 5 (Go.Operand.tmp 12), type := 5, pos := "ref.go:319", after := #[{ on := 4, ground := Go.Ground.data }], guard := none }) (v := ?_) rfl (by kernel_rfl) (by kernel_rfl) (by kernel_rfl) (fun _ _ _ h => h) (Or.inl ⟨by rfl, ?_⟩) hHeld ?_
  rotate_left 1
  · (intro wq hSq; (try dsimp only at hSq); go_simp; first | done | with_reducible rfl)
  try simp only [Act.put, List.setIfInBounds_toArray, List.set_cons_zero, List.set_cons_succ]
  refine wpAnyH_take (i := 7) (oi := { dst := some 15, op := Go.Op.fieldAddr 37 (Go.Operand.tmp 1) 3, type := 0, pos := "ref.go:319", after := #[], guard := none }) (v := ?_) rfl (by kernel_rfl) (by kernel_rfl) (by kernel_rfl) (fun _ _ _ h => h) (Or.inl ⟨by rfl, ?_⟩) hHeld ?_
  rotate_left 1
  · (intro wq hSq; (try dsimp only at hSq); go_simp; first | done | with_reducible rfl)
  try simp only [Act.put, List.setIfInBounds_toArray, List.set_cons_zero, List.set_cons_succ]
  refine wpAnyH_take (i := 8) (oi := { dst := some 16, op := Go.Op.load 24 (Go.Operand.tmp 15), type := 24, pos := "ref.go:319", after := #[{ on := 7, ground := Go.Ground.data }], guard := none }) (v := ?_) rfl (by kernel_rfl) (by kernel_rfl) (by kernel_rfl) (fun _ _ _ h => h) (Or.inl ⟨by rfl, ?_⟩) hHeld ?_
  rotate_left 1
  · (intro wq hSq; (try dsimp only at hSq); have hq := row_cell (G2.out _ hSq) (mC_3 m); go_simp; first | done | with_reducible rfl)
  try simp only [Act.put, List.setIfInBounds_toArray, List.set_cons_zero, List.set_cons_succ]
  refine wpAnyH_batch (B := [(6, 14, []), (9, 17, []), (10, 18, [14, 17])]) (R := fun w w' => Below w.heap.size w w') (Φ := PhiW m) 2 (by kernel_rfl) (fun _ _ _ _ h => h) (Below.refl _ _) (fun _ _ h1 h2 => h1.trans (h2.mono h1.size)) (fun _ _ _ _ _ h k => phiW_below _ _ _ _ _ h k) (fun _ h => BD.out.trans h) ⟨StepB.mk ({ dst := some 14, op := Go.Op.buildSlice 22 2 #[(0, Go.Operand.tmp 10), (1, Go.Operand.tmp 13)], type := 22, pos := "ref.go:319", after := #[{ on := 2, ground := Go.Ground.data }, { on := 5, ground := Go.Ground.data }], guard := none } : Oper) rfl ?_, StepB.mk ({ dst := some 17, op := Go.Op.call { callee := Go.Callee.value (Go.Operand.func 29), args := #[Go.Operand.tmp 16, Go.Operand.const (Go.Value.int Go.IntKind.i64 4)], argTypes := #[24, 3] }, type := 22, pos := "ref.go:319", after := #[{ on := 8, ground := Go.Ground.data }], guard := none } : Oper) rfl ?_, StepB.mk ({ dst := some 18, op := Go.Op.buildSlice 69 2 #[(0, Go.Operand.tmp 14), (1, Go.Operand.tmp 17)], type := 69, pos := "ref.go:319", after := #[{ on := 6, ground := Go.Ground.data }, { on := 9, ground := Go.Ground.data }], guard := none } : Oper) rfl ?_, trivial⟩ ?_
  · intro f wS hRS hFS K hK
    simp only [putT, Act.put, List.setIfInBounds_toArray, List.set_cons_zero, List.set_cons_succ] at hK ⊢
    go_simp
    exact hK.out _ _ ((Below.refl _ _).alloc (Nat.le_refl _) _) ⟨wS.heap.size, rfl, part_new wS [m.frm, m.to] (by simp)⟩
  · intro f wS hRS hFS K hK
    simp only [putT, Act.put, List.setIfInBounds_toArray, List.set_cons_zero, List.set_cons_succ] at hK ⊢
    go_simp
    refine (N4.out wS m.id (by have := HB.out.2.2.1; omega) HB.out.2.2.2.1).mono ?_
    rintro e w' ⟨g, rfl, r1, r2⟩
    exact hK.out _ _ r2 ⟨g, rfl, r1⟩
  · intro f wS hRS hFS K hK
    simp only [putT, Act.put, List.setIfInBounds_toArray, List.set_cons_zero, List.set_cons_succ] at hK ⊢
    obtain ⟨g14, e14, q14⟩ := hFS 14 (by simp)
    obtain ⟨g17, e17, q17⟩ := hFS 17 (by simp)
    rw [e14, e17] at hK ⊢
    rw [e14] at q14
    rw [e17] at q17
    clear e14 e17 hFS
    have kA : ∀ o, Below wS.heap.size wS (wS.alloc o) := fun o => (Below.refl _ _).alloc (Nat.le_refl _) _
    go_simp
    exact hK.out _ _ (kA _) ⟨wS.heap.size, _, _, rfl, by simp, range_alloc wS _ _, q14.below (kA _), q17.below (kA _)⟩
  intro f wB hRB hFB
  simp only [List.map, setL, putT, Act.put, List.setIfInBounds_toArray, List.set_cons_zero, List.set_cons_succ]
  have hHeldB1 : Below w2.heap.size w2 wB := BD.out.trans hRB
  obtain ⟨g, x1, x2, e18, r1, r2, r3, r4⟩ := hFB 18 (by simp)
  rw [e18]
  have JH : Hid (Calls Try.prog 28 #[.slice (some ⟨g, 0, none⟩) 2 2] wB fun e w' => ∃ av cp, e = .returned (.slice av 6 cp) ∧ PartAt w' (.slice av 6 cp) ([m.frm, m.to] ++ numB m.id 4) ∧ Below wB.heap.size wB w') := by
    have q := join_form wB g 2 [x1, x2] [[m.frm, m.to], numB m.id 4] rfl rfl (by omega) r1 r2 (parts_cons r3 (parts_cons r4 parts_nil)) (by simp [numB_length])
    have e : [[m.frm, m.to], numB m.id 4].flatten = ([m.frm, m.to] ++ numB m.id 4) := by simp
    have e6 : ([m.frm, m.to] ++ numB m.id 4).length = 6 := by simp [numB_length]
    rw [e, e6] at q
    exact q
  have HB1 : Hid (Below w2.heap.size w2 wB) := hHeldB1
  generalize f 14 = u14
  generalize f 17 = u17
  clear hFB hRB e18 r1 r2 r3 r4
  refine wpAnyH_ready (rs := [11]) (by kernel_rfl) (by simp) ?_
  refine AllReadyH.cons (o := { dst := some 19, op := Go.Op.call { callee := Go.Callee.value (Go.Operand.func 28), args := #[Go.Operand.tmp 18], argTypes := #[69] }, type := 22, pos := "ref.go:319", after := #[{ on := 10, ground := Go.Ground.data }, { on := 9, ground := Go.Ground.chain }], guard := none }) rfl (fun K hK => ?_) AllReadyH.nil
  go_simp
  refine JH.out.mono ?_
  rintro e w4 ⟨av4, c4, rfl, p4, b4⟩
  have P4 : Hid (PartAt w4 (.slice av4 6 c4) ([m.frm, m.to] ++ numB m.id 4)) := p4
  have B4 : Hid (Below w2.heap.size w2 w4) := HB1.out.trans (b4.mono HB1.out.size)
  clear p4 b4 JH HB1
  refine hK.out _ _ (B4.out) (fun hHeld2 => ?_)
  clear hK K hHeldB1
  try simp only [Act.put, List.setIfInBounds_toArray, List.set_cons_zero, List.set_cons_succ]
  refine wpAnyH_take (i := 12) (oi := { dst := some 4, op := Go.Op.assign (Go.Operand.tmp 19), type := 22, pos := "ref.go:319", after := #[{ on := 11, ground := Go.Ground.data }, { on := 11, ground := Go.Ground.chain }, { on := 0, ground := Go.Ground.phase }, { on := 1, ground := Go.Ground.phase }, { on := 2, ground := Go.Ground.phase }, { on := 3, ground := Go.Ground.phase }, { on := 4, ground := Go.Ground.phase }, { on := 5, ground := Go.Ground.phase }, { on := 6, ground := Go.Ground.phase }, { on := 7, ground := Go.Ground.phase }, { on := 8, ground := Go.Ground.phase }, { on := 9, ground := Go.Ground.phase }, { on := 10, ground := Go.Ground.phase }, { on := 11, ground := Go.Ground.phase }], guard := none }) (v := ?_) rfl (by kernel_rfl) (by kernel_rfl) (by kernel_rfl) (fun _ _ _ h => h) (Or.inl ⟨by rfl, ?_⟩) hHeld2 ?_
  rotate_left 1
  · (intro wq hSq; (try dsimp only at hSq); go_simp; first | done | with_reducible rfl)
  try simp only [Act.put, List.setIfInBounds_toArray, List.set_cons_zero, List.set_cons_succ]
  refine wpAnyH_done (by kernel_rfl) ?_ _
  refine NoPanic.normal ?_
  have c0 := row_cell (G2.out _ B4.out) (mC_0 m)
  rw [HK.out] at c0
  have D4 : Hid (Below w4.heap.size w4 w4.drew) := (Below.refl _ _).drew
  have ED : Hid (∀ W, Calls Try.prog 30 #[.agg (eC m).toArray] W fun e w' => ∃ av n cp, e = .returned (.slice av n cp) ∧ PartAt w' (.slice av n cp) (editB m) ∧ Below W.heap.size W w') := fun W => (redit_any m HM.out HB.out.2.2.2.2.2 W).mono fun e w' ⟨u, r1, r2, r3⟩ => by
    have r2' := r2
    obtain ⟨av, b', o', cp, rfl, _⟩ := r2'
    exact ⟨av, _, cp, r1, r2, r3⟩
  have J5 : Hid (∀ (W : World) (x y z : Value), PartAt W x ([m.frm, m.to] ++ numB m.id 4) → PartAt W y (numB m.base 4) → PartAt W z (editB m) → Calls Try.prog 28 #[.slice (some ⟨W.heap.size, 0, none⟩) 3 3] (W.alloc (.cells #[x, y, z] 22)) fun e w' => ∃ av n cp, e = .returned (.slice av n cp) ∧ n = (bodyB m).length ∧ PartAt w' (.slice av n cp) (bodyB m) ∧ Below W.heap.size W w') := fun W x y z qx qy qz => by
    have k : Below W.heap.size W (W.alloc (.cells #[x, y, z] 22)) := (Below.refl _ _).alloc (Nat.le_refl _) _
    have e : [([m.frm, m.to] ++ numB m.id 4), numB m.base 4, editB m].flatten = ([m.frm, m.to] ++ numB m.id 4) ++ (numB m.base 4 ++ editB m) := by simp
    have q := join_form (W.alloc (.cells #[x, y, z] 22)) W.heap.size 3 [x, y, z] [([m.frm, m.to] ++ numB m.id 4), numB m.base 4, editB m] rfl rfl (by omega) (by simp) (range_alloc W [x, y, z] 22) (parts_cons (qx.below k) (parts_cons (qy.below k) (parts_cons (qz.below k) parts_nil))) (by rw [e]; have := HB.out.2.2.2.2.2; simp [numB_length, editB, nB_length, HM.out.h]; omega)
    rw [e] at q
    exact q.mono fun e w' ⟨av, cp, r1, r2, r3⟩ => ⟨av, _, cp, r1, by rw [HBO.out], by rw [HBO.out]; exact r2, k.trans (r3.mono (by simp))⟩
  clear hHeld2
  go_wp2_with fail
  refine wp_region_noPanic ?_
  refine wp_region_held_drew (S := fun w' => Below w4.heap.size w4 w') (by kernel_rfl) (D4.out) (fun hHeld => ?_)
  try simp only [Act.put, List.setIfInBounds_toArray, List.set_cons_zero, List.set_cons_succ]
  refine wpAnyH_take (i := 0) (oi := { dst := some 24, op := Go.Op.move (Go.Operand.tmp 4), type := 22, pos := "ref.go:322", after := #[], guard := none }) (v := ?_) rfl (by kernel_rfl) (by kernel_rfl) (by kernel_rfl) (fun _ _ _ h => h) (Or.inl ⟨by rfl, ?_⟩) hHeld ?_
  rotate_left 1
  · (intro wq hSq; (try dsimp only at hSq); go_simp; first | done | with_reducible rfl)
  try simp only [Act.put, List.setIfInBounds_toArray, List.set_cons_zero, List.set_cons_succ]
  refine wpAnyH_take (i := 1) (oi := { dst := some 25, op := Go.Op.fieldAddr 37 (Go.Operand.tmp 1) 4, type := 0, pos := "ref.go:322", after := #[], guard := none }) (v := ?_) rfl (by kernel_rfl) (by kernel_rfl) (by kernel_rfl) (fun _ _ _ h => h) (Or.inl ⟨by rfl, ?_⟩) hHeld ?_
  rotate_left 1
  · (intro wq hSq; (try dsimp only at hSq); go_simp; first | done | with_reducible rfl)
  try simp only [Act.put, List.setIfInBounds_toArray, List.set_cons_zero, List.set_cons_succ]
  refine wpAnyH_take (i := 2) (oi := { dst := some 26, op := Go.Op.load 24 (Go.Operand.tmp 25), type := 24, pos := "ref.go:322", after := #[{ on := 1, ground := Go.Ground.data }], guard := none }) (v := ?_) rfl (by kernel_rfl) (by kernel_rfl) (by kernel_rfl) (fun _ _ _ h => h) (Or.inl ⟨by rfl, ?_⟩) hHeld ?_
  rotate_left 1
  · (intro wq hSq; (try dsimp only at hSq); have hq := row_cell (G2.out _ (B4.out.trans (hSq.mono B4.out.size))) (mC_4 m); go_simp; first | done | with_reducible rfl)
  try simp only [Act.put, List.setIfInBounds_toArray, List.set_cons_zero, List.set_cons_succ]
  refine wpAnyH_take (i := 4) (oi := { dst := some 28, op := Go.Op.fieldAddr 37 (Go.Operand.tmp 1) 5, type := 0, pos := "ref.go:322", after := #[], guard := none }) (v := ?_) rfl (by kernel_rfl) (by kernel_rfl) (by kernel_rfl) (fun _ _ _ h => h) (Or.inl ⟨by rfl, ?_⟩) hHeld ?_
  rotate_left 1
  · (intro wq hSq; (try dsimp only at hSq); go_simp; first | done | with_reducible rfl)
  try simp only [Act.put, List.setIfInBounds_toArray, List.set_cons_zero, List.set_cons_succ]
  refine wpAnyH_take (i := 5) (oi := { dst := some 29, op := Go.Op.load 29 (Go.Operand.tmp 28), type := 29, pos := "ref.go:322", after := #[{ on := 4, ground := Go.Ground.data }], guard := none }) (v := .agg (List.toArray (eC m))) rfl (by kernel_rfl) (by kernel_rfl) (by kernel_rfl) (fun _ _ _ h => h) (yieldsIf_load_mid rfl 29 _ rfl w.heap.size 5 rfl (eC m) _ (fun wq hSq => range_of (G2.out _ (B4.out.trans (hSq.mono B4.out.size))) 5 35 _ (mC_edit m HM.out)) Try.underlying29 rfl (by rw [eC_length m HM.out]; exact size63)) hHeld ?_
  try simp only [Act.put, List.setIfInBounds_toArray, List.set_cons_zero, List.set_cons_succ]
  refine wpAnyH_ready (rs := [3]) (by kernel_rfl) (by simp) ?_
  refine AllReadyH.cons (o := { dst := some 27, op := Go.Op.call { callee := Go.Callee.value (Go.Operand.func 29), args := #[Go.Operand.tmp 26, Go.Operand.const (Go.Value.int Go.IntKind.i64 4)], argTypes := #[24, 3] }, type := 22, pos := "ref.go:322", after := #[{ on := 2, ground := Go.Ground.data }], guard := none }) rfl (fun K hK => ?_) AllReadyH.nil
  go_simp
  refine (N4.out _ m.base HM.out.b.1 HB.out.2.2.2.2.1).mono ?_
  rintro e w6 ⟨g6, rfl, p6, b6⟩
  have P6 : Hid (PartAt w6 (.slice (some ⟨g6, 0, none⟩) 4 4) (numB m.base 4)) := p6
  have B6 : Hid (Below w4.heap.size w4 w6) := D4.out.trans b6
  clear p6 b6
  refine hK.out _ _ (B6.out) (fun hHeld1 => ?_)
  clear hK K hHeld
  try simp only [Act.put, List.setIfInBounds_toArray, List.set_cons_zero, List.set_cons_succ]
  refine wpAnyH_ready (rs := [6]) (by kernel_rfl) (by simp) ?_
  refine AllReadyH.cons (o := { dst := some 30, op := Go.Op.call { callee := Go.Callee.value (Go.Operand.func 30), args := #[Go.Operand.tmp 29], argTypes := #[29] }, type := 22, pos := "ref.go:322", after := #[{ on := 5, ground := Go.Ground.data }, { on := 3, ground := Go.Ground.chain }], guard := none }) rfl (fun K hK => ?_) AllReadyH.nil
  go_simp
  refine (ED.out _).mono ?_
  rintro e w7 ⟨av7, n7, c7, rfl, p7, b7⟩
  have P7 : Hid (PartAt w7 (.slice av7 n7 c7) (editB m)) := p7
  have B7 : Hid (Below w4.heap.size w4 w7) := B6.out.trans (b7.mono B6.out.size)
  have P67 : Hid (PartAt w7 (.slice (some ⟨g6, 0, none⟩) 4 4) (numB m.base 4)) := P6.out.below b7
  clear p7 b7
  refine hK.out _ _ (B7.out) (fun hHeld2 => ?_)
  clear hK K hHeld1
  try simp only [Act.put, List.setIfInBounds_toArray, List.set_cons_zero, List.set_cons_succ]
  refine wpAnyH_ready (rs := [7]) (by kernel_rfl) (by simp) ?_
  refine AllReadyH.cons (o := { dst := some 31, op := Go.Op.buildSlice 69 3 #[(0, Go.Operand.tmp 24), (1, Go.Operand.tmp 27), (2, Go.Operand.tmp 30)], type := 69, pos := "ref.go:322", after := #[{ on := 0, ground := Go.Ground.data }, { on := 3, ground := Go.Ground.data }, { on := 6, ground := Go.Ground.data }], guard := none }) rfl (fun K hK => ?_) AllReadyH.nil
  go_simp
  refine hK.out _ _ (Below.alloc B7.out B7.out.size _) (fun hHeld3 => ?_)
  clear hK K hHeld2
  try simp only [Act.put, List.setIfInBounds_toArray, List.set_cons_zero, List.set_cons_succ]
  refine wpAnyH_ready (rs := [8]) (by kernel_rfl) (by simp) ?_
  refine AllReadyH.cons (o := { dst := some 32, op := Go.Op.call { callee := Go.Callee.value (Go.Operand.func 28), args := #[Go.Operand.tmp 31], argTypes := #[69] }, type := 22, pos := "ref.go:322", after := #[{ on := 7, ground := Go.Ground.data }, { on := 6, ground := Go.Ground.chain }], guard := none }) rfl (fun K hK => ?_) AllReadyH.nil
  go_simp
  refine (J5.out w7 _ _ _ (P4.out.below B7.out) P67.out P7.out).mono ?_
  rintro e w5 ⟨av5, n5, c5, rfl, hn5, p5, b75⟩
  have b5 : Below w4.heap.size w4 w5 := B7.out.trans (b75.mono B7.out.size)
  refine hK.out _ _ (b5) (fun hHeld4 => ?_)
  clear hK K hHeld3
  try simp only [Act.put, List.setIfInBounds_toArray, List.set_cons_zero, List.set_cons_succ]
  refine wpAnyH_take (i := 9) (oi := { dst := some 4, op := Go.Op.assign (Go.Operand.tmp 32), type := 22, pos := "ref.go:322", after := #[{ on := 8, ground := Go.Ground.data }, { on := 8, ground := Go.Ground.chain }, { on := 0, ground := Go.Ground.phase }, { on := 1, ground := Go.Ground.phase }, { on := 2, ground := Go.Ground.phase }, { on := 3, ground := Go.Ground.phase }, { on := 4, ground := Go.Ground.phase }, { on := 5, ground := Go.Ground.phase }, { on := 6, ground := Go.Ground.phase }, { on := 7, ground := Go.Ground.phase }, { on := 8, ground := Go.Ground.phase }], guard := none }) (v := ?_) rfl (by kernel_rfl) (by kernel_rfl) (by kernel_rfl) (fun _ _ _ h => h) (Or.inl ⟨by rfl, ?_⟩) hHeld4 ?_
  rotate_left 1
  · (intro wq hSq; (try dsimp only at hSq); go_simp; first | done | with_reducible rfl)
  try simp only [Act.put, List.setIfInBounds_toArray, List.set_cons_zero, List.set_cons_succ]
  refine wpAnyH_done (by kernel_rfl) ?_ _
  refine NoPanic.normal ?_
  clear c0
  subst hn5
  have P5 : Hid (PartAt w5 (.slice av5 (bodyB m).length c5) (bodyB m)) := p5

  have B5 : Hid (Below w2.heap.size w2 w5) := B4.out.trans (b5.mono B4.out.size)
  have c0 := row_cell (G2.out _ B5.out) (mC_0 m)
  clear p5 b5
  go_wp2_with fail
  refine (EN.out _ _ _ _ (B2.out _ B5.out) rfl P5.out).mono ?_
  rintro e w9 ⟨u, rfl, o9, b9⟩
  go_wp2
  go_ret2
  exact ⟨u, rfl, o9, b9⟩
end Go.Proofs.Ytnpjknnalekdpaa
namespace Go.Proofs.Ytnpjknnalekdpaa
set_option linter.unusedSimpArgs false
set_option linter.unusedVariables false
open Go.RowKit
theorem rwrite_own (m : Msg) (hm : m.Ok) (h : formB m = true) (w : World) (h0 : 0 < w.heap.size) : Calls Try.prog 13 #[.agg (mC m).toArray] w fun e w' => ∃ u, e = .returned (.tuple #[u, .int .i64 0]) ∧ OwnB w' w.heap.size u (encB m.kind (bodyB m)) ∧ Below w.heap.size w w' := by
  by_cases h1 : m.kind = 1
  · exact rwrite_1 m hm h h1 w h0
  by_cases h2 : m.kind = 2
  · cases hy : m.yes with
    | true => exact rwrite_2y m hm h h2 hy w h0
    | false => exact rwrite_2n m hm h h2 hy w h0
  by_cases h3 : m.kind = 3
  · exact rwrite_3 m hm h h3 w h0
  by_cases h6 : m.kind = 6
  · exact rwrite_6 m hm h h6 w h0
  exact rwrite_other m hm h h1 h2 h3 h6 w h0
end Go.Proofs.Ytnpjknnalekdpaa
