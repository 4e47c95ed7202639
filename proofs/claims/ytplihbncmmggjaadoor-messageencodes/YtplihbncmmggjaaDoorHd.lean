import Derived.Test.YtplihbncmmggjaaDoorHc
namespace Go.Proofs.YtplihbncmmggjaaDoor
set_option linter.unusedSimpArgs false
set_option linter.unusedVariables false
open Go.RowKit
set_option maxHeartbeats 4000000 in
set_option maxRecDepth 100000 in
theorem rwrite_2y (m : Msg) (hm : m.Ok) (h : formB m = true) (hk : m.kind = 2) (hy : m.yes = true) (w : World) (h0 : 0 < w.heap.size) : Calls Tryd.prog 40 #[.agg (mC m).toArray] w fun e w' => ∃ u, e = .returned (.tuple #[u, .int .i64 0]) ∧ OwnB w' w.heap.size u (encB m.kind (bodyB m)) ∧ Below w.heap.size w w' := by
  obtain ⟨f1, f2, f3, f4, f5, f6, f7, f8⟩ := form_all h
  have hbs := base_of h
  have hbd := body_le m hm h
  have b1 : Below w.heap.size w (w.alloc (.cells (mC m).toArray 65)) := (Below.refl _ _).alloc (Nat.le_refl _) _
  have FM : Hid (Calls Tryd.prog 42 #[.agg (mC m).toArray] (w.alloc (.cells (mC m).toArray 65)) fun e w' => e = .returned (.bool true) ∧ BoxM 65 w' w.heap.size m ∧ Below w.heap.size w w') := by
    have q := rformed_any m hm (w.alloc (.cells (mC m).toArray 65))
    rw [h] at q
    exact q.mono fun e w' ⟨r1, r2⟩ => ⟨r1, BoxM.below (heap_alloc_new w (.cells (mC m).toArray 65)) r2, b1.trans (r2.mono b1.size)⟩
  have G1 : Hid (BoxM 65 (w.alloc (.cells (mC m).toArray 65)) w.heap.size m) := heap_alloc_new w (.cells (mC m).toArray 65)
  have HM : Hid (m.Ok) := hm
  have N4 : Hid (∀ (W : World) (n : Int), 0 ≤ n → n ≤ 4294967295 → Calls Tryd.prog 55 #[.int .u64 n, .int .i64 4] W fun e w' => ∃ g, e = .returned (.slice (some ⟨g, 0, none⟩) 4 4) ∧ PartAt w' (.slice (some ⟨g, 0, none⟩) 4 4) (numB n 4) ∧ Below W.heap.size W w') := fun W n h0 h1 =>
    (rnumk_any n h0 (by omega) 4 (by omega) (by omega) _).mono fun e w' ⟨g, r1, r2, r3, r4⟩ => ⟨g, r1, partRow r3 4 (numB_length _ _) (by omega), r4⟩
  have EN : Hid (∀ (W : World) (av : Option Addr) (n cp : Nat), Below w.heap.size w W → n = (bodyB m).length → PartAt W (.slice av n cp) (bodyB m) → Calls Tryd.prog 31 #[.agg #[.int .u8 m.kind, .slice av n cp]] W fun e w' => ∃ u, e = .returned (.tuple #[u, .int .i64 0]) ∧ OwnB w' w.heap.size u (encB m.kind (bodyB m)) ∧ Below w.heap.size w w') := fun W av n cp q hn p =>
    (rencode_own m.kind (by omega) av n cp (bodyB m) hn.symm (by omega) hbd.2 W (by have := q.size; omega) p).mono fun e w' ⟨u, r1, r2, r3⟩ => ⟨u, r1, r2.lower q.size, q.trans (r3.mono q.size)⟩
  have a1 : m.frm % 256 = m.frm := by omega
  have a2 : m.to % 256 = m.to := by omega
  have a3 : m.kind % 256 = m.kind := by omega
  have a4 : IntKind.u8.wrap m.frm = m.frm := by rw [show IntKind.u8.wrap m.frm = m.frm % 256 from rfl]; omega
  have a5 : IntKind.u8.wrap m.to = m.to := by rw [show IntKind.u8.wrap m.to = m.to % 256 from rfl]; omega
  have a6 : IntKind.u8.wrap m.kind = m.kind := by rw [show IntKind.u8.wrap m.kind = m.kind % 256 from rfl]; omega
  have HB : Hid ((0 ≤ m.frm ∧ m.frm ≤ 16) ∧ (0 ≤ m.to ∧ m.to ≤ 16) ∧ 0 < m.id ∧ m.id ≤ 4294967295 ∧ m.base ≤ 4294967295 ∧ m.s.size ≤ 500) := ⟨f2, f3, f5, f6, hbs.1, hbs.2⟩
  have HIN : Hid (inB m = true) := f8
  have HBO : Hid (bodyB m = ([m.frm, m.to] ++ numB m.id 4) ++ ([1] ++ (m.vh ++ m.vr))) := by unfold Hid bodyB ownB; rw [if_neg (by omega), if_pos hk, if_pos hy]; simp
  have HK : Hid (m.kind = 2) := hk
  have HY : Hid (m.yes = true) := hy
  clear hk hy
  clear hm h b1 hbs hbd f1 f2 f3 f4 f5 f6 f7 f8 h0
  go_enter Tryd.func40, Tryd.ntmps40
  go_wp2_with (first | (refine loadM65 rfl _ rfl w.heap.size rfl m HM.out G1.out ?_))
  refine FM.out.mono ?_
  rintro e w2 ⟨rfl, g2, b2⟩
  have G2 : Hid (∀ W, Below w2.heap.size w2 W → BoxM 65 W w.heap.size m) := fun W q => g2.below q
  have B2 : Hid (∀ W, Below w2.heap.size w2 W → Below w.heap.size w W) := fun W q => b2.trans (q.mono b2.size)
  have BD : Hid (Below w2.heap.size w2 w2.drew) := (Below.refl _ _).drew
  clear g2 b2 FM G1
  go_wp2_with fail
  refine wp_region_noPanic ?_
  refine wp_region_held_drew (S := fun w' => Below w2.heap.size w2 w') (by kernel_rfl) (BD.out) (fun hHeld => ?_)
  try simp only [Act.put, List.setIfInBounds_toArray, List.set_cons_zero, List.set_cons_succ]
  refine wpAnyH_take (i := 0) (oi := { dst := some 8, op := Go.Op.fieldAddr 65 (Go.Operand.tmp 1) 1, type := 0, pos := "ref.go:319", after := #[], guard := none }) (v := ?_) rfl (by kernel_rfl) (by kernel_rfl) (by kernel_rfl) (fun _ _ _ h => h) (Or.inl ⟨by rfl, ?_⟩) hHeld ?_
  rotate_left 1
  · (intro wq hSq; (try dsimp only at hSq); go_simp; first | done | with_reducible rfl)
  try simp only [Act.put, List.setIfInBounds_toArray, List.set_cons_zero, List.set_cons_succ]
  refine wpAnyH_take (i := 1) (oi := { dst := some 9, op := Go.Op.load 3 (Go.Operand.tmp 8), type := 3, pos := "ref.go:319", after := #[{ on := 0, ground := Go.Ground.data }], guard := none }) (v := ?_) rfl (by kernel_rfl) (by kernel_rfl) (by kernel_rfl) (fun _ _ _ h => h) (Or.inl ⟨by rfl, ?_⟩) hHeld ?_
  rotate_left 1
  · (intro wq hSq; (try dsimp only at hSq); have hq := row_cell (G2.out _ hSq) (mC_1 m); go_simp; first | done | with_reducible rfl)
  try simp only [Act.put, List.setIfInBounds_toArray, List.set_cons_zero, List.set_cons_succ]
  refine wpAnyH_take (i := 2) (oi := { dst := some 10, op := Go.Op.convert 3 5 (Go.Operand.tmp 9), type := 5, pos := "ref.go:319", after := #[{ on := 1, ground := Go.Ground.data }], guard := none }) (v := ?_) rfl (by kernel_rfl) (by kernel_rfl) (by kernel_rfl) (fun _ _ _ h => h) (Or.inl ⟨by rfl, ?_⟩) hHeld ?_
  rotate_left 1
  · (intro wq hSq; (try dsimp only at hSq); go_simp; first | done | with_reducible rfl)
  try simp only [Act.put, List.setIfInBounds_toArray, List.set_cons_zero, List.set_cons_succ]
  refine wpAnyH_take (i := 3) (oi := { dst := some 11, op := Go.Op.fieldAddr 65 (Go.Operand.tmp 1) 2, type := 0, pos := "ref.go:319", after := #[], guard := none }) (v := ?_) rfl (by kernel_rfl) (by kernel_rfl) (by kernel_rfl) (fun _ _ _ h => h) (Or.inl ⟨by rfl, ?_⟩) hHeld ?_
  rotate_left 1
  · (intro wq hSq; (try dsimp only at hSq); go_simp; first | done | with_reducible rfl)
  try simp only [Act.put, List.setIfInBounds_toArray, List.set_cons_zero, List.set_cons_succ]
  refine wpAnyH_take (i := 4) (oi := { dst := some 12, op := Go.Op.load 3 (Go.Operand.tmp 11), type := 3, pos := "ref.go:319", after := #[{ on := 3, ground := Go.Ground.data }], guard := none }) (v := ?_) rfl (by kernel_rfl) (by kernel_rfl) (by kernel_rfl) (fun _ _ _ h => h) (Or.inl ⟨by rfl, ?_⟩) hHeld ?_
  rotate_left 1
  · (intro wq hSq; (try dsimp only at hSq); have hq := row_cell (G2.out _ hSq) (mC_2 m); go_simp; first | done | with_reducible rfl)
  try simp only [Act.put, List.setIfInBounds_toArray, List.set_cons_zero, List.set_cons_succ]
  refine wpAnyH_take (i := 5) (oi := { dst := some 13, op := Go.Op.convert 3 5 (Go.Operand.tmp 12), type := 5, pos := "ref.go:319", after := #[{ on := 4, ground := Go.Ground.data }], guard := none }) (v := ?_) rfl (by kernel_rfl) (by kernel_rfl) (by kernel_rfl) (fun _ _ _ h => h) (Or.inl ⟨by rfl, ?_⟩) hHeld ?_
  rotate_left 1
  · (intro wq hSq; (try dsimp only at hSq); go_simp; first | done | with_reducible rfl)
  try simp only [Act.put, List.setIfInBounds_toArray, List.set_cons_zero, List.set_cons_succ]
  refine wpAnyH_take (i := 7) (oi := { dst := some 15, op := Go.Op.fieldAddr 65 (Go.Operand.tmp 1) 3, type := 0, pos := "ref.go:319", after := #[], guard := none }) (v := ?_) rfl (by kernel_rfl) (by kernel_rfl) (by kernel_rfl) (fun _ _ _ h => h) (Or.inl ⟨by rfl, ?_⟩) hHeld ?_
  rotate_left 1
  · (intro wq hSq; (try dsimp only at hSq); go_simp; first | done | with_reducible rfl)
  try simp only [Act.put, List.setIfInBounds_toArray, List.set_cons_zero, List.set_cons_succ]
  refine wpAnyH_take (i := 8) (oi := { dst := some 16, op := Go.Op.load 59 (Go.Operand.tmp 15), type := 59, pos := "ref.go:319", after := #[{ on := 7, ground := Go.Ground.data }], guard := none }) (v := ?_) rfl (by kernel_rfl) (by kernel_rfl) (by kernel_rfl) (fun _ _ _ h => h) (Or.inl ⟨by rfl, ?_⟩) hHeld ?_
  rotate_left 1
  · (intro wq hSq; (try dsimp only at hSq); have hq := row_cell (G2.out _ hSq) (mC_3 m); go_simp; first | done | with_reducible rfl)
  try simp only [Act.put, List.setIfInBounds_toArray, List.set_cons_zero, List.set_cons_succ]
  refine wpAnyH_batch (B := [(6, 14, []), (9, 17, []), (10, 18, [14, 17])]) (R := fun w w' => Below w.heap.size w w') (Φ := PhiW m) 2 (by kernel_rfl) (fun _ _ _ _ h => h) (Below.refl _ _) (fun _ _ h1 h2 => h1.trans (h2.mono h1.size)) (fun _ _ _ _ _ h k => phiW_below _ _ _ _ _ h k) (fun _ h => BD.out.trans h) ⟨StepB.mk ({ dst := some 14, op := Go.Op.buildSlice 22 2 #[(0, Go.Operand.tmp 10), (1, Go.Operand.tmp 13)], type := 22, pos := "ref.go:319", after := #[{ on := 2, ground := Go.Ground.data }, { on := 5, ground := Go.Ground.data }], guard := none } : Oper) rfl ?_, StepB.mk ({ dst := some 17, op := Go.Op.call { callee := Go.Callee.value (Go.Operand.func 55), args := #[Go.Operand.tmp 16, Go.Operand.const (Go.Value.int Go.IntKind.i64 4)], argTypes := #[59, 3] }, type := 22, pos := "ref.go:319", after := #[{ on := 8, ground := Go.Ground.data }], guard := none } : Oper) rfl ?_, StepB.mk ({ dst := some 18, op := Go.Op.buildSlice 29 2 #[(0, Go.Operand.tmp 14), (1, Go.Operand.tmp 17)], type := 29, pos := "ref.go:319", after := #[{ on := 6, ground := Go.Ground.data }, { on := 9, ground := Go.Ground.data }], guard := none } : Oper) rfl ?_, trivial⟩ ?_
  · intro f wS hRS hFS K hK
    simp only [putT, Act.put, List.setIfInBounds_toArray, List.set_cons_zero, List.set_cons_succ] at hK ⊢
    go_simp
    exact hK.out _ _ ((Below.refl _ _).alloc (Nat.le_refl _) _) ⟨wS.heap.size, rfl, part_new wS [m.frm, m.to] (by simp)⟩
  · intro f wS hRS hFS K hK
    simp only [putT, Act.put, List.setIfInBounds_toArray, List.set_cons_zero, List.set_cons_succ] at hK ⊢
    go_simp
    refine (N4.out wS m.id (by have := HB.out.2.2.1; omega) HB.out.2.2.2.1).mono ?_
    rintro e w' ⟨g, rfl, r1, r2⟩
    exact hK.out _ _ r2 ⟨g, rfl, r1⟩
  · intro f wS hRS hFS K hK
    simp only [putT, Act.put, List.setIfInBounds_toArray, List.set_cons_zero, List.set_cons_succ] at hK ⊢
    obtain ⟨g14, e14, q14⟩ := hFS 14 (by simp)
    obtain ⟨g17, e17, q17⟩ := hFS 17 (by simp)
    rw [e14, e17] at hK ⊢
    rw [e14] at q14
    rw [e17] at q17
    clear e14 e17 hFS
    have kA : ∀ o, Below wS.heap.size wS (wS.alloc o) := fun o => (Below.refl _ _).alloc (Nat.le_refl _) _
    go_simp
    exact hK.out _ _ (kA _) ⟨wS.heap.size, _, _, rfl, by simp, range_alloc wS _ _, q14.below (kA _), q17.below (kA _)⟩
  intro f wB hRB hFB
  simp only [List.map, setL, putT, Act.put, List.setIfInBounds_toArray, List.set_cons_zero, List.set_cons_succ]
  have hHeldB1 : Below w2.heap.size w2 wB := BD.out.trans hRB
  obtain ⟨g, x1, x2, e18, r1, r2, r3, r4⟩ := hFB 18 (by simp)
  rw [e18]
  have JH : Hid (Calls Tryd.prog 21 #[.slice (some ⟨g, 0, none⟩) 2 2] wB fun e w' => ∃ av cp, e = .returned (.slice av 6 cp) ∧ PartAt w' (.slice av 6 cp) ([m.frm, m.to] ++ numB m.id 4) ∧ Below wB.heap.size wB w') := by
    have q := join_form wB g 2 [x1, x2] [[m.frm, m.to], numB m.id 4] rfl rfl (by omega) r1 r2 (parts_cons r3 (parts_cons r4 parts_nil)) (by simp [numB_length])
    have e : [[m.frm, m.to], numB m.id 4].flatten = ([m.frm, m.to] ++ numB m.id 4) := by simp
    have e6 : ([m.frm, m.to] ++ numB m.id 4).length = 6 := by simp [numB_length]
    rw [e, e6] at q
    exact q
  have HB1 : Hid (Below w2.heap.size w2 wB) := hHeldB1
  generalize f 14 = u14
  generalize f 17 = u17
  clear hFB hRB e18 r1 r2 r3 r4
  refine wpAnyH_ready (rs := [11]) (by kernel_rfl) (by simp) ?_
  refine AllReadyH.cons (o := { dst := some 19, op := Go.Op.call { callee := Go.Callee.value (Go.Operand.func 21), args := #[Go.Operand.tmp 18], argTypes := #[29] }, type := 22, pos := "ref.go:319", after := #[{ on := 10, ground := Go.Ground.data }, { on := 9, ground := Go.Ground.chain }], guard := none }) rfl (fun K hK => ?_) AllReadyH.nil
  go_simp
  refine JH.out.mono ?_
  rintro e w4 ⟨av4, c4, rfl, p4, b4⟩
  have P4 : Hid (PartAt w4 (.slice av4 6 c4) ([m.frm, m.to] ++ numB m.id 4)) := p4
  have B4 : Hid (Below w2.heap.size w2 w4) := HB1.out.trans (b4.mono HB1.out.size)
  clear p4 b4 JH HB1
  refine hK.out _ _ (B4.out) (fun hHeld2 => ?_)
  clear hK K hHeldB1
  try simp only [Act.put, List.setIfInBounds_toArray, List.set_cons_zero, List.set_cons_succ]
  refine wpAnyH_take (i := 12) (oi := { dst := some 4, op := Go.Op.assign (Go.Operand.tmp 19), type := 22, pos := "ref.go:319", after := #[{ on := 11, ground := Go.Ground.data }, { on := 11, ground := Go.Ground.chain }, { on := 0, ground := Go.Ground.phase }, { on := 1, ground := Go.Ground.phase }, { on := 2, ground := Go.Ground.phase }, { on := 3, ground := Go.Ground.phase }, { on := 4, ground := Go.Ground.phase }, { on := 5, ground := Go.Ground.phase }, { on := 6, ground := Go.Ground.phase }, { on := 7, ground := Go.Ground.phase }, { on := 8, ground := Go.Ground.phase }, { on := 9, ground := Go.Ground.phase }, { on := 10, ground := Go.Ground.phase }, { on := 11, ground := Go.Ground.phase }], guard := none }) (v := ?_) rfl (by kernel_rfl) (by kernel_rfl) (by kernel_rfl) (fun _ _ _ h => h) (Or.inl ⟨by rfl, ?_⟩) hHeld2 ?_
  rotate_left 1
  · (intro wq hSq; (try dsimp only at hSq); go_simp; first | done | with_reducible rfl)
  try simp only [Act.put, List.setIfInBounds_toArray, List.set_cons_zero, List.set_cons_succ]
  refine wpAnyH_done (by kernel_rfl) ?_ _
  refine NoPanic.normal ?_
  have c0 := row_cell (G2.out _ B4.out) (mC_0 m)
  rw [HK.out] at c0
  have c40 := row_cell (G2.out _ B4.out) (mC_40 m HM.out)
  rw [HY.out] at c40
  have HV : Hid (∀ (W : World) (o : Nat) (l : List Int), Below w2.heap.size w2 W → l.length = 32 → (mC m).toArray.extract o (o + 32) = vB l → PartAt W (.slice (some ⟨w.heap.size, o, none⟩) 32 32) l) := fun W o l q hl he =>
    ⟨some ⟨w.heap.size, o, none⟩, w.heap.size, o, 32, by rw [hl], by rw [hl]; exact Nat.le_refl _, by omega, fun _ => rfl, range_of (G2.out W q) o 32 _ he, (G2.out W q).lt, fun h => by cases h⟩
  have D4 : Hid (Below w4.heap.size w4 w4.drew) := (Below.refl _ _).drew
  have J5 : Hid (Calls Tryd.prog 21 #[.slice (some ⟨w4.heap.size + 1, 0, none⟩) 4 4] ((w4.drew.alloc (.cells #[.int .u8 1] 5)).alloc (.cells #[.slice av4 6 c4, .slice (some ⟨w4.heap.size, 0, none⟩) 1 1, .slice (some ⟨w.heap.size, 42, none⟩) 32 32, .slice (some ⟨w.heap.size, 74, none⟩) 32 32] 22)) fun e w' => ∃ av n cp, e = .returned (.slice av n cp) ∧ n = (bodyB m).length ∧ PartAt w' (.slice av n cp) (bodyB m) ∧ Below w4.heap.size w4 w') := by
    have k1 : Below w4.heap.size w4 (w4.drew.alloc (.cells #[.int .u8 1] 5)) := D4.out.alloc (Nat.le_refl _) _
    have k2 : Below (w4.drew.alloc (.cells #[.int .u8 1] 5)).heap.size (w4.drew.alloc (.cells #[.int .u8 1] 5)) ((w4.drew.alloc (.cells #[.int .u8 1] 5)).alloc (.cells #[.slice av4 6 c4, .slice (some ⟨w4.heap.size, 0, none⟩) 1 1, .slice (some ⟨w.heap.size, 42, none⟩) 32 32, .slice (some ⟨w.heap.size, 74, none⟩) 32 32] 22)) := (Below.refl _ _).alloc (Nat.le_refl _) _
    have k3 : Below w4.heap.size w4 ((w4.drew.alloc (.cells #[.int .u8 1] 5)).alloc (.cells #[.slice av4 6 c4, .slice (some ⟨w4.heap.size, 0, none⟩) 1 1, .slice (some ⟨w.heap.size, 42, none⟩) 32 32, .slice (some ⟨w.heap.size, 74, none⟩) 32 32] 22)) := k1.trans (k2.mono (by simp))
    have k4 : Below w2.heap.size w2 ((w4.drew.alloc (.cells #[.int .u8 1] 5)).alloc (.cells #[.slice av4 6 c4, .slice (some ⟨w4.heap.size, 0, none⟩) 1 1, .slice (some ⟨w.heap.size, 42, none⟩) 32 32, .slice (some ⟨w.heap.size, 74, none⟩) 32 32] 22)) := B4.out.trans (k3.mono B4.out.size)
    have e : [([m.frm, m.to] ++ numB m.id 4), [1], m.vh, m.vr].flatten = ([m.frm, m.to] ++ numB m.id 4) ++ ([1] ++ (m.vh ++ m.vr)) := by simp
    have r := range_alloc (w4.drew.alloc (.cells #[.int .u8 1] 5)) [.slice av4 6 c4, .slice (some ⟨w4.heap.size, 0, none⟩) 1 1, .slice (some ⟨w.heap.size, 42, none⟩) 32 32, .slice (some ⟨w.heap.size, 74, none⟩) 32 32] 22
    rw [show (w4.drew.alloc (.cells #[.int .u8 1] 5)).heap.size = w4.heap.size + 1 by simp] at r
    have q := join_form ((w4.drew.alloc (.cells #[.int .u8 1] 5)).alloc (.cells #[.slice av4 6 c4, .slice (some ⟨w4.heap.size, 0, none⟩) 1 1, .slice (some ⟨w.heap.size, 42, none⟩) 32 32, .slice (some ⟨w.heap.size, 74, none⟩) 32 32] 22)) (w4.heap.size + 1) 4 [.slice av4 6 c4, .slice (some ⟨w4.heap.size, 0, none⟩) 1 1, .slice (some ⟨w.heap.size, 42, none⟩) 32 32, .slice (some ⟨w.heap.size, 74, none⟩) 32 32] [([m.frm, m.to] ++ numB m.id 4), [1], m.vh, m.vr] rfl rfl (by omega) (by simp) r (parts_cons (P4.out.below k3) (parts_cons ((part_new w4.drew [1] (by simp)).below k2) (parts_cons (HV.out _ 42 m.vh k4 HM.out.v (mC_vh m HM.out)) (parts_cons (HV.out _ 74 m.vr k4 HM.out.r (mC_vr m HM.out)) parts_nil)))) (by rw [e]; simp [numB_length, HM.out.v, HM.out.r])
    rw [e] at q
    exact q.mono fun e w' ⟨av, cp, r1, r2, r3⟩ => ⟨av, _, cp, r1, by rw [HBO.out], by rw [HBO.out]; exact r2, k3.trans (r3.mono (by simp; omega))⟩
  clear hHeld2
  go_wp2_with fail
  refine wp_region_noPanic ?_
  refine wp_region_held_drew (S := fun w' => Below w4.heap.size w4 w') (by kernel_rfl) (D4.out) (fun hHeld => ?_)
  try simp only [Act.put, List.setIfInBounds_toArray, List.set_cons_zero, List.set_cons_succ]
  refine wpAnyH_take (i := 0) (oi := { dst := some 41, op := Go.Op.move (Go.Operand.tmp 4), type := 22, pos := "ref.go:324", after := #[], guard := none }) (v := ?_) rfl (by kernel_rfl) (by kernel_rfl) (by kernel_rfl) (fun _ _ _ h => h) (Or.inl ⟨by rfl, ?_⟩) hHeld ?_
  rotate_left 1
  · (intro wq hSq; (try dsimp only at hSq); go_simp; first | done | with_reducible rfl)
  try simp only [Act.put, List.setIfInBounds_toArray, List.set_cons_zero, List.set_cons_succ]
  refine wpAnyH_take (i := 2) (oi := { dst := some 43, op := Go.Op.fieldAddr 65 (Go.Operand.tmp 1) 8, type := 0, pos := "ref.go:324", after := #[], guard := none }) (v := ?_) rfl (by kernel_rfl) (by kernel_rfl) (by kernel_rfl) (fun _ _ _ h => h) (Or.inl ⟨by rfl, ?_⟩) hHeld ?_
  rotate_left 1
  · (intro wq hSq; (try dsimp only at hSq); go_simp; first | done | with_reducible rfl)
  try simp only [Act.put, List.setIfInBounds_toArray, List.set_cons_zero, List.set_cons_succ]
  refine wpAnyH_take (i := 3) (oi := { dst := some 44, op := Go.Op.slice 24 (Go.Operand.tmp 43) none none none, type := 22, pos := "ref.go:324", after := #[{ on := 2, ground := Go.Ground.data }], guard := none }) (v := ?_) rfl (by kernel_rfl) (by kernel_rfl) (by kernel_rfl) (fun _ _ _ h => h) (Or.inl ⟨by rfl, ?_⟩) hHeld ?_
  rotate_left 1
  · (intro wq hSq; (try dsimp only at hSq); go_simp; first | done | with_reducible rfl)
  try simp only [Act.put, List.setIfInBounds_toArray, List.set_cons_zero, List.set_cons_succ]
  refine wpAnyH_take (i := 4) (oi := { dst := some 45, op := Go.Op.fieldAddr 65 (Go.Operand.tmp 1) 9, type := 0, pos := "ref.go:324", after := #[], guard := none }) (v := ?_) rfl (by kernel_rfl) (by kernel_rfl) (by kernel_rfl) (fun _ _ _ h => h) (Or.inl ⟨by rfl, ?_⟩) hHeld ?_
  rotate_left 1
  · (intro wq hSq; (try dsimp only at hSq); go_simp; first | done | with_reducible rfl)
  try simp only [Act.put, List.setIfInBounds_toArray, List.set_cons_zero, List.set_cons_succ]
  refine wpAnyH_take (i := 5) (oi := { dst := some 46, op := Go.Op.slice 24 (Go.Operand.tmp 45) none none none, type := 22, pos := "ref.go:324", after := #[{ on := 4, ground := Go.Ground.data }], guard := none }) (v := ?_) rfl (by kernel_rfl) (by kernel_rfl) (by kernel_rfl) (fun _ _ _ h => h) (Or.inl ⟨by rfl, ?_⟩) hHeld ?_
  rotate_left 1
  · (intro wq hSq; (try dsimp only at hSq); go_simp; first | done | with_reducible rfl)
  try simp only [Act.put, List.setIfInBounds_toArray, List.set_cons_zero, List.set_cons_succ]
  refine wpAnyH_ready (rs := [1]) (by kernel_rfl) (by simp) ?_
  refine AllReadyH.cons (o := { dst := some 42, op := Go.Op.buildSlice 22 1 #[(0, Go.Operand.const (Go.Value.int Go.IntKind.u8 1))], type := 22, pos := "ref.go:324", after := #[], guard := none }) rfl (fun K hK => ?_) AllReadyH.nil
  go_simp
  refine hK.out _ _ (Below.alloc D4.out (Nat.le_refl _) _) (fun hHeld1 => ?_)
  clear hK K hHeld
  try simp only [Act.put, List.setIfInBounds_toArray, List.set_cons_zero, List.set_cons_succ]
  refine wpAnyH_ready (rs := [6]) (by kernel_rfl) (by simp) ?_
  refine AllReadyH.cons (o := { dst := some 47, op := Go.Op.buildSlice 29 4 #[(0, Go.Operand.tmp 41), (1, Go.Operand.tmp 42), (2, Go.Operand.tmp 44), (3, Go.Operand.tmp 46)], type := 29, pos := "ref.go:324", after := #[{ on := 0, ground := Go.Ground.data }, { on := 1, ground := Go.Ground.data }, { on := 3, ground := Go.Ground.data }, { on := 5, ground := Go.Ground.data }], guard := none }) rfl (fun K hK => ?_) AllReadyH.nil
  go_simp
  refine hK.out _ _ (Below.alloc (Below.alloc D4.out (Nat.le_refl _) _) (by simp) _) (fun hHeld2 => ?_)
  clear hK K hHeld1
  try simp only [Act.put, List.setIfInBounds_toArray, List.set_cons_zero, List.set_cons_succ]
  refine wpAnyH_ready (rs := [7]) (by kernel_rfl) (by simp) ?_
  refine AllReadyH.cons (o := { dst := some 48, op := Go.Op.call { callee := Go.Callee.value (Go.Operand.func 21), args := #[Go.Operand.tmp 47], argTypes := #[29] }, type := 22, pos := "ref.go:324", after := #[{ on := 6, ground := Go.Ground.data }], guard := none }) rfl (fun K hK => ?_) AllReadyH.nil
  go_simp
  refine J5.out.mono ?_
  rintro e w5 ⟨av5, n5, c5, rfl, hn5, p5, b5⟩
  refine hK.out _ _ (b5) (fun hHeld3 => ?_)
  clear hK K hHeld2
  try simp only [Act.put, List.setIfInBounds_toArray, List.set_cons_zero, List.set_cons_succ]
  refine wpAnyH_take (i := 8) (oi := { dst := some 4, op := Go.Op.assign (Go.Operand.tmp 48), type := 22, pos := "ref.go:324", after := #[{ on := 7, ground := Go.Ground.data }, { on := 7, ground := Go.Ground.chain }, { on := 0, ground := Go.Ground.phase }, { on := 1, ground := Go.Ground.phase }, { on := 2, ground := Go.Ground.phase }, { on := 3, ground := Go.Ground.phase }, { on := 4, ground := Go.Ground.phase }, { on := 5, ground := Go.Ground.phase }, { on := 6, ground := Go.Ground.phase }, { on := 7, ground := Go.Ground.phase }], guard := none }) (v := ?_) rfl (by kernel_rfl) (by kernel_rfl) (by kernel_rfl) (fun _ _ _ h => h) (Or.inl ⟨by rfl, ?_⟩) hHeld3 ?_
  rotate_left 1
  · (intro wq hSq; (try dsimp only at hSq); go_simp; first | done | with_reducible rfl)
  try simp only [Act.put, List.setIfInBounds_toArray, List.set_cons_zero, List.set_cons_succ]
  refine wpAnyH_done (by kernel_rfl) ?_ _
  refine NoPanic.normal ?_
  clear c0
  subst hn5
  have P5 : Hid (PartAt w5 (.slice av5 (bodyB m).length c5) (bodyB m)) := p5

  have B5 : Hid (Below w2.heap.size w2 w5) := B4.out.trans (b5.mono B4.out.size)
  have c0 := row_cell (G2.out _ B5.out) (mC_0 m)
  clear p5 b5
  go_wp2_with fail
  refine (EN.out _ _ _ _ (B2.out _ B5.out) rfl P5.out).mono ?_
  rintro e w9 ⟨u, rfl, o9, b9⟩
  go_wp2
  go_ret2
  exact ⟨u, rfl, o9, b9⟩
end Go.Proofs.YtplihbncmmggjaaDoor
