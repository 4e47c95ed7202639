import Derived.Test.YtnpjknnalekdpaaHa
import Derived.Test.YtnpjknnalekdpaaGl
namespace Go.Proofs.Ytnpjknnalekdpaa
set_option linter.unusedSimpArgs false
set_option linter.unusedVariables false
open Go.RowKit
/-- What Write has in hand between, ahead of its switch. -/
def PhiW (m : Msg) (d : Nat) (v : Value) (w : World) : Prop :=
  match d with
  | 14 => ∃ g, v = .slice (some ⟨g, 0, none⟩) 2 2 ∧ PartAt w v [m.frm, m.to]
  | 17 => ∃ g, v = .slice (some ⟨g, 0, none⟩) 4 4 ∧ PartAt w v (numB m.id 4)
  | 18 => ∃ g x1 x2, v = .slice (some ⟨g, 0, none⟩) 2 2 ∧ g < w.heap.size ∧ w.rangeAt g 0 [x1, x2] ∧ PartAt w x1 [m.frm, m.to] ∧ PartAt w x2 (numB m.id 4)
  | _ => True
theorem phiW_below (m : Msg) (d : Nat) (v : Value) (w w' : World) (h : PhiW m d v w) (k : Below w.heap.size w w') : PhiW m d v w' := by
  unfold PhiW at h ⊢
  split
  · obtain ⟨g, h1, h2⟩ := h; exact ⟨g, h1, h2.below k⟩
  · obtain ⟨g, h1, h2⟩ := h; exact ⟨g, h1, h2.below k⟩
  · obtain ⟨g, x1, x2, h1, h2, h3, h4, h5⟩ := h
    exact ⟨g, x1, x2, h1, Nat.lt_of_lt_of_le h2 k.size, range_below h3 k h2, h4.below k, h5.below k⟩
  · trivial
/-- Join of few parts, in one form. -/
theorem join_form (W : World) (g n : Nat) (vs : List Value) (ls : List (List Int)) (hv : vs.length = n) (hl : ls.length = n) (hn : n ≤ 100) (hg : g < W.heap.size) (hr : W.rangeAt g 0 vs) (hp : ∀ (i : Nat) (v : Value) (l : List Int), vs[i]? = some v → ls[i]? = some l → PartAt W v l) (hb : ls.flatten.length ≤ 100000) : Calls Try.prog 28 #[.slice (some ⟨g, 0, none⟩) n n] W fun e w' => ∃ av cp, e = .returned (.slice av ls.flatten.length cp) ∧ PartAt w' (.slice av ls.flatten.length cp) ls.flatten ∧ Below W.heap.size W w' :=
  (join_any g 0 n n vs ls hv hl W (by omega) hr hg hp (by omega) (by omega)).mono fun e w' ⟨u, r1, r2, r3⟩ => by
    have p := r2.partG (by have := r3.size; omega)
    have p' := p
    obtain ⟨av, b', o', cp, rfl, _⟩ := p'
    exact ⟨av, cp, r1, p, r3⟩
set_option maxHeartbeats 1000000 in
set_option maxRecDepth 100000 in
theorem rwrite_no (m : Msg) (hm : m.Ok) (h : formB m = false) (w : World) : Calls Try.prog 13 #[.agg (mC m).toArray] w fun e w' => e = .returned (.tuple #[.slice none 0 0, .int .i64 1]) ∧ Below w.heap.size w w' := by
  have b1 : Below w.heap.size w (w.alloc (.cells (mC m).toArray 37)) := (Below.refl _ _).alloc (Nat.le_refl _) _
  have FM : Hid (Calls Try.prog 27 #[.agg (mC m).toArray] (w.alloc (.cells (mC m).toArray 37)) fun e w' => e = .returned (.bool false) ∧ Below w.heap.size w w') := by
    have q := rformed_any m hm (w.alloc (.cells (mC m).toArray 37))
    rw [h] at q
    exact q.mono fun e w' ⟨r1, r2⟩ => ⟨r1, b1.trans (r2.mono b1.size)⟩
  have G1 : Hid (BoxM 37 (w.alloc (.cells (mC m).toArray 37)) w.heap.size m) := heap_alloc_new w (.cells (mC m).toArray 37)
  have HM : Hid (m.Ok) := hm
  clear hm h b1
  go_enter Try.func13, Try.ntmps13
  go_wp2_with (first | (refine loadM65 rfl _ rfl w.heap.size rfl m HM.out G1.out ?_))
  refine FM.out.mono ?_
  rintro e w2 ⟨rfl, b2⟩
  go_wp2
  go_ret2
  exact ⟨rfl, b2⟩
set_option maxHeartbeats 1000000 in
set_option maxRecDepth 100000 in
theorem rwrite_other (m : Msg) (hm : m.Ok) (h : formB m = true) (h1 : ¬ m.kind = 1) (h2 : ¬ m.kind = 2) (h3 : ¬ m.kind = 3) (h6 : ¬ m.kind = 6) (w : World) (h0 : 0 < w.heap.size) : Calls Try.prog 13 #[.agg (mC m).toArray] w fun e w' => ∃ u, e = .returned (.tuple #[u, .int .i64 0]) ∧ OwnB w' w.heap.size u (encB m.kind (bodyB m)) ∧ Below w.heap.size w w' := by
  obtain ⟨f1, f2, f3, f4, f5, f6, f7, f8⟩ := form_all h
  have hbs := base_of h
  have hbd := body_le m hm h
  have b1 : Below w.heap.size w (w.alloc (.cells (mC m).toArray 37)) := (Below.refl _ _).alloc (Nat.le_refl _) _
  have FM : Hid (Calls Try.prog 27 #[.agg (mC m).toArray] (w.alloc (.cells (mC m).toArray 37)) fun e w' => e = .returned (.bool true) ∧ BoxM 37 w' w.heap.size m ∧ Below w.heap.size w w') := by
    have q := rformed_any m hm (w.alloc (.cells (mC m).toArray 37))
    rw [h] at q
    exact q.mono fun e w' ⟨r1, r2⟩ => ⟨r1, BoxM.below (heap_alloc_new w (.cells (mC m).toArray 37)) r2, b1.trans (r2.mono b1.size)⟩
  have G1 : Hid (BoxM 37 (w.alloc (.cells (mC m).toArray 37)) w.heap.size m) := heap_alloc_new w (.cells (mC m).toArray 37)
  have HM : Hid (m.Ok) := hm
  have N4 : Hid (∀ (W : World) (n : Int), 0 ≤ n → n ≤ 4294967295 → Calls Try.prog 29 #[.int .u64 n, .int .i64 4] W fun e w' => ∃ g, e = .returned (.slice (some ⟨g, 0, none⟩) 4 4) ∧ PartAt w' (.slice (some ⟨g, 0, none⟩) 4 4) (numB n 4) ∧ Below W.heap.size W w') := fun W n h0 h1 =>
    (rnumk_any n h0 (by omega) 4 (by omega) (by omega) _).mono fun e w' ⟨g, r1, r2, r3, r4⟩ => ⟨g, r1, partRow r3 4 (numB_length _ _) (by omega), r4⟩
  have EN : Hid (∀ (W : World) (av : Option Addr) (n cp : Nat), Below w.heap.size w W → n = (bodyB m).length → PartAt W (.slice av n cp) (bodyB m) → Calls Try.prog 14 #[.agg #[.int .u8 m.kind, .slice av n cp]] W fun e w' => ∃ u, e = .returned (.tuple #[u, .int .i64 0]) ∧ OwnB w' w.heap.size u (encB m.kind (bodyB m)) ∧ Below w.heap.size w w') := fun W av n cp q hn p =>
    (rencode_own m.kind (by omega) av n cp (bodyB m) hn.symm (by omega) hbd.2 W (by have := q.size; omega) p).mono fun e w' ⟨u, r1, r2, r3⟩ => ⟨u, r1, r2.lower q.size, q.trans (r3.mono q.size)⟩
  have a1 : m.frm % 256 = m.frm := by omega
  have a2 : m.to % 256 = m.to := by omega
  have a3 : m.kind % 256 = m.kind := by omega
  have a4 : IntKind.u8.wrap m.frm = m.frm := by rw [show IntKind.u8.wrap m.frm = m.frm % 256 from rfl]; omega
  have a5 : IntKind.u8.wrap m.to = m.to := by rw [show IntKind.u8.wrap m.to = m.to % 256 from rfl]; omega
  have a6 : IntKind.u8.wrap m.kind = m.kind := by rw [show IntKind.u8.wrap m.kind = m.kind % 256 from rfl]; omega
  have HB : Hid ((0 ≤ m.frm ∧ m.frm ≤ 16) ∧ (0 ≤ m.to ∧ m.to ≤ 16) ∧ 0 < m.id ∧ m.id ≤ 4294967295 ∧ m.base ≤ 4294967295 ∧ m.s.size ≤ 500) := ⟨f2, f3, f5, f6, hbs.1, hbs.2⟩
  have HIN : Hid (inB m = true) := f8
  have z1 : (m.kind == 1) = false := by simpa using h1
  have z2 : (m.kind == 2) = false := by simpa using h2
  have z3 : (m.kind == 3) = false := by simpa using h3
  have z6 : (m.kind == 6) = false := by simpa using h6
  have HBO : Hid (bodyB m = ([m.frm, m.to] ++ numB m.id 4)) := by unfold Hid bodyB ownB; rw [if_neg h1, if_neg h2, if_neg (by omega)]; simp
  clear h1 h2 h3 h6
  clear hm h b1 hbs hbd f1 f2 f3 f4 f5 f6 f7 f8 h0
  go_enter Try.func13, Try.ntmps13
  go_wp2_with (first | (refine loadM65 rfl _ rfl w.heap.size rfl m HM.out G1.out ?_))
  refine FM.out.mono ?_
  rintro e w2 ⟨rfl, g2, b2⟩
  have G2 : Hid (∀ W, Below w2.heap.size w2 W → BoxM 37 W w.heap.size m) := fun W q => g2.below q
  have B2 : Hid (∀ W, Below w2.heap.size w2 W → Below w.heap.size w W) := fun W q => b2.trans (q.mono b2.size)
  have BD : Hid (Below w2.heap.size w2 w2.drew) := (Below.refl _ _).drew
  clear g2 b2 FM G1
  go_wp2_with fail
  refine wp_region_noPanic ?_
  refine wp_region_held_drew (S := fun w' => Below w2.heap.size w2 w') (by kernel_rfl) (BD.out) (fun hHeld => ?_)
  try simp only [Act.put, List.setIfInBounds_toArray, List.set_cons_zero, List.set_cons_succ]
  refine wpAnyH_take (i := 0) (oi := { dst := some 8, op := Go.Op.fieldAddr 37 (Go.Operand.tmp 1) 1, type := 0, pos := "ref.go:319", after := #[], guard := none }) (v := ?_) rfl (by kernel_rfl) (by kernel_rfl) (by kernel_rfl) (fun _ _ _ h => h) (Or.inl ⟨by rfl, ?_⟩) hHeld ?_
  rotate_left 1
  · (intro wq hSq; (try dsimp only at hSq); go_simp; first | done | with_reducible rfl)
  try simp only [Act.put, List.setIfInBounds_toArray, List.set_cons_zero, List.set_cons_succ]
  refine wpAnyH_take (i := 1) (oi := { dst := some 9, op := Go.Op.load 3 (Go.Operand.tmp 8), type := 3, pos := "ref.go:319", after := #[{ on := 0, ground := Go.Ground.data }], guard := none }) (v := ?_) rfl (by kernel_rfl) (by kernel_rfl) (by kernel_rfl) (fun _ _ _ h => h) (Or.inl ⟨by rfl, ?_⟩) hHeld ?_
  rotate_left 1
  · (intro wq hSq; (try dsimp only at hSq); have hq := row_cell (G2.out _ hSq) (mC_1 m); go_simp; first | done | with_reducible rfl)
  try simp only [Act.put, List.setIfInBounds_toArray, List.set_cons_zero, List.set_cons_succ]
  refine wpAnyH_take (i := 2) (oi := { dst := some 10, op := Go.Op.convert 3 5 (Go.Operand.tmp 9), type := 5, pos := "ref.go:319", after := #[{ on := 1, ground := Go.Ground.data }], guard := none }) (v := ?_) rfl (by kernel_rfl) (by kernel_rfl) (by kernel_rfl) (fun _ _ _ h => h) (Or.inl ⟨by rfl, ?_⟩) hHeld ?_
  rotate_left 1
  · (intro wq hSq; (try dsimp only at hSq); go_simp; first | done | with_reducible rfl)
  try simp only [Act.put, List.setIfInBounds_toArray, List.set_cons_zero, List.set_cons_succ]
  refine wpAnyH_take (i := 3) (oi := { dst := some 11, op := Go.Op.fieldAddr 37 (Go.Operand.tmp 1) 2, type := 0, pos := "ref.go:319", after := #[], guard := none }) (v := ?_) rfl (by kernel_rfl) (by kernel_rfl) (by kernel_rfl) (fun _ _ _ h => h) (Or.inl ⟨by rfl, ?_⟩) hHeld ?_
  rotate_left 1
  · (intro wq hSq; (try dsimp only at hSq); go_simp; first | done | with_reducible rfl)
  try simp only [Act.put, List.setIfInBounds_toArray, List.set_cons_zero, List.set_cons_succ]
  refine wpAnyH_take (i := 4) (oi := { dst := some 12, op := Go.Op.load 3 (Go.Operand.tmp 11), type := 3, pos := "ref.go:319", after := #[{ on := 3, ground := Go.Ground.data }], guard := none }) (v := ?_) rfl (by kernel_rfl) (by kernel_rfl) (by kernel_rfl) (fun _ _ _ h => h) (Or.inl ⟨by rfl, ?_⟩) hHeld ?_
  rotate_left 1
  · (intro wq hSq; (try dsimp only at hSq); have hq := row_cell (G2.out _ hSq) (mC_2 m); go_simp; first | done | with_reducible rfl)
  try simp only [Act.put, List.setIfInBounds_toArray, List.set_cons_zero, List.set_cons_succ]
  refine wpAnyH_take (i := 5) (oi := { dst := some 13, op := Go.Op.convert 3 5 (Go.Operand.tmp 12), type := 5, pos := "ref.go:319", after := #[{ on := 4, ground := Go.Ground.data }], guard := none }) (v := ?_) rfl (by kernel_rfl) (by kernel_rfl) (by kernel_rfl) (fun _ _ _ h => h) (Or.inl ⟨by rfl, ?_⟩) hHeld ?_
  rotate_left 1
  · (intro wq hSq; (try dsimp only at hSq); go_simp; first | done | with_reducible rfl)
  try simp only [Act.put, List.setIfInBounds_toArray, List.set_cons_zero, List.set_cons_succ]
  refine wpAnyH_take (i := 7) (oi := { dst := some 15, op := Go.Op.fieldAddr 37 (Go.Operand.tmp 1) 3, type := 0, pos := "ref.go:319", after := #[], guard := none }) (v := ?_) rfl (by kernel_rfl) (by kernel_rfl) (by kernel_rfl) (fun _ _ _ h => h) (Or.inl ⟨by rfl, ?_⟩) hHeld ?_
  rotate_left 1
  · (intro wq hSq; (try dsimp only at hSq); go_simp; first | done | with_reducible rfl)
  try simp only [Act.put, List.setIfInBounds_toArray, List.set_cons_zero, List.set_cons_succ]
  refine wpAnyH_take (i := 8) (oi := { dst := some 16, op := Go.Op.load 24 (Go.Operand.tmp 15), type := 24, pos := "ref.go:319", after := #[{ on := 7, ground := Go.Ground.data }], guard := none }) (v := ?_) rfl (by kernel_rfl) (by kernel_rfl) (by kernel_rfl) (fun _ _ _ h => h) (Or.inl ⟨by rfl, ?_⟩) hHeld ?_
  rotate_left 1
  · (intro wq hSq; (try dsimp only at hSq); have hq := row_cell (G2.out _ hSq) (mC_3 m); go_simp; first | done | with_reducible rfl)
  try simp only [Act.put, List.setIfInBounds_toArray, List.set_cons_zero, List.set_cons_succ]
  refine wpAnyH_batch (B := [(6, 14, []), (9, 17, []), (10, 18, [14, 17])]) (R := fun w w' => Below w.heap.size w w') (Φ := PhiW m) 2 (by kernel_rfl) (fun _ _ _ _ h => h) (Below.refl _ _) (fun _ _ h1 h2 => h1.trans (h2.mono h1.size)) (fun _ _ _ _ _ h k => phiW_below _ _ _ _ _ h k) (fun _ h => BD.out.trans h) ⟨StepB.mk ({ dst := some 14, op := Go.Op.buildSlice 22 2 #[(0, Go.Operand.tmp 10), (1, Go.Operand.tmp 13)], type := 22, pos := "ref.go:319", after := #[{ on := 2, ground := Go.Ground.data }, { on := 5, ground := Go.Ground.data }], guard := none } : Oper) rfl ?_, StepB.mk ({ dst := some 17, op := Go.Op.call { callee := Go.Callee.value (Go.Operand.func 29), args := #[Go.Operand.tmp 16, Go.Operand.const (Go.Value.int Go.IntKind.i64 4)], argTypes := #[24, 3] }, type := 22, pos := "ref.go:319", after := #[{ on := 8, ground := Go.Ground.data }], guard := none } : Oper) rfl ?_, StepB.mk ({ dst := some 18, op := Go.Op.buildSlice 69 2 #[(0, Go.Operand.tmp 14), (1, Go.Operand.tmp 17)], type := 69, pos := "ref.go:319", after := #[{ on := 6, ground := Go.Ground.data }, { on := 9, ground := Go.Ground.data }], guard := none } : Oper) rfl ?_, trivial⟩ ?_
  · intro f wS hRS hFS K hK
    simp only [putT, Act.put, List.setIfInBounds_toArray, List.set_cons_zero, List.set_cons_succ] at hK ⊢
    go_simp
    exact hK.out _ _ ((Below.refl _ _).alloc (Nat.le_refl _) _) ⟨wS.heap.size, rfl, part_new wS [m.frm, m.to] (by simp)⟩
  · intro f wS hRS hFS K hK
    simp only [putT, Act.put, List.setIfInBounds_toArray, List.set_cons_zero, List.set_cons_succ] at hK ⊢
    go_simp
    refine (N4.out wS m.id (by have := HB.out.2.2.1; omega) HB.out.2.2.2.1).mono ?_
    rintro e w' ⟨g, rfl, r1, r2⟩
    exact hK.out _ _ r2 ⟨g, rfl, r1⟩
  · intro f wS hRS hFS K hK
    simp only [putT, Act.put, List.setIfInBounds_toArray, List.set_cons_zero, List.set_cons_succ] at hK ⊢
    obtain ⟨g14, e14, q14⟩ := hFS 14 (by simp)
    obtain ⟨g17, e17, q17⟩ := hFS 17 (by simp)
    rw [e14, e17] at hK ⊢
    rw [e14] at q14
    rw [e17] at q17
    clear e14 e17 hFS
    have kA : ∀ o, Below wS.heap.size wS (wS.alloc o) := fun o => (Below.refl _ _).alloc (Nat.le_refl _) _
    go_simp
    exact hK.out _ _ (kA _) ⟨wS.heap.size, _, _, rfl, by simp, range_alloc wS _ _, q14.below (kA _), q17.below (kA _)⟩
  intro f wB hRB hFB
  simp only [List.map, setL, putT, Act.put, List.setIfInBounds_toArray, List.set_cons_zero, List.set_cons_succ]
  have hHeldB1 : Below w2.heap.size w2 wB := BD.out.trans hRB
  obtain ⟨g, x1, x2, e18, r1, r2, r3, r4⟩ := hFB 18 (by simp)
  rw [e18]
  have JH : Hid (Calls Try.prog 28 #[.slice (some ⟨g, 0, none⟩) 2 2] wB fun e w' => ∃ av cp, e = .returned (.slice av 6 cp) ∧ PartAt w' (.slice av 6 cp) ([m.frm, m.to] ++ numB m.id 4) ∧ Below wB.heap.size wB w') := by
    have q := join_form wB g 2 [x1, x2] [[m.frm, m.to], numB m.id 4] rfl rfl (by omega) r1 r2 (parts_cons r3 (parts_cons r4 parts_nil)) (by simp [numB_length])
    have e : [[m.frm, m.to], numB m.id 4].flatten = ([m.frm, m.to] ++ numB m.id 4) := by simp
    have e6 : ([m.frm, m.to] ++ numB m.id 4).length = 6 := by simp [numB_length]
    rw [e, e6] at q
    exact q
  have HB1 : Hid (Below w2.heap.size w2 wB) := hHeldB1
  generalize f 14 = u14
  generalize f 17 = u17
  clear hFB hRB e18 r1 r2 r3 r4
  refine wpAnyH_ready (rs := [11]) (by kernel_rfl) (by simp) ?_
  refine AllReadyH.cons (o := { dst := some 19, op := Go.Op.call { callee := Go.Callee.value (Go.Operand.func 28), args := #[Go.Operand.tmp 18], argTypes := #[69] }, type := 22, pos := "ref.go:319", after := #[{ on := 10, ground := Go.Ground.data }, { on := 9, ground := Go.Ground.chain }], guard := none }) rfl (fun K hK => ?_) AllReadyH.nil
  go_simp
  refine JH.out.mono ?_
  rintro e w4 ⟨av4, c4, rfl, p4, b4⟩
  have P4 : Hid (PartAt w4 (.slice av4 6 c4) ([m.frm, m.to] ++ numB m.id 4)) := p4
  have B4 : Hid (Below w2.heap.size w2 w4) := HB1.out.trans (b4.mono HB1.out.size)
  clear p4 b4 JH HB1
  refine hK.out _ _ (B4.out) (fun hHeld2 => ?_)
  clear hK K hHeldB1
  try simp only [Act.put, List.setIfInBounds_toArray, List.set_cons_zero, List.set_cons_succ]
  refine wpAnyH_take (i := 12) (oi := { dst := some 4, op := Go.Op.assign (Go.Operand.tmp 19), type := 22, pos := "ref.go:319", after := #[{ on := 11, ground := Go.Ground.data }, { on := 11, ground := Go.Ground.chain }, { on := 0, ground := Go.Ground.phase }, { on := 1, ground := Go.Ground.phase }, { on := 2, ground := Go.Ground.phase }, { on := 3, ground := Go.Ground.phase }, { on := 4, ground := Go.Ground.phase }, { on := 5, ground := Go.Ground.phase }, { on := 6, ground := Go.Ground.phase }, { on := 7, ground := Go.Ground.phase }, { on := 8, ground := Go.Ground.phase }, { on := 9, ground := Go.Ground.phase }, { on := 10, ground := Go.Ground.phase }, { on := 11, ground := Go.Ground.phase }], guard := none }) (v := ?_) rfl (by kernel_rfl) (by kernel_rfl) (by kernel_rfl) (fun _ _ _ h => h) (Or.inl ⟨by rfl, ?_⟩) hHeld2 ?_
  rotate_left 1
  · (intro wq hSq; (try dsimp only at hSq); go_simp; first | done | with_reducible rfl)
  try simp only [Act.put, List.setIfInBounds_toArray, List.set_cons_zero, List.set_cons_succ]
  refine wpAnyH_done (by kernel_rfl) ?_ _
  refine NoPanic.normal ?_
  have c0 := row_cell (G2.out _ B4.out) (mC_0 m)
  have P5 : Hid (PartAt w4 (.slice av4 6 c4) (bodyB m)) := by unfold Hid; rw [HBO.out]; exact P4.out
  clear hHeld2
  go_wp2_with fail
  refine (EN.out _ _ _ _ (B2.out _ B4.out) (by rw [HBO.out]; simp [numB_length]) P5.out).mono ?_
  rintro e w9 ⟨u, rfl, o9, b9⟩
  go_wp2
  go_ret2
  exact ⟨u, rfl, o9, b9⟩
end Go.Proofs.Ytnpjknnalekdpaa
