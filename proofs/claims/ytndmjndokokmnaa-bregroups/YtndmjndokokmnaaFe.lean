import Derived.Test.YtndmjndokokmnaaFd
namespace Go.Proofs.Ytndmjndokokmnaa
set_option linter.unusedSimpArgs false
set_option linter.unusedVariables false
open Go.RowKit
open Go.Deep
/-- The checker's cells. -/
def cC (m : Nat) (s : Gs) : List Value := .int .i64 (m : Int) :: .int .i64 s.b :: s.e.map Value.bool
/-- The checker's box. -/
def CBox (w : World) (g m : Nat) (s : Gs) : Prop := w.heap[g]? = some (.cells (cC m s).toArray 84)
theorem CBox.lt {w : World} {g m : Nat} {s : Gs} (h : CBox w g m s) : g < w.heap.size := (Array.getElem?_eq_some_iff.1 h).1
theorem CBox.blk {w w' : World} {g m : Nat} {s : Gs} (h : CBox w g m s) (e : w'.heap[g]? = w.heap[g]?) : CBox w' g m s := by unfold CBox; rw [e]; exact h
theorem CBox.cell {w : World} {g m : Nat} {s : Gs} (h : CBox w g m s) (j : Nat) (v : Value) (hv : (cC m s)[j]? = some v) : w.cell? ⟨g, j, none⟩ = some v := by
  rw [cell_of_row w g j _ 84 (0, 0) h]; simpa using hv
theorem CBox.set0 {w : World} {g m : Nat} {s : Gs} (h : CBox w g m s) (m' : Nat) : CBox (w.setCell ⟨g, 0, none⟩ (.int .i64 (m' : Int))) g m' s := by
  unfold CBox at h ⊢
  rw [heap_setCell_same w g 0 _ 84 _ h, List.setIfInBounds_toArray]; rfl
theorem CBox.set1 {w : World} {g m : Nat} {s : Gs} (h : CBox w g m s) (b : Int) : CBox (w.setCell ⟨g, 1, none⟩ (.int .i64 b)) g m ⟨b, s.e⟩ := by
  unfold CBox at h ⊢
  rw [heap_setCell_same w g 1 _ 84 _ h, List.setIfInBounds_toArray]; rfl
theorem CBox.setE {w : World} {g m : Nat} {s : Gs} (h : CBox w g m s) (i : Nat) (v : Bool) : CBox (w.setCell ⟨g, 2 + i, none⟩ (.bool v)) g m ⟨s.b, s.e.set i v⟩ := by
  unfold CBox at h ⊢
  rw [heap_setCell_same w g (2 + i) _ 84 _ h, List.setIfInBounds_toArray]
  have : (cC m s).set (2 + i) (.bool v) = cC m ⟨s.b, s.e.set i v⟩ := by
    unfold cC
    rw [show 2 + i = i + 1 + 1 by omega, List.set_cons_succ, List.set_cons_succ, List.map_set]
  rw [this]
/-- What numbered leaves. -/
def stepS (h : Hd) (s : Gs) : Gs := if h.k = 6 then ⟨s.b + 1, s.e⟩ else s
theorem stepN_some {h : Hd} {s s' : Gs} (e : stepN h s = some s') : s' = stepS h s := by
  unfold stepN at e
  unfold stepS
  split at e
  · rename_i hk
    rw [if_pos hk]
    split at e
    · injection e with e; exact e.symm
    · cases e
  · rename_i hk
    rw [if_neg hk]
    split at e
    · split at e
      · injection e with e; exact e.symm
      · cases e
    · injection e with e; exact e.symm
theorem grown_of_below {w w' : World} (h : Below w.heap.size w w') (r : Option Nat) : w.grownBy w' r := ⟨h.os, h.tape, h.output, h.size, fun k hk _ => h.block k hk⟩
theorem grown_set {a w : World} {g : Nat} (h : a.grownBy w (some g)) (o : Nat) (v : Value) : a.grownBy (w.setCell ⟨g, o, none⟩ v) (some g) :=
  ⟨h.os, h.tape, h.output, by have := h.size; simp [World.setCell]; exact this, fun k hk hne => by
    rw [Below.heap_setCell _ _ _ _ (by intro e; exact hne (by rw [e]))]; exact h.block k hk hne⟩
set_option maxHeartbeats 4000000 in
set_option maxRecDepth 100000 in
theorem numbered_any (g m : Nat) (s : Gs) (h : Hd) (u : Value) (w : World) (hc : CBox w g m s) (hl : s.e.length = 10) (hb0 : 0 ≤ s.b) (hb1 : s.b ≤ 1000) :
    Calls Try.prog 87 #[.pointer (some ⟨g, 0, none⟩), vN h u] w fun e w' => e = .returned (.bool (stepN h s).isSome) ∧ CBox w' g m (stepS h s) ∧ w.grownBy w' (some g) := by
  obtain ⟨k, c, x0, x1, x2, x3, nn, lo, hi⟩ := h
  obtain ⟨b, e⟩ := s
  have hlt : g < w.heap.size := hc.lt
  change Calls Try.prog 87 #[_, .agg #[.int .i64 k, .int .u8 (c : Int), .int .u64 (x0 : Int), .int .u64 x1, .int .u64 x2, .int .u64 x3, .int .i64 nn, .int .i64 lo, .int .i64 hi, u]] w _
  change 0 ≤ b at hb0
  change b ≤ 1000 at hb1
  change e.length = 10 at hl
  by_cases k6 : k = 6
  · subst k6
    rw [show stepS ⟨6, c, x0, x1, x2, x3, nn, lo, hi⟩ ⟨b, e⟩ = ⟨b + 1, e⟩ from rfl]
    by_cases hn : nn = b + 1
    · subst hn
      by_cases h9 : b + 1 ≤ 9
      · have HE : Hid (true = (stepN ⟨6, c, x0, x1, x2, x3, b + 1, lo, hi⟩ ⟨b, e⟩).isSome) := by unfold Hid stepN; rw [if_pos rfl, if_pos ⟨rfl, h9⟩]; rfl
        have hz : (w.setCell ⟨g, 1, none⟩ (.int .i64 (b + 1))).heap.size = w.heap.size := by simp [World.setCell]
        have X1 : BoxN 55 ((w.setCell ⟨g, 1, none⟩ (.int .i64 (b + 1))).alloc (.cells #[.int .i64 6, .int .u8 (c : Int), .int .u64 (x0 : Int), .int .u64 x1, .int .u64 x2, .int .u64 x3, .int .i64 (b + 1), .int .i64 lo, .int .i64 hi, u] 55)) w.heap.size ⟨6, c, x0, x1, x2, x3, b + 1, lo, hi⟩ u := by
          have q := BoxN.new 55 (w.setCell ⟨g, 1, none⟩ (.int .i64 (b + 1))) ⟨6, c, x0, x1, x2, x3, b + 1, lo, hi⟩ u
          rw [hz] at q; exact q
        have HC1 : Hid (CBox ((w.setCell ⟨g, 1, none⟩ (.int .i64 (b + 1))).alloc (.cells #[.int .i64 6, .int .u8 (c : Int), .int .u64 (x0 : Int), .int .u64 x1, .int .u64 x2, .int .u64 x3, .int .i64 (b + 1), .int .i64 lo, .int .i64 hi, u] 55)).drew g m ⟨b + 1, e⟩) := ((hc.set1 (b + 1)).blk (w' := ((w.setCell ⟨g, 1, none⟩ (.int .i64 (b + 1))).alloc (.cells #[.int .i64 6, .int .u8 (c : Int), .int .u64 (x0 : Int), .int .u64 x1, .int .u64 x2, .int .u64 x3, .int .i64 (b + 1), .int .i64 lo, .int .i64 hi, u] 55))) (Below.heap_alloc _ _ _ (by rw [hz]; exact hlt))).blk rfl
        have HS0 : Hid (((w.setCell ⟨g, 1, none⟩ (.int .i64 (b + 1))).alloc (.cells #[.int .i64 6, .int .u8 (c : Int), .int .u64 (x0 : Int), .int .u64 x1, .int .u64 x2, .int .u64 x3, .int .i64 (b + 1), .int .i64 lo, .int .i64 hi, u] 55)).drew.cell? ⟨w.heap.size, 6, none⟩ = some (.int .i64 (b + 1)) ∧ ((w.setCell ⟨g, 1, none⟩ (.int .i64 (b + 1))).alloc (.cells #[.int .i64 6, .int .u8 (c : Int), .int .u64 (x0 : Int), .int .u64 x1, .int .u64 x2, .int .u64 x3, .int .i64 (b + 1), .int .i64 lo, .int .i64 hi, u] 55)).drew.cell? ⟨g, 1, none⟩ = some (.int .i64 (b + 1))) :=
          ⟨X1.cell 6 _ rfl, HC1.out.cell 1 _ rfl⟩
        have HG1 : Hid (w.grownBy ((w.setCell ⟨g, 1, none⟩ (.int .i64 (b + 1))).alloc (.cells #[.int .i64 6, .int .u8 (c : Int), .int .u64 (x0 : Int), .int .u64 x1, .int .u64 x2, .int .u64 x3, .int .i64 (b + 1), .int .i64 lo, .int .i64 hi, u] 55)).drew (some g)) := by
          have q := grown_set (grown_of_below (Below.refl w.heap.size w) (some g)) 1 (.int .i64 (b + 1))
          have r := q.trans (grown_of_below ((Below.refl _ (w.setCell ⟨g, 1, none⟩ (.int .i64 (b + 1)))).alloc (Nat.le_refl _) (.cells #[.int .i64 6, .int .u8 (c : Int), .int .u64 (x0 : Int), .int .u64 x1, .int .u64 x2, .int .u64 x3, .int .i64 (b + 1), .int .i64 lo, .int .i64 hi, u] 55)) (some g))
          exact ⟨r.os, r.tape, r.output, r.size, r.block⟩
        have c1 := hc.cell 1 _ rfl
        have f1 : w.frozen? ⟨g, 1, none⟩ = false := unfrozen hc
        clear hc hz X1
        go_enter Try.func87, Try.ntmps87
        go_wp2
        refine wp_region_noPanic ?_
        refine wp_region_held_drew (S := fun W => W.cell? ⟨w.heap.size, 6, none⟩ = some (.int .i64 (b + 1)) ∧ W.cell? ⟨g, 1, none⟩ = some (.int .i64 (b + 1))) (by kernel_rfl) (HS0.out) (fun hHeld => ?_)
        try simp only [Act.put, List.setIfInBounds_toArray, List.set_cons_zero, List.set_cons_succ]
        refine wpAnyH_take (i := 0) (oi := { dst := some 16, op := Go.Op.fieldAddr 55 (Go.Operand.tmp 3) 3, type := 0, pos := "tree.go:145", after := #[], guard := none }) (v := ?_) rfl (by kernel_rfl) (by kernel_rfl) (by kernel_rfl) (fun _ _ _ h => h) (Or.inl ⟨by rfl, ?_⟩) hHeld ?_
        rotate_left 1
        · (intro wq hSq; (try dsimp only at hSq); go_simp; first | done | with_reducible rfl)
        try simp only [Act.put, List.setIfInBounds_toArray, List.set_cons_zero, List.set_cons_succ]
        refine wpAnyH_take (i := 1) (oi := { dst := some 17, op := Go.Op.load 3 (Go.Operand.tmp 16), type := 3, pos := "tree.go:145", after := #[{ on := 0, ground := Go.Ground.data }], guard := none }) (v := ?_) rfl (by kernel_rfl) (by kernel_rfl) (by kernel_rfl) (fun _ _ _ h => h) (Or.inl ⟨by rfl, ?_⟩) hHeld ?_
        rotate_left 1
        · (intro wq hSq; (try dsimp only at hSq); have c := hSq.1; go_simp; first | done | with_reducible rfl)
        try simp only [Act.put, List.setIfInBounds_toArray, List.set_cons_zero, List.set_cons_succ]
        refine wpAnyH_take (i := 2) (oi := { dst := some 18, op := Go.Op.move (Go.Operand.tmp 0), type := 115, pos := "tree.go:145", after := #[], guard := none }) (v := ?_) rfl (by kernel_rfl) (by kernel_rfl) (by kernel_rfl) (fun _ _ _ h => h) (Or.inl ⟨by rfl, ?_⟩) hHeld ?_
        rotate_left 1
        · (intro wq hSq; (try dsimp only at hSq); go_simp; first | done | with_reducible rfl)
        try simp only [Act.put, List.setIfInBounds_toArray, List.set_cons_zero, List.set_cons_succ]
        refine wpAnyH_take (i := 3) (oi := { dst := some 19, op := Go.Op.nilCheck (Go.Operand.tmp 18), type := 0, pos := "tree.go:145", after := #[{ on := 2, ground := Go.Ground.data }], guard := none }) (v := ?_) rfl (by kernel_rfl) (by kernel_rfl) (by kernel_rfl) (fun _ _ _ h => h) (Or.inl ⟨by rfl, ?_⟩) hHeld ?_
        rotate_left 1
        · (intro wq hSq; (try dsimp only at hSq); go_simp; first | done | with_reducible rfl)
        try simp only [Act.put, List.setIfInBounds_toArray, List.set_cons_zero, List.set_cons_succ]
        refine wpAnyH_take (i := 4) (oi := { dst := some 20, op := Go.Op.fieldAddr 84 (Go.Operand.tmp 19) 1, type := 0, pos := "tree.go:145", after := #[{ on := 3, ground := Go.Ground.data }], guard := none }) (v := ?_) rfl (by kernel_rfl) (by kernel_rfl) (by kernel_rfl) (fun _ _ _ h => h) (Or.inl ⟨by rfl, ?_⟩) hHeld ?_
        rotate_left 1
        · (intro wq hSq; (try dsimp only at hSq); go_simp; first | done | with_reducible rfl)
        try simp only [Act.put, List.setIfInBounds_toArray, List.set_cons_zero, List.set_cons_succ]
        refine wpAnyH_take (i := 5) (oi := { dst := some 21, op := Go.Op.load 3 (Go.Operand.tmp 20), type := 3, pos := "tree.go:145", after := #[{ on := 4, ground := Go.Ground.data }], guard := none }) (v := ?_) rfl (by kernel_rfl) (by kernel_rfl) (by kernel_rfl) (fun _ _ _ h => h) (Or.inl ⟨by rfl, ?_⟩) hHeld ?_
        rotate_left 1
        · (intro wq hSq; (try dsimp only at hSq); have c := hSq.2; go_simp; first | done | with_reducible rfl)
        try simp only [Act.put, List.setIfInBounds_toArray, List.set_cons_zero, List.set_cons_succ]
        refine wpAnyH_take (i := 6) (oi := { dst := some 22, op := Go.Op.binOp Go.BinOp.eql 3 (Go.Operand.tmp 17) (Go.Operand.tmp 21) 3, type := 4, pos := "tree.go:145", after := #[{ on := 1, ground := Go.Ground.data }, { on := 5, ground := Go.Ground.data }], guard := none }) (v := .bool true) rfl (by kernel_rfl) (by kernel_rfl) (by kernel_rfl) (fun _ _ _ h => h) (Or.inl ⟨by rfl, ?_⟩) hHeld ?_
        · (intro wq hSq; (try dsimp only at hSq); go_simp; first | done | with_reducible rfl)
        try simp only [Act.put, List.setIfInBounds_toArray, List.set_cons_zero, List.set_cons_succ]
        refine wpAnyH_take (i := 7) (oi := { dst := some 23, op := Go.Op.move (Go.Operand.tmp 22), type := 4, pos := "tree.go:145", after := #[{ on := 6, ground := Go.Ground.data }], guard := none }) (v := ?_) rfl (by kernel_rfl) (by kernel_rfl) (by kernel_rfl) (fun _ _ _ h => h) (Or.inl ⟨by rfl, ?_⟩) hHeld ?_
        rotate_left 1
        · (intro wq hSq; (try dsimp only at hSq); go_simp; first | done | with_reducible rfl)
        try simp only [Act.put, List.setIfInBounds_toArray, List.set_cons_zero, List.set_cons_succ]
        refine wpAnyH_take (i := 8) (oi := { dst := some 24, op := Go.Op.fieldAddr 55 (Go.Operand.tmp 3) 3, type := 0, pos := "tree.go:145", after := #[{ on := 7, ground := Go.Ground.guard }], guard := some (7, true) }) (v := ?_) rfl (by kernel_rfl) (by kernel_rfl) (by kernel_rfl) (fun _ _ _ h => h) (Or.inl ⟨by rfl, ?_⟩) hHeld ?_
        rotate_left 1
        · (intro wq hSq; (try dsimp only at hSq); go_simp; first | done | with_reducible rfl)
        try simp only [Act.put, List.setIfInBounds_toArray, List.set_cons_zero, List.set_cons_succ]
        refine wpAnyH_take (i := 9) (oi := { dst := some 25, op := Go.Op.load 3 (Go.Operand.tmp 24), type := 3, pos := "tree.go:145", after := #[{ on := 8, ground := Go.Ground.data }, { on := 7, ground := Go.Ground.guard }], guard := some (7, true) }) (v := ?_) rfl (by kernel_rfl) (by kernel_rfl) (by kernel_rfl) (fun _ _ _ h => h) (Or.inl ⟨by rfl, ?_⟩) hHeld ?_
        rotate_left 1
        · (intro wq hSq; (try dsimp only at hSq); have c := hSq.1; go_simp; first | done | with_reducible rfl)
        try simp only [Act.put, List.setIfInBounds_toArray, List.set_cons_zero, List.set_cons_succ]
        refine wpAnyH_take (i := 10) (oi := { dst := some 26, op := Go.Op.binOp Go.BinOp.leq 3 (Go.Operand.tmp 25) (Go.Operand.const (Go.Value.int Go.IntKind.i64 9)) 3, type := 4, pos := "tree.go:145", after := #[{ on := 9, ground := Go.Ground.data }, { on := 7, ground := Go.Ground.guard }], guard := some (7, true) }) (v := .bool true) rfl (by kernel_rfl) (by kernel_rfl) (by kernel_rfl) (fun _ _ _ h => h) (Or.inl ⟨by rfl, ?_⟩) hHeld ?_
        · (intro wq hSq; (try dsimp only at hSq); go_simp; first | done | with_reducible rfl)
        try simp only [Act.put, List.setIfInBounds_toArray, List.set_cons_zero, List.set_cons_succ]
        refine wpAnyH_take (i := 11) (oi := { dst := some 27, op := Go.Op.pick (Go.Operand.tmp 23) (Go.Operand.tmp 26) (Go.Operand.const (Go.Value.bool false)), type := 4, pos := "tree.go:145", after := #[{ on := 7, ground := Go.Ground.data }, { on := 10, ground := Go.Ground.data }], guard := none }) (v := .bool true) rfl (by kernel_rfl) (by kernel_rfl) (by kernel_rfl) (fun _ _ _ h => h) (Or.inl ⟨by rfl, ?_⟩) hHeld ?_
        · (intro wq hSq; (try dsimp only at hSq); go_simp; first | done | with_reducible rfl)
        try simp only [Act.put, List.setIfInBounds_toArray, List.set_cons_zero, List.set_cons_succ]
        refine wpAnyH_take (i := 12) (oi := { dst := some 4, op := Go.Op.assign (Go.Operand.tmp 27), type := 4, pos := "tree.go:145", after := #[{ on := 11, ground := Go.Ground.data }, { on := 7, ground := Go.Ground.chain }, { on := 0, ground := Go.Ground.phase }, { on := 1, ground := Go.Ground.phase }, { on := 2, ground := Go.Ground.phase }, { on := 3, ground := Go.Ground.phase }, { on := 4, ground := Go.Ground.phase }, { on := 5, ground := Go.Ground.phase }, { on := 6, ground := Go.Ground.phase }, { on := 7, ground := Go.Ground.phase }, { on := 8, ground := Go.Ground.phase }, { on := 9, ground := Go.Ground.phase }, { on := 10, ground := Go.Ground.phase }, { on := 11, ground := Go.Ground.phase }], guard := none }) (v := ?_) rfl (by kernel_rfl) (by kernel_rfl) (by kernel_rfl) (fun _ _ _ h => h) (Or.inl ⟨by rfl, ?_⟩) hHeld ?_
        rotate_left 1
        · (intro wq hSq; (try dsimp only at hSq); go_simp; first | done | with_reducible rfl)
        try simp only [Act.put, List.setIfInBounds_toArray, List.set_cons_zero, List.set_cons_succ]
        refine wpAnyH_done (by kernel_rfl) ?_ _
        refine NoPanic.normal ?_
        go_wp2
        go_ret
        exact ⟨ret_bool HE.out, HC1.out, HG1.out⟩
      · have HE : Hid (false = (stepN ⟨6, c, x0, x1, x2, x3, b + 1, lo, hi⟩ ⟨b, e⟩).isSome) := by unfold Hid stepN; rw [if_pos rfl, if_neg (fun q => h9 q.2)]; rfl
        have hz : (w.setCell ⟨g, 1, none⟩ (.int .i64 (b + 1))).heap.size = w.heap.size := by simp [World.setCell]
        have X1 : BoxN 55 ((w.setCell ⟨g, 1, none⟩ (.int .i64 (b + 1))).alloc (.cells #[.int .i64 6, .int .u8 (c : Int), .int .u64 (x0 : Int), .int .u64 x1, .int .u64 x2, .int .u64 x3, .int .i64 (b + 1), .int .i64 lo, .int .i64 hi, u] 55)) w.heap.size ⟨6, c, x0, x1, x2, x3, b + 1, lo, hi⟩ u := by
          have q := BoxN.new 55 (w.setCell ⟨g, 1, none⟩ (.int .i64 (b + 1))) ⟨6, c, x0, x1, x2, x3, b + 1, lo, hi⟩ u
          rw [hz] at q; exact q
        have HC1 : Hid (CBox ((w.setCell ⟨g, 1, none⟩ (.int .i64 (b + 1))).alloc (.cells #[.int .i64 6, .int .u8 (c : Int), .int .u64 (x0 : Int), .int .u64 x1, .int .u64 x2, .int .u64 x3, .int .i64 (b + 1), .int .i64 lo, .int .i64 hi, u] 55)).drew g m ⟨b + 1, e⟩) := ((hc.set1 (b + 1)).blk (w' := ((w.setCell ⟨g, 1, none⟩ (.int .i64 (b + 1))).alloc (.cells #[.int .i64 6, .int .u8 (c : Int), .int .u64 (x0 : Int), .int .u64 x1, .int .u64 x2, .int .u64 x3, .int .i64 (b + 1), .int .i64 lo, .int .i64 hi, u] 55))) (Below.heap_alloc _ _ _ (by rw [hz]; exact hlt))).blk rfl
        have HS0 : Hid (((w.setCell ⟨g, 1, none⟩ (.int .i64 (b + 1))).alloc (.cells #[.int .i64 6, .int .u8 (c : Int), .int .u64 (x0 : Int), .int .u64 x1, .int .u64 x2, .int .u64 x3, .int .i64 (b + 1), .int .i64 lo, .int .i64 hi, u] 55)).drew.cell? ⟨w.heap.size, 6, none⟩ = some (.int .i64 (b + 1)) ∧ ((w.setCell ⟨g, 1, none⟩ (.int .i64 (b + 1))).alloc (.cells #[.int .i64 6, .int .u8 (c : Int), .int .u64 (x0 : Int), .int .u64 x1, .int .u64 x2, .int .u64 x3, .int .i64 (b + 1), .int .i64 lo, .int .i64 hi, u] 55)).drew.cell? ⟨g, 1, none⟩ = some (.int .i64 (b + 1))) :=
          ⟨X1.cell 6 _ rfl, HC1.out.cell 1 _ rfl⟩
        have HG1 : Hid (w.grownBy ((w.setCell ⟨g, 1, none⟩ (.int .i64 (b + 1))).alloc (.cells #[.int .i64 6, .int .u8 (c : Int), .int .u64 (x0 : Int), .int .u64 x1, .int .u64 x2, .int .u64 x3, .int .i64 (b + 1), .int .i64 lo, .int .i64 hi, u] 55)).drew (some g)) := by
          have q := grown_set (grown_of_below (Below.refl w.heap.size w) (some g)) 1 (.int .i64 (b + 1))
          have r := q.trans (grown_of_below ((Below.refl _ (w.setCell ⟨g, 1, none⟩ (.int .i64 (b + 1)))).alloc (Nat.le_refl _) (.cells #[.int .i64 6, .int .u8 (c : Int), .int .u64 (x0 : Int), .int .u64 x1, .int .u64 x2, .int .u64 x3, .int .i64 (b + 1), .int .i64 lo, .int .i64 hi, u] 55)) (some g))
          exact ⟨r.os, r.tape, r.output, r.size, r.block⟩
        have c1 := hc.cell 1 _ rfl
        have f1 : w.frozen? ⟨g, 1, none⟩ = false := unfrozen hc
        clear hc hz X1
        go_enter Try.func87, Try.ntmps87
        go_wp2
        refine wp_region_noPanic ?_
        refine wp_region_held_drew (S := fun W => W.cell? ⟨w.heap.size, 6, none⟩ = some (.int .i64 (b + 1)) ∧ W.cell? ⟨g, 1, none⟩ = some (.int .i64 (b + 1))) (by kernel_rfl) (HS0.out) (fun hHeld => ?_)
        try simp only [Act.put, List.setIfInBounds_toArray, List.set_cons_zero, List.set_cons_succ]
        refine wpAnyH_take (i := 0) (oi := { dst := some 16, op := Go.Op.fieldAddr 55 (Go.Operand.tmp 3) 3, type := 0, pos := "tree.go:145", after := #[], guard := none }) (v := ?_) rfl (by kernel_rfl) (by kernel_rfl) (by kernel_rfl) (fun _ _ _ h => h) (Or.inl ⟨by rfl, ?_⟩) hHeld ?_
        rotate_left 1
        · (intro wq hSq; (try dsimp only at hSq); go_simp; first | done | with_reducible rfl)
        try simp only [Act.put, List.setIfInBounds_toArray, List.set_cons_zero, List.set_cons_succ]
        refine wpAnyH_take (i := 1) (oi := { dst := some 17, op := Go.Op.load 3 (Go.Operand.tmp 16), type := 3, pos := "tree.go:145", after := #[{ on := 0, ground := Go.Ground.data }], guard := none }) (v := ?_) rfl (by kernel_rfl) (by kernel_rfl) (by kernel_rfl) (fun _ _ _ h => h) (Or.inl ⟨by rfl, ?_⟩) hHeld ?_
        rotate_left 1
        · (intro wq hSq; (try dsimp only at hSq); have c := hSq.1; go_simp; first | done | with_reducible rfl)
        try simp only [Act.put, List.setIfInBounds_toArray, List.set_cons_zero, List.set_cons_succ]
        refine wpAnyH_take (i := 2) (oi := { dst := some 18, op := Go.Op.move (Go.Operand.tmp 0), type := 115, pos := "tree.go:145", after := #[], guard := none }) (v := ?_) rfl (by kernel_rfl) (by kernel_rfl) (by kernel_rfl) (fun _ _ _ h => h) (Or.inl ⟨by rfl, ?_⟩) hHeld ?_
        rotate_left 1
        · (intro wq hSq; (try dsimp only at hSq); go_simp; first | done | with_reducible rfl)
        try simp only [Act.put, List.setIfInBounds_toArray, List.set_cons_zero, List.set_cons_succ]
        refine wpAnyH_take (i := 3) (oi := { dst := some 19, op := Go.Op.nilCheck (Go.Operand.tmp 18), type := 0, pos := "tree.go:145", after := #[{ on := 2, ground := Go.Ground.data }], guard := none }) (v := ?_) rfl (by kernel_rfl) (by kernel_rfl) (by kernel_rfl) (fun _ _ _ h => h) (Or.inl ⟨by rfl, ?_⟩) hHeld ?_
        rotate_left 1
        · (intro wq hSq; (try dsimp only at hSq); go_simp; first | done | with_reducible rfl)
        try simp only [Act.put, List.setIfInBounds_toArray, List.set_cons_zero, List.set_cons_succ]
        refine wpAnyH_take (i := 4) (oi := { dst := some 20, op := Go.Op.fieldAddr 84 (Go.Operand.tmp 19) 1, type := 0, pos := "tree.go:145", after := #[{ on := 3, ground := Go.Ground.data }], guard := none }) (v := ?_) rfl (by kernel_rfl) (by kernel_rfl) (by kernel_rfl) (fun _ _ _ h => h) (Or.inl ⟨by rfl, ?_⟩) hHeld ?_
        rotate_left 1
        · (intro wq hSq; (try dsimp only at hSq); go_simp; first | done | with_reducible rfl)
        try simp only [Act.put, List.setIfInBounds_toArray, List.set_cons_zero, List.set_cons_succ]
        refine wpAnyH_take (i := 5) (oi := { dst := some 21, op := Go.Op.load 3 (Go.Operand.tmp 20), type := 3, pos := "tree.go:145", after := #[{ on := 4, ground := Go.Ground.data }], guard := none }) (v := ?_) rfl (by kernel_rfl) (by kernel_rfl) (by kernel_rfl) (fun _ _ _ h => h) (Or.inl ⟨by rfl, ?_⟩) hHeld ?_
        rotate_left 1
        · (intro wq hSq; (try dsimp only at hSq); have c := hSq.2; go_simp; first | done | with_reducible rfl)
        try simp only [Act.put, List.setIfInBounds_toArray, List.set_cons_zero, List.set_cons_succ]
        refine wpAnyH_take (i := 6) (oi := { dst := some 22, op := Go.Op.binOp Go.BinOp.eql 3 (Go.Operand.tmp 17) (Go.Operand.tmp 21) 3, type := 4, pos := "tree.go:145", after := #[{ on := 1, ground := Go.Ground.data }, { on := 5, ground := Go.Ground.data }], guard := none }) (v := .bool true) rfl (by kernel_rfl) (by kernel_rfl) (by kernel_rfl) (fun _ _ _ h => h) (Or.inl ⟨by rfl, ?_⟩) hHeld ?_
        · (intro wq hSq; (try dsimp only at hSq); go_simp; first | done | with_reducible rfl)
        try simp only [Act.put, List.setIfInBounds_toArray, List.set_cons_zero, List.set_cons_succ]
        refine wpAnyH_take (i := 7) (oi := { dst := some 23, op := Go.Op.move (Go.Operand.tmp 22), type := 4, pos := "tree.go:145", after := #[{ on := 6, ground := Go.Ground.data }], guard := none }) (v := ?_) rfl (by kernel_rfl) (by kernel_rfl) (by kernel_rfl) (fun _ _ _ h => h) (Or.inl ⟨by rfl, ?_⟩) hHeld ?_
        rotate_left 1
        · (intro wq hSq; (try dsimp only at hSq); go_simp; first | done | with_reducible rfl)
        try simp only [Act.put, List.setIfInBounds_toArray, List.set_cons_zero, List.set_cons_succ]
        refine wpAnyH_take (i := 8) (oi := { dst := some 24, op := Go.Op.fieldAddr 55 (Go.Operand.tmp 3) 3, type := 0, pos := "tree.go:145", after := #[{ on := 7, ground := Go.Ground.guard }], guard := some (7, true) }) (v := ?_) rfl (by kernel_rfl) (by kernel_rfl) (by kernel_rfl) (fun _ _ _ h => h) (Or.inl ⟨by rfl, ?_⟩) hHeld ?_
        rotate_left 1
        · (intro wq hSq; (try dsimp only at hSq); go_simp; first | done | with_reducible rfl)
        try simp only [Act.put, List.setIfInBounds_toArray, List.set_cons_zero, List.set_cons_succ]
        refine wpAnyH_take (i := 9) (oi := { dst := some 25, op := Go.Op.load 3 (Go.Operand.tmp 24), type := 3, pos := "tree.go:145", after := #[{ on := 8, ground := Go.Ground.data }, { on := 7, ground := Go.Ground.guard }], guard := some (7, true) }) (v := ?_) rfl (by kernel_rfl) (by kernel_rfl) (by kernel_rfl) (fun _ _ _ h => h) (Or.inl ⟨by rfl, ?_⟩) hHeld ?_
        rotate_left 1
        · (intro wq hSq; (try dsimp only at hSq); have c := hSq.1; go_simp; first | done | with_reducible rfl)
        try simp only [Act.put, List.setIfInBounds_toArray, List.set_cons_zero, List.set_cons_succ]
        refine wpAnyH_take (i := 10) (oi := { dst := some 26, op := Go.Op.binOp Go.BinOp.leq 3 (Go.Operand.tmp 25) (Go.Operand.const (Go.Value.int Go.IntKind.i64 9)) 3, type := 4, pos := "tree.go:145", after := #[{ on := 9, ground := Go.Ground.data }, { on := 7, ground := Go.Ground.guard }], guard := some (7, true) }) (v := .bool false) rfl (by kernel_rfl) (by kernel_rfl) (by kernel_rfl) (fun _ _ _ h => h) (Or.inl ⟨by rfl, ?_⟩) hHeld ?_
        · (intro wq hSq; (try dsimp only at hSq); go_simp; first | done | with_reducible rfl)
        try simp only [Act.put, List.setIfInBounds_toArray, List.set_cons_zero, List.set_cons_succ]
        refine wpAnyH_take (i := 11) (oi := { dst := some 27, op := Go.Op.pick (Go.Operand.tmp 23) (Go.Operand.tmp 26) (Go.Operand.const (Go.Value.bool false)), type := 4, pos := "tree.go:145", after := #[{ on := 7, ground := Go.Ground.data }, { on := 10, ground := Go.Ground.data }], guard := none }) (v := .bool false) rfl (by kernel_rfl) (by kernel_rfl) (by kernel_rfl) (fun _ _ _ h => h) (Or.inl ⟨by rfl, ?_⟩) hHeld ?_
        · (intro wq hSq; (try dsimp only at hSq); go_simp; first | done | with_reducible rfl)
        try simp only [Act.put, List.setIfInBounds_toArray, List.set_cons_zero, List.set_cons_succ]
        refine wpAnyH_take (i := 12) (oi := { dst := some 4, op := Go.Op.assign (Go.Operand.tmp 27), type := 4, pos := "tree.go:145", after := #[{ on := 11, ground := Go.Ground.data }, { on := 7, ground := Go.Ground.chain }, { on := 0, ground := Go.Ground.phase }, { on := 1, ground := Go.Ground.phase }, { on := 2, ground := Go.Ground.phase }, { on := 3, ground := Go.Ground.phase }, { on := 4, ground := Go.Ground.phase }, { on := 5, ground := Go.Ground.phase }, { on := 6, ground := Go.Ground.phase }, { on := 7, ground := Go.Ground.phase }, { on := 8, ground := Go.Ground.phase }, { on := 9, ground := Go.Ground.phase }, { on := 10, ground := Go.Ground.phase }, { on := 11, ground := Go.Ground.phase }], guard := none }) (v := ?_) rfl (by kernel_rfl) (by kernel_rfl) (by kernel_rfl) (fun _ _ _ h => h) (Or.inl ⟨by rfl, ?_⟩) hHeld ?_
        rotate_left 1
        · (intro wq hSq; (try dsimp only at hSq); go_simp; first | done | with_reducible rfl)
        try simp only [Act.put, List.setIfInBounds_toArray, List.set_cons_zero, List.set_cons_succ]
        refine wpAnyH_done (by kernel_rfl) ?_ _
        refine NoPanic.normal ?_
        go_wp2
        go_ret
        exact ⟨ret_bool HE.out, HC1.out, HG1.out⟩
    · have hn2 : (nn == b + 1) = false := by simpa using hn
      have HE : Hid (false = (stepN ⟨6, c, x0, x1, x2, x3, nn, lo, hi⟩ ⟨b, e⟩).isSome) := by unfold Hid stepN; rw [if_pos rfl, if_neg (fun q => hn q.1)]; rfl
      have hz : (w.setCell ⟨g, 1, none⟩ (.int .i64 (b + 1))).heap.size = w.heap.size := by simp [World.setCell]
      have X1 : BoxN 55 ((w.setCell ⟨g, 1, none⟩ (.int .i64 (b + 1))).alloc (.cells #[.int .i64 6, .int .u8 (c : Int), .int .u64 (x0 : Int), .int .u64 x1, .int .u64 x2, .int .u64 x3, .int .i64 nn, .int .i64 lo, .int .i64 hi, u] 55)) w.heap.size ⟨6, c, x0, x1, x2, x3, nn, lo, hi⟩ u := by
        have q := BoxN.new 55 (w.setCell ⟨g, 1, none⟩ (.int .i64 (b + 1))) ⟨6, c, x0, x1, x2, x3, nn, lo, hi⟩ u
        rw [hz] at q; exact q
      have HC1 : Hid (CBox ((w.setCell ⟨g, 1, none⟩ (.int .i64 (b + 1))).alloc (.cells #[.int .i64 6, .int .u8 (c : Int), .int .u64 (x0 : Int), .int .u64 x1, .int .u64 x2, .int .u64 x3, .int .i64 nn, .int .i64 lo, .int .i64 hi, u] 55)).drew g m ⟨b + 1, e⟩) := ((hc.set1 (b + 1)).blk (w' := ((w.setCell ⟨g, 1, none⟩ (.int .i64 (b + 1))).alloc (.cells #[.int .i64 6, .int .u8 (c : Int), .int .u64 (x0 : Int), .int .u64 x1, .int .u64 x2, .int .u64 x3, .int .i64 nn, .int .i64 lo, .int .i64 hi, u] 55))) (Below.heap_alloc _ _ _ (by rw [hz]; exact hlt))).blk rfl
      have HS0 : Hid (((w.setCell ⟨g, 1, none⟩ (.int .i64 (b + 1))).alloc (.cells #[.int .i64 6, .int .u8 (c : Int), .int .u64 (x0 : Int), .int .u64 x1, .int .u64 x2, .int .u64 x3, .int .i64 nn, .int .i64 lo, .int .i64 hi, u] 55)).drew.cell? ⟨w.heap.size, 6, none⟩ = some (.int .i64 nn) ∧ ((w.setCell ⟨g, 1, none⟩ (.int .i64 (b + 1))).alloc (.cells #[.int .i64 6, .int .u8 (c : Int), .int .u64 (x0 : Int), .int .u64 x1, .int .u64 x2, .int .u64 x3, .int .i64 nn, .int .i64 lo, .int .i64 hi, u] 55)).drew.cell? ⟨g, 1, none⟩ = some (.int .i64 (b + 1))) :=
        ⟨X1.cell 6 _ rfl, HC1.out.cell 1 _ rfl⟩
      have HG1 : Hid (w.grownBy ((w.setCell ⟨g, 1, none⟩ (.int .i64 (b + 1))).alloc (.cells #[.int .i64 6, .int .u8 (c : Int), .int .u64 (x0 : Int), .int .u64 x1, .int .u64 x2, .int .u64 x3, .int .i64 nn, .int .i64 lo, .int .i64 hi, u] 55)).drew (some g)) := by
        have q := grown_set (grown_of_below (Below.refl w.heap.size w) (some g)) 1 (.int .i64 (b + 1))
        have r := q.trans (grown_of_below ((Below.refl _ (w.setCell ⟨g, 1, none⟩ (.int .i64 (b + 1)))).alloc (Nat.le_refl _) (.cells #[.int .i64 6, .int .u8 (c : Int), .int .u64 (x0 : Int), .int .u64 x1, .int .u64 x2, .int .u64 x3, .int .i64 nn, .int .i64 lo, .int .i64 hi, u] 55)) (some g))
        exact ⟨r.os, r.tape, r.output, r.size, r.block⟩
      have c1 := hc.cell 1 _ rfl
      have f1 : w.frozen? ⟨g, 1, none⟩ = false := unfrozen hc
      clear hc hz X1
      go_enter Try.func87, Try.ntmps87
      go_wp2
      refine wp_region_noPanic ?_
      refine wp_region_held_drew (S := fun W => W.cell? ⟨w.heap.size, 6, none⟩ = some (.int .i64 nn) ∧ W.cell? ⟨g, 1, none⟩ = some (.int .i64 (b + 1))) (by kernel_rfl) (HS0.out) (fun hHeld => ?_)
      try simp only [Act.put, List.setIfInBounds_toArray, List.set_cons_zero, List.set_cons_succ]
      refine wpAnyH_take (i := 0) (oi := { dst := some 16, op := Go.Op.fieldAddr 55 (Go.Operand.tmp 3) 3, type := 0, pos := "tree.go:145", after := #[], guard := none }) (v := ?_) rfl (by kernel_rfl) (by kernel_rfl) (by kernel_rfl) (fun _ _ _ h => h) (Or.inl ⟨by rfl, ?_⟩) hHeld ?_
      rotate_left 1
      · (intro wq hSq; (try dsimp only at hSq); go_simp; first | done | with_reducible rfl)
      try simp only [Act.put, List.setIfInBounds_toArray, List.set_cons_zero, List.set_cons_succ]
      refine wpAnyH_take (i := 1) (oi := { dst := some 17, op := Go.Op.load 3 (Go.Operand.tmp 16), type := 3, pos := "tree.go:145", after := #[{ on := 0, ground := Go.Ground.data }], guard := none }) (v := ?_) rfl (by kernel_rfl) (by kernel_rfl) (by kernel_rfl) (fun _ _ _ h => h) (Or.inl ⟨by rfl, ?_⟩) hHeld ?_
      rotate_left 1
      · (intro wq hSq; (try dsimp only at hSq); have c := hSq.1; go_simp; first | done | with_reducible rfl)
      try simp only [Act.put, List.setIfInBounds_toArray, List.set_cons_zero, List.set_cons_succ]
      refine wpAnyH_take (i := 2) (oi := { dst := some 18, op := Go.Op.move (Go.Operand.tmp 0), type := 115, pos := "tree.go:145", after := #[], guard := none }) (v := ?_) rfl (by kernel_rfl) (by kernel_rfl) (by kernel_rfl) (fun _ _ _ h => h) (Or.inl ⟨by rfl, ?_⟩) hHeld ?_
      rotate_left 1
      · (intro wq hSq; (try dsimp only at hSq); go_simp; first | done | with_reducible rfl)
      try simp only [Act.put, List.setIfInBounds_toArray, List.set_cons_zero, List.set_cons_succ]
      refine wpAnyH_take (i := 3) (oi := { dst := some 19, op := Go.Op.nilCheck (Go.Operand.tmp 18), type := 0, pos := "tree.go:145", after := #[{ on := 2, ground := Go.Ground.data }], guard := none }) (v := ?_) rfl (by kernel_rfl) (by kernel_rfl) (by kernel_rfl) (fun _ _ _ h => h) (Or.inl ⟨by rfl, ?_⟩) hHeld ?_
      rotate_left 1
      · (intro wq hSq; (try dsimp only at hSq); go_simp; first | done | with_reducible rfl)
      try simp only [Act.put, List.setIfInBounds_toArray, List.set_cons_zero, List.set_cons_succ]
      refine wpAnyH_take (i := 4) (oi := { dst := some 20, op := Go.Op.fieldAddr 84 (Go.Operand.tmp 19) 1, type := 0, pos := "tree.go:145", after := #[{ on := 3, ground := Go.Ground.data }], guard := none }) (v := ?_) rfl (by kernel_rfl) (by kernel_rfl) (by kernel_rfl) (fun _ _ _ h => h) (Or.inl ⟨by rfl, ?_⟩) hHeld ?_
      rotate_left 1
      · (intro wq hSq; (try dsimp only at hSq); go_simp; first | done | with_reducible rfl)
      try simp only [Act.put, List.setIfInBounds_toArray, List.set_cons_zero, List.set_cons_succ]
      refine wpAnyH_take (i := 5) (oi := { dst := some 21, op := Go.Op.load 3 (Go.Operand.tmp 20), type := 3, pos := "tree.go:145", after := #[{ on := 4, ground := Go.Ground.data }], guard := none }) (v := ?_) rfl (by kernel_rfl) (by kernel_rfl) (by kernel_rfl) (fun _ _ _ h => h) (Or.inl ⟨by rfl, ?_⟩) hHeld ?_
      rotate_left 1
      · (intro wq hSq; (try dsimp only at hSq); have c := hSq.2; go_simp; first | done | with_reducible rfl)
      try simp only [Act.put, List.setIfInBounds_toArray, List.set_cons_zero, List.set_cons_succ]
      refine wpAnyH_take (i := 6) (oi := { dst := some 22, op := Go.Op.binOp Go.BinOp.eql 3 (Go.Operand.tmp 17) (Go.Operand.tmp 21) 3, type := 4, pos := "tree.go:145", after := #[{ on := 1, ground := Go.Ground.data }, { on := 5, ground := Go.Ground.data }], guard := none }) (v := .bool false) rfl (by kernel_rfl) (by kernel_rfl) (by kernel_rfl) (fun _ _ _ h => h) (Or.inl ⟨by rfl, ?_⟩) hHeld ?_
      · (intro wq hSq; (try dsimp only at hSq); go_simp; first | done | with_reducible rfl)
      try simp only [Act.put, List.setIfInBounds_toArray, List.set_cons_zero, List.set_cons_succ]
      refine wpAnyH_take (i := 7) (oi := { dst := some 23, op := Go.Op.move (Go.Operand.tmp 22), type := 4, pos := "tree.go:145", after := #[{ on := 6, ground := Go.Ground.data }], guard := none }) (v := ?_) rfl (by kernel_rfl) (by kernel_rfl) (by kernel_rfl) (fun _ _ _ h => h) (Or.inl ⟨by rfl, ?_⟩) hHeld ?_
      rotate_left 1
      · (intro wq hSq; (try dsimp only at hSq); go_simp; first | done | with_reducible rfl)
      try simp only [Act.put, List.setIfInBounds_toArray, List.set_cons_zero, List.set_cons_succ]
      refine wpAnyH_take (i := 8) (oi := { dst := some 24, op := Go.Op.fieldAddr 55 (Go.Operand.tmp 3) 3, type := 0, pos := "tree.go:145", after := #[{ on := 7, ground := Go.Ground.guard }], guard := some (7, true) }) (v := undef) rfl (by kernel_rfl) (by kernel_rfl) (by kernel_rfl) (fun _ _ _ h => h) (Or.inr ⟨by rfl, rfl⟩) hHeld ?_
      try simp only [Act.put, List.setIfInBounds_toArray, List.set_cons_zero, List.set_cons_succ]
      refine wpAnyH_take (i := 9) (oi := { dst := some 25, op := Go.Op.load 3 (Go.Operand.tmp 24), type := 3, pos := "tree.go:145", after := #[{ on := 8, ground := Go.Ground.data }, { on := 7, ground := Go.Ground.guard }], guard := some (7, true) }) (v := undef) rfl (by kernel_rfl) (by kernel_rfl) (by kernel_rfl) (fun _ _ _ h => h) (Or.inr ⟨by rfl, rfl⟩) hHeld ?_
      try simp only [Act.put, List.setIfInBounds_toArray, List.set_cons_zero, List.set_cons_succ]
      refine wpAnyH_take (i := 10) (oi := { dst := some 26, op := Go.Op.binOp Go.BinOp.leq 3 (Go.Operand.tmp 25) (Go.Operand.const (Go.Value.int Go.IntKind.i64 9)) 3, type := 4, pos := "tree.go:145", after := #[{ on := 9, ground := Go.Ground.data }, { on := 7, ground := Go.Ground.guard }], guard := some (7, true) }) (v := undef) rfl (by kernel_rfl) (by kernel_rfl) (by kernel_rfl) (fun _ _ _ h => h) (Or.inr ⟨by rfl, rfl⟩) hHeld ?_
      try simp only [Act.put, List.setIfInBounds_toArray, List.set_cons_zero, List.set_cons_succ]
      refine wpAnyH_take (i := 11) (oi := { dst := some 27, op := Go.Op.pick (Go.Operand.tmp 23) (Go.Operand.tmp 26) (Go.Operand.const (Go.Value.bool false)), type := 4, pos := "tree.go:145", after := #[{ on := 7, ground := Go.Ground.data }, { on := 10, ground := Go.Ground.data }], guard := none }) (v := .bool false) rfl (by kernel_rfl) (by kernel_rfl) (by kernel_rfl) (fun _ _ _ h => h) (Or.inl ⟨by rfl, ?_⟩) hHeld ?_
      · (intro wq hSq; (try dsimp only at hSq); go_simp; first | done | with_reducible rfl)
      try simp only [Act.put, List.setIfInBounds_toArray, List.set_cons_zero, List.set_cons_succ]
      refine wpAnyH_take (i := 12) (oi := { dst := some 4, op := Go.Op.assign (Go.Operand.tmp 27), type := 4, pos := "tree.go:145", after := #[{ on := 11, ground := Go.Ground.data }, { on := 7, ground := Go.Ground.chain }, { on := 0, ground := Go.Ground.phase }, { on := 1, ground := Go.Ground.phase }, { on := 2, ground := Go.Ground.phase }, { on := 3, ground := Go.Ground.phase }, { on := 4, ground := Go.Ground.phase }, { on := 5, ground := Go.Ground.phase }, { on := 6, ground := Go.Ground.phase }, { on := 7, ground := Go.Ground.phase }, { on := 8, ground := Go.Ground.phase }, { on := 9, ground := Go.Ground.phase }, { on := 10, ground := Go.Ground.phase }, { on := 11, ground := Go.Ground.phase }], guard := none }) (v := ?_) rfl (by kernel_rfl) (by kernel_rfl) (by kernel_rfl) (fun _ _ _ h => h) (Or.inl ⟨by rfl, ?_⟩) hHeld ?_
      rotate_left 1
      · (intro wq hSq; (try dsimp only at hSq); go_simp; first | done | with_reducible rfl)
      try simp only [Act.put, List.setIfInBounds_toArray, List.set_cons_zero, List.set_cons_succ]
      refine wpAnyH_done (by kernel_rfl) ?_ _
      refine NoPanic.normal ?_
      go_wp2
      go_ret
      exact ⟨ret_bool HE.out, HC1.out, HG1.out⟩
  · by_cases k7 : k = 7
    · subst k7
      rw [show stepS ⟨7, c, x0, x1, x2, x3, nn, lo, hi⟩ ⟨b, e⟩ = ⟨b, e⟩ from rfl]
      by_cases i1 : 1 ≤ nn
      · by_cases i9 : nn ≤ 9
        · have i0 : (0 : Int) ≤ nn := by omega
          have i10 : nn < 10 := by omega
          have B1 : Below w.heap.size w (w.alloc (.cells #[.int .i64 7, .int .u8 (c : Int), .int .u64 (x0 : Int), .int .u64 x1, .int .u64 x2, .int .u64 x3, .int .i64 nn, .int .i64 lo, .int .i64 hi, u] 55)) := (Below.refl _ _).alloc (Nat.le_refl _) _
          have X1 : BoxN 55 (w.alloc (.cells #[.int .i64 7, .int .u8 (c : Int), .int .u64 (x0 : Int), .int .u64 x1, .int .u64 x2, .int .u64 x3, .int .i64 nn, .int .i64 lo, .int .i64 hi, u] 55)) w.heap.size ⟨7, c, x0, x1, x2, x3, nn, lo, hi⟩ u := BoxN.new 55 w ⟨7, c, x0, x1, x2, x3, nn, lo, hi⟩ u
          have HC1 : Hid (CBox (w.alloc (.cells #[.int .i64 7, .int .u8 (c : Int), .int .u64 (x0 : Int), .int .u64 x1, .int .u64 x2, .int .u64 x3, .int .i64 nn, .int .i64 lo, .int .i64 hi, u] 55)).drew g m ⟨b, e⟩) := (hc.blk (B1.block g hlt)).blk rfl
          obtain ⟨E, hE⟩ : ∃ E, E = e.getD nn.toNat false := ⟨_, rfl⟩
          have hE2 : 1 ≤ nn → nn ≤ 9 → e[nn.toNat]? = some E := fun q1 q2 => by
            rw [hE, List.getD_eq_getElem?_getD, List.getElem?_eq_getElem (by omega)]; rfl
          have HS0 : Hid ((w.alloc (.cells #[.int .i64 7, .int .u8 (c : Int), .int .u64 (x0 : Int), .int .u64 x1, .int .u64 x2, .int .u64 x3, .int .i64 nn, .int .i64 lo, .int .i64 hi, u] 55)).drew.cell? ⟨w.heap.size, 6, none⟩ = some (.int .i64 nn) ∧ (1 ≤ nn → nn ≤ 9 → (w.alloc (.cells #[.int .i64 7, .int .u8 (c : Int), .int .u64 (x0 : Int), .int .u64 x1, .int .u64 x2, .int .u64 x3, .int .i64 nn, .int .i64 lo, .int .i64 hi, u] 55)).drew.cell? ⟨g, 2 + nn.toNat, none⟩ = some (.bool E))) :=
            ⟨X1.cell 6 _ rfl, fun q1 q2 => HC1.out.cell _ _ (by rw [show 2 + nn.toNat = nn.toNat + 1 + 1 by omega]; show (e.map Value.bool)[nn.toNat]? = _; rw [List.getElem?_map, hE2 q1 q2]; rfl)⟩
          have HG1 : Hid (w.grownBy (w.alloc (.cells #[.int .i64 7, .int .u8 (c : Int), .int .u64 (x0 : Int), .int .u64 x1, .int .u64 x2, .int .u64 x3, .int .i64 nn, .int .i64 lo, .int .i64 hi, u] 55)).drew (some g)) := by
            have q := grown_of_below B1 (some g)
            exact ⟨q.os, q.tape, q.output, q.size, q.block⟩
          have HE2 : Hid (1 ≤ nn → nn ≤ 9 → e[nn.toNat]? = some E) := hE2
          have HE : Hid (E = (stepN ⟨7, c, x0, x1, x2, x3, nn, lo, hi⟩ ⟨b, e⟩).isSome) := by
            unfold Hid stepN; rw [if_neg (by show ¬ (7 : Int) = 6; omega), if_pos rfl, hE2 i1 i9]; cases E
            · rw [if_neg (by intro q; have := q.2.2; cases this)]; rfl
            · rw [if_pos ⟨i1, i9, rfl⟩]; rfl
          clear hc B1 X1 hE hE2
          go_enter Try.func87, Try.ntmps87
          go_wp2
          refine wp_region_noPanic ?_
          refine wp_region_held_drew (S := fun W => W.cell? ⟨w.heap.size, 6, none⟩ = some (.int .i64 nn) ∧ (1 ≤ nn → nn ≤ 9 → W.cell? ⟨g, 2 + nn.toNat, none⟩ = some (.bool E))) (by kernel_rfl) (HS0.out) (fun hHeld => ?_)
          try simp only [Act.put, List.setIfInBounds_toArray, List.set_cons_zero, List.set_cons_succ]
          refine wpAnyH_take (i := 0) (oi := { dst := some 30, op := Go.Op.fieldAddr 55 (Go.Operand.tmp 3) 3, type := 0, pos := "tree.go:147", after := #[], guard := none }) (v := ?_) rfl (by kernel_rfl) (by kernel_rfl) (by kernel_rfl) (fun _ _ _ h => h) (Or.inl ⟨by rfl, ?_⟩) hHeld ?_
          rotate_left 1
          · (intro wq hSq; (try dsimp only at hSq); go_simp; first | done | with_reducible rfl)
          try simp only [Act.put, List.setIfInBounds_toArray, List.set_cons_zero, List.set_cons_succ]
          refine wpAnyH_take (i := 1) (oi := { dst := some 31, op := Go.Op.load 3 (Go.Operand.tmp 30), type := 3, pos := "tree.go:147", after := #[{ on := 0, ground := Go.Ground.data }], guard := none }) (v := ?_) rfl (by kernel_rfl) (by kernel_rfl) (by kernel_rfl) (fun _ _ _ h => h) (Or.inl ⟨by rfl, ?_⟩) hHeld ?_
          rotate_left 1
          · (intro wq hSq; (try dsimp only at hSq); have c := hSq.1; go_simp; first | done | with_reducible rfl)
          try simp only [Act.put, List.setIfInBounds_toArray, List.set_cons_zero, List.set_cons_succ]
          refine wpAnyH_take (i := 2) (oi := { dst := some 32, op := Go.Op.binOp Go.BinOp.geq 3 (Go.Operand.tmp 31) (Go.Operand.const (Go.Value.int Go.IntKind.i64 1)) 3, type := 4, pos := "tree.go:147", after := #[{ on := 1, ground := Go.Ground.data }], guard := none }) (v := .bool true) rfl (by kernel_rfl) (by kernel_rfl) (by kernel_rfl) (fun _ _ _ h => h) (Or.inl ⟨by rfl, ?_⟩) hHeld ?_
          · (intro wq hSq; (try dsimp only at hSq); go_simp; first | done | with_reducible rfl)
          try simp only [Act.put, List.setIfInBounds_toArray, List.set_cons_zero, List.set_cons_succ]
          refine wpAnyH_take (i := 3) (oi := { dst := some 33, op := Go.Op.move (Go.Operand.tmp 32), type := 4, pos := "tree.go:147", after := #[{ on := 2, ground := Go.Ground.data }], guard := none }) (v := ?_) rfl (by kernel_rfl) (by kernel_rfl) (by kernel_rfl) (fun _ _ _ h => h) (Or.inl ⟨by rfl, ?_⟩) hHeld ?_
          rotate_left 1
          · (intro wq hSq; (try dsimp only at hSq); go_simp; first | done | with_reducible rfl)
          try simp only [Act.put, List.setIfInBounds_toArray, List.set_cons_zero, List.set_cons_succ]
          refine wpAnyH_take (i := 4) (oi := { dst := some 34, op := Go.Op.fieldAddr 55 (Go.Operand.tmp 3) 3, type := 0, pos := "tree.go:147", after := #[{ on := 3, ground := Go.Ground.guard }], guard := some (3, true) }) (v := ?_) rfl (by kernel_rfl) (by kernel_rfl) (by kernel_rfl) (fun _ _ _ h => h) (Or.inl ⟨by rfl, ?_⟩) hHeld ?_
          rotate_left 1
          · (intro wq hSq; (try dsimp only at hSq); go_simp; first | done | with_reducible rfl)
          try simp only [Act.put, List.setIfInBounds_toArray, List.set_cons_zero, List.set_cons_succ]
          refine wpAnyH_take (i := 5) (oi := { dst := some 35, op := Go.Op.load 3 (Go.Operand.tmp 34), type := 3, pos := "tree.go:147", after := #[{ on := 4, ground := Go.Ground.data }, { on := 3, ground := Go.Ground.guard }], guard := some (3, true) }) (v := ?_) rfl (by kernel_rfl) (by kernel_rfl) (by kernel_rfl) (fun _ _ _ h => h) (Or.inl ⟨by rfl, ?_⟩) hHeld ?_
          rotate_left 1
          · (intro wq hSq; (try dsimp only at hSq); have c := hSq.1; go_simp; first | done | with_reducible rfl)
          try simp only [Act.put, List.setIfInBounds_toArray, List.set_cons_zero, List.set_cons_succ]
          refine wpAnyH_take (i := 6) (oi := { dst := some 36, op := Go.Op.binOp Go.BinOp.leq 3 (Go.Operand.tmp 35) (Go.Operand.const (Go.Value.int Go.IntKind.i64 9)) 3, type := 4, pos := "tree.go:147", after := #[{ on := 5, ground := Go.Ground.data }, { on := 3, ground := Go.Ground.guard }], guard := some (3, true) }) (v := .bool true) rfl (by kernel_rfl) (by kernel_rfl) (by kernel_rfl) (fun _ _ _ h => h) (Or.inl ⟨by rfl, ?_⟩) hHeld ?_
          · (intro wq hSq; (try dsimp only at hSq); go_simp; first | done | with_reducible rfl)
          try simp only [Act.put, List.setIfInBounds_toArray, List.set_cons_zero, List.set_cons_succ]
          refine wpAnyH_take (i := 7) (oi := { dst := some 37, op := Go.Op.pick (Go.Operand.tmp 33) (Go.Operand.tmp 36) (Go.Operand.const (Go.Value.bool false)), type := 4, pos := "tree.go:147", after := #[{ on := 3, ground := Go.Ground.data }, { on := 6, ground := Go.Ground.data }], guard := none }) (v := .bool true) rfl (by kernel_rfl) (by kernel_rfl) (by kernel_rfl) (fun _ _ _ h => h) (Or.inl ⟨by rfl, ?_⟩) hHeld ?_
          · (intro wq hSq; (try dsimp only at hSq); go_simp; first | done | with_reducible rfl)
          try simp only [Act.put, List.setIfInBounds_toArray, List.set_cons_zero, List.set_cons_succ]
          refine wpAnyH_take (i := 8) (oi := { dst := some 38, op := Go.Op.move (Go.Operand.tmp 37), type := 4, pos := "tree.go:147", after := #[{ on := 7, ground := Go.Ground.data }, { on := 3, ground := Go.Ground.chain }], guard := none }) (v := ?_) rfl (by kernel_rfl) (by kernel_rfl) (by kernel_rfl) (fun _ _ _ h => h) (Or.inl ⟨by rfl, ?_⟩) hHeld ?_
          rotate_left 1
          · (intro wq hSq; (try dsimp only at hSq); go_simp; first | done | with_reducible rfl)
          try simp only [Act.put, List.setIfInBounds_toArray, List.set_cons_zero, List.set_cons_succ]
          refine wpAnyH_take (i := 9) (oi := { dst := some 39, op := Go.Op.move (Go.Operand.tmp 0), type := 115, pos := "tree.go:147", after := #[{ on := 8, ground := Go.Ground.guard }], guard := some (8, true) }) (v := ?_) rfl (by kernel_rfl) (by kernel_rfl) (by kernel_rfl) (fun _ _ _ h => h) (Or.inl ⟨by rfl, ?_⟩) hHeld ?_
          rotate_left 1
          · (intro wq hSq; (try dsimp only at hSq); go_simp; first | done | with_reducible rfl)
          try simp only [Act.put, List.setIfInBounds_toArray, List.set_cons_zero, List.set_cons_succ]
          refine wpAnyH_take (i := 10) (oi := { dst := some 40, op := Go.Op.fieldAddr 55 (Go.Operand.tmp 3) 3, type := 0, pos := "tree.go:147", after := #[{ on := 8, ground := Go.Ground.guard }], guard := some (8, true) }) (v := ?_) rfl (by kernel_rfl) (by kernel_rfl) (by kernel_rfl) (fun _ _ _ h => h) (Or.inl ⟨by rfl, ?_⟩) hHeld ?_
          rotate_left 1
          · (intro wq hSq; (try dsimp only at hSq); go_simp; first | done | with_reducible rfl)
          try simp only [Act.put, List.setIfInBounds_toArray, List.set_cons_zero, List.set_cons_succ]
          refine wpAnyH_take (i := 11) (oi := { dst := some 41, op := Go.Op.load 3 (Go.Operand.tmp 40), type := 3, pos := "tree.go:147", after := #[{ on := 10, ground := Go.Ground.data }, { on := 8, ground := Go.Ground.guard }], guard := some (8, true) }) (v := ?_) rfl (by kernel_rfl) (by kernel_rfl) (by kernel_rfl) (fun _ _ _ h => h) (Or.inl ⟨by rfl, ?_⟩) hHeld ?_
          rotate_left 1
          · (intro wq hSq; (try dsimp only at hSq); have c := hSq.1; go_simp; first | done | with_reducible rfl)
          try simp only [Act.put, List.setIfInBounds_toArray, List.set_cons_zero, List.set_cons_succ]
          refine wpAnyH_take (i := 12) (oi := { dst := some 42, op := Go.Op.nilCheck (Go.Operand.tmp 39), type := 0, pos := "tree.go:147", after := #[{ on := 9, ground := Go.Ground.data }, { on := 8, ground := Go.Ground.guard }], guard := some (8, true) }) (v := ?_) rfl (by kernel_rfl) (by kernel_rfl) (by kernel_rfl) (fun _ _ _ h => h) (Or.inl ⟨by rfl, ?_⟩) hHeld ?_
          rotate_left 1
          · (intro wq hSq; (try dsimp only at hSq); go_simp; first | done | with_reducible rfl)
          try simp only [Act.put, List.setIfInBounds_toArray, List.set_cons_zero, List.set_cons_succ]
          refine wpAnyH_take (i := 13) (oi := { dst := some 43, op := Go.Op.fieldAddr 84 (Go.Operand.tmp 42) 2, type := 0, pos := "tree.go:147", after := #[{ on := 12, ground := Go.Ground.data }, { on := 8, ground := Go.Ground.guard }], guard := some (8, true) }) (v := ?_) rfl (by kernel_rfl) (by kernel_rfl) (by kernel_rfl) (fun _ _ _ h => h) (Or.inl ⟨by rfl, ?_⟩) hHeld ?_
          rotate_left 1
          · (intro wq hSq; (try dsimp only at hSq); go_simp; first | done | with_reducible rfl)
          try simp only [Act.put, List.setIfInBounds_toArray, List.set_cons_zero, List.set_cons_succ]
          refine wpAnyH_take (i := 14) (oi := { dst := some 44, op := Go.Op.indexAddr 82 (Go.Operand.tmp 43) (Go.Operand.tmp 41), type := 0, pos := "tree.go:147", after := #[{ on := 13, ground := Go.Ground.data }, { on := 11, ground := Go.Ground.data }, { on := 8, ground := Go.Ground.guard }], guard := some (8, true) }) (v := ?_) rfl (by kernel_rfl) (by kernel_rfl) (by kernel_rfl) (fun _ _ _ h => h) (Or.inl ⟨by rfl, ?_⟩) hHeld ?_
          rotate_left 1
          · (intro wq hSq; (try dsimp only at hSq); go_simp; first | done | with_reducible rfl)
          try simp only [Act.put, List.setIfInBounds_toArray, List.set_cons_zero, List.set_cons_succ]
          refine wpAnyH_take (i := 15) (oi := { dst := some 45, op := Go.Op.load 4 (Go.Operand.tmp 44), type := 4, pos := "tree.go:147", after := #[{ on := 14, ground := Go.Ground.data }, { on := 8, ground := Go.Ground.guard }], guard := some (8, true) }) (v := ?_) rfl (by kernel_rfl) (by kernel_rfl) (by kernel_rfl) (fun _ _ _ h => h) (Or.inl ⟨by rfl, ?_⟩) hHeld ?_
          rotate_left 1
          · (intro wq hSq; (try dsimp only at hSq); have c := hSq.2 i1 i9; go_simp; first | done | with_reducible rfl)
          try simp only [Act.put, List.setIfInBounds_toArray, List.set_cons_zero, List.set_cons_succ]
          refine wpAnyH_take (i := 16) (oi := { dst := some 46, op := Go.Op.pick (Go.Operand.tmp 38) (Go.Operand.tmp 45) (Go.Operand.const (Go.Value.bool false)), type := 4, pos := "tree.go:147", after := #[{ on := 8, ground := Go.Ground.data }, { on := 15, ground := Go.Ground.data }], guard := none }) (v := .bool E) rfl (by kernel_rfl) (by kernel_rfl) (by kernel_rfl) (fun _ _ _ h => h) (Or.inl ⟨by rfl, ?_⟩) hHeld ?_
          · (intro wq hSq; (try dsimp only at hSq); go_simp; first | done | with_reducible rfl)
          try simp only [Act.put, List.setIfInBounds_toArray, List.set_cons_zero, List.set_cons_succ]
          refine wpAnyH_take (i := 17) (oi := { dst := some 4, op := Go.Op.assign (Go.Operand.tmp 46), type := 4, pos := "tree.go:147", after := #[{ on := 16, ground := Go.Ground.data }, { on := 8, ground := Go.Ground.chain }, { on := 0, ground := Go.Ground.phase }, { on := 1, ground := Go.Ground.phase }, { on := 2, ground := Go.Ground.phase }, { on := 3, ground := Go.Ground.phase }, { on := 4, ground := Go.Ground.phase }, { on := 5, ground := Go.Ground.phase }, { on := 6, ground := Go.Ground.phase }, { on := 7, ground := Go.Ground.phase }, { on := 8, ground := Go.Ground.phase }, { on := 9, ground := Go.Ground.phase }, { on := 10, ground := Go.Ground.phase }, { on := 11, ground := Go.Ground.phase }, { on := 12, ground := Go.Ground.phase }, { on := 13, ground := Go.Ground.phase }, { on := 14, ground := Go.Ground.phase }, { on := 15, ground := Go.Ground.phase }, { on := 16, ground := Go.Ground.phase }], guard := none }) (v := ?_) rfl (by kernel_rfl) (by kernel_rfl) (by kernel_rfl) (fun _ _ _ h => h) (Or.inl ⟨by rfl, ?_⟩) hHeld ?_
          rotate_left 1
          · (intro wq hSq; (try dsimp only at hSq); go_simp; first | done | with_reducible rfl)
          try simp only [Act.put, List.setIfInBounds_toArray, List.set_cons_zero, List.set_cons_succ]
          refine wpAnyH_done (by kernel_rfl) ?_ _
          refine NoPanic.normal ?_
          go_wp2
          go_ret
          exact ⟨ret_bool HE.out, HC1.out, HG1.out⟩
        · have i9' : 9 < nn := by omega
          have B1 : Below w.heap.size w (w.alloc (.cells #[.int .i64 7, .int .u8 (c : Int), .int .u64 (x0 : Int), .int .u64 x1, .int .u64 x2, .int .u64 x3, .int .i64 nn, .int .i64 lo, .int .i64 hi, u] 55)) := (Below.refl _ _).alloc (Nat.le_refl _) _
          have X1 : BoxN 55 (w.alloc (.cells #[.int .i64 7, .int .u8 (c : Int), .int .u64 (x0 : Int), .int .u64 x1, .int .u64 x2, .int .u64 x3, .int .i64 nn, .int .i64 lo, .int .i64 hi, u] 55)) w.heap.size ⟨7, c, x0, x1, x2, x3, nn, lo, hi⟩ u := BoxN.new 55 w ⟨7, c, x0, x1, x2, x3, nn, lo, hi⟩ u
          have HC1 : Hid (CBox (w.alloc (.cells #[.int .i64 7, .int .u8 (c : Int), .int .u64 (x0 : Int), .int .u64 x1, .int .u64 x2, .int .u64 x3, .int .i64 nn, .int .i64 lo, .int .i64 hi, u] 55)).drew g m ⟨b, e⟩) := (hc.blk (B1.block g hlt)).blk rfl
          obtain ⟨E, hE⟩ : ∃ E, E = e.getD nn.toNat false := ⟨_, rfl⟩
          have hE2 : 1 ≤ nn → nn ≤ 9 → e[nn.toNat]? = some E := fun q1 q2 => by
            rw [hE, List.getD_eq_getElem?_getD, List.getElem?_eq_getElem (by omega)]; rfl
          have HS0 : Hid ((w.alloc (.cells #[.int .i64 7, .int .u8 (c : Int), .int .u64 (x0 : Int), .int .u64 x1, .int .u64 x2, .int .u64 x3, .int .i64 nn, .int .i64 lo, .int .i64 hi, u] 55)).drew.cell? ⟨w.heap.size, 6, none⟩ = some (.int .i64 nn) ∧ (1 ≤ nn → nn ≤ 9 → (w.alloc (.cells #[.int .i64 7, .int .u8 (c : Int), .int .u64 (x0 : Int), .int .u64 x1, .int .u64 x2, .int .u64 x3, .int .i64 nn, .int .i64 lo, .int .i64 hi, u] 55)).drew.cell? ⟨g, 2 + nn.toNat, none⟩ = some (.bool E))) :=
            ⟨X1.cell 6 _ rfl, fun q1 q2 => HC1.out.cell _ _ (by rw [show 2 + nn.toNat = nn.toNat + 1 + 1 by omega]; show (e.map Value.bool)[nn.toNat]? = _; rw [List.getElem?_map, hE2 q1 q2]; rfl)⟩
          have HG1 : Hid (w.grownBy (w.alloc (.cells #[.int .i64 7, .int .u8 (c : Int), .int .u64 (x0 : Int), .int .u64 x1, .int .u64 x2, .int .u64 x3, .int .i64 nn, .int .i64 lo, .int .i64 hi, u] 55)).drew (some g)) := by
            have q := grown_of_below B1 (some g)
            exact ⟨q.os, q.tape, q.output, q.size, q.block⟩
          have HE2 : Hid (1 ≤ nn → nn ≤ 9 → e[nn.toNat]? = some E) := hE2
          have HE : Hid (false = (stepN ⟨7, c, x0, x1, x2, x3, nn, lo, hi⟩ ⟨b, e⟩).isSome) := by unfold Hid stepN; rw [if_neg (by show ¬ (7 : Int) = 6; omega), if_pos rfl, if_neg (fun q => i9 q.2.1)]; rfl
          clear hc B1 X1 hE hE2
          go_enter Try.func87, Try.ntmps87
          go_wp2
          refine wp_region_noPanic ?_
          refine wp_region_held_drew (S := fun W => W.cell? ⟨w.heap.size, 6, none⟩ = some (.int .i64 nn) ∧ (1 ≤ nn → nn ≤ 9 → W.cell? ⟨g, 2 + nn.toNat, none⟩ = some (.bool E))) (by kernel_rfl) (HS0.out) (fun hHeld => ?_)
          try simp only [Act.put, List.setIfInBounds_toArray, List.set_cons_zero, List.set_cons_succ]
          refine wpAnyH_take (i := 0) (oi := { dst := some 30, op := Go.Op.fieldAddr 55 (Go.Operand.tmp 3) 3, type := 0, pos := "tree.go:147", after := #[], guard := none }) (v := ?_) rfl (by kernel_rfl) (by kernel_rfl) (by kernel_rfl) (fun _ _ _ h => h) (Or.inl ⟨by rfl, ?_⟩) hHeld ?_
          rotate_left 1
          · (intro wq hSq; (try dsimp only at hSq); go_simp; first | done | with_reducible rfl)
          try simp only [Act.put, List.setIfInBounds_toArray, List.set_cons_zero, List.set_cons_succ]
          refine wpAnyH_take (i := 1) (oi := { dst := some 31, op := Go.Op.load 3 (Go.Operand.tmp 30), type := 3, pos := "tree.go:147", after := #[{ on := 0, ground := Go.Ground.data }], guard := none }) (v := ?_) rfl (by kernel_rfl) (by kernel_rfl) (by kernel_rfl) (fun _ _ _ h => h) (Or.inl ⟨by rfl, ?_⟩) hHeld ?_
          rotate_left 1
          · (intro wq hSq; (try dsimp only at hSq); have c := hSq.1; go_simp; first | done | with_reducible rfl)
          try simp only [Act.put, List.setIfInBounds_toArray, List.set_cons_zero, List.set_cons_succ]
          refine wpAnyH_take (i := 2) (oi := { dst := some 32, op := Go.Op.binOp Go.BinOp.geq 3 (Go.Operand.tmp 31) (Go.Operand.const (Go.Value.int Go.IntKind.i64 1)) 3, type := 4, pos := "tree.go:147", after := #[{ on := 1, ground := Go.Ground.data }], guard := none }) (v := .bool true) rfl (by kernel_rfl) (by kernel_rfl) (by kernel_rfl) (fun _ _ _ h => h) (Or.inl ⟨by rfl, ?_⟩) hHeld ?_
          · (intro wq hSq; (try dsimp only at hSq); go_simp; first | done | with_reducible rfl)
          try simp only [Act.put, List.setIfInBounds_toArray, List.set_cons_zero, List.set_cons_succ]
          refine wpAnyH_take (i := 3) (oi := { dst := some 33, op := Go.Op.move (Go.Operand.tmp 32), type := 4, pos := "tree.go:147", after := #[{ on := 2, ground := Go.Ground.data }], guard := none }) (v := ?_) rfl (by kernel_rfl) (by kernel_rfl) (by kernel_rfl) (fun _ _ _ h => h) (Or.inl ⟨by rfl, ?_⟩) hHeld ?_
          rotate_left 1
          · (intro wq hSq; (try dsimp only at hSq); go_simp; first | done | with_reducible rfl)
          try simp only [Act.put, List.setIfInBounds_toArray, List.set_cons_zero, List.set_cons_succ]
          refine wpAnyH_take (i := 4) (oi := { dst := some 34, op := Go.Op.fieldAddr 55 (Go.Operand.tmp 3) 3, type := 0, pos := "tree.go:147", after := #[{ on := 3, ground := Go.Ground.guard }], guard := some (3, true) }) (v := ?_) rfl (by kernel_rfl) (by kernel_rfl) (by kernel_rfl) (fun _ _ _ h => h) (Or.inl ⟨by rfl, ?_⟩) hHeld ?_
          rotate_left 1
          · (intro wq hSq; (try dsimp only at hSq); go_simp; first | done | with_reducible rfl)
          try simp only [Act.put, List.setIfInBounds_toArray, List.set_cons_zero, List.set_cons_succ]
          refine wpAnyH_take (i := 5) (oi := { dst := some 35, op := Go.Op.load 3 (Go.Operand.tmp 34), type := 3, pos := "tree.go:147", after := #[{ on := 4, ground := Go.Ground.data }, { on := 3, ground := Go.Ground.guard }], guard := some (3, true) }) (v := ?_) rfl (by kernel_rfl) (by kernel_rfl) (by kernel_rfl) (fun _ _ _ h => h) (Or.inl ⟨by rfl, ?_⟩) hHeld ?_
          rotate_left 1
          · (intro wq hSq; (try dsimp only at hSq); have c := hSq.1; go_simp; first | done | with_reducible rfl)
          try simp only [Act.put, List.setIfInBounds_toArray, List.set_cons_zero, List.set_cons_succ]
          refine wpAnyH_take (i := 6) (oi := { dst := some 36, op := Go.Op.binOp Go.BinOp.leq 3 (Go.Operand.tmp 35) (Go.Operand.const (Go.Value.int Go.IntKind.i64 9)) 3, type := 4, pos := "tree.go:147", after := #[{ on := 5, ground := Go.Ground.data }, { on := 3, ground := Go.Ground.guard }], guard := some (3, true) }) (v := .bool false) rfl (by kernel_rfl) (by kernel_rfl) (by kernel_rfl) (fun _ _ _ h => h) (Or.inl ⟨by rfl, ?_⟩) hHeld ?_
          · (intro wq hSq; (try dsimp only at hSq); go_simp; first | done | with_reducible rfl)
          try simp only [Act.put, List.setIfInBounds_toArray, List.set_cons_zero, List.set_cons_succ]
          refine wpAnyH_take (i := 7) (oi := { dst := some 37, op := Go.Op.pick (Go.Operand.tmp 33) (Go.Operand.tmp 36) (Go.Operand.const (Go.Value.bool false)), type := 4, pos := "tree.go:147", after := #[{ on := 3, ground := Go.Ground.data }, { on := 6, ground := Go.Ground.data }], guard := none }) (v := .bool false) rfl (by kernel_rfl) (by kernel_rfl) (by kernel_rfl) (fun _ _ _ h => h) (Or.inl ⟨by rfl, ?_⟩) hHeld ?_
          · (intro wq hSq; (try dsimp only at hSq); go_simp; first | done | with_reducible rfl)
          try simp only [Act.put, List.setIfInBounds_toArray, List.set_cons_zero, List.set_cons_succ]
          refine wpAnyH_take (i := 8) (oi := { dst := some 38, op := Go.Op.move (Go.Operand.tmp 37), type := 4, pos := "tree.go:147", after := #[{ on := 7, ground := Go.Ground.data }, { on := 3, ground := Go.Ground.chain }], guard := none }) (v := ?_) rfl (by kernel_rfl) (by kernel_rfl) (by kernel_rfl) (fun _ _ _ h => h) (Or.inl ⟨by rfl, ?_⟩) hHeld ?_
          rotate_left 1
          · (intro wq hSq; (try dsimp only at hSq); go_simp; first | done | with_reducible rfl)
          try simp only [Act.put, List.setIfInBounds_toArray, List.set_cons_zero, List.set_cons_succ]
          refine wpAnyH_take (i := 9) (oi := { dst := some 39, op := Go.Op.move (Go.Operand.tmp 0), type := 115, pos := "tree.go:147", after := #[{ on := 8, ground := Go.Ground.guard }], guard := some (8, true) }) (v := undef) rfl (by kernel_rfl) (by kernel_rfl) (by kernel_rfl) (fun _ _ _ h => h) (Or.inr ⟨by rfl, rfl⟩) hHeld ?_
          try simp only [Act.put, List.setIfInBounds_toArray, List.set_cons_zero, List.set_cons_succ]
          refine wpAnyH_take (i := 10) (oi := { dst := some 40, op := Go.Op.fieldAddr 55 (Go.Operand.tmp 3) 3, type := 0, pos := "tree.go:147", after := #[{ on := 8, ground := Go.Ground.guard }], guard := some (8, true) }) (v := undef) rfl (by kernel_rfl) (by kernel_rfl) (by kernel_rfl) (fun _ _ _ h => h) (Or.inr ⟨by rfl, rfl⟩) hHeld ?_
          try simp only [Act.put, List.setIfInBounds_toArray, List.set_cons_zero, List.set_cons_succ]
          refine wpAnyH_take (i := 11) (oi := { dst := some 41, op := Go.Op.load 3 (Go.Operand.tmp 40), type := 3, pos := "tree.go:147", after := #[{ on := 10, ground := Go.Ground.data }, { on := 8, ground := Go.Ground.guard }], guard := some (8, true) }) (v := undef) rfl (by kernel_rfl) (by kernel_rfl) (by kernel_rfl) (fun _ _ _ h => h) (Or.inr ⟨by rfl, rfl⟩) hHeld ?_
          try simp only [Act.put, List.setIfInBounds_toArray, List.set_cons_zero, List.set_cons_succ]
          refine wpAnyH_take (i := 12) (oi := { dst := some 42, op := Go.Op.nilCheck (Go.Operand.tmp 39), type := 0, pos := "tree.go:147", after := #[{ on := 9, ground := Go.Ground.data }, { on := 8, ground := Go.Ground.guard }], guard := some (8, true) }) (v := undef) rfl (by kernel_rfl) (by kernel_rfl) (by kernel_rfl) (fun _ _ _ h => h) (Or.inr ⟨by rfl, rfl⟩) hHeld ?_
          try simp only [Act.put, List.setIfInBounds_toArray, List.set_cons_zero, List.set_cons_succ]
          refine wpAnyH_take (i := 13) (oi := { dst := some 43, op := Go.Op.fieldAddr 84 (Go.Operand.tmp 42) 2, type := 0, pos := "tree.go:147", after := #[{ on := 12, ground := Go.Ground.data }, { on := 8, ground := Go.Ground.guard }], guard := some (8, true) }) (v := undef) rfl (by kernel_rfl) (by kernel_rfl) (by kernel_rfl) (fun _ _ _ h => h) (Or.inr ⟨by rfl, rfl⟩) hHeld ?_
          try simp only [Act.put, List.setIfInBounds_toArray, List.set_cons_zero, List.set_cons_succ]
          refine wpAnyH_take (i := 14) (oi := { dst := some 44, op := Go.Op.indexAddr 82 (Go.Operand.tmp 43) (Go.Operand.tmp 41), type := 0, pos := "tree.go:147", after := #[{ on := 13, ground := Go.Ground.data }, { on := 11, ground := Go.Ground.data }, { on := 8, ground := Go.Ground.guard }], guard := some (8, true) }) (v := undef) rfl (by kernel_rfl) (by kernel_rfl) (by kernel_rfl) (fun _ _ _ h => h) (Or.inr ⟨by rfl, rfl⟩) hHeld ?_
          try simp only [Act.put, List.setIfInBounds_toArray, List.set_cons_zero, List.set_cons_succ]
          refine wpAnyH_take (i := 15) (oi := { dst := some 45, op := Go.Op.load 4 (Go.Operand.tmp 44), type := 4, pos := "tree.go:147", after := #[{ on := 14, ground := Go.Ground.data }, { on := 8, ground := Go.Ground.guard }], guard := some (8, true) }) (v := undef) rfl (by kernel_rfl) (by kernel_rfl) (by kernel_rfl) (fun _ _ _ h => h) (Or.inr ⟨by rfl, rfl⟩) hHeld ?_
          try simp only [Act.put, List.setIfInBounds_toArray, List.set_cons_zero, List.set_cons_succ]
          refine wpAnyH_take (i := 16) (oi := { dst := some 46, op := Go.Op.pick (Go.Operand.tmp 38) (Go.Operand.tmp 45) (Go.Operand.const (Go.Value.bool false)), type := 4, pos := "tree.go:147", after := #[{ on := 8, ground := Go.Ground.data }, { on := 15, ground := Go.Ground.data }], guard := none }) (v := .bool false) rfl (by kernel_rfl) (by kernel_rfl) (by kernel_rfl) (fun _ _ _ h => h) (Or.inl ⟨by rfl, ?_⟩) hHeld ?_
          · (intro wq hSq; (try dsimp only at hSq); go_simp; first | done | with_reducible rfl)
          try simp only [Act.put, List.setIfInBounds_toArray, List.set_cons_zero, List.set_cons_succ]
          refine wpAnyH_take (i := 17) (oi := { dst := some 4, op := Go.Op.assign (Go.Operand.tmp 46), type := 4, pos := "tree.go:147", after := #[{ on := 16, ground := Go.Ground.data }, { on := 8, ground := Go.Ground.chain }, { on := 0, ground := Go.Ground.phase }, { on := 1, ground := Go.Ground.phase }, { on := 2, ground := Go.Ground.phase }, { on := 3, ground := Go.Ground.phase }, { on := 4, ground := Go.Ground.phase }, { on := 5, ground := Go.Ground.phase }, { on := 6, ground := Go.Ground.phase }, { on := 7, ground := Go.Ground.phase }, { on := 8, ground := Go.Ground.phase }, { on := 9, ground := Go.Ground.phase }, { on := 10, ground := Go.Ground.phase }, { on := 11, ground := Go.Ground.phase }, { on := 12, ground := Go.Ground.phase }, { on := 13, ground := Go.Ground.phase }, { on := 14, ground := Go.Ground.phase }, { on := 15, ground := Go.Ground.phase }, { on := 16, ground := Go.Ground.phase }], guard := none }) (v := ?_) rfl (by kernel_rfl) (by kernel_rfl) (by kernel_rfl) (fun _ _ _ h => h) (Or.inl ⟨by rfl, ?_⟩) hHeld ?_
          rotate_left 1
          · (intro wq hSq; (try dsimp only at hSq); go_simp; first | done | with_reducible rfl)
          try simp only [Act.put, List.setIfInBounds_toArray, List.set_cons_zero, List.set_cons_succ]
          refine wpAnyH_done (by kernel_rfl) ?_ _
          refine NoPanic.normal ?_
          go_wp2
          go_ret
          exact ⟨ret_bool HE.out, HC1.out, HG1.out⟩
      · have i1' : nn < 1 := by omega
        have B1 : Below w.heap.size w (w.alloc (.cells #[.int .i64 7, .int .u8 (c : Int), .int .u64 (x0 : Int), .int .u64 x1, .int .u64 x2, .int .u64 x3, .int .i64 nn, .int .i64 lo, .int .i64 hi, u] 55)) := (Below.refl _ _).alloc (Nat.le_refl _) _
        have X1 : BoxN 55 (w.alloc (.cells #[.int .i64 7, .int .u8 (c : Int), .int .u64 (x0 : Int), .int .u64 x1, .int .u64 x2, .int .u64 x3, .int .i64 nn, .int .i64 lo, .int .i64 hi, u] 55)) w.heap.size ⟨7, c, x0, x1, x2, x3, nn, lo, hi⟩ u := BoxN.new 55 w ⟨7, c, x0, x1, x2, x3, nn, lo, hi⟩ u
        have HC1 : Hid (CBox (w.alloc (.cells #[.int .i64 7, .int .u8 (c : Int), .int .u64 (x0 : Int), .int .u64 x1, .int .u64 x2, .int .u64 x3, .int .i64 nn, .int .i64 lo, .int .i64 hi, u] 55)).drew g m ⟨b, e⟩) := (hc.blk (B1.block g hlt)).blk rfl
        obtain ⟨E, hE⟩ : ∃ E, E = e.getD nn.toNat false := ⟨_, rfl⟩
        have hE2 : 1 ≤ nn → nn ≤ 9 → e[nn.toNat]? = some E := fun q1 q2 => by
          rw [hE, List.getD_eq_getElem?_getD, List.getElem?_eq_getElem (by omega)]; rfl
        have HS0 : Hid ((w.alloc (.cells #[.int .i64 7, .int .u8 (c : Int), .int .u64 (x0 : Int), .int .u64 x1, .int .u64 x2, .int .u64 x3, .int .i64 nn, .int .i64 lo, .int .i64 hi, u] 55)).drew.cell? ⟨w.heap.size, 6, none⟩ = some (.int .i64 nn) ∧ (1 ≤ nn → nn ≤ 9 → (w.alloc (.cells #[.int .i64 7, .int .u8 (c : Int), .int .u64 (x0 : Int), .int .u64 x1, .int .u64 x2, .int .u64 x3, .int .i64 nn, .int .i64 lo, .int .i64 hi, u] 55)).drew.cell? ⟨g, 2 + nn.toNat, none⟩ = some (.bool E))) :=
          ⟨X1.cell 6 _ rfl, fun q1 q2 => HC1.out.cell _ _ (by rw [show 2 + nn.toNat = nn.toNat + 1 + 1 by omega]; show (e.map Value.bool)[nn.toNat]? = _; rw [List.getElem?_map, hE2 q1 q2]; rfl)⟩
        have HG1 : Hid (w.grownBy (w.alloc (.cells #[.int .i64 7, .int .u8 (c : Int), .int .u64 (x0 : Int), .int .u64 x1, .int .u64 x2, .int .u64 x3, .int .i64 nn, .int .i64 lo, .int .i64 hi, u] 55)).drew (some g)) := by
          have q := grown_of_below B1 (some g)
          exact ⟨q.os, q.tape, q.output, q.size, q.block⟩
        have HE2 : Hid (1 ≤ nn → nn ≤ 9 → e[nn.toNat]? = some E) := hE2
        have HE : Hid (false = (stepN ⟨7, c, x0, x1, x2, x3, nn, lo, hi⟩ ⟨b, e⟩).isSome) := by unfold Hid stepN; rw [if_neg (by show ¬ (7 : Int) = 6; omega), if_pos rfl, if_neg (fun q => i1 q.1)]; rfl
        clear hc B1 X1 hE hE2
        go_enter Try.func87, Try.ntmps87
        go_wp2
        refine wp_region_noPanic ?_
        refine wp_region_held_drew (S := fun W => W.cell? ⟨w.heap.size, 6, none⟩ = some (.int .i64 nn) ∧ (1 ≤ nn → nn ≤ 9 → W.cell? ⟨g, 2 + nn.toNat, none⟩ = some (.bool E))) (by kernel_rfl) (HS0.out) (fun hHeld => ?_)
        try simp only [Act.put, List.setIfInBounds_toArray, List.set_cons_zero, List.set_cons_succ]
        refine wpAnyH_take (i := 0) (oi := { dst := some 30, op := Go.Op.fieldAddr 55 (Go.Operand.tmp 3) 3, type := 0, pos := "tree.go:147", after := #[], guard := none }) (v := ?_) rfl (by kernel_rfl) (by kernel_rfl) (by kernel_rfl) (fun _ _ _ h => h) (Or.inl ⟨by rfl, ?_⟩) hHeld ?_
        rotate_left 1
        · (intro wq hSq; (try dsimp only at hSq); go_simp; first | done | with_reducible rfl)
        try simp only [Act.put, List.setIfInBounds_toArray, List.set_cons_zero, List.set_cons_succ]
        refine wpAnyH_take (i := 1) (oi := { dst := some 31, op := Go.Op.load 3 (Go.Operand.tmp 30), type := 3, pos := "tree.go:147", after := #[{ on := 0, ground := Go.Ground.data }], guard := none }) (v := ?_) rfl (by kernel_rfl) (by kernel_rfl) (by kernel_rfl) (fun _ _ _ h => h) (Or.inl ⟨by rfl, ?_⟩) hHeld ?_
        rotate_left 1
        · (intro wq hSq; (try dsimp only at hSq); have c := hSq.1; go_simp; first | done | with_reducible rfl)
        try simp only [Act.put, List.setIfInBounds_toArray, List.set_cons_zero, List.set_cons_succ]
        refine wpAnyH_take (i := 2) (oi := { dst := some 32, op := Go.Op.binOp Go.BinOp.geq 3 (Go.Operand.tmp 31) (Go.Operand.const (Go.Value.int Go.IntKind.i64 1)) 3, type := 4, pos := "tree.go:147", after := #[{ on := 1, ground := Go.Ground.data }], guard := none }) (v := .bool false) rfl (by kernel_rfl) (by kernel_rfl) (by kernel_rfl) (fun _ _ _ h => h) (Or.inl ⟨by rfl, ?_⟩) hHeld ?_
        · (intro wq hSq; (try dsimp only at hSq); go_simp; first | done | with_reducible rfl)
        try simp only [Act.put, List.setIfInBounds_toArray, List.set_cons_zero, List.set_cons_succ]
        refine wpAnyH_take (i := 3) (oi := { dst := some 33, op := Go.Op.move (Go.Operand.tmp 32), type := 4, pos := "tree.go:147", after := #[{ on := 2, ground := Go.Ground.data }], guard := none }) (v := ?_) rfl (by kernel_rfl) (by kernel_rfl) (by kernel_rfl) (fun _ _ _ h => h) (Or.inl ⟨by rfl, ?_⟩) hHeld ?_
        rotate_left 1
        · (intro wq hSq; (try dsimp only at hSq); go_simp; first | done | with_reducible rfl)
        try simp only [Act.put, List.setIfInBounds_toArray, List.set_cons_zero, List.set_cons_succ]
        refine wpAnyH_take (i := 4) (oi := { dst := some 34, op := Go.Op.fieldAddr 55 (Go.Operand.tmp 3) 3, type := 0, pos := "tree.go:147", after := #[{ on := 3, ground := Go.Ground.guard }], guard := some (3, true) }) (v := undef) rfl (by kernel_rfl) (by kernel_rfl) (by kernel_rfl) (fun _ _ _ h => h) (Or.inr ⟨by rfl, rfl⟩) hHeld ?_
        try simp only [Act.put, List.setIfInBounds_toArray, List.set_cons_zero, List.set_cons_succ]
        refine wpAnyH_take (i := 5) (oi := { dst := some 35, op := Go.Op.load 3 (Go.Operand.tmp 34), type := 3, pos := "tree.go:147", after := #[{ on := 4, ground := Go.Ground.data }, { on := 3, ground := Go.Ground.guard }], guard := some (3, true) }) (v := undef) rfl (by kernel_rfl) (by kernel_rfl) (by kernel_rfl) (fun _ _ _ h => h) (Or.inr ⟨by rfl, rfl⟩) hHeld ?_
        try simp only [Act.put, List.setIfInBounds_toArray, List.set_cons_zero, List.set_cons_succ]
        refine wpAnyH_take (i := 6) (oi := { dst := some 36, op := Go.Op.binOp Go.BinOp.leq 3 (Go.Operand.tmp 35) (Go.Operand.const (Go.Value.int Go.IntKind.i64 9)) 3, type := 4, pos := "tree.go:147", after := #[{ on := 5, ground := Go.Ground.data }, { on := 3, ground := Go.Ground.guard }], guard := some (3, true) }) (v := undef) rfl (by kernel_rfl) (by kernel_rfl) (by kernel_rfl) (fun _ _ _ h => h) (Or.inr ⟨by rfl, rfl⟩) hHeld ?_
        try simp only [Act.put, List.setIfInBounds_toArray, List.set_cons_zero, List.set_cons_succ]
        refine wpAnyH_take (i := 7) (oi := { dst := some 37, op := Go.Op.pick (Go.Operand.tmp 33) (Go.Operand.tmp 36) (Go.Operand.const (Go.Value.bool false)), type := 4, pos := "tree.go:147", after := #[{ on := 3, ground := Go.Ground.data }, { on := 6, ground := Go.Ground.data }], guard := none }) (v := .bool false) rfl (by kernel_rfl) (by kernel_rfl) (by kernel_rfl) (fun _ _ _ h => h) (Or.inl ⟨by rfl, ?_⟩) hHeld ?_
        · (intro wq hSq; (try dsimp only at hSq); go_simp; first | done | with_reducible rfl)
        try simp only [Act.put, List.setIfInBounds_toArray, List.set_cons_zero, List.set_cons_succ]
        refine wpAnyH_take (i := 8) (oi := { dst := some 38, op := Go.Op.move (Go.Operand.tmp 37), type := 4, pos := "tree.go:147", after := #[{ on := 7, ground := Go.Ground.data }, { on := 3, ground := Go.Ground.chain }], guard := none }) (v := ?_) rfl (by kernel_rfl) (by kernel_rfl) (by kernel_rfl) (fun _ _ _ h => h) (Or.inl ⟨by rfl, ?_⟩) hHeld ?_
        rotate_left 1
        · (intro wq hSq; (try dsimp only at hSq); go_simp; first | done | with_reducible rfl)
        try simp only [Act.put, List.setIfInBounds_toArray, List.set_cons_zero, List.set_cons_succ]
        refine wpAnyH_take (i := 9) (oi := { dst := some 39, op := Go.Op.move (Go.Operand.tmp 0), type := 115, pos := "tree.go:147", after := #[{ on := 8, ground := Go.Ground.guard }], guard := some (8, true) }) (v := undef) rfl (by kernel_rfl) (by kernel_rfl) (by kernel_rfl) (fun _ _ _ h => h) (Or.inr ⟨by rfl, rfl⟩) hHeld ?_
        try simp only [Act.put, List.setIfInBounds_toArray, List.set_cons_zero, List.set_cons_succ]
        refine wpAnyH_take (i := 10) (oi := { dst := some 40, op := Go.Op.fieldAddr 55 (Go.Operand.tmp 3) 3, type := 0, pos := "tree.go:147", after := #[{ on := 8, ground := Go.Ground.guard }], guard := some (8, true) }) (v := undef) rfl (by kernel_rfl) (by kernel_rfl) (by kernel_rfl) (fun _ _ _ h => h) (Or.inr ⟨by rfl, rfl⟩) hHeld ?_
        try simp only [Act.put, List.setIfInBounds_toArray, List.set_cons_zero, List.set_cons_succ]
        refine wpAnyH_take (i := 11) (oi := { dst := some 41, op := Go.Op.load 3 (Go.Operand.tmp 40), type := 3, pos := "tree.go:147", after := #[{ on := 10, ground := Go.Ground.data }, { on := 8, ground := Go.Ground.guard }], guard := some (8, true) }) (v := undef) rfl (by kernel_rfl) (by kernel_rfl) (by kernel_rfl) (fun _ _ _ h => h) (Or.inr ⟨by rfl, rfl⟩) hHeld ?_
        try simp only [Act.put, List.setIfInBounds_toArray, List.set_cons_zero, List.set_cons_succ]
        refine wpAnyH_take (i := 12) (oi := { dst := some 42, op := Go.Op.nilCheck (Go.Operand.tmp 39), type := 0, pos := "tree.go:147", after := #[{ on := 9, ground := Go.Ground.data }, { on := 8, ground := Go.Ground.guard }], guard := some (8, true) }) (v := undef) rfl (by kernel_rfl) (by kernel_rfl) (by kernel_rfl) (fun _ _ _ h => h) (Or.inr ⟨by rfl, rfl⟩) hHeld ?_
        try simp only [Act.put, List.setIfInBounds_toArray, List.set_cons_zero, List.set_cons_succ]
        refine wpAnyH_take (i := 13) (oi := { dst := some 43, op := Go.Op.fieldAddr 84 (Go.Operand.tmp 42) 2, type := 0, pos := "tree.go:147", after := #[{ on := 12, ground := Go.Ground.data }, { on := 8, ground := Go.Ground.guard }], guard := some (8, true) }) (v := undef) rfl (by kernel_rfl) (by kernel_rfl) (by kernel_rfl) (fun _ _ _ h => h) (Or.inr ⟨by rfl, rfl⟩) hHeld ?_
        try simp only [Act.put, List.setIfInBounds_toArray, List.set_cons_zero, List.set_cons_succ]
        refine wpAnyH_take (i := 14) (oi := { dst := some 44, op := Go.Op.indexAddr 82 (Go.Operand.tmp 43) (Go.Operand.tmp 41), type := 0, pos := "tree.go:147", after := #[{ on := 13, ground := Go.Ground.data }, { on := 11, ground := Go.Ground.data }, { on := 8, ground := Go.Ground.guard }], guard := some (8, true) }) (v := undef) rfl (by kernel_rfl) (by kernel_rfl) (by kernel_rfl) (fun _ _ _ h => h) (Or.inr ⟨by rfl, rfl⟩) hHeld ?_
        try simp only [Act.put, List.setIfInBounds_toArray, List.set_cons_zero, List.set_cons_succ]
        refine wpAnyH_take (i := 15) (oi := { dst := some 45, op := Go.Op.load 4 (Go.Operand.tmp 44), type := 4, pos := "tree.go:147", after := #[{ on := 14, ground := Go.Ground.data }, { on := 8, ground := Go.Ground.guard }], guard := some (8, true) }) (v := undef) rfl (by kernel_rfl) (by kernel_rfl) (by kernel_rfl) (fun _ _ _ h => h) (Or.inr ⟨by rfl, rfl⟩) hHeld ?_
        try simp only [Act.put, List.setIfInBounds_toArray, List.set_cons_zero, List.set_cons_succ]
        refine wpAnyH_take (i := 16) (oi := { dst := some 46, op := Go.Op.pick (Go.Operand.tmp 38) (Go.Operand.tmp 45) (Go.Operand.const (Go.Value.bool false)), type := 4, pos := "tree.go:147", after := #[{ on := 8, ground := Go.Ground.data }, { on := 15, ground := Go.Ground.data }], guard := none }) (v := .bool false) rfl (by kernel_rfl) (by kernel_rfl) (by kernel_rfl) (fun _ _ _ h => h) (Or.inl ⟨by rfl, ?_⟩) hHeld ?_
        · (intro wq hSq; (try dsimp only at hSq); go_simp; first | done | with_reducible rfl)
        try simp only [Act.put, List.setIfInBounds_toArray, List.set_cons_zero, List.set_cons_succ]
        refine wpAnyH_take (i := 17) (oi := { dst := some 4, op := Go.Op.assign (Go.Operand.tmp 46), type := 4, pos := "tree.go:147", after := #[{ on := 16, ground := Go.Ground.data }, { on := 8, ground := Go.Ground.chain }, { on := 0, ground := Go.Ground.phase }, { on := 1, ground := Go.Ground.phase }, { on := 2, ground := Go.Ground.phase }, { on := 3, ground := Go.Ground.phase }, { on := 4, ground := Go.Ground.phase }, { on := 5, ground := Go.Ground.phase }, { on := 6, ground := Go.Ground.phase }, { on := 7, ground := Go.Ground.phase }, { on := 8, ground := Go.Ground.phase }, { on := 9, ground := Go.Ground.phase }, { on := 10, ground := Go.Ground.phase }, { on := 11, ground := Go.Ground.phase }, { on := 12, ground := Go.Ground.phase }, { on := 13, ground := Go.Ground.phase }, { on := 14, ground := Go.Ground.phase }, { on := 15, ground := Go.Ground.phase }, { on := 16, ground := Go.Ground.phase }], guard := none }) (v := ?_) rfl (by kernel_rfl) (by kernel_rfl) (by kernel_rfl) (fun _ _ _ h => h) (Or.inl ⟨by rfl, ?_⟩) hHeld ?_
        rotate_left 1
        · (intro wq hSq; (try dsimp only at hSq); go_simp; first | done | with_reducible rfl)
        try simp only [Act.put, List.setIfInBounds_toArray, List.set_cons_zero, List.set_cons_succ]
        refine wpAnyH_done (by kernel_rfl) ?_ _
        refine NoPanic.normal ?_
        go_wp2
        go_ret
        exact ⟨ret_bool HE.out, HC1.out, HG1.out⟩
    · have b6 : (k == 6) = false := by simpa using k6
      have b7 : (k == 7) = false := by simpa using k7
      have HE : Hid (true = (stepN ⟨k, c, x0, x1, x2, x3, nn, lo, hi⟩ ⟨b, e⟩).isSome) := by unfold Hid stepN; rw [if_neg k6, if_neg k7]; rfl
      rw [show stepS ⟨k, c, x0, x1, x2, x3, nn, lo, hi⟩ ⟨b, e⟩ = ⟨b, e⟩ from by unfold stepS; rw [if_neg k6]]
      have B1 : Below w.heap.size w (w.alloc (.cells #[.int .i64 k, .int .u8 (c : Int), .int .u64 (x0 : Int), .int .u64 x1, .int .u64 x2, .int .u64 x3, .int .i64 nn, .int .i64 lo, .int .i64 hi, u] 55)) := (Below.refl _ _).alloc (Nat.le_refl _) _
      have HC1 : Hid (CBox (w.alloc (.cells #[.int .i64 k, .int .u8 (c : Int), .int .u64 (x0 : Int), .int .u64 x1, .int .u64 x2, .int .u64 x3, .int .i64 nn, .int .i64 lo, .int .i64 hi, u] 55)) g m ⟨b, e⟩) := hc.blk (B1.block g hlt)
      have HG1 : Hid (w.grownBy (w.alloc (.cells #[.int .i64 k, .int .u8 (c : Int), .int .u64 (x0 : Int), .int .u64 x1, .int .u64 x2, .int .u64 x3, .int .i64 nn, .int .i64 lo, .int .i64 hi, u] 55)) (some g)) := grown_of_below B1 (some g)
      clear hc B1
      go_enter Try.func87, Try.ntmps87
      go_wp2
      go_ret
      exact ⟨ret_bool HE.out, HC1.out, HG1.out⟩
end Go.Proofs.Ytndmjndokokmnaa
