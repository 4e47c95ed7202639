import Derived.Test.YtnpjknnalekdpaaGn
import Derived.Test.YtnpjknnalekdpaaFr
namespace Go.Proofs.Ytnpjknnalekdpaa
set_option linter.unusedSimpArgs false
set_option linter.unusedVariables false
open Go.RowKit
set_option maxRecDepth 100000 in
theorem rtruth5_any (b : Bool) (w : World) : Calls Try.prog 31 #[.bool b] w fun e w' => e = .returned (.int .u8 (tb b)) ∧ w = w' := by
  cases b
  all_goals
    go_enter Try.func31, Try.ntmps31
    go_wp2
    go_ret
    exact ⟨rfl, rfl⟩
/-- A text as bytes. -/
theorem conv_text (s : ByteArray) (hs : s.size ≤ 1000000) (w : World) : ∃ cap, (convert 9 22 (.string s)).run Try.prog w = .ok (.slice (some ⟨w.heap.size, 0, none⟩) s.size cap) (Lib.bytesWorld w 5 s) ∧ PartAt (Lib.bytesWorld w 5 s) (.slice (some ⟨w.heap.size, 0, none⟩) s.size cap) (nB s) := by
  have h := Lib.run_convert_string_bytes (P := Try.prog) w 9 22 5 s Try.underlying9 Try.underlying22 Try.underlying5
  have hg := Lib.bytesWorld_at_new w 5 s
  refine ⟨_, h, ⟨some ⟨w.heap.size, 0, none⟩, w.heap.size, 0, _, by rw [nB_length], by rw [nB_length]; exact grownCap_ge w s.size 0 5, by have := grownCap_le_maxLen w s.size 0 5 (by unfold maxLen; omega); unfold maxLen at this; omega, fun _ => rfl, fun j v hv => ?_, by rw [Lib.bytesWorld_size]; omega, fun h => by cases h⟩⟩
  have hj : j < s.size := by have := (List.getElem?_eq_some_iff.1 hv).1; rw [vBl, nB_length] at this; exact this
  rw [Nat.zero_add, Lib.bytesWorld_cell w 5 s j hj]
  have hv2 := vB_at (nB s) j (by rw [nB_length]; exact hj)
  rw [Array.getElem?_toList, hv2] at hv
  rw [← hv]
  have hj' : j < s.data.toList.length := by simpa using hj
  have e : gi (nB s) j = ((s.data.toList.getD j 0).toNat : Int) := by
    unfold gi nB
    rw [List.getD_eq_getElem?_getD, List.getD_eq_getElem?_getD, List.getElem?_map, List.getElem?_eq_getElem hj']
    rfl
  rw [e]
/-- What EditBytes has in hand between. -/
def PhiF (m : Msg) (d : Nat) (v : Value) (w : World) : Prop :=
  match d with
  | 6 => v = .int .u8 (tb m.quiet)
  | 10 => v = .int .u8 (tb m.ext)
  | 11 => ∃ g, v = .slice (some ⟨g, 0, none⟩) 2 2 ∧ PartAt w v [tb m.quiet, tb m.ext]
  | 18 => ∃ g, v = .slice (some ⟨g, 0, none⟩) 2 2 ∧ PartAt w v (numB m.s.size 2)
  | 21 => ∃ g cap, v = .slice (some ⟨g, 0, none⟩) m.s.size cap ∧ PartAt w v (nB m.s)
  | 22 => ∃ g x1 x2 x3 x4, v = .slice (some ⟨g, 0, none⟩) 4 4 ∧ g < w.heap.size ∧ w.rangeAt g 0 [x1, x2, x3, x4] ∧ PartAt w x1 [tb m.quiet, tb m.ext] ∧ PartAt w x2 m.hash ∧ PartAt w x3 (numB m.s.size 2) ∧ PartAt w x4 (nB m.s)
  | _ => True
theorem phiF_below (m : Msg) (d : Nat) (v : Value) (w w' : World) (h : PhiF m d v w) (k : Below w.heap.size w w') : PhiF m d v w' := by
  unfold PhiF at h ⊢
  split
  · exact h
  · exact h
  · obtain ⟨g, h1, h2⟩ := h; exact ⟨g, h1, h2.below k⟩
  · obtain ⟨g, h1, h2⟩ := h; exact ⟨g, h1, h2.below k⟩
  · obtain ⟨g, c, h1, h2⟩ := h; exact ⟨g, c, h1, h2.below k⟩
  · obtain ⟨g, x1, x2, x3, x4, h1, h2, h3, h4, h5, h6, h7⟩ := h
    exact ⟨g, x1, x2, x3, x4, h1, Nat.lt_of_lt_of_le h2 k.size, range_below h3 k h2, h4.below k, h5.below k, h6.below k, h7.below k⟩
  · trivial
def editB (m : Msg) : List Int := [tb m.quiet, tb m.ext] ++ (m.hash ++ (numB m.s.size 2 ++ nB m.s))
set_option maxHeartbeats 1000000 in
set_option maxRecDepth 100000 in
theorem redit_any (m : Msg) (hm : m.Ok) (hs : m.s.size ≤ 500) (w : World) : Calls Try.prog 30 #[.agg (eC m).toArray] w fun e w' => ∃ u, e = .returned u ∧ PartAt w' u (editB m) ∧ Below w.heap.size w w' := by
  obtain ⟨W1, hW1⟩ : ∃ W, W = w.alloc (.cells (eC m).toArray 29) := ⟨_, rfl⟩
  have hg : W1.heap[w.heap.size]? = some (.cells (eC m).toArray 29) := by rw [hW1]; exact heap_alloc_new _ _
  have B1 : Hid (Below w.heap.size w W1) := by rw [hW1]; exact (Below.refl _ _).alloc (Nat.le_refl _) _
  have hlt : w.heap.size < W1.heap.size := (Array.getElem?_eq_some_iff.1 hg).1
  have C0 : Hid (∀ W, Below W1.heap.size W1 W → W.cell? ⟨w.heap.size, 0, none⟩ = some (.string m.s)) := fun W q => by rw [q.cell hlt]; exact row_cell (j := 0) hg rfl
  have C1 : Hid (∀ W, Below W1.heap.size W1 W → W.cell? ⟨w.heap.size, 1, none⟩ = some (.bool m.quiet)) := fun W q => by rw [q.cell hlt]; exact row_cell (j := 1) hg rfl
  have C2 : Hid (∀ W, Below W1.heap.size W1 W → W.cell? ⟨w.heap.size, 2, none⟩ = some (.bool m.ext)) := fun W q => by rw [q.cell hlt]; exact row_cell (j := 2) hg rfl
  have PH : Hid (∀ W, Below W1.heap.size W1 W → PartAt W (.slice (some ⟨w.heap.size, 3, none⟩) 32 32) m.hash) := fun W q => by
    refine ⟨some ⟨w.heap.size, 3, none⟩, w.heap.size, 3, 32, by rw [hm.h], by rw [hm.h]; exact Nat.le_refl _, by omega, fun _ => rfl, ?_, Nat.lt_of_lt_of_le hlt q.size, fun h => by cases h⟩
    have r := World.rangeAt_of_block hg 3 32
    rw [eC_hash m hm] at r
    exact range_below r q hlt
  have NU : Hid (∀ W, Calls Try.prog 29 #[.int .u64 m.s.size, .int .i64 2] W fun e w' => ∃ g, e = .returned (.slice (some ⟨g, 0, none⟩) 2 2) ∧ PartAt w' (.slice (some ⟨g, 0, none⟩) 2 2) (numB m.s.size 2) ∧ Below W.heap.size W w') := fun W =>
    (rnumk_any m.s.size (by omega) (by omega) 2 (by omega) (by omega) _).mono fun e w' ⟨g, r1, r2, r3, r4⟩ => ⟨g, r1, partRow r3 2 (numB_length _ _) (by omega), r4⟩
  have CT : Hid (∀ W, ∃ cap, (convert 9 22 (.string m.s)).run Try.prog W = .ok (.slice (some ⟨W.heap.size, 0, none⟩) m.s.size cap) (Lib.bytesWorld W 5 m.s) ∧ PartAt (Lib.bytesWorld W 5 m.s) (.slice (some ⟨W.heap.size, 0, none⟩) m.s.size cap) (nB m.s)) := fun W => conv_text m.s (by omega) W
  have JN : Hid (∀ (W : World) (g : Nat) (x1 x2 x3 x4 : Value), g < W.heap.size → W.rangeAt g 0 [x1, x2, x3, x4] → PartAt W x1 [tb m.quiet, tb m.ext] → PartAt W x2 m.hash → PartAt W x3 (numB m.s.size 2) → PartAt W x4 (nB m.s) → Calls Try.prog 28 #[.slice (some ⟨g, 0, none⟩) 4 4] W fun e w' => ∃ u, e = .returned u ∧ PartAt w' u (editB m) ∧ Below W.heap.size W w') := fun W g x1 x2 x3 x4 hg hr q1 q2 q3 q4 => by
    refine (join_any g 0 4 4 [x1, x2, x3, x4] [[tb m.quiet, tb m.ext], m.hash, numB m.s.size 2, nB m.s] rfl rfl W (by omega) hr hg (parts_cons q1 (parts_cons q2 (parts_cons q3 (parts_cons q4 parts_nil)))) (by simp [numB_length, nB_length, hm.h]; omega) (by omega)).mono ?_
    rintro e w5 ⟨u, rfl, o5, b5⟩
    refine ⟨u, rfl, ?_, b5⟩
    have := o5.partG (by have := b5.size; omega)
    simpa [editB] using this
  have BD : Hid (Below W1.heap.size W1 W1.drew) := (Below.refl _ _).drew
  have hz1 : (m.s.size : Int) % 18446744073709551616 = m.s.size := by omega
  have hz2 : IntKind.u64.wrap (m.s.size : Int) = m.s.size := by rw [show IntKind.u64.wrap (m.s.size : Int) = (m.s.size : Int) % 18446744073709551616 from rfl]; omega
  have HW1 : Hid (W1 = w.alloc (.cells (eC m).toArray 29)) := hW1
  have hsz := hm.s
  clear hW1 hg hlt hm
  go_enter Try.func30, Try.ntmps30
  go_wp2_with fail
  rw [← HW1.out]
  clear HW1
  refine wp_region_noPanic ?_
  refine wp_region_held_drew (S := fun w' => Below W1.heap.size W1 w') (by kernel_rfl) (BD.out) (fun hHeld => ?_)
  try simp only [Act.put, List.setIfInBounds_toArray, List.set_cons_zero, List.set_cons_succ]
  refine wpAnyH_take (i := 0) (oi := { dst := some 3, op := Go.Op.fieldAddr 29 (Go.Operand.tmp 1) 1, type := 0, pos := "ref.go:312", after := #[], guard := none }) (v := ?_) rfl (by kernel_rfl) (by kernel_rfl) (by kernel_rfl) (fun _ _ _ h => h) (Or.inl ⟨by rfl, ?_⟩) hHeld ?_
  rotate_left 1
  · (intro wq hSq; (try dsimp only at hSq); go_simp; first | done | with_reducible rfl)
  try simp only [Act.put, List.setIfInBounds_toArray, List.set_cons_zero, List.set_cons_succ]
  refine wpAnyH_take (i := 1) (oi := { dst := some 4, op := Go.Op.fieldAddr 26 (Go.Operand.tmp 3) 0, type := 0, pos := "ref.go:312", after := #[{ on := 0, ground := Go.Ground.data }], guard := none }) (v := ?_) rfl (by kernel_rfl) (by kernel_rfl) (by kernel_rfl) (fun _ _ _ h => h) (Or.inl ⟨by rfl, ?_⟩) hHeld ?_
  rotate_left 1
  · (intro wq hSq; (try dsimp only at hSq); go_simp; first | done | with_reducible rfl)
  try simp only [Act.put, List.setIfInBounds_toArray, List.set_cons_zero, List.set_cons_succ]
  refine wpAnyH_take (i := 2) (oi := { dst := some 5, op := Go.Op.load 4 (Go.Operand.tmp 4), type := 4, pos := "ref.go:312", after := #[{ on := 1, ground := Go.Ground.data }], guard := none }) (v := ?_) rfl (by kernel_rfl) (by kernel_rfl) (by kernel_rfl) (fun _ _ _ h => h) (Or.inl ⟨by rfl, ?_⟩) hHeld ?_
  rotate_left 1
  · (intro wq hSq; (try dsimp only at hSq); have hq := C1.out _ hSq; go_simp; first | done | with_reducible rfl)
  try simp only [Act.put, List.setIfInBounds_toArray, List.set_cons_zero, List.set_cons_succ]
  refine wpAnyH_take (i := 4) (oi := { dst := some 7, op := Go.Op.fieldAddr 29 (Go.Operand.tmp 1) 1, type := 0, pos := "ref.go:312", after := #[], guard := none }) (v := ?_) rfl (by kernel_rfl) (by kernel_rfl) (by kernel_rfl) (fun _ _ _ h => h) (Or.inl ⟨by rfl, ?_⟩) hHeld ?_
  rotate_left 1
  · (intro wq hSq; (try dsimp only at hSq); go_simp; first | done | with_reducible rfl)
  try simp only [Act.put, List.setIfInBounds_toArray, List.set_cons_zero, List.set_cons_succ]
  refine wpAnyH_take (i := 5) (oi := { dst := some 8, op := Go.Op.fieldAddr 26 (Go.Operand.tmp 7) 1, type := 0, pos := "ref.go:312", after := #[{ on := 4, ground := Go.Ground.data }], guard := none }) (v := ?_) rfl (by kernel_rfl) (by kernel_rfl) (by kernel_rfl) (fun _ _ _ h => h) (Or.inl ⟨by rfl, ?_⟩) hHeld ?_
  rotate_left 1
  · (intro wq hSq; (try dsimp only at hSq); go_simp; first | done | with_reducible rfl)
  try simp only [Act.put, List.setIfInBounds_toArray, List.set_cons_zero, List.set_cons_succ]
  refine wpAnyH_take (i := 6) (oi := { dst := some 9, op := Go.Op.load 4 (Go.Operand.tmp 8), type := 4, pos := "ref.go:312", after := #[{ on := 5, ground := Go.Ground.data }], guard := none }) (v := ?_) rfl (by kernel_rfl) (by kernel_rfl) (by kernel_rfl) (fun _ _ _ h => h) (Or.inl ⟨by rfl, ?_⟩) hHeld ?_
  rotate_left 1
  · (intro wq hSq; (try dsimp only at hSq); have hq := C2.out _ hSq; go_simp; first | done | with_reducible rfl)
  try simp only [Act.put, List.setIfInBounds_toArray, List.set_cons_zero, List.set_cons_succ]
  refine wpAnyH_take (i := 9) (oi := { dst := some 12, op := Go.Op.fieldAddr 29 (Go.Operand.tmp 1) 2, type := 0, pos := "ref.go:312", after := #[], guard := none }) (v := ?_) rfl (by kernel_rfl) (by kernel_rfl) (by kernel_rfl) (fun _ _ _ h => h) (Or.inl ⟨by rfl, ?_⟩) hHeld ?_
  rotate_left 1
  · (intro wq hSq; (try dsimp only at hSq); go_simp; first | done | with_reducible rfl)
  try simp only [Act.put, List.setIfInBounds_toArray, List.set_cons_zero, List.set_cons_succ]
  refine wpAnyH_take (i := 10) (oi := { dst := some 13, op := Go.Op.slice 27 (Go.Operand.tmp 12) none none none, type := 22, pos := "ref.go:312", after := #[{ on := 9, ground := Go.Ground.data }], guard := none }) (v := ?_) rfl (by kernel_rfl) (by kernel_rfl) (by kernel_rfl) (fun _ _ _ h => h) (Or.inl ⟨by rfl, ?_⟩) hHeld ?_
  rotate_left 1
  · (intro wq hSq; (try dsimp only at hSq); go_simp; first | done | with_reducible rfl)
  try simp only [Act.put, List.setIfInBounds_toArray, List.set_cons_zero, List.set_cons_succ]
  refine wpAnyH_take (i := 11) (oi := { dst := some 14, op := Go.Op.fieldAddr 29 (Go.Operand.tmp 1) 0, type := 0, pos := "ref.go:312", after := #[], guard := none }) (v := ?_) rfl (by kernel_rfl) (by kernel_rfl) (by kernel_rfl) (fun _ _ _ h => h) (Or.inl ⟨by rfl, ?_⟩) hHeld ?_
  rotate_left 1
  · (intro wq hSq; (try dsimp only at hSq); go_simp; first | done | with_reducible rfl)
  try simp only [Act.put, List.setIfInBounds_toArray, List.set_cons_zero, List.set_cons_succ]
  refine wpAnyH_take (i := 12) (oi := { dst := some 15, op := Go.Op.load 9 (Go.Operand.tmp 14), type := 9, pos := "ref.go:312", after := #[{ on := 11, ground := Go.Ground.data }], guard := none }) (v := ?_) rfl (by kernel_rfl) (by kernel_rfl) (by kernel_rfl) (fun _ _ _ h => h) (Or.inl ⟨by rfl, ?_⟩) hHeld ?_
  rotate_left 1
  · (intro wq hSq; (try dsimp only at hSq); have hq := C0.out _ hSq; go_simp; first | done | with_reducible rfl)
  try simp only [Act.put, List.setIfInBounds_toArray, List.set_cons_zero, List.set_cons_succ]
  refine wpAnyH_take (i := 13) (oi := { dst := some 16, op := Go.Op.call { callee := Go.Callee.builtin Go.Builtin.len, args := #[Go.Operand.tmp 15], argTypes := #[9] }, type := 3, pos := "ref.go:312", after := #[{ on := 12, ground := Go.Ground.data }], guard := none }) (v := ?_) rfl (by kernel_rfl) (by kernel_rfl) (by kernel_rfl) (fun _ _ _ h => h) (Or.inl ⟨by rfl, ?_⟩) hHeld ?_
  rotate_left 1
  · (intro wq hSq; (try dsimp only at hSq); go_simp; first | done | with_reducible rfl)
  try simp only [Act.put, List.setIfInBounds_toArray, List.set_cons_zero, List.set_cons_succ]
  refine wpAnyH_take (i := 14) (oi := { dst := some 17, op := Go.Op.convert 3 24 (Go.Operand.tmp 16), type := 24, pos := "ref.go:312", after := #[{ on := 13, ground := Go.Ground.data }], guard := none }) (v := ?_) rfl (by kernel_rfl) (by kernel_rfl) (by kernel_rfl) (fun _ _ _ h => h) (Or.inl ⟨by rfl, ?_⟩) hHeld ?_
  rotate_left 1
  · (intro wq hSq; (try dsimp only at hSq); go_simp; first | done | with_reducible rfl)
  try simp only [Act.put, List.setIfInBounds_toArray, List.set_cons_zero, List.set_cons_succ]
  refine wpAnyH_take (i := 16) (oi := { dst := some 19, op := Go.Op.fieldAddr 29 (Go.Operand.tmp 1) 0, type := 0, pos := "ref.go:312", after := #[], guard := none }) (v := ?_) rfl (by kernel_rfl) (by kernel_rfl) (by kernel_rfl) (fun _ _ _ h => h) (Or.inl ⟨by rfl, ?_⟩) hHeld ?_
  rotate_left 1
  · (intro wq hSq; (try dsimp only at hSq); go_simp; first | done | with_reducible rfl)
  try simp only [Act.put, List.setIfInBounds_toArray, List.set_cons_zero, List.set_cons_succ]
  refine wpAnyH_take (i := 17) (oi := { dst := some 20, op := Go.Op.load 9 (Go.Operand.tmp 19), type := 9, pos := "ref.go:312", after := #[{ on := 16, ground := Go.Ground.data }], guard := none }) (v := ?_) rfl (by kernel_rfl) (by kernel_rfl) (by kernel_rfl) (fun _ _ _ h => h) (Or.inl ⟨by rfl, ?_⟩) hHeld ?_
  rotate_left 1
  · (intro wq hSq; (try dsimp only at hSq); have hq := C0.out _ hSq; go_simp; first | done | with_reducible rfl)
  try simp only [Act.put, List.setIfInBounds_toArray, List.set_cons_zero, List.set_cons_succ]
  refine wpAnyH_batch (B := [(3, 6, []), (7, 10, []), (8, 11, [6, 10]), (15, 18, []), (18, 21, []), (19, 22, [11, 18, 21])]) (R := fun w w' => Below w.heap.size w w') (Φ := PhiF m) 2 (by kernel_rfl) (fun _ _ _ _ h => h) (Below.refl _ _) (fun _ _ h1 h2 => h1.trans (h2.mono h1.size)) (fun _ _ _ _ _ h k => phiF_below _ _ _ _ _ h k) (fun _ h => BD.out.trans h) ⟨StepB.mk ({ dst := some 6, op := Go.Op.call { callee := Go.Callee.value (Go.Operand.func 31), args := #[Go.Operand.tmp 5], argTypes := #[4] }, type := 5, pos := "ref.go:312", after := #[{ on := 2, ground := Go.Ground.data }], guard := none } : Oper) rfl ?_, StepB.mk ({ dst := some 10, op := Go.Op.call { callee := Go.Callee.value (Go.Operand.func 31), args := #[Go.Operand.tmp 9], argTypes := #[4] }, type := 5, pos := "ref.go:312", after := #[{ on := 6, ground := Go.Ground.data }, { on := 3, ground := Go.Ground.chain }], guard := none } : Oper) rfl ?_, StepB.mk ({ dst := some 11, op := Go.Op.buildSlice 22 2 #[(0, Go.Operand.tmp 6), (1, Go.Operand.tmp 10)], type := 22, pos := "ref.go:312", after := #[{ on := 3, ground := Go.Ground.data }, { on := 7, ground := Go.Ground.data }], guard := none } : Oper) rfl ?_, StepB.mk ({ dst := some 18, op := Go.Op.call { callee := Go.Callee.value (Go.Operand.func 29), args := #[Go.Operand.tmp 17, Go.Operand.const (Go.Value.int Go.IntKind.i64 2)], argTypes := #[24, 3] }, type := 22, pos := "ref.go:312", after := #[{ on := 14, ground := Go.Ground.data }, { on := 7, ground := Go.Ground.chain }], guard := none } : Oper) rfl ?_, StepB.mk ({ dst := some 21, op := Go.Op.convert 9 22 (Go.Operand.tmp 20), type := 22, pos := "ref.go:312", after := #[{ on := 17, ground := Go.Ground.data }], guard := none } : Oper) rfl ?_, StepB.mk ({ dst := some 22, op := Go.Op.buildSlice 69 4 #[(0, Go.Operand.tmp 11), (1, Go.Operand.tmp 13), (2, Go.Operand.tmp 18), (3, Go.Operand.tmp 21)], type := 69, pos := "ref.go:312", after := #[{ on := 8, ground := Go.Ground.data }, { on := 10, ground := Go.Ground.data }, { on := 15, ground := Go.Ground.data }, { on := 18, ground := Go.Ground.data }], guard := none } : Oper) rfl ?_, trivial⟩ ?_
  · intro f wS hRS hFS K hK
    simp only [putT, Act.put, List.setIfInBounds_toArray, List.set_cons_zero, List.set_cons_succ] at hK ⊢
    go_simp
    refine (rtruth5_any _ _).mono ?_
    rintro e w' ⟨rfl, q⟩
    subst q
    exact hK.out _ _ (Below.refl _ _) rfl
  · intro f wS hRS hFS K hK
    simp only [putT, Act.put, List.setIfInBounds_toArray, List.set_cons_zero, List.set_cons_succ] at hK ⊢
    go_simp
    refine (rtruth5_any _ _).mono ?_
    rintro e w' ⟨rfl, q⟩
    subst q
    exact hK.out _ _ (Below.refl _ _) rfl
  · intro f wS hRS hFS K hK
    simp only [putT, Act.put, List.setIfInBounds_toArray, List.set_cons_zero, List.set_cons_succ] at hK ⊢
    have e6 := hFS 6 (by simp)
    have e10 := hFS 10 (by simp)
    have e6' : f 6 = .int .u8 (tb m.quiet) := e6
    have e10' : f 10 = .int .u8 (tb m.ext) := e10
    rw [e6', e10'] at hK ⊢
    clear e6 e10 e6' e10' hFS
    go_simp
    exact hK.out _ _ ((Below.refl _ _).alloc (Nat.le_refl _) _) ⟨wS.heap.size, rfl, part_new wS [tb m.quiet, tb m.ext] (by simp)⟩
  · intro f wS hRS hFS K hK
    simp only [putT, Act.put, List.setIfInBounds_toArray, List.set_cons_zero, List.set_cons_succ] at hK ⊢
    go_simp
    refine (NU.out wS).mono ?_
    rintro e w' ⟨g, rfl, r1, r2⟩
    exact hK.out _ _ r2 ⟨g, rfl, r1⟩
  · intro f wS hRS hFS K hK
    simp only [putT, Act.put, List.setIfInBounds_toArray, List.set_cons_zero, List.set_cons_succ] at hK ⊢
    obtain ⟨cap, hc, pc⟩ := CT.out wS
    have kb := below_bytesWorld wS 5 m.s
    obtain ⟨W2, hW2⟩ : ∃ W, W = Lib.bytesWorld wS 5 m.s := ⟨_, rfl⟩
    rw [← hW2] at hc pc kb
    clear hW2
    go_simp
    exact hK.out _ _ kb ⟨_, cap, rfl, pc⟩
  · intro f wS hRS hFS K hK
    simp only [putT, Act.put, List.setIfInBounds_toArray, List.set_cons_zero, List.set_cons_succ] at hK ⊢
    obtain ⟨g11, e11, q11⟩ := hFS 11 (by simp)
    obtain ⟨g18, e18, q18⟩ := hFS 18 (by simp)
    obtain ⟨g21, c21, e21, q21⟩ := hFS 21 (by simp)
    have qh := PH.out wS (BD.out.trans hRS)
    rw [e11, e18, e21] at hK ⊢
    rw [e11] at q11
    rw [e18] at q18
    rw [e21] at q21
    clear e11 e18 e21 hFS
    have kA : ∀ o, Below wS.heap.size wS (wS.alloc o) := fun o => (Below.refl _ _).alloc (Nat.le_refl _) _
    go_simp
    exact hK.out _ _ (kA _) ⟨wS.heap.size, _, _, _, _, rfl, by simp, range_alloc wS _ _, q11.below (kA _), qh.below (kA _), q18.below (kA _), q21.below (kA _)⟩
  intro f wB hRB hFB
  simp only [List.map, setL, putT, Act.put, List.setIfInBounds_toArray, List.set_cons_zero, List.set_cons_succ]
  have hHeldB1 : Below W1.heap.size W1 wB := BD.out.trans hRB
  obtain ⟨g, x1, x2, x3, x4, e22, r1, r2, r3, r4, r5, r6⟩ := hFB 22 (by simp)
  rw [e22]
  have JH : Hid (Calls Try.prog 28 #[.slice (some ⟨g, 0, none⟩) 4 4] wB fun e w' => ∃ u, e = .returned u ∧ PartAt w' u (editB m) ∧ Below wB.heap.size wB w') := JN.out wB g x1 x2 x3 x4 r1 r2 r3 r4 r5 r6
  have HB1 : Hid (Below W1.heap.size W1 wB) := hHeldB1
  generalize f 6 = u6
  generalize f 10 = u10
  generalize f 11 = u11
  generalize f 18 = u18
  generalize f 21 = u21
  clear hFB hRB e22 r1 r2 r3 r4 r5 r6 JN NU CT
  refine wpAnyH_ready (rs := [20]) (by kernel_rfl) (by simp) ?_
  refine AllReadyH.cons (o := { dst := some 23, op := Go.Op.call { callee := Go.Callee.value (Go.Operand.func 28), args := #[Go.Operand.tmp 22], argTypes := #[69] }, type := 22, pos := "ref.go:312", after := #[{ on := 19, ground := Go.Ground.data }, { on := 15, ground := Go.Ground.chain }], guard := none }) rfl (fun K hK => ?_) AllReadyH.nil
  go_simp
  refine JH.out.mono ?_
  rintro e w9 ⟨u, rfl, p9, b9⟩
  have P9 : Hid (PartAt w9 u (editB m)) := p9
  have B9 : Hid (Below W1.heap.size W1 w9) := HB1.out.trans (b9.mono HB1.out.size)
  clear p9 b9
  refine hK.out _ _ (B9.out) (fun hHeld2 => ?_)
  clear hK K hHeldB1
  try simp only [Act.put, List.setIfInBounds_toArray, List.set_cons_zero, List.set_cons_succ]
  refine wpAnyH_take (i := 21) (oi := { dst := some 2, op := Go.Op.assign (Go.Operand.tmp 23), type := 22, pos := "ref.go:312", after := #[{ on := 20, ground := Go.Ground.data }, { on := 20, ground := Go.Ground.chain }, { on := 0, ground := Go.Ground.phase }, { on := 1, ground := Go.Ground.phase }, { on := 2, ground := Go.Ground.phase }, { on := 3, ground := Go.Ground.phase }, { on := 4, ground := Go.Ground.phase }, { on := 5, ground := Go.Ground.phase }, { on := 6, ground := Go.Ground.phase }, { on := 7, ground := Go.Ground.phase }, { on := 8, ground := Go.Ground.phase }, { on := 9, ground := Go.Ground.phase }, { on := 10, ground := Go.Ground.phase }, { on := 11, ground := Go.Ground.phase }, { on := 12, ground := Go.Ground.phase }, { on := 13, ground := Go.Ground.phase }, { on := 14, ground := Go.Ground.phase }, { on := 15, ground := Go.Ground.phase }, { on := 16, ground := Go.Ground.phase }, { on := 17, ground := Go.Ground.phase }, { on := 18, ground := Go.Ground.phase }, { on := 19, ground := Go.Ground.phase }, { on := 20, ground := Go.Ground.phase }], guard := none }) (v := ?_) rfl (by kernel_rfl) (by kernel_rfl) (by kernel_rfl) (fun _ _ _ h => h) (Or.inl ⟨by rfl, ?_⟩) hHeld2 ?_
  rotate_left 1
  · (intro wq hSq; (try dsimp only at hSq); go_simp; first | done | with_reducible rfl)
  try simp only [Act.put, List.setIfInBounds_toArray, List.set_cons_zero, List.set_cons_succ]
  refine wpAnyH_done (by kernel_rfl) ?_ _
  refine NoPanic.normal ?_
  go_wp2
  go_ret
  exact ⟨u, rfl, P9.out, B1.out.trans (B9.out.mono B1.out.size)⟩
end Go.Proofs.Ytnpjknnalekdpaa
