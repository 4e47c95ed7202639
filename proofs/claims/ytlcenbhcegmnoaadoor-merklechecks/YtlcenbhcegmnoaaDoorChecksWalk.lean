import Derived.Test.YtlcenbhcegmnoaaDoorOgz
namespace Go.Proofs.YtlcenbhcegmnoaaDoor
set_option linter.unusedSimpArgs false
set_option linter.unusedVariables false
open Go.RowKit
attribute [local go_sem ↓] Go.wp_at_zero Go.wp_at_succ
set_option maxRecDepth 100000 in
set_option maxHeartbeats 1000000 in
theorem checks_in (R : List Int) (n i : Int) (v : Value) (av : Option Addr) (m cp : Nat) (B : Bool) (D : Int) (w : World) (hR : R.length = 32) (hm : m ≤ 60)
    (C1 : ∀ w', Below w.heap.size w w' → Calls Tryd.prog 37 #[.agg (vB R), .int .i64 n, .int .i64 i, v, .slice av m cp] w' fun e w'' => e = .returned (.bool B) ∧ Below w'.heap.size w' w'')
    (C2 : ∀ w', Below w.heap.size w w' → Calls Tryd.prog 38 #[.agg (vB R), .int .i64 n, .int .i64 i, v, .slice av m cp] w' fun e w'' => e = .returned (.bool B) ∧ Below w'.heap.size w' w'')
    (C3 : ∀ w' : World, Calls Tryd.prog 36 #[.int .i64 n, .int .i64 i] w' fun e w'' => e = .returned (.int .i64 D) ∧ w'' = w')
    (C4 : ∀ w' : World, Calls Tryd.prog 39 #[.int .i64 n, .int .i64 i] w' fun e w'' => e = .returned (.int .i64 D) ∧ w'' = w') :
    Calls Tryd.prog 9 #[.agg (vB R), .int .i64 n, .int .i64 i, v, .slice av m cp] w fun e w' => e = .returned (.bool true) ∧ Below w.heap.size w w' := by
  have E3 : Hid (∀ w' : World, Calls Tryd.prog 36 #[.int .i64 n, .int .i64 i] w' fun e w'' => e = .returned (.int .i64 D) ∧ w'' = w') := C3
  have E4 : Hid (∀ w' : World, Calls Tryd.prog 39 #[.int .i64 n, .int .i64 i] w' fun e w'' => e = .returned (.int .i64 D) ∧ w'' = w') := C4
  have E1 : Hid (∀ w', Below w.heap.size w w' → Calls Tryd.prog 37 #[.agg (vB R), .int .i64 n, .int .i64 i, v, .slice av m cp] w' fun e w'' => e = .returned (.bool B) ∧ Below w'.heap.size w' w'') := C1
  have E2 : Hid (∀ w', Below w.heap.size w w' → Calls Tryd.prog 38 #[.agg (vB R), .int .i64 n, .int .i64 i, v, .slice av m cp] w' fun e w'' => e = .returned (.bool B) ∧ Below w'.heap.size w' w'') := C2
  have hcl : (List.map (Value.int .u8) R).length = 32 := by simpa using hR
  have hi : (Tryd.prog.info? 24).map (·.size) = some (List.map (Value.int .u8) R).length := by rw [hcl]; kernel_rfl
  have j60 : ¬ (60 : Int) < (m : Int) := by omega
  clear C1 C2 C3 C4
  go_enter Tryd.func9, Tryd.ntmps9
  go_wp2_with (go_at_call 23; refine (awake2_any _).mono ?_; rintro e W ⟨rfl, b1⟩)
  have bA : Below w.heap.size w (w.alloc (Obj.cells (vB R) 24)) := (Below.refl _ _).alloc (Nat.le_refl _) _
  have f1 : W.heap[w.heap.size]? = some (.cells (vB R) 24) := by rw [b1.block _ (by simp)]; exact heap_alloc_new _ _
  have bw : Below w.heap.size w W := bA.trans (b1.mono bA.size)
  have HR : Hid (W.rangeAt w.heap.size 0 (List.map (Value.int .u8) R)) := range_of_block f1
  have hbl : w.heap.size < W.heap.size := (Array.getElem?_eq_some_iff.1 f1).1
  have D1 : Hid (∀ w', Below W.heap.size W w' → Calls Tryd.prog 37 #[.agg (List.map (Value.int .u8) R).toArray, .int .i64 n, .int .i64 i, v, .slice av m cp] w' fun e w'' => e = .returned (.bool B) ∧ Below W.heap.size W w'') := fun w' q => (E1.out w' (bw.trans (q.mono bw.size))).mono (fun e w5 h => ⟨h.1, q.trans (h.2.mono q.size)⟩)
  have D2 : Hid (∀ w', Below W.heap.size W w' → Calls Tryd.prog 38 #[.agg (List.map (Value.int .u8) R).toArray, .int .i64 n, .int .i64 i, v, .slice av m cp] w' fun e w'' => e = .returned (.bool B) ∧ Below W.heap.size W w'') := fun w' q => (E2.out w' (bw.trans (q.mono bw.size))).mono (fun e w5 h => ⟨h.1, q.trans (h.2.mono q.size)⟩)
  clear E1 E2 f1 bA
  have hS := Held.of HR.out hbl (below_drew (Below.refl W.heap.size W))
  refine wp_region_noPanic ?_
  refine wp_region_held_drew (S := fun w' => Below W.heap.size W w' ∧ w'.rangeAt w.heap.size 0 (List.map (Value.int .u8) R)) (by kernel_rfl) (hS) (fun hHeld => ?_)
  try simp only [Act.put, List.setIfInBounds_toArray, List.set_cons_zero, List.set_cons_succ]
  refine wpAnyH_take (i := 0) (oi := { dst := some 19, op := Go.Op.load 24 (Go.Operand.tmp 5), type := 24, pos := "law.go:72", after := #[], guard := none }) (v := .agg (List.toArray (List.map (Value.int .u8) R))) rfl (by kernel_rfl) (by kernel_rfl) (by kernel_rfl) (fun _ _ _ h => h) (yieldsIf_load_mid (by rfl) _ _ rfl (w.heap.size) (0) rfl (List.map (Value.int .u8) R) _ (fun _ h => h.2) Tryd.underlying24 rfl (hi)) hHeld ?_
  try simp only [Act.put, List.setIfInBounds_toArray, List.set_cons_zero, List.set_cons_succ]
  refine wpAnyH_take (i := 1) (oi := { dst := some 20, op := Go.Op.move (Go.Operand.tmp 1), type := 3, pos := "law.go:72", after := #[], guard := none }) (v := ?_) rfl (by kernel_rfl) (by kernel_rfl) (by kernel_rfl) (fun _ _ _ h => h) (Or.inl ⟨by rfl, ?_⟩) hHeld ?_
  rotate_left 1
  · (intro wq hSq; (try dsimp only at hSq); go_simp; first | done | with_reducible rfl)
  try simp only [Act.put, List.setIfInBounds_toArray, List.set_cons_zero, List.set_cons_succ]
  refine wpAnyH_take (i := 2) (oi := { dst := some 21, op := Go.Op.move (Go.Operand.tmp 2), type := 3, pos := "law.go:72", after := #[], guard := none }) (v := ?_) rfl (by kernel_rfl) (by kernel_rfl) (by kernel_rfl) (fun _ _ _ h => h) (Or.inl ⟨by rfl, ?_⟩) hHeld ?_
  rotate_left 1
  · (intro wq hSq; (try dsimp only at hSq); go_simp; first | done | with_reducible rfl)
  try simp only [Act.put, List.setIfInBounds_toArray, List.set_cons_zero, List.set_cons_succ]
  refine wpAnyH_take (i := 3) (oi := { dst := some 22, op := Go.Op.move (Go.Operand.tmp 3), type := 22, pos := "law.go:72", after := #[], guard := none }) (v := ?_) rfl (by kernel_rfl) (by kernel_rfl) (by kernel_rfl) (fun _ _ _ h => h) (Or.inl ⟨by rfl, ?_⟩) hHeld ?_
  rotate_left 1
  · (intro wq hSq; (try dsimp only at hSq); go_simp; first | done | with_reducible rfl)
  try simp only [Act.put, List.setIfInBounds_toArray, List.set_cons_zero, List.set_cons_succ]
  refine wpAnyH_take (i := 4) (oi := { dst := some 23, op := Go.Op.move (Go.Operand.tmp 4), type := 44, pos := "law.go:72", after := #[], guard := none }) (v := ?_) rfl (by kernel_rfl) (by kernel_rfl) (by kernel_rfl) (fun _ _ _ h => h) (Or.inl ⟨by rfl, ?_⟩) hHeld ?_
  rotate_left 1
  · (intro wq hSq; (try dsimp only at hSq); go_simp; first | done | with_reducible rfl)
  try simp only [Act.put, List.setIfInBounds_toArray, List.set_cons_zero, List.set_cons_succ]
  refine wpAnyH_take (i := 6) (oi := { dst := some 25, op := Go.Op.load 24 (Go.Operand.tmp 5), type := 24, pos := "law.go:72", after := #[], guard := none }) (v := .agg (List.toArray (List.map (Value.int .u8) R))) rfl (by kernel_rfl) (by kernel_rfl) (by kernel_rfl) (fun _ _ _ h => h) (yieldsIf_load_mid (by rfl) _ _ rfl (w.heap.size) (0) rfl (List.map (Value.int .u8) R) _ (fun _ h => h.2) Tryd.underlying24 rfl (hi)) hHeld ?_
  try simp only [Act.put, List.setIfInBounds_toArray, List.set_cons_zero, List.set_cons_succ]
  refine wpAnyH_take (i := 7) (oi := { dst := some 26, op := Go.Op.move (Go.Operand.tmp 1), type := 3, pos := "law.go:72", after := #[], guard := none }) (v := ?_) rfl (by kernel_rfl) (by kernel_rfl) (by kernel_rfl) (fun _ _ _ h => h) (Or.inl ⟨by rfl, ?_⟩) hHeld ?_
  rotate_left 1
  · (intro wq hSq; (try dsimp only at hSq); go_simp; first | done | with_reducible rfl)
  try simp only [Act.put, List.setIfInBounds_toArray, List.set_cons_zero, List.set_cons_succ]
  refine wpAnyH_take (i := 8) (oi := { dst := some 27, op := Go.Op.move (Go.Operand.tmp 2), type := 3, pos := "law.go:72", after := #[], guard := none }) (v := ?_) rfl (by kernel_rfl) (by kernel_rfl) (by kernel_rfl) (fun _ _ _ h => h) (Or.inl ⟨by rfl, ?_⟩) hHeld ?_
  rotate_left 1
  · (intro wq hSq; (try dsimp only at hSq); go_simp; first | done | with_reducible rfl)
  try simp only [Act.put, List.setIfInBounds_toArray, List.set_cons_zero, List.set_cons_succ]
  refine wpAnyH_take (i := 9) (oi := { dst := some 28, op := Go.Op.move (Go.Operand.tmp 3), type := 22, pos := "law.go:72", after := #[], guard := none }) (v := ?_) rfl (by kernel_rfl) (by kernel_rfl) (by kernel_rfl) (fun _ _ _ h => h) (Or.inl ⟨by rfl, ?_⟩) hHeld ?_
  rotate_left 1
  · (intro wq hSq; (try dsimp only at hSq); go_simp; first | done | with_reducible rfl)
  try simp only [Act.put, List.setIfInBounds_toArray, List.set_cons_zero, List.set_cons_succ]
  refine wpAnyH_take (i := 10) (oi := { dst := some 29, op := Go.Op.move (Go.Operand.tmp 4), type := 44, pos := "law.go:72", after := #[], guard := none }) (v := ?_) rfl (by kernel_rfl) (by kernel_rfl) (by kernel_rfl) (fun _ _ _ h => h) (Or.inl ⟨by rfl, ?_⟩) hHeld ?_
  rotate_left 1
  · (intro wq hSq; (try dsimp only at hSq); go_simp; first | done | with_reducible rfl)
  try simp only [Act.put, List.setIfInBounds_toArray, List.set_cons_zero, List.set_cons_succ]
  refine wpAnyH_ready (rs := [5]) (by kernel_rfl) (by simp) ?_
  refine AllReadyH.cons (o := { dst := some 24, op := Go.Op.call { callee := Go.Callee.value (Go.Operand.func 37), args := #[Go.Operand.tmp 19, Go.Operand.tmp 20, Go.Operand.tmp 21, Go.Operand.tmp 22, Go.Operand.tmp 23], argTypes := #[24, 3, 3, 22, 44] }, type := 4, pos := "law.go:72", after := #[{ on := 0, ground := Go.Ground.data }, { on := 1, ground := Go.Ground.data }, { on := 2, ground := Go.Ground.data }, { on := 3, ground := Go.Ground.data }, { on := 4, ground := Go.Ground.data }], guard := none }) rfl (fun K hK => ?_) AllReadyH.nil
  go_simp
  refine (D1.out _ (below_drew (Below.refl W.heap.size W))).mono ?_
  rintro e w4 ⟨rfl, b4⟩
  refine hK.out _ _ (Held.of HR.out hbl b4) (fun hHeld1 => ?_)
  clear hK K hHeld
  try simp only [Act.put, List.setIfInBounds_toArray, List.set_cons_zero, List.set_cons_succ]
  refine wpAnyH_ready (rs := [11]) (by kernel_rfl) (by simp) ?_
  refine AllReadyH.cons (o := { dst := some 30, op := Go.Op.call { callee := Go.Callee.value (Go.Operand.func 38), args := #[Go.Operand.tmp 25, Go.Operand.tmp 26, Go.Operand.tmp 27, Go.Operand.tmp 28, Go.Operand.tmp 29], argTypes := #[24, 3, 3, 22, 44] }, type := 4, pos := "law.go:72", after := #[{ on := 6, ground := Go.Ground.data }, { on := 7, ground := Go.Ground.data }, { on := 8, ground := Go.Ground.data }, { on := 9, ground := Go.Ground.data }, { on := 10, ground := Go.Ground.data }, { on := 5, ground := Go.Ground.chain }], guard := none }) rfl (fun K hK => ?_) AllReadyH.nil
  go_simp
  refine (D2.out _ b4).mono ?_
  rintro e w5 ⟨rfl, b5⟩
  refine hK.out _ _ (Held.of HR.out hbl b5) (fun hHeld2 => ?_)
  clear hK K hHeld1
  try simp only [Act.put, List.setIfInBounds_toArray, List.set_cons_zero, List.set_cons_succ]
  refine wpAnyH_take (i := 12) (oi := { dst := some 31, op := Go.Op.binOp Go.BinOp.eql 4 (Go.Operand.tmp 24) (Go.Operand.tmp 30) 4, type := 4, pos := "law.go:72", after := #[{ on := 5, ground := Go.Ground.data }, { on := 11, ground := Go.Ground.data }], guard := none }) (v := ?_) rfl (by kernel_rfl) (by kernel_rfl) (by kernel_rfl) (fun _ _ _ h => h) (Or.inl ⟨by rfl, ?_⟩) hHeld2 ?_
  rotate_left 1
  · (intro wq hSq; (try dsimp only at hSq); go_simp; first | done | with_reducible rfl)
  try simp only [Act.put, List.setIfInBounds_toArray, List.set_cons_zero, List.set_cons_succ]
  refine wpAnyH_take (i := 13) (oi := { dst := some 32, op := Go.Op.move (Go.Operand.tmp 31), type := 4, pos := "law.go:72", after := #[{ on := 12, ground := Go.Ground.data }, { on := 11, ground := Go.Ground.chain }], guard := none }) (v := ?_) rfl (by kernel_rfl) (by kernel_rfl) (by kernel_rfl) (fun _ _ _ h => h) (Or.inl ⟨by rfl, ?_⟩) hHeld2 ?_
  rotate_left 1
  · (intro wq hSq; (try dsimp only at hSq); go_simp; first | done | with_reducible rfl)
  try simp only [Act.put, List.setIfInBounds_toArray, List.set_cons_zero, List.set_cons_succ]
  refine wpAnyH_take (i := 14) (oi := { dst := some 33, op := Go.Op.move (Go.Operand.tmp 1), type := 3, pos := "law.go:72", after := #[{ on := 13, ground := Go.Ground.guard }], guard := some (13, true) }) (v := ?_) rfl (by kernel_rfl) (by kernel_rfl) (by kernel_rfl) (fun _ _ _ h => h) (Or.inl ⟨by rfl, ?_⟩) hHeld2 ?_
  rotate_left 1
  · (intro wq hSq; (try dsimp only at hSq); go_simp; first | done | with_reducible rfl)
  try simp only [Act.put, List.setIfInBounds_toArray, List.set_cons_zero, List.set_cons_succ]
  refine wpAnyH_take (i := 15) (oi := { dst := some 34, op := Go.Op.move (Go.Operand.tmp 2), type := 3, pos := "law.go:72", after := #[{ on := 13, ground := Go.Ground.guard }], guard := some (13, true) }) (v := ?_) rfl (by kernel_rfl) (by kernel_rfl) (by kernel_rfl) (fun _ _ _ h => h) (Or.inl ⟨by rfl, ?_⟩) hHeld2 ?_
  rotate_left 1
  · (intro wq hSq; (try dsimp only at hSq); go_simp; first | done | with_reducible rfl)
  try simp only [Act.put, List.setIfInBounds_toArray, List.set_cons_zero, List.set_cons_succ]
  refine wpAnyH_take (i := 17) (oi := { dst := some 36, op := Go.Op.move (Go.Operand.tmp 1), type := 3, pos := "law.go:72", after := #[{ on := 13, ground := Go.Ground.guard }], guard := some (13, true) }) (v := ?_) rfl (by kernel_rfl) (by kernel_rfl) (by kernel_rfl) (fun _ _ _ h => h) (Or.inl ⟨by rfl, ?_⟩) hHeld2 ?_
  rotate_left 1
  · (intro wq hSq; (try dsimp only at hSq); go_simp; first | done | with_reducible rfl)
  try simp only [Act.put, List.setIfInBounds_toArray, List.set_cons_zero, List.set_cons_succ]
  refine wpAnyH_take (i := 18) (oi := { dst := some 37, op := Go.Op.move (Go.Operand.tmp 2), type := 3, pos := "law.go:72", after := #[{ on := 13, ground := Go.Ground.guard }], guard := some (13, true) }) (v := ?_) rfl (by kernel_rfl) (by kernel_rfl) (by kernel_rfl) (fun _ _ _ h => h) (Or.inl ⟨by rfl, ?_⟩) hHeld2 ?_
  rotate_left 1
  · (intro wq hSq; (try dsimp only at hSq); go_simp; first | done | with_reducible rfl)
  try simp only [Act.put, List.setIfInBounds_toArray, List.set_cons_zero, List.set_cons_succ]
  refine wpAnyH_ready (rs := [16]) (by kernel_rfl) (by simp) ?_
  refine AllReadyH.cons (o := { dst := some 35, op := Go.Op.call { callee := Go.Callee.value (Go.Operand.func 36), args := #[Go.Operand.tmp 33, Go.Operand.tmp 34], argTypes := #[3, 3] }, type := 3, pos := "law.go:72", after := #[{ on := 14, ground := Go.Ground.data }, { on := 15, ground := Go.Ground.data }, { on := 13, ground := Go.Ground.chain }, { on := 13, ground := Go.Ground.guard }], guard := some (13, true) }) rfl (fun K hK => ?_) AllReadyH.nil
  go_simp
  refine (E3.out _).mono ?_
  rintro e w' ⟨rfl, hw'⟩; have hw'' := hw'.symm; clear hw'; subst hw''
  refine hK.out _ _ (Held.of HR.out hbl b5) (fun hHeld3 => ?_)
  clear hK K hHeld2
  try simp only [Act.put, List.setIfInBounds_toArray, List.set_cons_zero, List.set_cons_succ]
  refine wpAnyH_ready (rs := [19]) (by kernel_rfl) (by simp) ?_
  refine AllReadyH.cons (o := { dst := some 38, op := Go.Op.call { callee := Go.Callee.value (Go.Operand.func 39), args := #[Go.Operand.tmp 36, Go.Operand.tmp 37], argTypes := #[3, 3] }, type := 3, pos := "law.go:72", after := #[{ on := 17, ground := Go.Ground.data }, { on := 18, ground := Go.Ground.data }, { on := 16, ground := Go.Ground.chain }, { on := 13, ground := Go.Ground.guard }], guard := some (13, true) }) rfl (fun K hK => ?_) AllReadyH.nil
  go_simp
  refine (E4.out _).mono ?_
  rintro e w' ⟨rfl, hw'⟩; have hw'' := hw'.symm; clear hw'; subst hw''
  refine hK.out _ _ (Held.of HR.out hbl b5) (fun hHeld4 => ?_)
  clear hK K hHeld3
  try simp only [Act.put, List.setIfInBounds_toArray, List.set_cons_zero, List.set_cons_succ]
  refine wpAnyH_take (i := 20) (oi := { dst := some 39, op := Go.Op.binOp Go.BinOp.eql 3 (Go.Operand.tmp 35) (Go.Operand.tmp 38) 3, type := 4, pos := "law.go:72", after := #[{ on := 16, ground := Go.Ground.data }, { on := 19, ground := Go.Ground.data }, { on := 13, ground := Go.Ground.guard }], guard := some (13, true) }) (v := ?_) rfl (by kernel_rfl) (by kernel_rfl) (by kernel_rfl) (fun _ _ _ h => h) (Or.inl ⟨by rfl, ?_⟩) hHeld4 ?_
  rotate_left 1
  · (intro wq hSq; (try dsimp only at hSq); go_simp; first | done | with_reducible rfl)
  try simp only [Act.put, List.setIfInBounds_toArray, List.set_cons_zero, List.set_cons_succ]
  refine wpAnyH_take (i := 21) (oi := { dst := some 40, op := Go.Op.pick (Go.Operand.tmp 32) (Go.Operand.tmp 39) (Go.Operand.const (Go.Value.bool false)), type := 4, pos := "law.go:72", after := #[{ on := 13, ground := Go.Ground.data }, { on := 20, ground := Go.Ground.data }], guard := none }) (v := ?_) rfl (by kernel_rfl) (by kernel_rfl) (by kernel_rfl) (fun _ _ _ h => h) (Or.inl ⟨by rfl, ?_⟩) hHeld4 ?_
  rotate_left 1
  · (intro wq hSq; (try dsimp only at hSq); go_simp; first | done | with_reducible rfl)
  try simp only [Act.put, List.setIfInBounds_toArray, List.set_cons_zero, List.set_cons_succ]
  refine wpAnyH_take (i := 22) (oi := { dst := some 10, op := Go.Op.assign (Go.Operand.tmp 40), type := 4, pos := "law.go:72", after := #[{ on := 21, ground := Go.Ground.data }, { on := 19, ground := Go.Ground.chain }, { on := 0, ground := Go.Ground.phase }, { on := 1, ground := Go.Ground.phase }, { on := 2, ground := Go.Ground.phase }, { on := 3, ground := Go.Ground.phase }, { on := 4, ground := Go.Ground.phase }, { on := 5, ground := Go.Ground.phase }, { on := 6, ground := Go.Ground.phase }, { on := 7, ground := Go.Ground.phase }, { on := 8, ground := Go.Ground.phase }, { on := 9, ground := Go.Ground.phase }, { on := 10, ground := Go.Ground.phase }, { on := 11, ground := Go.Ground.phase }, { on := 12, ground := Go.Ground.phase }, { on := 13, ground := Go.Ground.phase }, { on := 14, ground := Go.Ground.phase }, { on := 15, ground := Go.Ground.phase }, { on := 16, ground := Go.Ground.phase }, { on := 17, ground := Go.Ground.phase }, { on := 18, ground := Go.Ground.phase }, { on := 19, ground := Go.Ground.phase }, { on := 20, ground := Go.Ground.phase }, { on := 21, ground := Go.Ground.phase }], guard := none }) (v := ?_) rfl (by kernel_rfl) (by kernel_rfl) (by kernel_rfl) (fun _ _ _ h => h) (Or.inl ⟨by rfl, ?_⟩) hHeld4 ?_
  rotate_left 1
  · (intro wq hSq; (try dsimp only at hSq); go_simp; first | done | with_reducible rfl)
  try simp only [Act.put, List.setIfInBounds_toArray, List.set_cons_zero, List.set_cons_succ]
  refine wpAnyH_done (by kernel_rfl) ?_ _
  refine NoPanic.normal ?_
  go_wp2
  go_ret
  exact ⟨rfl, bw.trans (b5.mono bw.size)⟩
set_option maxRecDepth 100000 in
set_option maxHeartbeats 1000000 in
theorem checks_out (R : List Int) (n i : Int) (v : Value) (av : Option Addr) (m cp : Nat) (w : World) (hm : 60 < m) (hcp : m ≤ 4611686018427387904) :
    Calls Tryd.prog 9 #[.agg (vB R), .int .i64 n, .int .i64 i, v, .slice av m cp] w fun e w' => e = .returned (.bool true) ∧ Below w.heap.size w w' := by
  have j60 : (60 : Int) < (m : Int) := by omega
  go_enter Tryd.func9, Tryd.ntmps9
  go_wp2_with fail
  refine (awake2_any _).mono ?_
  rintro e w1 ⟨rfl, b1⟩
  go_wp2_with fail
  refine (awake2_any _).mono ?_
  rintro e w2 ⟨rfl, b2⟩
  go_wp2
  go_ret
  have bA : Below w.heap.size w (w.alloc (Obj.cells (vB R) 24)) := (Below.refl _ _).alloc (Nat.le_refl _) _
  exact ⟨rfl, bA.trans ((b1.trans (b2.mono b1.size)).mono bA.size)⟩
theorem merkleChecks_walk (v : Value) (R : List Int) (n i : Int) (v3 v4 : Value) (bs : List Int) (pr : List (List Int)) (w : World) (hv : v = .agg (vB R)) (hR : R.length = 32) (hL : Laid w) (hp : PartAt w v3 bs) (hn : bs.length ≤ 140737488351232) (hby : Bytes bs) (hl : ListAt w v4 pr) (hH : Hashes pr) (hm : pr.length ≤ 140737488351232) :
    Calls Tryd.prog 9 #[v, .int .i64 n, .int .i64 i, v3, v4] w fun e w' => e = .returned (.bool true) ∧ Below w.heap.size w w' := by
  subst hv
  have hl0 := hl
  obtain ⟨av, b, o, cp, rfl, _⟩ := hl
  have h2 := hL.two
  by_cases h : 60 < pr.length
  · exact checks_out R n i v3 av pr.length cp w h (by omega)
  · exact checks_in R n i v3 av pr.length cp (chkB R n i bs pr) (depthI n i) w hR (by omega) (fun w' q => check_any R n i v3 _ bs pr w' hR (hL.below q h2) (hp.below q) hn (hl0.below q) hH (by omega)) (fun w' q => rcheck_any R n i v3 _ bs pr w' hR (by have := q.size; omega) (hp.below q) hn hby (hl0.below q) hH (by omega)) (fun w' => depth_any n i w') (fun w' => rdepth_any n i w')
end Go.Proofs.YtlcenbhcegmnoaaDoor
