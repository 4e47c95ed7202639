import Derived.Test.YtjkccnfmmkhapaaSc
namespace Go.Proofs.Ytjkccnfmmkhapaa
set_option linter.unusedSimpArgs false
set_option linter.unusedVariables false
open Go.RowKit
set_option maxHeartbeats 1000000 in
set_option maxRecDepth 100000 in
theorem right_text (x : It) (hx : x.Ok) (k2 : x.kind = 2) (hl : x.s.size ≤ 65535) (w : World) : Calls Try.prog 9 #[.agg (itC x)] w (RightOf x w) := by
  have b1 : Below w.heap.size w (w.alloc (.cells (itC x) 34)) := (Below.refl _ _).alloc (Nat.le_refl _) _
  have hg := heap_alloc_new w (.cells (itC x) 34)
  have c0 : (w.alloc (.cells (itC x) 34)).cell? ⟨w.heap.size, 0, none⟩ = some (.int .u8 x.kind) := row_cell hg (itC_0 x)
  have c4 := row_cell hg (itC_4 x)
  have hit : Hid (itSt x = some (numB x.s.size 2 ++ nB x.s)) := by
    unfold Hid itSt textSt
    rw [if_neg (by omega), if_neg (by omega), if_pos k2]
    have : numSt x.s.size 2 = some (numB x.s.size 2) := by
      unfold numSt fitsB
      rw [show ((2 : Int).toNat) = 2 from rfl, decide_eq_true (by omega)]; rfl
    rw [this]; rfl
  have hl' : ¬ (65535 : Int) < (x.s.size : Int) := by omega
  have hc64 : IntKind.u64.wrap (x.s.size : Int) = (x.s.size : Int) := by rw [show IntKind.u64.wrap (x.s.size : Int) = (x.s.size : Int) % 18446744073709551616 from rfl]; omega
  have ST : Hid (∀ w', Below (w.heap.size + 1) (w.alloc (.cells (itC x) 34)) w' → Below w.heap.size w w' ∧ w'.cell? ⟨w.heap.size, 4, none⟩ = some (.string x.s)) := fun w' h =>
    ⟨b1.trans (h.mono (by omega)), by rw [h.cell (show w.heap.size < w.heap.size + 1 by omega)]; exact c4⟩
  have C : Hid (∀ W : World, Below (w.heap.size + 1) (w.alloc (.cells (itC x) 34)) W → Calls Try.prog 26 #[.int .u64 x.s.size, .int .i64 2] W fun e w' => ∃ v, e = .returned v ∧ OwnB w' W.heap.size v (numB x.s.size 2) ∧ Below (w.heap.size + 1) (w.alloc (.cells (itC x) 34)) w' ∧ Below W.heap.size W w') := fun W hW =>
    (lnum_any x.s.size (by omega) (by omega) 2 (by omega) W).mono fun e w' ⟨v, h1, h2, h3⟩ => ⟨v, h1, h2, hW.trans (h3.mono (by have := hW.size; simp at this; omega)), h3⟩
  have B0 : Hid (Below (w.heap.size + 1) (w.alloc (.cells (itC x) 34)) (w.alloc (.cells (itC x) 34)).drew) := (Below.refl _ _).drew
  have HL : Hid ((numB x.s.size 2).length = 2) := numB_length _ _
  clear b1 hg
  go_enter Try.func9, Try.ntmps9
  go_wp2
  refine wp_region_noPanic ?_
  refine wp_region_held_drew (S := fun w' => Below (w.heap.size + 1) (w.alloc (.cells (itC x) 34)) w' ∧ w'.cell? ⟨w.heap.size, 4, none⟩ = some (.string x.s)) (by kernel_rfl) (⟨B0.out, (ST.out _ B0.out).2⟩) (fun hHeld => ?_)
  try simp only [Act.put, List.setIfInBounds_toArray, List.set_cons_zero, List.set_cons_succ]
  refine wpAnyH_take (i := 0) (oi := { dst := some 55, op := Go.Op.fieldAddr 34 (Go.Operand.tmp 1) 4, type := 0, pos := "law.go:79", after := #[], guard := none }) (v := ?_) rfl (by kernel_rfl) (by kernel_rfl) (by kernel_rfl) (fun _ _ _ h => h) (Or.inl ⟨by rfl, ?_⟩) hHeld ?_
  rotate_left 1
  · (intro wq hSq; (try dsimp only at hSq); go_simp; first | done | with_reducible rfl)
  try simp only [Act.put, List.setIfInBounds_toArray, List.set_cons_zero, List.set_cons_succ]
  refine wpAnyH_take (i := 1) (oi := { dst := some 56, op := Go.Op.load 9 (Go.Operand.tmp 55), type := 9, pos := "law.go:79", after := #[{ on := 0, ground := Go.Ground.data }], guard := none }) (v := ?_) rfl (by kernel_rfl) (by kernel_rfl) (by kernel_rfl) (fun _ _ _ h => h) (Or.inl ⟨by rfl, ?_⟩) hHeld ?_
  rotate_left 1
  · (intro wq hSq; (try dsimp only at hSq); have hq := hSq.2; go_simp; first | done | with_reducible rfl)
  try simp only [Act.put, List.setIfInBounds_toArray, List.set_cons_zero, List.set_cons_succ]
  refine wpAnyH_take (i := 2) (oi := { dst := some 57, op := Go.Op.call { callee := Go.Callee.builtin Go.Builtin.len, args := #[Go.Operand.tmp 56], argTypes := #[9] }, type := 3, pos := "law.go:79", after := #[{ on := 1, ground := Go.Ground.data }], guard := none }) (v := ?_) rfl (by kernel_rfl) (by kernel_rfl) (by kernel_rfl) (fun _ _ _ h => h) (Or.inl ⟨by rfl, ?_⟩) hHeld ?_
  rotate_left 1
  · (intro wq hSq; (try dsimp only at hSq); go_simp; first | done | with_reducible rfl)
  try simp only [Act.put, List.setIfInBounds_toArray, List.set_cons_zero, List.set_cons_succ]
  refine wpAnyH_take (i := 3) (oi := { dst := some 58, op := Go.Op.convert 3 31 (Go.Operand.tmp 57), type := 31, pos := "law.go:79", after := #[{ on := 2, ground := Go.Ground.data }], guard := none }) (v := ?_) rfl (by kernel_rfl) (by kernel_rfl) (by kernel_rfl) (fun _ _ _ h => h) (Or.inl ⟨by rfl, ?_⟩) hHeld ?_
  rotate_left 1
  · (intro wq hSq; (try dsimp only at hSq); go_simp; first | done | with_reducible rfl)
  try simp only [Act.put, List.setIfInBounds_toArray, List.set_cons_zero, List.set_cons_succ]
  refine wpAnyH_take (i := 5) (oi := { dst := some 60, op := Go.Op.fieldAddr 34 (Go.Operand.tmp 1) 4, type := 0, pos := "law.go:79", after := #[], guard := none }) (v := ?_) rfl (by kernel_rfl) (by kernel_rfl) (by kernel_rfl) (fun _ _ _ h => h) (Or.inl ⟨by rfl, ?_⟩) hHeld ?_
  rotate_left 1
  · (intro wq hSq; (try dsimp only at hSq); go_simp; first | done | with_reducible rfl)
  try simp only [Act.put, List.setIfInBounds_toArray, List.set_cons_zero, List.set_cons_succ]
  refine wpAnyH_take (i := 6) (oi := { dst := some 61, op := Go.Op.load 9 (Go.Operand.tmp 60), type := 9, pos := "law.go:79", after := #[{ on := 5, ground := Go.Ground.data }], guard := none }) (v := ?_) rfl (by kernel_rfl) (by kernel_rfl) (by kernel_rfl) (fun _ _ _ h => h) (Or.inl ⟨by rfl, ?_⟩) hHeld ?_
  rotate_left 1
  · (intro wq hSq; (try dsimp only at hSq); have hq := hSq.2; go_simp; first | done | with_reducible rfl)
  try simp only [Act.put, List.setIfInBounds_toArray, List.set_cons_zero, List.set_cons_succ]
  refine wpAnyH_ready (rs := [4]) (by kernel_rfl) (by simp) ?_
  refine AllReadyH.cons (o := { dst := some 59, op := Go.Op.call { callee := Go.Callee.value (Go.Operand.func 26), args := #[Go.Operand.tmp 58, Go.Operand.const (Go.Value.int Go.IntKind.i64 2)], argTypes := #[31, 3] }, type := 28, pos := "law.go:79", after := #[{ on := 3, ground := Go.Ground.data }], guard := none }) rfl (fun K hK => ?_) AllReadyH.nil
  go_simp
  refine (C.out _ B0.out).mono ?_
  rintro e w3 ⟨v, rfl, o3, b3, b33⟩
  refine hK.out _ _ (⟨b3, (ST.out _ b3).2⟩) (fun hHeld1 => ?_)
  clear hK K hHeld
  try simp only [Act.put, List.setIfInBounds_toArray, List.set_cons_zero, List.set_cons_succ]
  refine wpAnyH_ready (rs := [7]) (by kernel_rfl) (by simp) ?_
  refine AllReadyH.cons (o := { dst := some 62, op := Go.Op.call { callee := Go.Callee.builtin Go.Builtin.append, args := #[Go.Operand.tmp 59, Go.Operand.tmp 61], argTypes := #[28, 9] }, type := 28, pos := "law.go:79", after := #[{ on := 4, ground := Go.Ground.data }, { on := 6, ground := Go.Ground.data }, { on := 4, ground := Go.Ground.chain }], guard := none }) rfl (fun K hK => ?_) AllReadyH.nil
  refine step_appendS rfl _ _ rfl (w.heap.size + 1) v (numB x.s.size 2) (by rfl) (o3.mono (by simp)) x.s (by rfl) (by rw [HL.out]; omega) (by have := b3.size; simp at this; omega) ?_
  intro v4 w4 o4 g4
  have b4 : Below (w.heap.size + 1) (w.alloc (.cells (itC x) 34)) w4 := b3.grown g4 (by have := b3.size; simpa using this) (fun k hk => by have := o3.row k hk; simpa using this)
  refine hK.out _ _ (⟨b4, (ST.out _ b4).2⟩) (fun hHeld2 => ?_)
  clear hK K hHeld1
  try simp only [Act.put, List.setIfInBounds_toArray, List.set_cons_zero, List.set_cons_succ]
  refine wpAnyH_take (i := 8) (oi := { dst := some 2, op := Go.Op.assign (Go.Operand.tmp 62), type := 28, pos := "law.go:79", after := #[{ on := 7, ground := Go.Ground.data }, { on := 7, ground := Go.Ground.chain }, { on := 0, ground := Go.Ground.phase }, { on := 1, ground := Go.Ground.phase }, { on := 2, ground := Go.Ground.phase }, { on := 3, ground := Go.Ground.phase }, { on := 4, ground := Go.Ground.phase }, { on := 5, ground := Go.Ground.phase }, { on := 6, ground := Go.Ground.phase }, { on := 7, ground := Go.Ground.phase }], guard := none }) (v := ?_) rfl (by kernel_rfl) (by kernel_rfl) (by kernel_rfl) (fun _ _ _ h => h) (Or.inl ⟨by rfl, ?_⟩) hHeld2 ?_
  rotate_left 1
  · (intro wq hSq; (try dsimp only at hSq); go_simp; first | done | with_reducible rfl)
  try simp only [Act.put, List.setIfInBounds_toArray, List.set_cons_zero, List.set_cons_succ]
  refine wpAnyH_take (i := 9) (oi := { dst := some 3, op := Go.Op.assign (Go.Operand.const (Go.Value.bool true)), type := 4, pos := "law.go:79", after := #[{ on := 8, ground := Go.Ground.chain }, { on := 0, ground := Go.Ground.phase }, { on := 1, ground := Go.Ground.phase }, { on := 2, ground := Go.Ground.phase }, { on := 3, ground := Go.Ground.phase }, { on := 4, ground := Go.Ground.phase }, { on := 5, ground := Go.Ground.phase }, { on := 6, ground := Go.Ground.phase }, { on := 7, ground := Go.Ground.phase }, { on := 8, ground := Go.Ground.phase }], guard := none }) (v := ?_) rfl (by kernel_rfl) (by kernel_rfl) (by kernel_rfl) (fun _ _ _ h => h) (Or.inl ⟨by rfl, ?_⟩) hHeld2 ?_
  rotate_left 1
  · (intro wq hSq; (try dsimp only at hSq); go_simp; first | done | with_reducible rfl)
  try simp only [Act.put, List.setIfInBounds_toArray, List.set_cons_zero, List.set_cons_succ]
  refine wpAnyH_done (by kernel_rfl) ?_ _
  refine NoPanic.normal ?_
  go_wp2
  go_ret2
  exact rightOf_some hit.out _ rfl (o4.partG (by have := b4.size; simp at this; omega)) (ST.out _ b4).1
theorem right_any (x : It) (hx : x.Ok) (w : World) : Calls Try.prog 9 #[.agg (itC x)] w (RightOf x w) := by
  by_cases k0 : x.kind = 0
  · cases hs : sizeB x.size with
    | false => exact right_nosize x hx k0 hs w
    | true =>
      obtain ⟨k, hz, hk⟩ := sizeB_cases hs
      cases hf : fitsB x.n k with
      | true => exact right_num x hx k0 k hk hz hf w
      | false =>
        refine right_nofit x hx k0 k ?_ hz hf w
        have h1 := hx.n1
        have h0 := hx.n0
        have hf' := of_decide_eq_false hf
        rcases hk with rfl | rfl | rfl | rfl
        · omega
        · omega
        · omega
        · exfalso
          apply hf'
          show x.n / 18446744073709551616 = 0
          omega
  by_cases k1 : x.kind = 1
  · exact right_truth x hx k1 w
  by_cases k2 : x.kind = 2
  · rcases Nat.lt_or_ge 65535 x.s.size with h | h
    · exact right_long x hx k2 h w
    · exact right_text x hx k2 h w
  exact right_hash x hx k0 k1 k2 w
end Go.Proofs.Ytjkccnfmmkhapaa
