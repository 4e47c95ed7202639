import Derived.Test.YtnpjknnalekdpaaGe
import Derived.Test.YtnpjknnalekdpaaGj
namespace Go.Proofs.Ytnpjknnalekdpaa
set_option linter.unusedSimpArgs false
set_option linter.unusedVariables false
open Go.RowKit
theorem form_no {m : Msg} (h : formB m = true → False) : formB m = false := by
  cases hf : formB m with
  | false => rfl
  | true => exact absurd hf (fun q => h q)
theorem ofKind_other (m : Msg) (h : ¬ m.kind = 1) : (ofKind m).base = 0 ∧ (ofKind m).s = ⟨#[]⟩ := by
  unfold ofKind
  rw [if_neg h]
  split
  · split <;> exact ⟨rfl, rfl⟩
  · split <;> exact ⟨rfl, rfl⟩
theorem form_mk (m : Msg) (h1 : 1 ≤ m.kind) (h2 : m.kind ≤ 6) (h3 : 0 ≤ m.frm) (h4 : m.frm ≤ 16) (h5 : 0 ≤ m.to) (h6 : m.to ≤ 16) (h7 : ¬ m.frm = m.to) (h8 : 1 ≤ m.id) (h9 : m.id ≤ 4294967295) (h10 : eqM m (ofKind m) = true) (h11 : inB m = true) : formB m = true := by
  unfold formB kindB nodeB
  rw [h10, h11]
  simp [h1, h2, h3, h4, h5, h6, h7, h9]
  omega
/-- What base and script are, where nothing stands that the kind does not have. -/
theorem base_of {m : Msg} (h : formB m = true) : m.base ≤ 4294967295 ∧ m.s.size ≤ 500 := by
  obtain ⟨_, _, _, _, _, _, e, n⟩ := form_all h
  unfold inB at n
  by_cases k : m.kind = 1
  · rw [if_pos k] at n; exact of_decide_eq_true n
  · have := ofKind_other m k
    rw [← e] at this
    rw [this.1, this.2]
    exact ⟨by omega, by show (0 : Nat) ≤ 500; omega⟩
set_option maxHeartbeats 1000000 in
set_option maxRecDepth 100000 in
theorem rform_0 (m : Msg) (hm : m.Ok) (h0 : ¬ 1 ≤ m.kind) (w : World) : Calls Try.prog 27 #[.agg (mC m).toArray] w fun e w' => e = .returned (.bool (formB m)) ∧ Below w.heap.size w w' := by
  have HF : Hid (formB m = false) := form_no (fun q => by have r := form_all q; omega)
  have hg := heap_alloc_new w (.cells (mC m).toArray 37)
  have c0 := row_cell hg (mC_0 m)
  have c1 := row_cell hg (mC_1 m)
  have c2 := row_cell hg (mC_2 m)
  have c3 := row_cell hg (mC_3 m)
  have B1 : Hid (Below w.heap.size w (w.alloc (.cells (mC m).toArray 37))) := (Below.refl _ _).alloc (Nat.le_refl _) _
  clear hm hg
  generalize (mC m).toArray = C at *
  generalize hR : formB m = R at *
  clear hR
  go_enter Try.func27, Try.ntmps27
  go_wp2
  go_ret
  exact ⟨by rw [HF.out]; rfl, B1.out⟩
set_option maxHeartbeats 1000000 in
set_option maxRecDepth 100000 in
theorem rform_1 (m : Msg) (hm : m.Ok) (h0 : 1 ≤ m.kind) (h1 : ¬ m.kind ≤ 6) (w : World) : Calls Try.prog 27 #[.agg (mC m).toArray] w fun e w' => e = .returned (.bool (formB m)) ∧ Below w.heap.size w w' := by
  have HF : Hid (formB m = false) := form_no (fun q => by have r := form_all q; omega)
  have hg := heap_alloc_new w (.cells (mC m).toArray 37)
  have c0 := row_cell hg (mC_0 m)
  have c1 := row_cell hg (mC_1 m)
  have c2 := row_cell hg (mC_2 m)
  have c3 := row_cell hg (mC_3 m)
  have B1 : Hid (Below w.heap.size w (w.alloc (.cells (mC m).toArray 37))) := (Below.refl _ _).alloc (Nat.le_refl _) _
  clear hm hg
  generalize (mC m).toArray = C at *
  generalize hR : formB m = R at *
  clear hR
  go_enter Try.func27, Try.ntmps27
  go_wp2
  go_ret
  exact ⟨by rw [HF.out]; rfl, B1.out⟩
set_option maxHeartbeats 1000000 in
set_option maxRecDepth 100000 in
theorem rform_2 (m : Msg) (hm : m.Ok) (h0 : 1 ≤ m.kind) (h1 : m.kind ≤ 6) (h2 : ¬ 0 ≤ m.frm) (w : World) : Calls Try.prog 27 #[.agg (mC m).toArray] w fun e w' => e = .returned (.bool (formB m)) ∧ Below w.heap.size w w' := by
  have HF : Hid (formB m = false) := form_no (fun q => by have r := form_all q; omega)
  have hg := heap_alloc_new w (.cells (mC m).toArray 37)
  have c0 := row_cell hg (mC_0 m)
  have c1 := row_cell hg (mC_1 m)
  have c2 := row_cell hg (mC_2 m)
  have c3 := row_cell hg (mC_3 m)
  have B1 : Hid (Below w.heap.size w (w.alloc (.cells (mC m).toArray 37))) := (Below.refl _ _).alloc (Nat.le_refl _) _
  clear hm hg
  generalize (mC m).toArray = C at *
  generalize hR : formB m = R at *
  clear hR
  go_enter Try.func27, Try.ntmps27
  go_wp2
  go_ret
  exact ⟨by rw [HF.out]; rfl, B1.out⟩
set_option maxHeartbeats 1000000 in
set_option maxRecDepth 100000 in
theorem rform_3 (m : Msg) (hm : m.Ok) (h0 : 1 ≤ m.kind) (h1 : m.kind ≤ 6) (h2 : 0 ≤ m.frm) (h3 : ¬ m.frm ≤ 16) (w : World) : Calls Try.prog 27 #[.agg (mC m).toArray] w fun e w' => e = .returned (.bool (formB m)) ∧ Below w.heap.size w w' := by
  have HF : Hid (formB m = false) := form_no (fun q => by have r := form_all q; omega)
  have hg := heap_alloc_new w (.cells (mC m).toArray 37)
  have c0 := row_cell hg (mC_0 m)
  have c1 := row_cell hg (mC_1 m)
  have c2 := row_cell hg (mC_2 m)
  have c3 := row_cell hg (mC_3 m)
  have B1 : Hid (Below w.heap.size w (w.alloc (.cells (mC m).toArray 37))) := (Below.refl _ _).alloc (Nat.le_refl _) _
  clear hm hg
  generalize (mC m).toArray = C at *
  generalize hR : formB m = R at *
  clear hR
  go_enter Try.func27, Try.ntmps27
  go_wp2
  go_ret
  exact ⟨by rw [HF.out]; rfl, B1.out⟩
set_option maxHeartbeats 1000000 in
set_option maxRecDepth 100000 in
theorem rform_4 (m : Msg) (hm : m.Ok) (h0 : 1 ≤ m.kind) (h1 : m.kind ≤ 6) (h2 : 0 ≤ m.frm) (h3 : m.frm ≤ 16) (h4 : ¬ 0 ≤ m.to) (w : World) : Calls Try.prog 27 #[.agg (mC m).toArray] w fun e w' => e = .returned (.bool (formB m)) ∧ Below w.heap.size w w' := by
  have HF : Hid (formB m = false) := form_no (fun q => by have r := form_all q; omega)
  have hg := heap_alloc_new w (.cells (mC m).toArray 37)
  have c0 := row_cell hg (mC_0 m)
  have c1 := row_cell hg (mC_1 m)
  have c2 := row_cell hg (mC_2 m)
  have c3 := row_cell hg (mC_3 m)
  have B1 : Hid (Below w.heap.size w (w.alloc (.cells (mC m).toArray 37))) := (Below.refl _ _).alloc (Nat.le_refl _) _
  clear hm hg
  generalize (mC m).toArray = C at *
  generalize hR : formB m = R at *
  clear hR
  go_enter Try.func27, Try.ntmps27
  go_wp2
  go_ret
  exact ⟨by rw [HF.out]; rfl, B1.out⟩
set_option maxHeartbeats 1000000 in
set_option maxRecDepth 100000 in
theorem rform_5 (m : Msg) (hm : m.Ok) (h0 : 1 ≤ m.kind) (h1 : m.kind ≤ 6) (h2 : 0 ≤ m.frm) (h3 : m.frm ≤ 16) (h4 : 0 ≤ m.to) (h5 : ¬ m.to ≤ 16) (w : World) : Calls Try.prog 27 #[.agg (mC m).toArray] w fun e w' => e = .returned (.bool (formB m)) ∧ Below w.heap.size w w' := by
  have HF : Hid (formB m = false) := form_no (fun q => by have r := form_all q; omega)
  have hg := heap_alloc_new w (.cells (mC m).toArray 37)
  have c0 := row_cell hg (mC_0 m)
  have c1 := row_cell hg (mC_1 m)
  have c2 := row_cell hg (mC_2 m)
  have c3 := row_cell hg (mC_3 m)
  have B1 : Hid (Below w.heap.size w (w.alloc (.cells (mC m).toArray 37))) := (Below.refl _ _).alloc (Nat.le_refl _) _
  clear hm hg
  generalize (mC m).toArray = C at *
  generalize hR : formB m = R at *
  clear hR
  go_enter Try.func27, Try.ntmps27
  go_wp2
  go_ret
  exact ⟨by rw [HF.out]; rfl, B1.out⟩
set_option maxHeartbeats 1000000 in
set_option maxRecDepth 100000 in
theorem rform_6 (m : Msg) (hm : m.Ok) (h0 : 1 ≤ m.kind) (h1 : m.kind ≤ 6) (h2 : 0 ≤ m.frm) (h3 : m.frm ≤ 16) (h4 : 0 ≤ m.to) (h5 : m.to ≤ 16) (h6 : m.frm = m.to) (w : World) : Calls Try.prog 27 #[.agg (mC m).toArray] w fun e w' => e = .returned (.bool (formB m)) ∧ Below w.heap.size w w' := by
  have HF : Hid (formB m = false) := form_no (fun q => by have r := form_all q; omega)
  have hg := heap_alloc_new w (.cells (mC m).toArray 37)
  have c0 := row_cell hg (mC_0 m)
  have c1 := row_cell hg (mC_1 m)
  have c2 := row_cell hg (mC_2 m)
  have c3 := row_cell hg (mC_3 m)
  have B1 : Hid (Below w.heap.size w (w.alloc (.cells (mC m).toArray 37))) := (Below.refl _ _).alloc (Nat.le_refl _) _
  have hne : (m.frm == m.to) = true := by simpa using h6
  clear hne
  rw [h6] at c1
  clear hm hg
  generalize (mC m).toArray = C at *
  generalize hR : formB m = R at *
  clear hR
  go_enter Try.func27, Try.ntmps27
  go_wp2
  go_ret
  exact ⟨by rw [HF.out]; rfl, B1.out⟩
set_option maxHeartbeats 1000000 in
set_option maxRecDepth 100000 in
theorem rform_7 (m : Msg) (hm : m.Ok) (h0 : 1 ≤ m.kind) (h1 : m.kind ≤ 6) (h2 : 0 ≤ m.frm) (h3 : m.frm ≤ 16) (h4 : 0 ≤ m.to) (h5 : m.to ≤ 16) (h6 : ¬ m.frm = m.to) (h7 : ¬ 1 ≤ m.id) (w : World) : Calls Try.prog 27 #[.agg (mC m).toArray] w fun e w' => e = .returned (.bool (formB m)) ∧ Below w.heap.size w w' := by
  have HF : Hid (formB m = false) := form_no (fun q => by have r := form_all q; omega)
  have hg := heap_alloc_new w (.cells (mC m).toArray 37)
  have c0 := row_cell hg (mC_0 m)
  have c1 := row_cell hg (mC_1 m)
  have c2 := row_cell hg (mC_2 m)
  have c3 := row_cell hg (mC_3 m)
  have B1 : Hid (Below w.heap.size w (w.alloc (.cells (mC m).toArray 37))) := (Below.refl _ _).alloc (Nat.le_refl _) _
  have hne : (m.frm == m.to) = false := by simpa using h6
  clear h6
  clear hm hg
  generalize (mC m).toArray = C at *
  generalize hR : formB m = R at *
  clear hR
  go_enter Try.func27, Try.ntmps27
  go_wp2
  go_ret
  exact ⟨by rw [HF.out]; rfl, B1.out⟩
set_option maxHeartbeats 1000000 in
set_option maxRecDepth 100000 in
theorem rform_8 (m : Msg) (hm : m.Ok) (h0 : 1 ≤ m.kind) (h1 : m.kind ≤ 6) (h2 : 0 ≤ m.frm) (h3 : m.frm ≤ 16) (h4 : 0 ≤ m.to) (h5 : m.to ≤ 16) (h6 : ¬ m.frm = m.to) (h7 : 1 ≤ m.id) (h8 : ¬ m.id ≤ 4294967295) (w : World) : Calls Try.prog 27 #[.agg (mC m).toArray] w fun e w' => e = .returned (.bool (formB m)) ∧ Below w.heap.size w w' := by
  have HF : Hid (formB m = false) := form_no (fun q => by have r := form_all q; omega)
  have hg := heap_alloc_new w (.cells (mC m).toArray 37)
  have c0 := row_cell hg (mC_0 m)
  have c1 := row_cell hg (mC_1 m)
  have c2 := row_cell hg (mC_2 m)
  have c3 := row_cell hg (mC_3 m)
  have B1 : Hid (Below w.heap.size w (w.alloc (.cells (mC m).toArray 37))) := (Below.refl _ _).alloc (Nat.le_refl _) _
  have hne : (m.frm == m.to) = false := by simpa using h6
  clear h6
  clear hm hg
  generalize (mC m).toArray = C at *
  generalize hR : formB m = R at *
  clear hR
  go_enter Try.func27, Try.ntmps27
  go_wp2
  go_ret
  exact ⟨by rw [HF.out]; rfl, B1.out⟩
set_option maxHeartbeats 1000000 in
set_option maxRecDepth 100000 in
theorem rform_e (m : Msg) (hm : m.Ok) (h0 : 1 ≤ m.kind) (h1 : m.kind ≤ 6) (h2 : 0 ≤ m.frm) (h3 : m.frm ≤ 16) (h4 : 0 ≤ m.to) (h5 : m.to ≤ 16) (h6 : ¬ m.frm = m.to) (h7 : 1 ≤ m.id) (h8 : m.id ≤ 4294967295) (he : eqM m (ofKind m) = false) (w : World) : Calls Try.prog 27 #[.agg (mC m).toArray] w fun e w' => e = .returned (.bool (formB m)) ∧ Below w.heap.size w w' := by
  have HF : Hid (formB m = false) := form_no (fun q => by have r := (form_all q).2.2.2.2.2.2.1; rw [(eqM_iff _ _).2 r] at he; cases he)
  have hg := heap_alloc_new w (.cells (mC m).toArray 37)
  have c0 := row_cell hg (mC_0 m)
  have c1 := row_cell hg (mC_1 m)
  have c2 := row_cell hg (mC_2 m)
  have c3 := row_cell hg (mC_3 m)
  have B1 : Hid (Below w.heap.size w (w.alloc (.cells (mC m).toArray 37))) := (Below.refl _ _).alloc (Nat.le_refl _) _
  have HM : Hid (m.Ok) := hm
  have PL : Hid (∀ W, Calls Try.prog 34 #[.agg (mC m).toArray] W fun e w' => e = .returned (.agg (mC (ofKind m)).toArray) ∧ Below W.heap.size W w') := fun W => plain_any m hm W
  have EQ : Hid (∀ W, (Op.equalIn 10000 37 (.agg (mC m).toArray) (.agg (mC (ofKind m)).toArray)).run Try.prog W = .ok false W) := fun W => by rw [← he]; exact eq65_any 9996 m (ofKind m) hm (ofKind_ok m hm) W
  have GB : Hid (∀ W, W = w.alloc (.cells (mC m).toArray 37) → BoxM 37 W.drew w.heap.size m ∧ Below w.heap.size w W.drew) := fun W hW => by
    subst hW
    exact ⟨heap_alloc_new w (.cells (mC m).toArray 37), ((Below.refl _ _).alloc (Nat.le_refl _) _).drew⟩
  have hne : (m.frm == m.to) = false := by simpa using h6
  have hsz := hm.s
  clear hm hg h6 he B1
  generalize hR : formB m = R at *
  clear hR
  go_enter Try.func27, Try.ntmps27
  go_wp2_with fail
  obtain ⟨W1, hW1⟩ : ∃ W, W = w.alloc (.cells (mC m).toArray 37) := ⟨_, rfl⟩
  have H1 : Hid (BoxM 37 W1.drew w.heap.size m) := (GB.out W1 hW1).1
  have B1 : Hid (Below w.heap.size w W1.drew) := (GB.out W1 hW1).2
  rw [← hW1]
  clear hW1 GB c0 c1 c2 c3
  refine wp_region_noPanic ?_
  refine wp_region_held_drew (S := fun w' => BoxM 37 w' w.heap.size m) (by kernel_rfl) (H1.out) (fun hHeld => ?_)
  try simp only [Act.put, List.setIfInBounds_toArray, List.set_cons_zero, List.set_cons_succ]
  refine wpAnyH_take (i := 0) (oi := { dst := some 48, op := Go.Op.load 37 (Go.Operand.tmp 1), type := 37, pos := "ref.go:297", after := #[], guard := none }) (v := .agg (List.toArray (mC m))) rfl (by kernel_rfl) (by kernel_rfl) (by kernel_rfl) (fun _ _ _ h => h) (yieldsIf_load_mid rfl 37 _ rfl w.heap.size 0 rfl (mC m) _ (fun wq hSq => box_range hSq) Try.underlying37 rfl (by rw [size65, mC_length m HM.out])) hHeld ?_
  try simp only [Act.put, List.setIfInBounds_toArray, List.set_cons_zero, List.set_cons_succ]
  refine wpAnyH_take (i := 1) (oi := { dst := some 49, op := Go.Op.load 37 (Go.Operand.tmp 1), type := 37, pos := "ref.go:297", after := #[], guard := none }) (v := .agg (List.toArray (mC m))) rfl (by kernel_rfl) (by kernel_rfl) (by kernel_rfl) (fun _ _ _ h => h) (yieldsIf_load_mid rfl 37 _ rfl w.heap.size 0 rfl (mC m) _ (fun wq hSq => box_range hSq) Try.underlying37 rfl (by rw [size65, mC_length m HM.out])) hHeld ?_
  try simp only [Act.put, List.setIfInBounds_toArray, List.set_cons_zero, List.set_cons_succ]
  refine wpAnyH_ready (rs := [2]) (by kernel_rfl) (by simp) ?_
  refine AllReadyH.cons (o := { dst := some 50, op := Go.Op.call { callee := Go.Callee.value (Go.Operand.func 34), args := #[Go.Operand.tmp 49], argTypes := #[37] }, type := 37, pos := "ref.go:297", after := #[{ on := 1, ground := Go.Ground.data }], guard := none }) rfl (fun K hK => ?_) AllReadyH.nil
  go_simp
  refine (PL.out _).mono ?_
  rintro e w3 ⟨rfl, b3⟩
  have H3 : Hid (BoxM 37 w3 w.heap.size m) := H1.out.below b3
  have B3 : Hid (Below w.heap.size w w3) := B1.out.trans (b3.mono B1.out.size)
  clear b3
  refine hK.out _ _ (H3.out) (fun hHeld1 => ?_)
  clear hK K hHeld
  try simp only [Act.put, List.setIfInBounds_toArray, List.set_cons_zero, List.set_cons_succ]
  refine wpAnyH_take (i := 3) (oi := { dst := some 51, op := Go.Op.binOp Go.BinOp.neq 37 (Go.Operand.tmp 48) (Go.Operand.tmp 50) 37, type := 4, pos := "ref.go:297", after := #[{ on := 0, ground := Go.Ground.data }, { on := 2, ground := Go.Ground.data }], guard := none }) (v := (.bool true)) rfl (by kernel_rfl) (by kernel_rfl) (by kernel_rfl) (fun _ _ _ h => h) (Or.inl ⟨by rfl, ?_⟩) hHeld1 ?_
  · (intro wq hSq; exact run_neq 37 guard65 _ _ _ _ _ rfl _ _ rfl rfl _ wq (EQ.out wq))
  try simp only [Act.put, List.setIfInBounds_toArray, List.set_cons_zero, List.set_cons_succ]
  refine wpAnyH_take (i := 4) (oi := { dst := some 52, op := Go.Op.move (Go.Operand.tmp 51), type := 4, pos := "ref.go:297", after := #[{ on := 3, ground := Go.Ground.data }, { on := 2, ground := Go.Ground.chain }], guard := none }) (v := ?_) rfl (by kernel_rfl) (by kernel_rfl) (by kernel_rfl) (fun _ _ _ h => h) (Or.inl ⟨by rfl, ?_⟩) hHeld1 ?_
  rotate_left 1
  · (intro wq hSq; (try dsimp only at hSq); go_simp; first | done | with_reducible rfl)
  try simp only [Act.put, List.setIfInBounds_toArray, List.set_cons_zero, List.set_cons_succ]
  refine wpAnyH_take (i := 5) (oi := { dst := some 53, op := Go.Op.fieldAddr 37 (Go.Operand.tmp 1) 4, type := 0, pos := "ref.go:297", after := #[{ on := 4, ground := Go.Ground.guard }], guard := some (4, false) }) (v := undef) rfl (by kernel_rfl) (by kernel_rfl) (by kernel_rfl) (fun _ _ _ h => h) (Or.inr ⟨by rfl, rfl⟩) hHeld1 ?_
  try simp only [Act.put, List.setIfInBounds_toArray, List.set_cons_zero, List.set_cons_succ]
  refine wpAnyH_take (i := 6) (oi := { dst := some 54, op := Go.Op.load 24 (Go.Operand.tmp 53), type := 24, pos := "ref.go:297", after := #[{ on := 5, ground := Go.Ground.data }, { on := 4, ground := Go.Ground.guard }], guard := some (4, false) }) (v := undef) rfl (by kernel_rfl) (by kernel_rfl) (by kernel_rfl) (fun _ _ _ h => h) (Or.inr ⟨by rfl, rfl⟩) hHeld1 ?_
  try simp only [Act.put, List.setIfInBounds_toArray, List.set_cons_zero, List.set_cons_succ]
  refine wpAnyH_take (i := 7) (oi := { dst := some 55, op := Go.Op.binOp Go.BinOp.gtr 24 (Go.Operand.tmp 54) (Go.Operand.const (Go.Value.int Go.IntKind.u64 4294967295)) 24, type := 4, pos := "ref.go:297", after := #[{ on := 6, ground := Go.Ground.data }, { on := 4, ground := Go.Ground.guard }], guard := some (4, false) }) (v := undef) rfl (by kernel_rfl) (by kernel_rfl) (by kernel_rfl) (fun _ _ _ h => h) (Or.inr ⟨by rfl, rfl⟩) hHeld1 ?_
  try simp only [Act.put, List.setIfInBounds_toArray, List.set_cons_zero, List.set_cons_succ]
  refine wpAnyH_take (i := 8) (oi := { dst := some 56, op := Go.Op.pick (Go.Operand.tmp 52) (Go.Operand.const (Go.Value.bool true)) (Go.Operand.tmp 55), type := 4, pos := "ref.go:297", after := #[{ on := 4, ground := Go.Ground.data }, { on := 7, ground := Go.Ground.data }], guard := none }) (v := ?_) rfl (by kernel_rfl) (by kernel_rfl) (by kernel_rfl) (fun _ _ _ h => h) (Or.inl ⟨by rfl, ?_⟩) hHeld1 ?_
  rotate_left 1
  · (intro wq hSq; (try dsimp only at hSq); go_simp; first | done | with_reducible rfl)
  try simp only [Act.put, List.setIfInBounds_toArray, List.set_cons_zero, List.set_cons_succ]
  refine wpAnyH_take (i := 9) (oi := { dst := some 57, op := Go.Op.move (Go.Operand.tmp 56), type := 4, pos := "ref.go:297", after := #[{ on := 8, ground := Go.Ground.data }, { on := 4, ground := Go.Ground.chain }], guard := none }) (v := ?_) rfl (by kernel_rfl) (by kernel_rfl) (by kernel_rfl) (fun _ _ _ h => h) (Or.inl ⟨by rfl, ?_⟩) hHeld1 ?_
  rotate_left 1
  · (intro wq hSq; (try dsimp only at hSq); go_simp; first | done | with_reducible rfl)
  try simp only [Act.put, List.setIfInBounds_toArray, List.set_cons_zero, List.set_cons_succ]
  refine wpAnyH_take (i := 10) (oi := { dst := some 58, op := Go.Op.fieldAddr 37 (Go.Operand.tmp 1) 5, type := 0, pos := "ref.go:297", after := #[{ on := 9, ground := Go.Ground.guard }], guard := some (9, false) }) (v := undef) rfl (by kernel_rfl) (by kernel_rfl) (by kernel_rfl) (fun _ _ _ h => h) (Or.inr ⟨by rfl, rfl⟩) hHeld1 ?_
  try simp only [Act.put, List.setIfInBounds_toArray, List.set_cons_zero, List.set_cons_succ]
  refine wpAnyH_take (i := 11) (oi := { dst := some 59, op := Go.Op.fieldAddr 29 (Go.Operand.tmp 58) 0, type := 0, pos := "ref.go:297", after := #[{ on := 10, ground := Go.Ground.data }, { on := 9, ground := Go.Ground.guard }], guard := some (9, false) }) (v := undef) rfl (by kernel_rfl) (by kernel_rfl) (by kernel_rfl) (fun _ _ _ h => h) (Or.inr ⟨by rfl, rfl⟩) hHeld1 ?_
  try simp only [Act.put, List.setIfInBounds_toArray, List.set_cons_zero, List.set_cons_succ]
  refine wpAnyH_take (i := 12) (oi := { dst := some 60, op := Go.Op.load 9 (Go.Operand.tmp 59), type := 9, pos := "ref.go:297", after := #[{ on := 11, ground := Go.Ground.data }, { on := 9, ground := Go.Ground.guard }], guard := some (9, false) }) (v := undef) rfl (by kernel_rfl) (by kernel_rfl) (by kernel_rfl) (fun _ _ _ h => h) (Or.inr ⟨by rfl, rfl⟩) hHeld1 ?_
  try simp only [Act.put, List.setIfInBounds_toArray, List.set_cons_zero, List.set_cons_succ]
  refine wpAnyH_take (i := 13) (oi := { dst := some 61, op := Go.Op.call { callee := Go.Callee.builtin Go.Builtin.len, args := #[Go.Operand.tmp 60], argTypes := #[9] }, type := 3, pos := "ref.go:297", after := #[{ on := 12, ground := Go.Ground.data }, { on := 9, ground := Go.Ground.guard }], guard := some (9, false) }) (v := undef) rfl (by kernel_rfl) (by kernel_rfl) (by kernel_rfl) (fun _ _ _ h => h) (Or.inr ⟨by rfl, rfl⟩) hHeld1 ?_
  try simp only [Act.put, List.setIfInBounds_toArray, List.set_cons_zero, List.set_cons_succ]
  refine wpAnyH_take (i := 14) (oi := { dst := some 62, op := Go.Op.binOp Go.BinOp.gtr 3 (Go.Operand.tmp 61) (Go.Operand.const (Go.Value.int Go.IntKind.i64 500)) 3, type := 4, pos := "ref.go:297", after := #[{ on := 13, ground := Go.Ground.data }, { on := 9, ground := Go.Ground.guard }], guard := some (9, false) }) (v := undef) rfl (by kernel_rfl) (by kernel_rfl) (by kernel_rfl) (fun _ _ _ h => h) (Or.inr ⟨by rfl, rfl⟩) hHeld1 ?_
  try simp only [Act.put, List.setIfInBounds_toArray, List.set_cons_zero, List.set_cons_succ]
  refine wpAnyH_take (i := 15) (oi := { dst := some 63, op := Go.Op.pick (Go.Operand.tmp 57) (Go.Operand.const (Go.Value.bool true)) (Go.Operand.tmp 62), type := 4, pos := "ref.go:297", after := #[{ on := 9, ground := Go.Ground.data }, { on := 14, ground := Go.Ground.data }], guard := none }) (v := ?_) rfl (by kernel_rfl) (by kernel_rfl) (by kernel_rfl) (fun _ _ _ h => h) (Or.inl ⟨by rfl, ?_⟩) hHeld1 ?_
  rotate_left 1
  · (intro wq hSq; (try dsimp only at hSq); go_simp; first | done | with_reducible rfl)
  try simp only [Act.put, List.setIfInBounds_toArray, List.set_cons_zero, List.set_cons_succ]
  refine wpAnyH_done (by kernel_rfl) ?_ _
  refine NoPanic.normal ?_
  go_wp2
  go_ret
  exact ⟨by rw [HF.out]; first | rfl | simp [hd] | simp, B3.out⟩
set_option maxHeartbeats 1000000 in
set_option maxRecDepth 100000 in
theorem rform_b (m : Msg) (hm : m.Ok) (h0 : 1 ≤ m.kind) (h1 : m.kind ≤ 6) (h2 : 0 ≤ m.frm) (h3 : m.frm ≤ 16) (h4 : 0 ≤ m.to) (h5 : m.to ≤ 16) (h6 : ¬ m.frm = m.to) (h7 : 1 ≤ m.id) (h8 : m.id ≤ 4294967295) (he : eqM m (ofKind m) = true) (hb : ¬ m.base ≤ 4294967295) (w : World) : Calls Try.prog 27 #[.agg (mC m).toArray] w fun e w' => e = .returned (.bool (formB m)) ∧ Below w.heap.size w w' := by
  have HF : Hid (formB m = false) := form_no (fun q => hb (base_of q).1)
  have hg := heap_alloc_new w (.cells (mC m).toArray 37)
  have c0 := row_cell hg (mC_0 m)
  have c1 := row_cell hg (mC_1 m)
  have c2 := row_cell hg (mC_2 m)
  have c3 := row_cell hg (mC_3 m)
  have B1 : Hid (Below w.heap.size w (w.alloc (.cells (mC m).toArray 37))) := (Below.refl _ _).alloc (Nat.le_refl _) _
  have HM : Hid (m.Ok) := hm
  have PL : Hid (∀ W, Calls Try.prog 34 #[.agg (mC m).toArray] W fun e w' => e = .returned (.agg (mC (ofKind m)).toArray) ∧ Below W.heap.size W w') := fun W => plain_any m hm W
  have EQ : Hid (∀ W, (Op.equalIn 10000 37 (.agg (mC m).toArray) (.agg (mC (ofKind m)).toArray)).run Try.prog W = .ok true W) := fun W => by rw [← he]; exact eq65_any 9996 m (ofKind m) hm (ofKind_ok m hm) W
  have GB : Hid (∀ W, W = w.alloc (.cells (mC m).toArray 37) → BoxM 37 W.drew w.heap.size m ∧ Below w.heap.size w W.drew) := fun W hW => by
    subst hW
    exact ⟨heap_alloc_new w (.cells (mC m).toArray 37), ((Below.refl _ _).alloc (Nat.le_refl _) _).drew⟩
  have hne : (m.frm == m.to) = false := by simpa using h6
  have hsz := hm.s
  have HBASE : Hid (¬ m.base ≤ 4294967295) := hb
  clear hb
  clear hm hg h6 he B1
  generalize hR : formB m = R at *
  clear hR
  go_enter Try.func27, Try.ntmps27
  go_wp2_with fail
  obtain ⟨W1, hW1⟩ : ∃ W, W = w.alloc (.cells (mC m).toArray 37) := ⟨_, rfl⟩
  have H1 : Hid (BoxM 37 W1.drew w.heap.size m) := (GB.out W1 hW1).1
  have B1 : Hid (Below w.heap.size w W1.drew) := (GB.out W1 hW1).2
  rw [← hW1]
  clear hW1 GB c0 c1 c2 c3
  refine wp_region_noPanic ?_
  refine wp_region_held_drew (S := fun w' => BoxM 37 w' w.heap.size m) (by kernel_rfl) (H1.out) (fun hHeld => ?_)
  try simp only [Act.put, List.setIfInBounds_toArray, List.set_cons_zero, List.set_cons_succ]
  refine wpAnyH_take (i := 0) (oi := { dst := some 48, op := Go.Op.load 37 (Go.Operand.tmp 1), type := 37, pos := "ref.go:297", after := #[], guard := none }) (v := .agg (List.toArray (mC m))) rfl (by kernel_rfl) (by kernel_rfl) (by kernel_rfl) (fun _ _ _ h => h) (yieldsIf_load_mid rfl 37 _ rfl w.heap.size 0 rfl (mC m) _ (fun wq hSq => box_range hSq) Try.underlying37 rfl (by rw [size65, mC_length m HM.out])) hHeld ?_
  try simp only [Act.put, List.setIfInBounds_toArray, List.set_cons_zero, List.set_cons_succ]
  refine wpAnyH_take (i := 1) (oi := { dst := some 49, op := Go.Op.load 37 (Go.Operand.tmp 1), type := 37, pos := "ref.go:297", after := #[], guard := none }) (v := .agg (List.toArray (mC m))) rfl (by kernel_rfl) (by kernel_rfl) (by kernel_rfl) (fun _ _ _ h => h) (yieldsIf_load_mid rfl 37 _ rfl w.heap.size 0 rfl (mC m) _ (fun wq hSq => box_range hSq) Try.underlying37 rfl (by rw [size65, mC_length m HM.out])) hHeld ?_
  try simp only [Act.put, List.setIfInBounds_toArray, List.set_cons_zero, List.set_cons_succ]
  refine wpAnyH_ready (rs := [2]) (by kernel_rfl) (by simp) ?_
  refine AllReadyH.cons (o := { dst := some 50, op := Go.Op.call { callee := Go.Callee.value (Go.Operand.func 34), args := #[Go.Operand.tmp 49], argTypes := #[37] }, type := 37, pos := "ref.go:297", after := #[{ on := 1, ground := Go.Ground.data }], guard := none }) rfl (fun K hK => ?_) AllReadyH.nil
  go_simp
  refine (PL.out _).mono ?_
  rintro e w3 ⟨rfl, b3⟩
  have H3 : Hid (BoxM 37 w3 w.heap.size m) := H1.out.below b3
  have B3 : Hid (Below w.heap.size w w3) := B1.out.trans (b3.mono B1.out.size)
  clear b3
  refine hK.out _ _ (H3.out) (fun hHeld1 => ?_)
  clear hK K hHeld
  try simp only [Act.put, List.setIfInBounds_toArray, List.set_cons_zero, List.set_cons_succ]
  refine wpAnyH_take (i := 3) (oi := { dst := some 51, op := Go.Op.binOp Go.BinOp.neq 37 (Go.Operand.tmp 48) (Go.Operand.tmp 50) 37, type := 4, pos := "ref.go:297", after := #[{ on := 0, ground := Go.Ground.data }, { on := 2, ground := Go.Ground.data }], guard := none }) (v := (.bool false)) rfl (by kernel_rfl) (by kernel_rfl) (by kernel_rfl) (fun _ _ _ h => h) (Or.inl ⟨by rfl, ?_⟩) hHeld1 ?_
  · (intro wq hSq; exact run_neq 37 guard65 _ _ _ _ _ rfl _ _ rfl rfl _ wq (EQ.out wq))
  try simp only [Act.put, List.setIfInBounds_toArray, List.set_cons_zero, List.set_cons_succ]
  refine wpAnyH_take (i := 4) (oi := { dst := some 52, op := Go.Op.move (Go.Operand.tmp 51), type := 4, pos := "ref.go:297", after := #[{ on := 3, ground := Go.Ground.data }, { on := 2, ground := Go.Ground.chain }], guard := none }) (v := ?_) rfl (by kernel_rfl) (by kernel_rfl) (by kernel_rfl) (fun _ _ _ h => h) (Or.inl ⟨by rfl, ?_⟩) hHeld1 ?_
  rotate_left 1
  · (intro wq hSq; (try dsimp only at hSq); go_simp; first | done | with_reducible rfl)
  try simp only [Act.put, List.setIfInBounds_toArray, List.set_cons_zero, List.set_cons_succ]
  refine wpAnyH_take (i := 5) (oi := { dst := some 53, op := Go.Op.fieldAddr 37 (Go.Operand.tmp 1) 4, type := 0, pos := "ref.go:297", after := #[{ on := 4, ground := Go.Ground.guard }], guard := some (4, false) }) (v := ?_) rfl (by kernel_rfl) (by kernel_rfl) (by kernel_rfl) (fun _ _ _ h => h) (Or.inl ⟨by rfl, ?_⟩) hHeld1 ?_
  rotate_left 1
  · (intro wq hSq; (try dsimp only at hSq); go_simp; first | done | with_reducible rfl)
  try simp only [Act.put, List.setIfInBounds_toArray, List.set_cons_zero, List.set_cons_succ]
  refine wpAnyH_take (i := 6) (oi := { dst := some 54, op := Go.Op.load 24 (Go.Operand.tmp 53), type := 24, pos := "ref.go:297", after := #[{ on := 5, ground := Go.Ground.data }, { on := 4, ground := Go.Ground.guard }], guard := some (4, false) }) (v := ?_) rfl (by kernel_rfl) (by kernel_rfl) (by kernel_rfl) (fun _ _ _ h => h) (Or.inl ⟨by rfl, ?_⟩) hHeld1 ?_
  rotate_left 1
  · (intro wq hSq; (try dsimp only at hSq); have hq := row_cell hSq (mC_4 m); go_simp; first | done | with_reducible rfl)
  try simp only [Act.put, List.setIfInBounds_toArray, List.set_cons_zero, List.set_cons_succ]
  refine wpAnyH_take (i := 7) (oi := { dst := some 55, op := Go.Op.binOp Go.BinOp.gtr 24 (Go.Operand.tmp 54) (Go.Operand.const (Go.Value.int Go.IntKind.u64 4294967295)) 24, type := 4, pos := "ref.go:297", after := #[{ on := 6, ground := Go.Ground.data }, { on := 4, ground := Go.Ground.guard }], guard := some (4, false) }) (v := (.bool true)) rfl (by kernel_rfl) (by kernel_rfl) (by kernel_rfl) (fun _ _ _ h => h) (Or.inl ⟨by rfl, ?_⟩) hHeld1 ?_
  · (intro wq hSq; have hq := HBASE.out; go_simp; first | done | (simp [hq]; done) | (simp at hq ⊢; omega))
  try simp only [Act.put, List.setIfInBounds_toArray, List.set_cons_zero, List.set_cons_succ]
  refine wpAnyH_take (i := 8) (oi := { dst := some 56, op := Go.Op.pick (Go.Operand.tmp 52) (Go.Operand.const (Go.Value.bool true)) (Go.Operand.tmp 55), type := 4, pos := "ref.go:297", after := #[{ on := 4, ground := Go.Ground.data }, { on := 7, ground := Go.Ground.data }], guard := none }) (v := ?_) rfl (by kernel_rfl) (by kernel_rfl) (by kernel_rfl) (fun _ _ _ h => h) (Or.inl ⟨by rfl, ?_⟩) hHeld1 ?_
  rotate_left 1
  · (intro wq hSq; (try dsimp only at hSq); go_simp; first | done | with_reducible rfl)
  try simp only [Act.put, List.setIfInBounds_toArray, List.set_cons_zero, List.set_cons_succ]
  refine wpAnyH_take (i := 9) (oi := { dst := some 57, op := Go.Op.move (Go.Operand.tmp 56), type := 4, pos := "ref.go:297", after := #[{ on := 8, ground := Go.Ground.data }, { on := 4, ground := Go.Ground.chain }], guard := none }) (v := ?_) rfl (by kernel_rfl) (by kernel_rfl) (by kernel_rfl) (fun _ _ _ h => h) (Or.inl ⟨by rfl, ?_⟩) hHeld1 ?_
  rotate_left 1
  · (intro wq hSq; (try dsimp only at hSq); go_simp; first | done | with_reducible rfl)
  try simp only [Act.put, List.setIfInBounds_toArray, List.set_cons_zero, List.set_cons_succ]
  refine wpAnyH_take (i := 10) (oi := { dst := some 58, op := Go.Op.fieldAddr 37 (Go.Operand.tmp 1) 5, type := 0, pos := "ref.go:297", after := #[{ on := 9, ground := Go.Ground.guard }], guard := some (9, false) }) (v := undef) rfl (by kernel_rfl) (by kernel_rfl) (by kernel_rfl) (fun _ _ _ h => h) (Or.inr ⟨by rfl, rfl⟩) hHeld1 ?_
  try simp only [Act.put, List.setIfInBounds_toArray, List.set_cons_zero, List.set_cons_succ]
  refine wpAnyH_take (i := 11) (oi := { dst := some 59, op := Go.Op.fieldAddr 29 (Go.Operand.tmp 58) 0, type := 0, pos := "ref.go:297", after := #[{ on := 10, ground := Go.Ground.data }, { on := 9, ground := Go.Ground.guard }], guard := some (9, false) }) (v := undef) rfl (by kernel_rfl) (by kernel_rfl) (by kernel_rfl) (fun _ _ _ h => h) (Or.inr ⟨by rfl, rfl⟩) hHeld1 ?_
  try simp only [Act.put, List.setIfInBounds_toArray, List.set_cons_zero, List.set_cons_succ]
  refine wpAnyH_take (i := 12) (oi := { dst := some 60, op := Go.Op.load 9 (Go.Operand.tmp 59), type := 9, pos := "ref.go:297", after := #[{ on := 11, ground := Go.Ground.data }, { on := 9, ground := Go.Ground.guard }], guard := some (9, false) }) (v := undef) rfl (by kernel_rfl) (by kernel_rfl) (by kernel_rfl) (fun _ _ _ h => h) (Or.inr ⟨by rfl, rfl⟩) hHeld1 ?_
  try simp only [Act.put, List.setIfInBounds_toArray, List.set_cons_zero, List.set_cons_succ]
  refine wpAnyH_take (i := 13) (oi := { dst := some 61, op := Go.Op.call { callee := Go.Callee.builtin Go.Builtin.len, args := #[Go.Operand.tmp 60], argTypes := #[9] }, type := 3, pos := "ref.go:297", after := #[{ on := 12, ground := Go.Ground.data }, { on := 9, ground := Go.Ground.guard }], guard := some (9, false) }) (v := undef) rfl (by kernel_rfl) (by kernel_rfl) (by kernel_rfl) (fun _ _ _ h => h) (Or.inr ⟨by rfl, rfl⟩) hHeld1 ?_
  try simp only [Act.put, List.setIfInBounds_toArray, List.set_cons_zero, List.set_cons_succ]
  refine wpAnyH_take (i := 14) (oi := { dst := some 62, op := Go.Op.binOp Go.BinOp.gtr 3 (Go.Operand.tmp 61) (Go.Operand.const (Go.Value.int Go.IntKind.i64 500)) 3, type := 4, pos := "ref.go:297", after := #[{ on := 13, ground := Go.Ground.data }, { on := 9, ground := Go.Ground.guard }], guard := some (9, false) }) (v := undef) rfl (by kernel_rfl) (by kernel_rfl) (by kernel_rfl) (fun _ _ _ h => h) (Or.inr ⟨by rfl, rfl⟩) hHeld1 ?_
  try simp only [Act.put, List.setIfInBounds_toArray, List.set_cons_zero, List.set_cons_succ]
  refine wpAnyH_take (i := 15) (oi := { dst := some 63, op := Go.Op.pick (Go.Operand.tmp 57) (Go.Operand.const (Go.Value.bool true)) (Go.Operand.tmp 62), type := 4, pos := "ref.go:297", after := #[{ on := 9, ground := Go.Ground.data }, { on := 14, ground := Go.Ground.data }], guard := none }) (v := ?_) rfl (by kernel_rfl) (by kernel_rfl) (by kernel_rfl) (fun _ _ _ h => h) (Or.inl ⟨by rfl, ?_⟩) hHeld1 ?_
  rotate_left 1
  · (intro wq hSq; (try dsimp only at hSq); go_simp; first | done | with_reducible rfl)
  try simp only [Act.put, List.setIfInBounds_toArray, List.set_cons_zero, List.set_cons_succ]
  refine wpAnyH_done (by kernel_rfl) ?_ _
  refine NoPanic.normal ?_
  go_wp2
  go_ret
  exact ⟨by rw [HF.out]; first | rfl | simp [hd] | simp, B3.out⟩
set_option maxHeartbeats 1000000 in
set_option maxRecDepth 100000 in
theorem rform_s (m : Msg) (hm : m.Ok) (h0 : 1 ≤ m.kind) (h1 : m.kind ≤ 6) (h2 : 0 ≤ m.frm) (h3 : m.frm ≤ 16) (h4 : 0 ≤ m.to) (h5 : m.to ≤ 16) (h6 : ¬ m.frm = m.to) (h7 : 1 ≤ m.id) (h8 : m.id ≤ 4294967295) (he : eqM m (ofKind m) = true) (hb : m.base ≤ 4294967295) (hs : ¬ (m.s.size : Int) ≤ 500) (w : World) : Calls Try.prog 27 #[.agg (mC m).toArray] w fun e w' => e = .returned (.bool (formB m)) ∧ Below w.heap.size w w' := by
  have HF : Hid (formB m = false) := form_no (fun q => hs (by have := (base_of q).2; omega))
  have hg := heap_alloc_new w (.cells (mC m).toArray 37)
  have c0 := row_cell hg (mC_0 m)
  have c1 := row_cell hg (mC_1 m)
  have c2 := row_cell hg (mC_2 m)
  have c3 := row_cell hg (mC_3 m)
  have B1 : Hid (Below w.heap.size w (w.alloc (.cells (mC m).toArray 37))) := (Below.refl _ _).alloc (Nat.le_refl _) _
  have HM : Hid (m.Ok) := hm
  have PL : Hid (∀ W, Calls Try.prog 34 #[.agg (mC m).toArray] W fun e w' => e = .returned (.agg (mC (ofKind m)).toArray) ∧ Below W.heap.size W w') := fun W => plain_any m hm W
  have EQ : Hid (∀ W, (Op.equalIn 10000 37 (.agg (mC m).toArray) (.agg (mC (ofKind m)).toArray)).run Try.prog W = .ok true W) := fun W => by rw [← he]; exact eq65_any 9996 m (ofKind m) hm (ofKind_ok m hm) W
  have GB : Hid (∀ W, W = w.alloc (.cells (mC m).toArray 37) → BoxM 37 W.drew w.heap.size m ∧ Below w.heap.size w W.drew) := fun W hW => by
    subst hW
    exact ⟨heap_alloc_new w (.cells (mC m).toArray 37), ((Below.refl _ _).alloc (Nat.le_refl _) _).drew⟩
  have hne : (m.frm == m.to) = false := by simpa using h6
  have hsz := hm.s
  have HBASE : Hid (m.base ≤ 4294967295) := hb
  clear hb
  have HSIZE : Hid (¬ (m.s.size : Int) ≤ 500) := hs
  clear hs
  clear hm hg h6 he B1
  generalize hR : formB m = R at *
  clear hR
  go_enter Try.func27, Try.ntmps27
  go_wp2_with fail
  obtain ⟨W1, hW1⟩ : ∃ W, W = w.alloc (.cells (mC m).toArray 37) := ⟨_, rfl⟩
  have H1 : Hid (BoxM 37 W1.drew w.heap.size m) := (GB.out W1 hW1).1
  have B1 : Hid (Below w.heap.size w W1.drew) := (GB.out W1 hW1).2
  rw [← hW1]
  clear hW1 GB c0 c1 c2 c3
  refine wp_region_noPanic ?_
  refine wp_region_held_drew (S := fun w' => BoxM 37 w' w.heap.size m) (by kernel_rfl) (H1.out) (fun hHeld => ?_)
  try simp only [Act.put, List.setIfInBounds_toArray, List.set_cons_zero, List.set_cons_succ]
  refine wpAnyH_take (i := 0) (oi := { dst := some 48, op := Go.Op.load 37 (Go.Operand.tmp 1), type := 37, pos := "ref.go:297", after := #[], guard := none }) (v := .agg (List.toArray (mC m))) rfl (by kernel_rfl) (by kernel_rfl) (by kernel_rfl) (fun _ _ _ h => h) (yieldsIf_load_mid rfl 37 _ rfl w.heap.size 0 rfl (mC m) _ (fun wq hSq => box_range hSq) Try.underlying37 rfl (by rw [size65, mC_length m HM.out])) hHeld ?_
  try simp only [Act.put, List.setIfInBounds_toArray, List.set_cons_zero, List.set_cons_succ]
  refine wpAnyH_take (i := 1) (oi := { dst := some 49, op := Go.Op.load 37 (Go.Operand.tmp 1), type := 37, pos := "ref.go:297", after := #[], guard := none }) (v := .agg (List.toArray (mC m))) rfl (by kernel_rfl) (by kernel_rfl) (by kernel_rfl) (fun _ _ _ h => h) (yieldsIf_load_mid rfl 37 _ rfl w.heap.size 0 rfl (mC m) _ (fun wq hSq => box_range hSq) Try.underlying37 rfl (by rw [size65, mC_length m HM.out])) hHeld ?_
  try simp only [Act.put, List.setIfInBounds_toArray, List.set_cons_zero, List.set_cons_succ]
  refine wpAnyH_ready (rs := [2]) (by kernel_rfl) (by simp) ?_
  refine AllReadyH.cons (o := { dst := some 50, op := Go.Op.call { callee := Go.Callee.value (Go.Operand.func 34), args := #[Go.Operand.tmp 49], argTypes := #[37] }, type := 37, pos := "ref.go:297", after := #[{ on := 1, ground := Go.Ground.data }], guard := none }) rfl (fun K hK => ?_) AllReadyH.nil
  go_simp
  refine (PL.out _).mono ?_
  rintro e w3 ⟨rfl, b3⟩
  have H3 : Hid (BoxM 37 w3 w.heap.size m) := H1.out.below b3
  have B3 : Hid (Below w.heap.size w w3) := B1.out.trans (b3.mono B1.out.size)
  clear b3
  refine hK.out _ _ (H3.out) (fun hHeld1 => ?_)
  clear hK K hHeld
  try simp only [Act.put, List.setIfInBounds_toArray, List.set_cons_zero, List.set_cons_succ]
  refine wpAnyH_take (i := 3) (oi := { dst := some 51, op := Go.Op.binOp Go.BinOp.neq 37 (Go.Operand.tmp 48) (Go.Operand.tmp 50) 37, type := 4, pos := "ref.go:297", after := #[{ on := 0, ground := Go.Ground.data }, { on := 2, ground := Go.Ground.data }], guard := none }) (v := (.bool false)) rfl (by kernel_rfl) (by kernel_rfl) (by kernel_rfl) (fun _ _ _ h => h) (Or.inl ⟨by rfl, ?_⟩) hHeld1 ?_
  · (intro wq hSq; exact run_neq 37 guard65 _ _ _ _ _ rfl _ _ rfl rfl _ wq (EQ.out wq))
  try simp only [Act.put, List.setIfInBounds_toArray, List.set_cons_zero, List.set_cons_succ]
  refine wpAnyH_take (i := 4) (oi := { dst := some 52, op := Go.Op.move (Go.Operand.tmp 51), type := 4, pos := "ref.go:297", after := #[{ on := 3, ground := Go.Ground.data }, { on := 2, ground := Go.Ground.chain }], guard := none }) (v := ?_) rfl (by kernel_rfl) (by kernel_rfl) (by kernel_rfl) (fun _ _ _ h => h) (Or.inl ⟨by rfl, ?_⟩) hHeld1 ?_
  rotate_left 1
  · (intro wq hSq; (try dsimp only at hSq); go_simp; first | done | with_reducible rfl)
  try simp only [Act.put, List.setIfInBounds_toArray, List.set_cons_zero, List.set_cons_succ]
  refine wpAnyH_take (i := 5) (oi := { dst := some 53, op := Go.Op.fieldAddr 37 (Go.Operand.tmp 1) 4, type := 0, pos := "ref.go:297", after := #[{ on := 4, ground := Go.Ground.guard }], guard := some (4, false) }) (v := ?_) rfl (by kernel_rfl) (by kernel_rfl) (by kernel_rfl) (fun _ _ _ h => h) (Or.inl ⟨by rfl, ?_⟩) hHeld1 ?_
  rotate_left 1
  · (intro wq hSq; (try dsimp only at hSq); go_simp; first | done | with_reducible rfl)
  try simp only [Act.put, List.setIfInBounds_toArray, List.set_cons_zero, List.set_cons_succ]
  refine wpAnyH_take (i := 6) (oi := { dst := some 54, op := Go.Op.load 24 (Go.Operand.tmp 53), type := 24, pos := "ref.go:297", after := #[{ on := 5, ground := Go.Ground.data }, { on := 4, ground := Go.Ground.guard }], guard := some (4, false) }) (v := ?_) rfl (by kernel_rfl) (by kernel_rfl) (by kernel_rfl) (fun _ _ _ h => h) (Or.inl ⟨by rfl, ?_⟩) hHeld1 ?_
  rotate_left 1
  · (intro wq hSq; (try dsimp only at hSq); have hq := row_cell hSq (mC_4 m); go_simp; first | done | with_reducible rfl)
  try simp only [Act.put, List.setIfInBounds_toArray, List.set_cons_zero, List.set_cons_succ]
  refine wpAnyH_take (i := 7) (oi := { dst := some 55, op := Go.Op.binOp Go.BinOp.gtr 24 (Go.Operand.tmp 54) (Go.Operand.const (Go.Value.int Go.IntKind.u64 4294967295)) 24, type := 4, pos := "ref.go:297", after := #[{ on := 6, ground := Go.Ground.data }, { on := 4, ground := Go.Ground.guard }], guard := some (4, false) }) (v := (.bool false)) rfl (by kernel_rfl) (by kernel_rfl) (by kernel_rfl) (fun _ _ _ h => h) (Or.inl ⟨by rfl, ?_⟩) hHeld1 ?_
  · (intro wq hSq; have hq := HBASE.out; go_simp; first | done | (simp [hq]; done) | (simp at hq ⊢; omega))
  try simp only [Act.put, List.setIfInBounds_toArray, List.set_cons_zero, List.set_cons_succ]
  refine wpAnyH_take (i := 8) (oi := { dst := some 56, op := Go.Op.pick (Go.Operand.tmp 52) (Go.Operand.const (Go.Value.bool true)) (Go.Operand.tmp 55), type := 4, pos := "ref.go:297", after := #[{ on := 4, ground := Go.Ground.data }, { on := 7, ground := Go.Ground.data }], guard := none }) (v := ?_) rfl (by kernel_rfl) (by kernel_rfl) (by kernel_rfl) (fun _ _ _ h => h) (Or.inl ⟨by rfl, ?_⟩) hHeld1 ?_
  rotate_left 1
  · (intro wq hSq; (try dsimp only at hSq); go_simp; first | done | with_reducible rfl)
  try simp only [Act.put, List.setIfInBounds_toArray, List.set_cons_zero, List.set_cons_succ]
  refine wpAnyH_take (i := 9) (oi := { dst := some 57, op := Go.Op.move (Go.Operand.tmp 56), type := 4, pos := "ref.go:297", after := #[{ on := 8, ground := Go.Ground.data }, { on := 4, ground := Go.Ground.chain }], guard := none }) (v := ?_) rfl (by kernel_rfl) (by kernel_rfl) (by kernel_rfl) (fun _ _ _ h => h) (Or.inl ⟨by rfl, ?_⟩) hHeld1 ?_
  rotate_left 1
  · (intro wq hSq; (try dsimp only at hSq); go_simp; first | done | with_reducible rfl)
  try simp only [Act.put, List.setIfInBounds_toArray, List.set_cons_zero, List.set_cons_succ]
  refine wpAnyH_take (i := 10) (oi := { dst := some 58, op := Go.Op.fieldAddr 37 (Go.Operand.tmp 1) 5, type := 0, pos := "ref.go:297", after := #[{ on := 9, ground := Go.Ground.guard }], guard := some (9, false) }) (v := ?_) rfl (by kernel_rfl) (by kernel_rfl) (by kernel_rfl) (fun _ _ _ h => h) (Or.inl ⟨by rfl, ?_⟩) hHeld1 ?_
  rotate_left 1
  · (intro wq hSq; (try dsimp only at hSq); go_simp; first | done | with_reducible rfl)
  try simp only [Act.put, List.setIfInBounds_toArray, List.set_cons_zero, List.set_cons_succ]
  refine wpAnyH_take (i := 11) (oi := { dst := some 59, op := Go.Op.fieldAddr 29 (Go.Operand.tmp 58) 0, type := 0, pos := "ref.go:297", after := #[{ on := 10, ground := Go.Ground.data }, { on := 9, ground := Go.Ground.guard }], guard := some (9, false) }) (v := ?_) rfl (by kernel_rfl) (by kernel_rfl) (by kernel_rfl) (fun _ _ _ h => h) (Or.inl ⟨by rfl, ?_⟩) hHeld1 ?_
  rotate_left 1
  · (intro wq hSq; (try dsimp only at hSq); go_simp; first | done | with_reducible rfl)
  try simp only [Act.put, List.setIfInBounds_toArray, List.set_cons_zero, List.set_cons_succ]
  refine wpAnyH_take (i := 12) (oi := { dst := some 60, op := Go.Op.load 9 (Go.Operand.tmp 59), type := 9, pos := "ref.go:297", after := #[{ on := 11, ground := Go.Ground.data }, { on := 9, ground := Go.Ground.guard }], guard := some (9, false) }) (v := ?_) rfl (by kernel_rfl) (by kernel_rfl) (by kernel_rfl) (fun _ _ _ h => h) (Or.inl ⟨by rfl, ?_⟩) hHeld1 ?_
  rotate_left 1
  · (intro wq hSq; (try dsimp only at hSq); have hq := row_cell hSq (mC_5 m); go_simp; first | done | with_reducible rfl)
  try simp only [Act.put, List.setIfInBounds_toArray, List.set_cons_zero, List.set_cons_succ]
  refine wpAnyH_take (i := 13) (oi := { dst := some 61, op := Go.Op.call { callee := Go.Callee.builtin Go.Builtin.len, args := #[Go.Operand.tmp 60], argTypes := #[9] }, type := 3, pos := "ref.go:297", after := #[{ on := 12, ground := Go.Ground.data }, { on := 9, ground := Go.Ground.guard }], guard := some (9, false) }) (v := ?_) rfl (by kernel_rfl) (by kernel_rfl) (by kernel_rfl) (fun _ _ _ h => h) (Or.inl ⟨by rfl, ?_⟩) hHeld1 ?_
  rotate_left 1
  · (intro wq hSq; (try dsimp only at hSq); go_simp; first | done | with_reducible rfl)
  try simp only [Act.put, List.setIfInBounds_toArray, List.set_cons_zero, List.set_cons_succ]
  refine wpAnyH_take (i := 14) (oi := { dst := some 62, op := Go.Op.binOp Go.BinOp.gtr 3 (Go.Operand.tmp 61) (Go.Operand.const (Go.Value.int Go.IntKind.i64 500)) 3, type := 4, pos := "ref.go:297", after := #[{ on := 13, ground := Go.Ground.data }, { on := 9, ground := Go.Ground.guard }], guard := some (9, false) }) (v := (.bool true)) rfl (by kernel_rfl) (by kernel_rfl) (by kernel_rfl) (fun _ _ _ h => h) (Or.inl ⟨by rfl, ?_⟩) hHeld1 ?_
  · (intro wq hSq; have hq := HSIZE.out; go_simp; first | done | (simp [hq]; done) | (simp at hq ⊢; omega))
  try simp only [Act.put, List.setIfInBounds_toArray, List.set_cons_zero, List.set_cons_succ]
  refine wpAnyH_take (i := 15) (oi := { dst := some 63, op := Go.Op.pick (Go.Operand.tmp 57) (Go.Operand.const (Go.Value.bool true)) (Go.Operand.tmp 62), type := 4, pos := "ref.go:297", after := #[{ on := 9, ground := Go.Ground.data }, { on := 14, ground := Go.Ground.data }], guard := none }) (v := ?_) rfl (by kernel_rfl) (by kernel_rfl) (by kernel_rfl) (fun _ _ _ h => h) (Or.inl ⟨by rfl, ?_⟩) hHeld1 ?_
  rotate_left 1
  · (intro wq hSq; (try dsimp only at hSq); go_simp; first | done | with_reducible rfl)
  try simp only [Act.put, List.setIfInBounds_toArray, List.set_cons_zero, List.set_cons_succ]
  refine wpAnyH_done (by kernel_rfl) ?_ _
  refine NoPanic.normal ?_
  go_wp2
  go_ret
  exact ⟨by rw [HF.out]; first | rfl | simp [hd] | simp, B3.out⟩
set_option maxHeartbeats 1000000 in
set_option maxRecDepth 100000 in
theorem rform_k (m : Msg) (hm : m.Ok) (h0 : 1 ≤ m.kind) (h1 : m.kind ≤ 6) (h2 : 0 ≤ m.frm) (h3 : m.frm ≤ 16) (h4 : 0 ≤ m.to) (h5 : m.to ≤ 16) (h6 : ¬ m.frm = m.to) (h7 : 1 ≤ m.id) (h8 : m.id ≤ 4294967295) (he : eqM m (ofKind m) = true) (hb : m.base ≤ 4294967295) (hs : (m.s.size : Int) ≤ 500) (hk : ¬ m.kind = 2) (w : World) : Calls Try.prog 27 #[.agg (mC m).toArray] w fun e w' => e = .returned (.bool (formB m)) ∧ Below w.heap.size w w' := by
  have HF : Hid (formB m = true) := form_mk m h0 h1 h2 h3 h4 h5 h6 h7 h8 he (by unfold inB; by_cases k1 : m.kind = 1 <;> simp only [k1, hk, if_true, if_false] <;> first | rfl | exact decide_eq_true ⟨hb, by omega⟩)
  have hg := heap_alloc_new w (.cells (mC m).toArray 37)
  have c0 := row_cell hg (mC_0 m)
  have c1 := row_cell hg (mC_1 m)
  have c2 := row_cell hg (mC_2 m)
  have c3 := row_cell hg (mC_3 m)
  have B1 : Hid (Below w.heap.size w (w.alloc (.cells (mC m).toArray 37))) := (Below.refl _ _).alloc (Nat.le_refl _) _
  have HM : Hid (m.Ok) := hm
  have PL : Hid (∀ W, Calls Try.prog 34 #[.agg (mC m).toArray] W fun e w' => e = .returned (.agg (mC (ofKind m)).toArray) ∧ Below W.heap.size W w') := fun W => plain_any m hm W
  have EQ : Hid (∀ W, (Op.equalIn 10000 37 (.agg (mC m).toArray) (.agg (mC (ofKind m)).toArray)).run Try.prog W = .ok true W) := fun W => by rw [← he]; exact eq65_any 9996 m (ofKind m) hm (ofKind_ok m hm) W
  have GB : Hid (∀ W, W = w.alloc (.cells (mC m).toArray 37) → BoxM 37 W.drew w.heap.size m ∧ Below w.heap.size w W.drew) := fun W hW => by
    subst hW
    exact ⟨heap_alloc_new w (.cells (mC m).toArray 37), ((Below.refl _ _).alloc (Nat.le_refl _) _).drew⟩
  have hne : (m.frm == m.to) = false := by simpa using h6
  have hsz := hm.s
  have HBASE : Hid (m.base ≤ 4294967295) := hb
  clear hb
  have HSIZE : Hid ((m.s.size : Int) ≤ 500) := hs
  clear hs
  have z2 : (m.kind == 2) = false := by simpa using hk
  have z3 : (m.kind != 2) = true := by simp [bne, z2]
  clear hk
  clear hm hg h6 he B1
  generalize hR : formB m = R at *
  clear hR
  go_enter Try.func27, Try.ntmps27
  go_wp2_with fail
  obtain ⟨W1, hW1⟩ : ∃ W, W = w.alloc (.cells (mC m).toArray 37) := ⟨_, rfl⟩
  have H1 : Hid (BoxM 37 W1.drew w.heap.size m) := (GB.out W1 hW1).1
  have B1 : Hid (Below w.heap.size w W1.drew) := (GB.out W1 hW1).2
  rw [← hW1]
  clear hW1 GB c0 c1 c2 c3
  refine wp_region_noPanic ?_
  refine wp_region_held_drew (S := fun w' => BoxM 37 w' w.heap.size m) (by kernel_rfl) (H1.out) (fun hHeld => ?_)
  try simp only [Act.put, List.setIfInBounds_toArray, List.set_cons_zero, List.set_cons_succ]
  refine wpAnyH_take (i := 0) (oi := { dst := some 48, op := Go.Op.load 37 (Go.Operand.tmp 1), type := 37, pos := "ref.go:297", after := #[], guard := none }) (v := .agg (List.toArray (mC m))) rfl (by kernel_rfl) (by kernel_rfl) (by kernel_rfl) (fun _ _ _ h => h) (yieldsIf_load_mid rfl 37 _ rfl w.heap.size 0 rfl (mC m) _ (fun wq hSq => box_range hSq) Try.underlying37 rfl (by rw [size65, mC_length m HM.out])) hHeld ?_
  try simp only [Act.put, List.setIfInBounds_toArray, List.set_cons_zero, List.set_cons_succ]
  refine wpAnyH_take (i := 1) (oi := { dst := some 49, op := Go.Op.load 37 (Go.Operand.tmp 1), type := 37, pos := "ref.go:297", after := #[], guard := none }) (v := .agg (List.toArray (mC m))) rfl (by kernel_rfl) (by kernel_rfl) (by kernel_rfl) (fun _ _ _ h => h) (yieldsIf_load_mid rfl 37 _ rfl w.heap.size 0 rfl (mC m) _ (fun wq hSq => box_range hSq) Try.underlying37 rfl (by rw [size65, mC_length m HM.out])) hHeld ?_
  try simp only [Act.put, List.setIfInBounds_toArray, List.set_cons_zero, List.set_cons_succ]
  refine wpAnyH_ready (rs := [2]) (by kernel_rfl) (by simp) ?_
  refine AllReadyH.cons (o := { dst := some 50, op := Go.Op.call { callee := Go.Callee.value (Go.Operand.func 34), args := #[Go.Operand.tmp 49], argTypes := #[37] }, type := 37, pos := "ref.go:297", after := #[{ on := 1, ground := Go.Ground.data }], guard := none }) rfl (fun K hK => ?_) AllReadyH.nil
  go_simp
  refine (PL.out _).mono ?_
  rintro e w3 ⟨rfl, b3⟩
  have H3 : Hid (BoxM 37 w3 w.heap.size m) := H1.out.below b3
  have B3 : Hid (Below w.heap.size w w3) := B1.out.trans (b3.mono B1.out.size)
  clear b3
  refine hK.out _ _ (H3.out) (fun hHeld1 => ?_)
  clear hK K hHeld
  try simp only [Act.put, List.setIfInBounds_toArray, List.set_cons_zero, List.set_cons_succ]
  refine wpAnyH_take (i := 3) (oi := { dst := some 51, op := Go.Op.binOp Go.BinOp.neq 37 (Go.Operand.tmp 48) (Go.Operand.tmp 50) 37, type := 4, pos := "ref.go:297", after := #[{ on := 0, ground := Go.Ground.data }, { on := 2, ground := Go.Ground.data }], guard := none }) (v := (.bool false)) rfl (by kernel_rfl) (by kernel_rfl) (by kernel_rfl) (fun _ _ _ h => h) (Or.inl ⟨by rfl, ?_⟩) hHeld1 ?_
  · (intro wq hSq; exact run_neq 37 guard65 _ _ _ _ _ rfl _ _ rfl rfl _ wq (EQ.out wq))
  try simp only [Act.put, List.setIfInBounds_toArray, List.set_cons_zero, List.set_cons_succ]
  refine wpAnyH_take (i := 4) (oi := { dst := some 52, op := Go.Op.move (Go.Operand.tmp 51), type := 4, pos := "ref.go:297", after := #[{ on := 3, ground := Go.Ground.data }, { on := 2, ground := Go.Ground.chain }], guard := none }) (v := ?_) rfl (by kernel_rfl) (by kernel_rfl) (by kernel_rfl) (fun _ _ _ h => h) (Or.inl ⟨by rfl, ?_⟩) hHeld1 ?_
  rotate_left 1
  · (intro wq hSq; (try dsimp only at hSq); go_simp; first | done | with_reducible rfl)
  try simp only [Act.put, List.setIfInBounds_toArray, List.set_cons_zero, List.set_cons_succ]
  refine wpAnyH_take (i := 5) (oi := { dst := some 53, op := Go.Op.fieldAddr 37 (Go.Operand.tmp 1) 4, type := 0, pos := "ref.go:297", after := #[{ on := 4, ground := Go.Ground.guard }], guard := some (4, false) }) (v := ?_) rfl (by kernel_rfl) (by kernel_rfl) (by kernel_rfl) (fun _ _ _ h => h) (Or.inl ⟨by rfl, ?_⟩) hHeld1 ?_
  rotate_left 1
  · (intro wq hSq; (try dsimp only at hSq); go_simp; first | done | with_reducible rfl)
  try simp only [Act.put, List.setIfInBounds_toArray, List.set_cons_zero, List.set_cons_succ]
  refine wpAnyH_take (i := 6) (oi := { dst := some 54, op := Go.Op.load 24 (Go.Operand.tmp 53), type := 24, pos := "ref.go:297", after := #[{ on := 5, ground := Go.Ground.data }, { on := 4, ground := Go.Ground.guard }], guard := some (4, false) }) (v := ?_) rfl (by kernel_rfl) (by kernel_rfl) (by kernel_rfl) (fun _ _ _ h => h) (Or.inl ⟨by rfl, ?_⟩) hHeld1 ?_
  rotate_left 1
  · (intro wq hSq; (try dsimp only at hSq); have hq := row_cell hSq (mC_4 m); go_simp; first | done | with_reducible rfl)
  try simp only [Act.put, List.setIfInBounds_toArray, List.set_cons_zero, List.set_cons_succ]
  refine wpAnyH_take (i := 7) (oi := { dst := some 55, op := Go.Op.binOp Go.BinOp.gtr 24 (Go.Operand.tmp 54) (Go.Operand.const (Go.Value.int Go.IntKind.u64 4294967295)) 24, type := 4, pos := "ref.go:297", after := #[{ on := 6, ground := Go.Ground.data }, { on := 4, ground := Go.Ground.guard }], guard := some (4, false) }) (v := (.bool false)) rfl (by kernel_rfl) (by kernel_rfl) (by kernel_rfl) (fun _ _ _ h => h) (Or.inl ⟨by rfl, ?_⟩) hHeld1 ?_
  · (intro wq hSq; have hq := HBASE.out; go_simp; first | done | (simp [hq]; done) | (simp at hq ⊢; omega))
  try simp only [Act.put, List.setIfInBounds_toArray, List.set_cons_zero, List.set_cons_succ]
  refine wpAnyH_take (i := 8) (oi := { dst := some 56, op := Go.Op.pick (Go.Operand.tmp 52) (Go.Operand.const (Go.Value.bool true)) (Go.Operand.tmp 55), type := 4, pos := "ref.go:297", after := #[{ on := 4, ground := Go.Ground.data }, { on := 7, ground := Go.Ground.data }], guard := none }) (v := ?_) rfl (by kernel_rfl) (by kernel_rfl) (by kernel_rfl) (fun _ _ _ h => h) (Or.inl ⟨by rfl, ?_⟩) hHeld1 ?_
  rotate_left 1
  · (intro wq hSq; (try dsimp only at hSq); go_simp; first | done | with_reducible rfl)
  try simp only [Act.put, List.setIfInBounds_toArray, List.set_cons_zero, List.set_cons_succ]
  refine wpAnyH_take (i := 9) (oi := { dst := some 57, op := Go.Op.move (Go.Operand.tmp 56), type := 4, pos := "ref.go:297", after := #[{ on := 8, ground := Go.Ground.data }, { on := 4, ground := Go.Ground.chain }], guard := none }) (v := ?_) rfl (by kernel_rfl) (by kernel_rfl) (by kernel_rfl) (fun _ _ _ h => h) (Or.inl ⟨by rfl, ?_⟩) hHeld1 ?_
  rotate_left 1
  · (intro wq hSq; (try dsimp only at hSq); go_simp; first | done | with_reducible rfl)
  try simp only [Act.put, List.setIfInBounds_toArray, List.set_cons_zero, List.set_cons_succ]
  refine wpAnyH_take (i := 10) (oi := { dst := some 58, op := Go.Op.fieldAddr 37 (Go.Operand.tmp 1) 5, type := 0, pos := "ref.go:297", after := #[{ on := 9, ground := Go.Ground.guard }], guard := some (9, false) }) (v := ?_) rfl (by kernel_rfl) (by kernel_rfl) (by kernel_rfl) (fun _ _ _ h => h) (Or.inl ⟨by rfl, ?_⟩) hHeld1 ?_
  rotate_left 1
  · (intro wq hSq; (try dsimp only at hSq); go_simp; first | done | with_reducible rfl)
  try simp only [Act.put, List.setIfInBounds_toArray, List.set_cons_zero, List.set_cons_succ]
  refine wpAnyH_take (i := 11) (oi := { dst := some 59, op := Go.Op.fieldAddr 29 (Go.Operand.tmp 58) 0, type := 0, pos := "ref.go:297", after := #[{ on := 10, ground := Go.Ground.data }, { on := 9, ground := Go.Ground.guard }], guard := some (9, false) }) (v := ?_) rfl (by kernel_rfl) (by kernel_rfl) (by kernel_rfl) (fun _ _ _ h => h) (Or.inl ⟨by rfl, ?_⟩) hHeld1 ?_
  rotate_left 1
  · (intro wq hSq; (try dsimp only at hSq); go_simp; first | done | with_reducible rfl)
  try simp only [Act.put, List.setIfInBounds_toArray, List.set_cons_zero, List.set_cons_succ]
  refine wpAnyH_take (i := 12) (oi := { dst := some 60, op := Go.Op.load 9 (Go.Operand.tmp 59), type := 9, pos := "ref.go:297", after := #[{ on := 11, ground := Go.Ground.data }, { on := 9, ground := Go.Ground.guard }], guard := some (9, false) }) (v := ?_) rfl (by kernel_rfl) (by kernel_rfl) (by kernel_rfl) (fun _ _ _ h => h) (Or.inl ⟨by rfl, ?_⟩) hHeld1 ?_
  rotate_left 1
  · (intro wq hSq; (try dsimp only at hSq); have hq := row_cell hSq (mC_5 m); go_simp; first | done | with_reducible rfl)
  try simp only [Act.put, List.setIfInBounds_toArray, List.set_cons_zero, List.set_cons_succ]
  refine wpAnyH_take (i := 13) (oi := { dst := some 61, op := Go.Op.call { callee := Go.Callee.builtin Go.Builtin.len, args := #[Go.Operand.tmp 60], argTypes := #[9] }, type := 3, pos := "ref.go:297", after := #[{ on := 12, ground := Go.Ground.data }, { on := 9, ground := Go.Ground.guard }], guard := some (9, false) }) (v := ?_) rfl (by kernel_rfl) (by kernel_rfl) (by kernel_rfl) (fun _ _ _ h => h) (Or.inl ⟨by rfl, ?_⟩) hHeld1 ?_
  rotate_left 1
  · (intro wq hSq; (try dsimp only at hSq); go_simp; first | done | with_reducible rfl)
  try simp only [Act.put, List.setIfInBounds_toArray, List.set_cons_zero, List.set_cons_succ]
  refine wpAnyH_take (i := 14) (oi := { dst := some 62, op := Go.Op.binOp Go.BinOp.gtr 3 (Go.Operand.tmp 61) (Go.Operand.const (Go.Value.int Go.IntKind.i64 500)) 3, type := 4, pos := "ref.go:297", after := #[{ on := 13, ground := Go.Ground.data }, { on := 9, ground := Go.Ground.guard }], guard := some (9, false) }) (v := (.bool false)) rfl (by kernel_rfl) (by kernel_rfl) (by kernel_rfl) (fun _ _ _ h => h) (Or.inl ⟨by rfl, ?_⟩) hHeld1 ?_
  · (intro wq hSq; have hq := HSIZE.out; go_simp; first | done | (simp [hq]; done) | (simp at hq ⊢; omega))
  try simp only [Act.put, List.setIfInBounds_toArray, List.set_cons_zero, List.set_cons_succ]
  refine wpAnyH_take (i := 15) (oi := { dst := some 63, op := Go.Op.pick (Go.Operand.tmp 57) (Go.Operand.const (Go.Value.bool true)) (Go.Operand.tmp 62), type := 4, pos := "ref.go:297", after := #[{ on := 9, ground := Go.Ground.data }, { on := 14, ground := Go.Ground.data }], guard := none }) (v := ?_) rfl (by kernel_rfl) (by kernel_rfl) (by kernel_rfl) (fun _ _ _ h => h) (Or.inl ⟨by rfl, ?_⟩) hHeld1 ?_
  rotate_left 1
  · (intro wq hSq; (try dsimp only at hSq); go_simp; first | done | with_reducible rfl)
  try simp only [Act.put, List.setIfInBounds_toArray, List.set_cons_zero, List.set_cons_succ]
  refine wpAnyH_done (by kernel_rfl) ?_ _
  refine NoPanic.normal ?_
  have c0 := row_cell H3.out (mC_0 m)
  go_wp2
  go_ret
  exact ⟨by rw [HF.out]; first | rfl | simp [hd] | simp, B3.out⟩
set_option maxHeartbeats 1000000 in
set_option maxRecDepth 100000 in
theorem rform_y (m : Msg) (hm : m.Ok) (h0 : 1 ≤ m.kind) (h1 : m.kind ≤ 6) (h2 : 0 ≤ m.frm) (h3 : m.frm ≤ 16) (h4 : 0 ≤ m.to) (h5 : m.to ≤ 16) (h6 : ¬ m.frm = m.to) (h7 : 1 ≤ m.id) (h8 : m.id ≤ 4294967295) (he : eqM m (ofKind m) = true) (hb : m.base ≤ 4294967295) (hs : (m.s.size : Int) ≤ 500) (hk : m.kind = 2) (hy : m.yes = true) (w : World) : Calls Try.prog 27 #[.agg (mC m).toArray] w fun e w' => e = .returned (.bool (formB m)) ∧ Below w.heap.size w w' := by
  have HF : Hid (formB m = true) := form_mk m h0 h1 h2 h3 h4 h5 h6 h7 h8 he (by unfold inB; rw [if_neg (by omega), if_pos hk, hy]; rfl)
  have hg := heap_alloc_new w (.cells (mC m).toArray 37)
  have c0 := row_cell hg (mC_0 m)
  have c1 := row_cell hg (mC_1 m)
  have c2 := row_cell hg (mC_2 m)
  have c3 := row_cell hg (mC_3 m)
  have B1 : Hid (Below w.heap.size w (w.alloc (.cells (mC m).toArray 37))) := (Below.refl _ _).alloc (Nat.le_refl _) _
  have HM : Hid (m.Ok) := hm
  have PL : Hid (∀ W, Calls Try.prog 34 #[.agg (mC m).toArray] W fun e w' => e = .returned (.agg (mC (ofKind m)).toArray) ∧ Below W.heap.size W w') := fun W => plain_any m hm W
  have EQ : Hid (∀ W, (Op.equalIn 10000 37 (.agg (mC m).toArray) (.agg (mC (ofKind m)).toArray)).run Try.prog W = .ok true W) := fun W => by rw [← he]; exact eq65_any 9996 m (ofKind m) hm (ofKind_ok m hm) W
  have GB : Hid (∀ W, W = w.alloc (.cells (mC m).toArray 37) → BoxM 37 W.drew w.heap.size m ∧ Below w.heap.size w W.drew) := fun W hW => by
    subst hW
    exact ⟨heap_alloc_new w (.cells (mC m).toArray 37), ((Below.refl _ _).alloc (Nat.le_refl _) _).drew⟩
  have hne : (m.frm == m.to) = false := by simpa using h6
  have hsz := hm.s
  have HBASE : Hid (m.base ≤ 4294967295) := hb
  clear hb
  have HSIZE : Hid ((m.s.size : Int) ≤ 500) := hs
  clear hs
  have HK : Hid (m.kind = 2) := hk
  have HY : Hid (m.yes = true) := hy
  clear hk hy
  clear hm hg h6 he B1
  generalize hR : formB m = R at *
  clear hR
  go_enter Try.func27, Try.ntmps27
  go_wp2_with fail
  obtain ⟨W1, hW1⟩ : ∃ W, W = w.alloc (.cells (mC m).toArray 37) := ⟨_, rfl⟩
  have H1 : Hid (BoxM 37 W1.drew w.heap.size m) := (GB.out W1 hW1).1
  have B1 : Hid (Below w.heap.size w W1.drew) := (GB.out W1 hW1).2
  rw [← hW1]
  clear hW1 GB c0 c1 c2 c3
  refine wp_region_noPanic ?_
  refine wp_region_held_drew (S := fun w' => BoxM 37 w' w.heap.size m) (by kernel_rfl) (H1.out) (fun hHeld => ?_)
  try simp only [Act.put, List.setIfInBounds_toArray, List.set_cons_zero, List.set_cons_succ]
  refine wpAnyH_take (i := 0) (oi := { dst := some 48, op := Go.Op.load 37 (Go.Operand.tmp 1), type := 37, pos := "ref.go:297", after := #[], guard := none }) (v := .agg (List.toArray (mC m))) rfl (by kernel_rfl) (by kernel_rfl) (by kernel_rfl) (fun _ _ _ h => h) (yieldsIf_load_mid rfl 37 _ rfl w.heap.size 0 rfl (mC m) _ (fun wq hSq => box_range hSq) Try.underlying37 rfl (by rw [size65, mC_length m HM.out])) hHeld ?_
  try simp only [Act.put, List.setIfInBounds_toArray, List.set_cons_zero, List.set_cons_succ]
  refine wpAnyH_take (i := 1) (oi := { dst := some 49, op := Go.Op.load 37 (Go.Operand.tmp 1), type := 37, pos := "ref.go:297", after := #[], guard := none }) (v := .agg (List.toArray (mC m))) rfl (by kernel_rfl) (by kernel_rfl) (by kernel_rfl) (fun _ _ _ h => h) (yieldsIf_load_mid rfl 37 _ rfl w.heap.size 0 rfl (mC m) _ (fun wq hSq => box_range hSq) Try.underlying37 rfl (by rw [size65, mC_length m HM.out])) hHeld ?_
  try simp only [Act.put, List.setIfInBounds_toArray, List.set_cons_zero, List.set_cons_succ]
  refine wpAnyH_ready (rs := [2]) (by kernel_rfl) (by simp) ?_
  refine AllReadyH.cons (o := { dst := some 50, op := Go.Op.call { callee := Go.Callee.value (Go.Operand.func 34), args := #[Go.Operand.tmp 49], argTypes := #[37] }, type := 37, pos := "ref.go:297", after := #[{ on := 1, ground := Go.Ground.data }], guard := none }) rfl (fun K hK => ?_) AllReadyH.nil
  go_simp
  refine (PL.out _).mono ?_
  rintro e w3 ⟨rfl, b3⟩
  have H3 : Hid (BoxM 37 w3 w.heap.size m) := H1.out.below b3
  have B3 : Hid (Below w.heap.size w w3) := B1.out.trans (b3.mono B1.out.size)
  clear b3
  refine hK.out _ _ (H3.out) (fun hHeld1 => ?_)
  clear hK K hHeld
  try simp only [Act.put, List.setIfInBounds_toArray, List.set_cons_zero, List.set_cons_succ]
  refine wpAnyH_take (i := 3) (oi := { dst := some 51, op := Go.Op.binOp Go.BinOp.neq 37 (Go.Operand.tmp 48) (Go.Operand.tmp 50) 37, type := 4, pos := "ref.go:297", after := #[{ on := 0, ground := Go.Ground.data }, { on := 2, ground := Go.Ground.data }], guard := none }) (v := (.bool false)) rfl (by kernel_rfl) (by kernel_rfl) (by kernel_rfl) (fun _ _ _ h => h) (Or.inl ⟨by rfl, ?_⟩) hHeld1 ?_
  · (intro wq hSq; exact run_neq 37 guard65 _ _ _ _ _ rfl _ _ rfl rfl _ wq (EQ.out wq))
  try simp only [Act.put, List.setIfInBounds_toArray, List.set_cons_zero, List.set_cons_succ]
  refine wpAnyH_take (i := 4) (oi := { dst := some 52, op := Go.Op.move (Go.Operand.tmp 51), type := 4, pos := "ref.go:297", after := #[{ on := 3, ground := Go.Ground.data }, { on := 2, ground := Go.Ground.chain }], guard := none }) (v := ?_) rfl (by kernel_rfl) (by kernel_rfl) (by kernel_rfl) (fun _ _ _ h => h) (Or.inl ⟨by rfl, ?_⟩) hHeld1 ?_
  rotate_left 1
  · (intro wq hSq; (try dsimp only at hSq); go_simp; first | done | with_reducible rfl)
  try simp only [Act.put, List.setIfInBounds_toArray, List.set_cons_zero, List.set_cons_succ]
  refine wpAnyH_take (i := 5) (oi := { dst := some 53, op := Go.Op.fieldAddr 37 (Go.Operand.tmp 1) 4, type := 0, pos := "ref.go:297", after := #[{ on := 4, ground := Go.Ground.guard }], guard := some (4, false) }) (v := ?_) rfl (by kernel_rfl) (by kernel_rfl) (by kernel_rfl) (fun _ _ _ h => h) (Or.inl ⟨by rfl, ?_⟩) hHeld1 ?_
  rotate_left 1
  · (intro wq hSq; (try dsimp only at hSq); go_simp; first | done | with_reducible rfl)
  try simp only [Act.put, List.setIfInBounds_toArray, List.set_cons_zero, List.set_cons_succ]
  refine wpAnyH_take (i := 6) (oi := { dst := some 54, op := Go.Op.load 24 (Go.Operand.tmp 53), type := 24, pos := "ref.go:297", after := #[{ on := 5, ground := Go.Ground.data }, { on := 4, ground := Go.Ground.guard }], guard := some (4, false) }) (v := ?_) rfl (by kernel_rfl) (by kernel_rfl) (by kernel_rfl) (fun _ _ _ h => h) (Or.inl ⟨by rfl, ?_⟩) hHeld1 ?_
  rotate_left 1
  · (intro wq hSq; (try dsimp only at hSq); have hq := row_cell hSq (mC_4 m); go_simp; first | done | with_reducible rfl)
  try simp only [Act.put, List.setIfInBounds_toArray, List.set_cons_zero, List.set_cons_succ]
  refine wpAnyH_take (i := 7) (oi := { dst := some 55, op := Go.Op.binOp Go.BinOp.gtr 24 (Go.Operand.tmp 54) (Go.Operand.const (Go.Value.int Go.IntKind.u64 4294967295)) 24, type := 4, pos := "ref.go:297", after := #[{ on := 6, ground := Go.Ground.data }, { on := 4, ground := Go.Ground.guard }], guard := some (4, false) }) (v := (.bool false)) rfl (by kernel_rfl) (by kernel_rfl) (by kernel_rfl) (fun _ _ _ h => h) (Or.inl ⟨by rfl, ?_⟩) hHeld1 ?_
  · (intro wq hSq; have hq := HBASE.out; go_simp; first | done | (simp [hq]; done) | (simp at hq ⊢; omega))
  try simp only [Act.put, List.setIfInBounds_toArray, List.set_cons_zero, List.set_cons_succ]
  refine wpAnyH_take (i := 8) (oi := { dst := some 56, op := Go.Op.pick (Go.Operand.tmp 52) (Go.Operand.const (Go.Value.bool true)) (Go.Operand.tmp 55), type := 4, pos := "ref.go:297", after := #[{ on := 4, ground := Go.Ground.data }, { on := 7, ground := Go.Ground.data }], guard := none }) (v := ?_) rfl (by kernel_rfl) (by kernel_rfl) (by kernel_rfl) (fun _ _ _ h => h) (Or.inl ⟨by rfl, ?_⟩) hHeld1 ?_
  rotate_left 1
  · (intro wq hSq; (try dsimp only at hSq); go_simp; first | done | with_reducible rfl)
  try simp only [Act.put, List.setIfInBounds_toArray, List.set_cons_zero, List.set_cons_succ]
  refine wpAnyH_take (i := 9) (oi := { dst := some 57, op := Go.Op.move (Go.Operand.tmp 56), type := 4, pos := "ref.go:297", after := #[{ on := 8, ground := Go.Ground.data }, { on := 4, ground := Go.Ground.chain }], guard := none }) (v := ?_) rfl (by kernel_rfl) (by kernel_rfl) (by kernel_rfl) (fun _ _ _ h => h) (Or.inl ⟨by rfl, ?_⟩) hHeld1 ?_
  rotate_left 1
  · (intro wq hSq; (try dsimp only at hSq); go_simp; first | done | with_reducible rfl)
  try simp only [Act.put, List.setIfInBounds_toArray, List.set_cons_zero, List.set_cons_succ]
  refine wpAnyH_take (i := 10) (oi := { dst := some 58, op := Go.Op.fieldAddr 37 (Go.Operand.tmp 1) 5, type := 0, pos := "ref.go:297", after := #[{ on := 9, ground := Go.Ground.guard }], guard := some (9, false) }) (v := ?_) rfl (by kernel_rfl) (by kernel_rfl) (by kernel_rfl) (fun _ _ _ h => h) (Or.inl ⟨by rfl, ?_⟩) hHeld1 ?_
  rotate_left 1
  · (intro wq hSq; (try dsimp only at hSq); go_simp; first | done | with_reducible rfl)
  try simp only [Act.put, List.setIfInBounds_toArray, List.set_cons_zero, List.set_cons_succ]
  refine wpAnyH_take (i := 11) (oi := { dst := some 59, op := Go.Op.fieldAddr 29 (Go.Operand.tmp 58) 0, type := 0, pos := "ref.go:297", after := #[{ on := 10, ground := Go.Ground.data }, { on := 9, ground := Go.Ground.guard }], guard := some (9, false) }) (v := ?_) rfl (by kernel_rfl) (by kernel_rfl) (by kernel_rfl) (fun _ _ _ h => h) (Or.inl ⟨by rfl, ?_⟩) hHeld1 ?_
  rotate_left 1
  · (intro wq hSq; (try dsimp only at hSq); go_simp; first | done | with_reducible rfl)
  try simp only [Act.put, List.setIfInBounds_toArray, List.set_cons_zero, List.set_cons_succ]
  refine wpAnyH_take (i := 12) (oi := { dst := some 60, op := Go.Op.load 9 (Go.Operand.tmp 59), type := 9, pos := "ref.go:297", after := #[{ on := 11, ground := Go.Ground.data }, { on := 9, ground := Go.Ground.guard }], guard := some (9, false) }) (v := ?_) rfl (by kernel_rfl) (by kernel_rfl) (by kernel_rfl) (fun _ _ _ h => h) (Or.inl ⟨by rfl, ?_⟩) hHeld1 ?_
  rotate_left 1
  · (intro wq hSq; (try dsimp only at hSq); have hq := row_cell hSq (mC_5 m); go_simp; first | done | with_reducible rfl)
  try simp only [Act.put, List.setIfInBounds_toArray, List.set_cons_zero, List.set_cons_succ]
  refine wpAnyH_take (i := 13) (oi := { dst := some 61, op := Go.Op.call { callee := Go.Callee.builtin Go.Builtin.len, args := #[Go.Operand.tmp 60], argTypes := #[9] }, type := 3, pos := "ref.go:297", after := #[{ on := 12, ground := Go.Ground.data }, { on := 9, ground := Go.Ground.guard }], guard := some (9, false) }) (v := ?_) rfl (by kernel_rfl) (by kernel_rfl) (by kernel_rfl) (fun _ _ _ h => h) (Or.inl ⟨by rfl, ?_⟩) hHeld1 ?_
  rotate_left 1
  · (intro wq hSq; (try dsimp only at hSq); go_simp; first | done | with_reducible rfl)
  try simp only [Act.put, List.setIfInBounds_toArray, List.set_cons_zero, List.set_cons_succ]
  refine wpAnyH_take (i := 14) (oi := { dst := some 62, op := Go.Op.binOp Go.BinOp.gtr 3 (Go.Operand.tmp 61) (Go.Operand.const (Go.Value.int Go.IntKind.i64 500)) 3, type := 4, pos := "ref.go:297", after := #[{ on := 13, ground := Go.Ground.data }, { on := 9, ground := Go.Ground.guard }], guard := some (9, false) }) (v := (.bool false)) rfl (by kernel_rfl) (by kernel_rfl) (by kernel_rfl) (fun _ _ _ h => h) (Or.inl ⟨by rfl, ?_⟩) hHeld1 ?_
  · (intro wq hSq; have hq := HSIZE.out; go_simp; first | done | (simp [hq]; done) | (simp at hq ⊢; omega))
  try simp only [Act.put, List.setIfInBounds_toArray, List.set_cons_zero, List.set_cons_succ]
  refine wpAnyH_take (i := 15) (oi := { dst := some 63, op := Go.Op.pick (Go.Operand.tmp 57) (Go.Operand.const (Go.Value.bool true)) (Go.Operand.tmp 62), type := 4, pos := "ref.go:297", after := #[{ on := 9, ground := Go.Ground.data }, { on := 14, ground := Go.Ground.data }], guard := none }) (v := ?_) rfl (by kernel_rfl) (by kernel_rfl) (by kernel_rfl) (fun _ _ _ h => h) (Or.inl ⟨by rfl, ?_⟩) hHeld1 ?_
  rotate_left 1
  · (intro wq hSq; (try dsimp only at hSq); go_simp; first | done | with_reducible rfl)
  try simp only [Act.put, List.setIfInBounds_toArray, List.set_cons_zero, List.set_cons_succ]
  refine wpAnyH_done (by kernel_rfl) ?_ _
  refine NoPanic.normal ?_
  have c0 := row_cell H3.out (mC_0 m)
  rw [HK.out] at c0
  have c40 := row_cell H3.out (mC_40 m HM.out)
  rw [HY.out] at c40
  go_wp2
  go_ret
  exact ⟨by rw [HF.out]; first | rfl | simp [hd] | simp, B3.out⟩
set_option maxHeartbeats 1000000 in
set_option maxRecDepth 100000 in
theorem rform_c (m : Msg) (hm : m.Ok) (h0 : 1 ≤ m.kind) (h1 : m.kind ≤ 6) (h2 : 0 ≤ m.frm) (h3 : m.frm ≤ 16) (h4 : 0 ≤ m.to) (h5 : m.to ≤ 16) (h6 : ¬ m.frm = m.to) (h7 : 1 ≤ m.id) (h8 : m.id ≤ 4294967295) (he : eqM m (ofKind m) = true) (hb : m.base ≤ 4294967295) (hs : (m.s.size : Int) ≤ 500) (hk : m.kind = 2) (hy : m.yes = false) (hc : ¬ 1 ≤ m.code) (w : World) : Calls Try.prog 27 #[.agg (mC m).toArray] w fun e w' => e = .returned (.bool (formB m)) ∧ Below w.heap.size w w' := by
  have HF : Hid (formB m = false) := form_no (fun q => by have r := (form_all q).2.2.2.2.2.2.2; unfold inB at r; rw [if_neg (by omega), if_pos hk, hy] at r; simp at r; omega)
  have hg := heap_alloc_new w (.cells (mC m).toArray 37)
  have c0 := row_cell hg (mC_0 m)
  have c1 := row_cell hg (mC_1 m)
  have c2 := row_cell hg (mC_2 m)
  have c3 := row_cell hg (mC_3 m)
  have B1 : Hid (Below w.heap.size w (w.alloc (.cells (mC m).toArray 37))) := (Below.refl _ _).alloc (Nat.le_refl _) _
  have HM : Hid (m.Ok) := hm
  have PL : Hid (∀ W, Calls Try.prog 34 #[.agg (mC m).toArray] W fun e w' => e = .returned (.agg (mC (ofKind m)).toArray) ∧ Below W.heap.size W w') := fun W => plain_any m hm W
  have EQ : Hid (∀ W, (Op.equalIn 10000 37 (.agg (mC m).toArray) (.agg (mC (ofKind m)).toArray)).run Try.prog W = .ok true W) := fun W => by rw [← he]; exact eq65_any 9996 m (ofKind m) hm (ofKind_ok m hm) W
  have GB : Hid (∀ W, W = w.alloc (.cells (mC m).toArray 37) → BoxM 37 W.drew w.heap.size m ∧ Below w.heap.size w W.drew) := fun W hW => by
    subst hW
    exact ⟨heap_alloc_new w (.cells (mC m).toArray 37), ((Below.refl _ _).alloc (Nat.le_refl _) _).drew⟩
  have hne : (m.frm == m.to) = false := by simpa using h6
  have hsz := hm.s
  have HBASE : Hid (m.base ≤ 4294967295) := hb
  clear hb
  have HSIZE : Hid ((m.s.size : Int) ≤ 500) := hs
  clear hs
  have HK : Hid (m.kind = 2) := hk
  have HY : Hid (m.yes = false) := hy
  clear hk hy
  clear hm hg h6 he B1
  generalize hR : formB m = R at *
  clear hR
  go_enter Try.func27, Try.ntmps27
  go_wp2_with fail
  obtain ⟨W1, hW1⟩ : ∃ W, W = w.alloc (.cells (mC m).toArray 37) := ⟨_, rfl⟩
  have H1 : Hid (BoxM 37 W1.drew w.heap.size m) := (GB.out W1 hW1).1
  have B1 : Hid (Below w.heap.size w W1.drew) := (GB.out W1 hW1).2
  rw [← hW1]
  clear hW1 GB c0 c1 c2 c3
  refine wp_region_noPanic ?_
  refine wp_region_held_drew (S := fun w' => BoxM 37 w' w.heap.size m) (by kernel_rfl) (H1.out) (fun hHeld => ?_)
  try simp only [Act.put, List.setIfInBounds_toArray, List.set_cons_zero, List.set_cons_succ]
  refine wpAnyH_take (i := 0) (oi := { dst := some 48, op := Go.Op.load 37 (Go.Operand.tmp 1), type := 37, pos := "ref.go:297", after := #[], guard := none }) (v := .agg (List.toArray (mC m))) rfl (by kernel_rfl) (by kernel_rfl) (by kernel_rfl) (fun _ _ _ h => h) (yieldsIf_load_mid rfl 37 _ rfl w.heap.size 0 rfl (mC m) _ (fun wq hSq => box_range hSq) Try.underlying37 rfl (by rw [size65, mC_length m HM.out])) hHeld ?_
  try simp only [Act.put, List.setIfInBounds_toArray, List.set_cons_zero, List.set_cons_succ]
  refine wpAnyH_take (i := 1) (oi := { dst := some 49, op := Go.Op.load 37 (Go.Operand.tmp 1), type := 37, pos := "ref.go:297", after := #[], guard := none }) (v := .agg (List.toArray (mC m))) rfl (by kernel_rfl) (by kernel_rfl) (by kernel_rfl) (fun _ _ _ h => h) (yieldsIf_load_mid rfl 37 _ rfl w.heap.size 0 rfl (mC m) _ (fun wq hSq => box_range hSq) Try.underlying37 rfl (by rw [size65, mC_length m HM.out])) hHeld ?_
  try simp only [Act.put, List.setIfInBounds_toArray, List.set_cons_zero, List.set_cons_succ]
  refine wpAnyH_ready (rs := [2]) (by kernel_rfl) (by simp) ?_
  refine AllReadyH.cons (o := { dst := some 50, op := Go.Op.call { callee := Go.Callee.value (Go.Operand.func 34), args := #[Go.Operand.tmp 49], argTypes := #[37] }, type := 37, pos := "ref.go:297", after := #[{ on := 1, ground := Go.Ground.data }], guard := none }) rfl (fun K hK => ?_) AllReadyH.nil
  go_simp
  refine (PL.out _).mono ?_
  rintro e w3 ⟨rfl, b3⟩
  have H3 : Hid (BoxM 37 w3 w.heap.size m) := H1.out.below b3
  have B3 : Hid (Below w.heap.size w w3) := B1.out.trans (b3.mono B1.out.size)
  clear b3
  refine hK.out _ _ (H3.out) (fun hHeld1 => ?_)
  clear hK K hHeld
  try simp only [Act.put, List.setIfInBounds_toArray, List.set_cons_zero, List.set_cons_succ]
  refine wpAnyH_take (i := 3) (oi := { dst := some 51, op := Go.Op.binOp Go.BinOp.neq 37 (Go.Operand.tmp 48) (Go.Operand.tmp 50) 37, type := 4, pos := "ref.go:297", after := #[{ on := 0, ground := Go.Ground.data }, { on := 2, ground := Go.Ground.data }], guard := none }) (v := (.bool false)) rfl (by kernel_rfl) (by kernel_rfl) (by kernel_rfl) (fun _ _ _ h => h) (Or.inl ⟨by rfl, ?_⟩) hHeld1 ?_
  · (intro wq hSq; exact run_neq 37 guard65 _ _ _ _ _ rfl _ _ rfl rfl _ wq (EQ.out wq))
  try simp only [Act.put, List.setIfInBounds_toArray, List.set_cons_zero, List.set_cons_succ]
  refine wpAnyH_take (i := 4) (oi := { dst := some 52, op := Go.Op.move (Go.Operand.tmp 51), type := 4, pos := "ref.go:297", after := #[{ on := 3, ground := Go.Ground.data }, { on := 2, ground := Go.Ground.chain }], guard := none }) (v := ?_) rfl (by kernel_rfl) (by kernel_rfl) (by kernel_rfl) (fun _ _ _ h => h) (Or.inl ⟨by rfl, ?_⟩) hHeld1 ?_
  rotate_left 1
  · (intro wq hSq; (try dsimp only at hSq); go_simp; first | done | with_reducible rfl)
  try simp only [Act.put, List.setIfInBounds_toArray, List.set_cons_zero, List.set_cons_succ]
  refine wpAnyH_take (i := 5) (oi := { dst := some 53, op := Go.Op.fieldAddr 37 (Go.Operand.tmp 1) 4, type := 0, pos := "ref.go:297", after := #[{ on := 4, ground := Go.Ground.guard }], guard := some (4, false) }) (v := ?_) rfl (by kernel_rfl) (by kernel_rfl) (by kernel_rfl) (fun _ _ _ h => h) (Or.inl ⟨by rfl, ?_⟩) hHeld1 ?_
  rotate_left 1
  · (intro wq hSq; (try dsimp only at hSq); go_simp; first | done | with_reducible rfl)
  try simp only [Act.put, List.setIfInBounds_toArray, List.set_cons_zero, List.set_cons_succ]
  refine wpAnyH_take (i := 6) (oi := { dst := some 54, op := Go.Op.load 24 (Go.Operand.tmp 53), type := 24, pos := "ref.go:297", after := #[{ on := 5, ground := Go.Ground.data }, { on := 4, ground := Go.Ground.guard }], guard := some (4, false) }) (v := ?_) rfl (by kernel_rfl) (by kernel_rfl) (by kernel_rfl) (fun _ _ _ h => h) (Or.inl ⟨by rfl, ?_⟩) hHeld1 ?_
  rotate_left 1
  · (intro wq hSq; (try dsimp only at hSq); have hq := row_cell hSq (mC_4 m); go_simp; first | done | with_reducible rfl)
  try simp only [Act.put, List.setIfInBounds_toArray, List.set_cons_zero, List.set_cons_succ]
  refine wpAnyH_take (i := 7) (oi := { dst := some 55, op := Go.Op.binOp Go.BinOp.gtr 24 (Go.Operand.tmp 54) (Go.Operand.const (Go.Value.int Go.IntKind.u64 4294967295)) 24, type := 4, pos := "ref.go:297", after := #[{ on := 6, ground := Go.Ground.data }, { on := 4, ground := Go.Ground.guard }], guard := some (4, false) }) (v := (.bool false)) rfl (by kernel_rfl) (by kernel_rfl) (by kernel_rfl) (fun _ _ _ h => h) (Or.inl ⟨by rfl, ?_⟩) hHeld1 ?_
  · (intro wq hSq; have hq := HBASE.out; go_simp; first | done | (simp [hq]; done) | (simp at hq ⊢; omega))
  try simp only [Act.put, List.setIfInBounds_toArray, List.set_cons_zero, List.set_cons_succ]
  refine wpAnyH_take (i := 8) (oi := { dst := some 56, op := Go.Op.pick (Go.Operand.tmp 52) (Go.Operand.const (Go.Value.bool true)) (Go.Operand.tmp 55), type := 4, pos := "ref.go:297", after := #[{ on := 4, ground := Go.Ground.data }, { on := 7, ground := Go.Ground.data }], guard := none }) (v := ?_) rfl (by kernel_rfl) (by kernel_rfl) (by kernel_rfl) (fun _ _ _ h => h) (Or.inl ⟨by rfl, ?_⟩) hHeld1 ?_
  rotate_left 1
  · (intro wq hSq; (try dsimp only at hSq); go_simp; first | done | with_reducible rfl)
  try simp only [Act.put, List.setIfInBounds_toArray, List.set_cons_zero, List.set_cons_succ]
  refine wpAnyH_take (i := 9) (oi := { dst := some 57, op := Go.Op.move (Go.Operand.tmp 56), type := 4, pos := "ref.go:297", after := #[{ on := 8, ground := Go.Ground.data }, { on := 4, ground := Go.Ground.chain }], guard := none }) (v := ?_) rfl (by kernel_rfl) (by kernel_rfl) (by kernel_rfl) (fun _ _ _ h => h) (Or.inl ⟨by rfl, ?_⟩) hHeld1 ?_
  rotate_left 1
  · (intro wq hSq; (try dsimp only at hSq); go_simp; first | done | with_reducible rfl)
  try simp only [Act.put, List.setIfInBounds_toArray, List.set_cons_zero, List.set_cons_succ]
  refine wpAnyH_take (i := 10) (oi := { dst := some 58, op := Go.Op.fieldAddr 37 (Go.Operand.tmp 1) 5, type := 0, pos := "ref.go:297", after := #[{ on := 9, ground := Go.Ground.guard }], guard := some (9, false) }) (v := ?_) rfl (by kernel_rfl) (by kernel_rfl) (by kernel_rfl) (fun _ _ _ h => h) (Or.inl ⟨by rfl, ?_⟩) hHeld1 ?_
  rotate_left 1
  · (intro wq hSq; (try dsimp only at hSq); go_simp; first | done | with_reducible rfl)
  try simp only [Act.put, List.setIfInBounds_toArray, List.set_cons_zero, List.set_cons_succ]
  refine wpAnyH_take (i := 11) (oi := { dst := some 59, op := Go.Op.fieldAddr 29 (Go.Operand.tmp 58) 0, type := 0, pos := "ref.go:297", after := #[{ on := 10, ground := Go.Ground.data }, { on := 9, ground := Go.Ground.guard }], guard := some (9, false) }) (v := ?_) rfl (by kernel_rfl) (by kernel_rfl) (by kernel_rfl) (fun _ _ _ h => h) (Or.inl ⟨by rfl, ?_⟩) hHeld1 ?_
  rotate_left 1
  · (intro wq hSq; (try dsimp only at hSq); go_simp; first | done | with_reducible rfl)
  try simp only [Act.put, List.setIfInBounds_toArray, List.set_cons_zero, List.set_cons_succ]
  refine wpAnyH_take (i := 12) (oi := { dst := some 60, op := Go.Op.load 9 (Go.Operand.tmp 59), type := 9, pos := "ref.go:297", after := #[{ on := 11, ground := Go.Ground.data }, { on := 9, ground := Go.Ground.guard }], guard := some (9, false) }) (v := ?_) rfl (by kernel_rfl) (by kernel_rfl) (by kernel_rfl) (fun _ _ _ h => h) (Or.inl ⟨by rfl, ?_⟩) hHeld1 ?_
  rotate_left 1
  · (intro wq hSq; (try dsimp only at hSq); have hq := row_cell hSq (mC_5 m); go_simp; first | done | with_reducible rfl)
  try simp only [Act.put, List.setIfInBounds_toArray, List.set_cons_zero, List.set_cons_succ]
  refine wpAnyH_take (i := 13) (oi := { dst := some 61, op := Go.Op.call { callee := Go.Callee.builtin Go.Builtin.len, args := #[Go.Operand.tmp 60], argTypes := #[9] }, type := 3, pos := "ref.go:297", after := #[{ on := 12, ground := Go.Ground.data }, { on := 9, ground := Go.Ground.guard }], guard := some (9, false) }) (v := ?_) rfl (by kernel_rfl) (by kernel_rfl) (by kernel_rfl) (fun _ _ _ h => h) (Or.inl ⟨by rfl, ?_⟩) hHeld1 ?_
  rotate_left 1
  · (intro wq hSq; (try dsimp only at hSq); go_simp; first | done | with_reducible rfl)
  try simp only [Act.put, List.setIfInBounds_toArray, List.set_cons_zero, List.set_cons_succ]
  refine wpAnyH_take (i := 14) (oi := { dst := some 62, op := Go.Op.binOp Go.BinOp.gtr 3 (Go.Operand.tmp 61) (Go.Operand.const (Go.Value.int Go.IntKind.i64 500)) 3, type := 4, pos := "ref.go:297", after := #[{ on := 13, ground := Go.Ground.data }, { on := 9, ground := Go.Ground.guard }], guard := some (9, false) }) (v := (.bool false)) rfl (by kernel_rfl) (by kernel_rfl) (by kernel_rfl) (fun _ _ _ h => h) (Or.inl ⟨by rfl, ?_⟩) hHeld1 ?_
  · (intro wq hSq; have hq := HSIZE.out; go_simp; first | done | (simp [hq]; done) | (simp at hq ⊢; omega))
  try simp only [Act.put, List.setIfInBounds_toArray, List.set_cons_zero, List.set_cons_succ]
  refine wpAnyH_take (i := 15) (oi := { dst := some 63, op := Go.Op.pick (Go.Operand.tmp 57) (Go.Operand.const (Go.Value.bool true)) (Go.Operand.tmp 62), type := 4, pos := "ref.go:297", after := #[{ on := 9, ground := Go.Ground.data }, { on := 14, ground := Go.Ground.data }], guard := none }) (v := ?_) rfl (by kernel_rfl) (by kernel_rfl) (by kernel_rfl) (fun _ _ _ h => h) (Or.inl ⟨by rfl, ?_⟩) hHeld1 ?_
  rotate_left 1
  · (intro wq hSq; (try dsimp only at hSq); go_simp; first | done | with_reducible rfl)
  try simp only [Act.put, List.setIfInBounds_toArray, List.set_cons_zero, List.set_cons_succ]
  refine wpAnyH_done (by kernel_rfl) ?_ _
  refine NoPanic.normal ?_
  have c0 := row_cell H3.out (mC_0 m)
  rw [HK.out] at c0
  have c40 := row_cell H3.out (mC_40 m HM.out)
  rw [HY.out] at c40
  have c41 := row_cell H3.out (mC_41 m HM.out)
  go_wp2
  go_ret
  exact ⟨by rw [HF.out]; first | rfl | simp [hd] | simp, B3.out⟩
set_option maxHeartbeats 1000000 in
set_option maxRecDepth 100000 in
theorem rform_d (m : Msg) (hm : m.Ok) (h0 : 1 ≤ m.kind) (h1 : m.kind ≤ 6) (h2 : 0 ≤ m.frm) (h3 : m.frm ≤ 16) (h4 : 0 ≤ m.to) (h5 : m.to ≤ 16) (h6 : ¬ m.frm = m.to) (h7 : 1 ≤ m.id) (h8 : m.id ≤ 4294967295) (he : eqM m (ofKind m) = true) (hb : m.base ≤ 4294967295) (hs : (m.s.size : Int) ≤ 500) (hk : m.kind = 2) (hy : m.yes = false) (hc : 1 ≤ m.code) (hd : ¬ m.code ≤ 17) (w : World) : Calls Try.prog 27 #[.agg (mC m).toArray] w fun e w' => e = .returned (.bool (formB m)) ∧ Below w.heap.size w w' := by
  have HF : Hid (formB m = false) := form_no (fun q => by have r := (form_all q).2.2.2.2.2.2.2; unfold inB at r; rw [if_neg (by omega), if_pos hk, hy] at r; simp at r; omega)
  have hg := heap_alloc_new w (.cells (mC m).toArray 37)
  have c0 := row_cell hg (mC_0 m)
  have c1 := row_cell hg (mC_1 m)
  have c2 := row_cell hg (mC_2 m)
  have c3 := row_cell hg (mC_3 m)
  have B1 : Hid (Below w.heap.size w (w.alloc (.cells (mC m).toArray 37))) := (Below.refl _ _).alloc (Nat.le_refl _) _
  have HM : Hid (m.Ok) := hm
  have PL : Hid (∀ W, Calls Try.prog 34 #[.agg (mC m).toArray] W fun e w' => e = .returned (.agg (mC (ofKind m)).toArray) ∧ Below W.heap.size W w') := fun W => plain_any m hm W
  have EQ : Hid (∀ W, (Op.equalIn 10000 37 (.agg (mC m).toArray) (.agg (mC (ofKind m)).toArray)).run Try.prog W = .ok true W) := fun W => by rw [← he]; exact eq65_any 9996 m (ofKind m) hm (ofKind_ok m hm) W
  have GB : Hid (∀ W, W = w.alloc (.cells (mC m).toArray 37) → BoxM 37 W.drew w.heap.size m ∧ Below w.heap.size w W.drew) := fun W hW => by
    subst hW
    exact ⟨heap_alloc_new w (.cells (mC m).toArray 37), ((Below.refl _ _).alloc (Nat.le_refl _) _).drew⟩
  have hne : (m.frm == m.to) = false := by simpa using h6
  have hsz := hm.s
  have HBASE : Hid (m.base ≤ 4294967295) := hb
  clear hb
  have HSIZE : Hid ((m.s.size : Int) ≤ 500) := hs
  clear hs
  have HK : Hid (m.kind = 2) := hk
  have HY : Hid (m.yes = false) := hy
  clear hk hy
  clear hm hg h6 he B1
  generalize hR : formB m = R at *
  clear hR
  go_enter Try.func27, Try.ntmps27
  go_wp2_with fail
  obtain ⟨W1, hW1⟩ : ∃ W, W = w.alloc (.cells (mC m).toArray 37) := ⟨_, rfl⟩
  have H1 : Hid (BoxM 37 W1.drew w.heap.size m) := (GB.out W1 hW1).1
  have B1 : Hid (Below w.heap.size w W1.drew) := (GB.out W1 hW1).2
  rw [← hW1]
  clear hW1 GB c0 c1 c2 c3
  refine wp_region_noPanic ?_
  refine wp_region_held_drew (S := fun w' => BoxM 37 w' w.heap.size m) (by kernel_rfl) (H1.out) (fun hHeld => ?_)
  try simp only [Act.put, List.setIfInBounds_toArray, List.set_cons_zero, List.set_cons_succ]
  refine wpAnyH_take (i := 0) (oi := { dst := some 48, op := Go.Op.load 37 (Go.Operand.tmp 1), type := 37, pos := "ref.go:297", after := #[], guard := none }) (v := .agg (List.toArray (mC m))) rfl (by kernel_rfl) (by kernel_rfl) (by kernel_rfl) (fun _ _ _ h => h) (yieldsIf_load_mid rfl 37 _ rfl w.heap.size 0 rfl (mC m) _ (fun wq hSq => box_range hSq) Try.underlying37 rfl (by rw [size65, mC_length m HM.out])) hHeld ?_
  try simp only [Act.put, List.setIfInBounds_toArray, List.set_cons_zero, List.set_cons_succ]
  refine wpAnyH_take (i := 1) (oi := { dst := some 49, op := Go.Op.load 37 (Go.Operand.tmp 1), type := 37, pos := "ref.go:297", after := #[], guard := none }) (v := .agg (List.toArray (mC m))) rfl (by kernel_rfl) (by kernel_rfl) (by kernel_rfl) (fun _ _ _ h => h) (yieldsIf_load_mid rfl 37 _ rfl w.heap.size 0 rfl (mC m) _ (fun wq hSq => box_range hSq) Try.underlying37 rfl (by rw [size65, mC_length m HM.out])) hHeld ?_
  try simp only [Act.put, List.setIfInBounds_toArray, List.set_cons_zero, List.set_cons_succ]
  refine wpAnyH_ready (rs := [2]) (by kernel_rfl) (by simp) ?_
  refine AllReadyH.cons (o := { dst := some 50, op := Go.Op.call { callee := Go.Callee.value (Go.Operand.func 34), args := #[Go.Operand.tmp 49], argTypes := #[37] }, type := 37, pos := "ref.go:297", after := #[{ on := 1, ground := Go.Ground.data }], guard := none }) rfl (fun K hK => ?_) AllReadyH.nil
  go_simp
  refine (PL.out _).mono ?_
  rintro e w3 ⟨rfl, b3⟩
  have H3 : Hid (BoxM 37 w3 w.heap.size m) := H1.out.below b3
  have B3 : Hid (Below w.heap.size w w3) := B1.out.trans (b3.mono B1.out.size)
  clear b3
  refine hK.out _ _ (H3.out) (fun hHeld1 => ?_)
  clear hK K hHeld
  try simp only [Act.put, List.setIfInBounds_toArray, List.set_cons_zero, List.set_cons_succ]
  refine wpAnyH_take (i := 3) (oi := { dst := some 51, op := Go.Op.binOp Go.BinOp.neq 37 (Go.Operand.tmp 48) (Go.Operand.tmp 50) 37, type := 4, pos := "ref.go:297", after := #[{ on := 0, ground := Go.Ground.data }, { on := 2, ground := Go.Ground.data }], guard := none }) (v := (.bool false)) rfl (by kernel_rfl) (by kernel_rfl) (by kernel_rfl) (fun _ _ _ h => h) (Or.inl ⟨by rfl, ?_⟩) hHeld1 ?_
  · (intro wq hSq; exact run_neq 37 guard65 _ _ _ _ _ rfl _ _ rfl rfl _ wq (EQ.out wq))
  try simp only [Act.put, List.setIfInBounds_toArray, List.set_cons_zero, List.set_cons_succ]
  refine wpAnyH_take (i := 4) (oi := { dst := some 52, op := Go.Op.move (Go.Operand.tmp 51), type := 4, pos := "ref.go:297", after := #[{ on := 3, ground := Go.Ground.data }, { on := 2, ground := Go.Ground.chain }], guard := none }) (v := ?_) rfl (by kernel_rfl) (by kernel_rfl) (by kernel_rfl) (fun _ _ _ h => h) (Or.inl ⟨by rfl, ?_⟩) hHeld1 ?_
  rotate_left 1
  · (intro wq hSq; (try dsimp only at hSq); go_simp; first | done | with_reducible rfl)
  try simp only [Act.put, List.setIfInBounds_toArray, List.set_cons_zero, List.set_cons_succ]
  refine wpAnyH_take (i := 5) (oi := { dst := some 53, op := Go.Op.fieldAddr 37 (Go.Operand.tmp 1) 4, type := 0, pos := "ref.go:297", after := #[{ on := 4, ground := Go.Ground.guard }], guard := some (4, false) }) (v := ?_) rfl (by kernel_rfl) (by kernel_rfl) (by kernel_rfl) (fun _ _ _ h => h) (Or.inl ⟨by rfl, ?_⟩) hHeld1 ?_
  rotate_left 1
  · (intro wq hSq; (try dsimp only at hSq); go_simp; first | done | with_reducible rfl)
  try simp only [Act.put, List.setIfInBounds_toArray, List.set_cons_zero, List.set_cons_succ]
  refine wpAnyH_take (i := 6) (oi := { dst := some 54, op := Go.Op.load 24 (Go.Operand.tmp 53), type := 24, pos := "ref.go:297", after := #[{ on := 5, ground := Go.Ground.data }, { on := 4, ground := Go.Ground.guard }], guard := some (4, false) }) (v := ?_) rfl (by kernel_rfl) (by kernel_rfl) (by kernel_rfl) (fun _ _ _ h => h) (Or.inl ⟨by rfl, ?_⟩) hHeld1 ?_
  rotate_left 1
  · (intro wq hSq; (try dsimp only at hSq); have hq := row_cell hSq (mC_4 m); go_simp; first | done | with_reducible rfl)
  try simp only [Act.put, List.setIfInBounds_toArray, List.set_cons_zero, List.set_cons_succ]
  refine wpAnyH_take (i := 7) (oi := { dst := some 55, op := Go.Op.binOp Go.BinOp.gtr 24 (Go.Operand.tmp 54) (Go.Operand.const (Go.Value.int Go.IntKind.u64 4294967295)) 24, type := 4, pos := "ref.go:297", after := #[{ on := 6, ground := Go.Ground.data }, { on := 4, ground := Go.Ground.guard }], guard := some (4, false) }) (v := (.bool false)) rfl (by kernel_rfl) (by kernel_rfl) (by kernel_rfl) (fun _ _ _ h => h) (Or.inl ⟨by rfl, ?_⟩) hHeld1 ?_
  · (intro wq hSq; have hq := HBASE.out; go_simp; first | done | (simp [hq]; done) | (simp at hq ⊢; omega))
  try simp only [Act.put, List.setIfInBounds_toArray, List.set_cons_zero, List.set_cons_succ]
  refine wpAnyH_take (i := 8) (oi := { dst := some 56, op := Go.Op.pick (Go.Operand.tmp 52) (Go.Operand.const (Go.Value.bool true)) (Go.Operand.tmp 55), type := 4, pos := "ref.go:297", after := #[{ on := 4, ground := Go.Ground.data }, { on := 7, ground := Go.Ground.data }], guard := none }) (v := ?_) rfl (by kernel_rfl) (by kernel_rfl) (by kernel_rfl) (fun _ _ _ h => h) (Or.inl ⟨by rfl, ?_⟩) hHeld1 ?_
  rotate_left 1
  · (intro wq hSq; (try dsimp only at hSq); go_simp; first | done | with_reducible rfl)
  try simp only [Act.put, List.setIfInBounds_toArray, List.set_cons_zero, List.set_cons_succ]
  refine wpAnyH_take (i := 9) (oi := { dst := some 57, op := Go.Op.move (Go.Operand.tmp 56), type := 4, pos := "ref.go:297", after := #[{ on := 8, ground := Go.Ground.data }, { on := 4, ground := Go.Ground.chain }], guard := none }) (v := ?_) rfl (by kernel_rfl) (by kernel_rfl) (by kernel_rfl) (fun _ _ _ h => h) (Or.inl ⟨by rfl, ?_⟩) hHeld1 ?_
  rotate_left 1
  · (intro wq hSq; (try dsimp only at hSq); go_simp; first | done | with_reducible rfl)
  try simp only [Act.put, List.setIfInBounds_toArray, List.set_cons_zero, List.set_cons_succ]
  refine wpAnyH_take (i := 10) (oi := { dst := some 58, op := Go.Op.fieldAddr 37 (Go.Operand.tmp 1) 5, type := 0, pos := "ref.go:297", after := #[{ on := 9, ground := Go.Ground.guard }], guard := some (9, false) }) (v := ?_) rfl (by kernel_rfl) (by kernel_rfl) (by kernel_rfl) (fun _ _ _ h => h) (Or.inl ⟨by rfl, ?_⟩) hHeld1 ?_
  rotate_left 1
  · (intro wq hSq; (try dsimp only at hSq); go_simp; first | done | with_reducible rfl)
  try simp only [Act.put, List.setIfInBounds_toArray, List.set_cons_zero, List.set_cons_succ]
  refine wpAnyH_take (i := 11) (oi := { dst := some 59, op := Go.Op.fieldAddr 29 (Go.Operand.tmp 58) 0, type := 0, pos := "ref.go:297", after := #[{ on := 10, ground := Go.Ground.data }, { on := 9, ground := Go.Ground.guard }], guard := some (9, false) }) (v := ?_) rfl (by kernel_rfl) (by kernel_rfl) (by kernel_rfl) (fun _ _ _ h => h) (Or.inl ⟨by rfl, ?_⟩) hHeld1 ?_
  rotate_left 1
  · (intro wq hSq; (try dsimp only at hSq); go_simp; first | done | with_reducible rfl)
  try simp only [Act.put, List.setIfInBounds_toArray, List.set_cons_zero, List.set_cons_succ]
  refine wpAnyH_take (i := 12) (oi := { dst := some 60, op := Go.Op.load 9 (Go.Operand.tmp 59), type := 9, pos := "ref.go:297", after := #[{ on := 11, ground := Go.Ground.data }, { on := 9, ground := Go.Ground.guard }], guard := some (9, false) }) (v := ?_) rfl (by kernel_rfl) (by kernel_rfl) (by kernel_rfl) (fun _ _ _ h => h) (Or.inl ⟨by rfl, ?_⟩) hHeld1 ?_
  rotate_left 1
  · (intro wq hSq; (try dsimp only at hSq); have hq := row_cell hSq (mC_5 m); go_simp; first | done | with_reducible rfl)
  try simp only [Act.put, List.setIfInBounds_toArray, List.set_cons_zero, List.set_cons_succ]
  refine wpAnyH_take (i := 13) (oi := { dst := some 61, op := Go.Op.call { callee := Go.Callee.builtin Go.Builtin.len, args := #[Go.Operand.tmp 60], argTypes := #[9] }, type := 3, pos := "ref.go:297", after := #[{ on := 12, ground := Go.Ground.data }, { on := 9, ground := Go.Ground.guard }], guard := some (9, false) }) (v := ?_) rfl (by kernel_rfl) (by kernel_rfl) (by kernel_rfl) (fun _ _ _ h => h) (Or.inl ⟨by rfl, ?_⟩) hHeld1 ?_
  rotate_left 1
  · (intro wq hSq; (try dsimp only at hSq); go_simp; first | done | with_reducible rfl)
  try simp only [Act.put, List.setIfInBounds_toArray, List.set_cons_zero, List.set_cons_succ]
  refine wpAnyH_take (i := 14) (oi := { dst := some 62, op := Go.Op.binOp Go.BinOp.gtr 3 (Go.Operand.tmp 61) (Go.Operand.const (Go.Value.int Go.IntKind.i64 500)) 3, type := 4, pos := "ref.go:297", after := #[{ on := 13, ground := Go.Ground.data }, { on := 9, ground := Go.Ground.guard }], guard := some (9, false) }) (v := (.bool false)) rfl (by kernel_rfl) (by kernel_rfl) (by kernel_rfl) (fun _ _ _ h => h) (Or.inl ⟨by rfl, ?_⟩) hHeld1 ?_
  · (intro wq hSq; have hq := HSIZE.out; go_simp; first | done | (simp [hq]; done) | (simp at hq ⊢; omega))
  try simp only [Act.put, List.setIfInBounds_toArray, List.set_cons_zero, List.set_cons_succ]
  refine wpAnyH_take (i := 15) (oi := { dst := some 63, op := Go.Op.pick (Go.Operand.tmp 57) (Go.Operand.const (Go.Value.bool true)) (Go.Operand.tmp 62), type := 4, pos := "ref.go:297", after := #[{ on := 9, ground := Go.Ground.data }, { on := 14, ground := Go.Ground.data }], guard := none }) (v := ?_) rfl (by kernel_rfl) (by kernel_rfl) (by kernel_rfl) (fun _ _ _ h => h) (Or.inl ⟨by rfl, ?_⟩) hHeld1 ?_
  rotate_left 1
  · (intro wq hSq; (try dsimp only at hSq); go_simp; first | done | with_reducible rfl)
  try simp only [Act.put, List.setIfInBounds_toArray, List.set_cons_zero, List.set_cons_succ]
  refine wpAnyH_done (by kernel_rfl) ?_ _
  refine NoPanic.normal ?_
  have c0 := row_cell H3.out (mC_0 m)
  rw [HK.out] at c0
  have c40 := row_cell H3.out (mC_40 m HM.out)
  rw [HY.out] at c40
  have c41 := row_cell H3.out (mC_41 m HM.out)
  go_wp2
  go_ret
  exact ⟨by rw [HF.out]; first | rfl | simp [hd] | simp, B3.out⟩
set_option maxHeartbeats 1000000 in
set_option maxRecDepth 100000 in
theorem rform_ok (m : Msg) (hm : m.Ok) (h0 : 1 ≤ m.kind) (h1 : m.kind ≤ 6) (h2 : 0 ≤ m.frm) (h3 : m.frm ≤ 16) (h4 : 0 ≤ m.to) (h5 : m.to ≤ 16) (h6 : ¬ m.frm = m.to) (h7 : 1 ≤ m.id) (h8 : m.id ≤ 4294967295) (he : eqM m (ofKind m) = true) (hb : m.base ≤ 4294967295) (hs : (m.s.size : Int) ≤ 500) (hk : m.kind = 2) (hy : m.yes = false) (hc : 1 ≤ m.code) (hd : m.code ≤ 17) (w : World) : Calls Try.prog 27 #[.agg (mC m).toArray] w fun e w' => e = .returned (.bool (formB m)) ∧ Below w.heap.size w w' := by
  have HF : Hid (formB m = true) := form_mk m h0 h1 h2 h3 h4 h5 h6 h7 h8 he (by unfold inB; rw [if_neg (by omega), if_pos hk, hy]; simp [hc, hd])
  have hg := heap_alloc_new w (.cells (mC m).toArray 37)
  have c0 := row_cell hg (mC_0 m)
  have c1 := row_cell hg (mC_1 m)
  have c2 := row_cell hg (mC_2 m)
  have c3 := row_cell hg (mC_3 m)
  have B1 : Hid (Below w.heap.size w (w.alloc (.cells (mC m).toArray 37))) := (Below.refl _ _).alloc (Nat.le_refl _) _
  have HM : Hid (m.Ok) := hm
  have PL : Hid (∀ W, Calls Try.prog 34 #[.agg (mC m).toArray] W fun e w' => e = .returned (.agg (mC (ofKind m)).toArray) ∧ Below W.heap.size W w') := fun W => plain_any m hm W
  have EQ : Hid (∀ W, (Op.equalIn 10000 37 (.agg (mC m).toArray) (.agg (mC (ofKind m)).toArray)).run Try.prog W = .ok true W) := fun W => by rw [← he]; exact eq65_any 9996 m (ofKind m) hm (ofKind_ok m hm) W
  have GB : Hid (∀ W, W = w.alloc (.cells (mC m).toArray 37) → BoxM 37 W.drew w.heap.size m ∧ Below w.heap.size w W.drew) := fun W hW => by
    subst hW
    exact ⟨heap_alloc_new w (.cells (mC m).toArray 37), ((Below.refl _ _).alloc (Nat.le_refl _) _).drew⟩
  have hne : (m.frm == m.to) = false := by simpa using h6
  have hsz := hm.s
  have HBASE : Hid (m.base ≤ 4294967295) := hb
  clear hb
  have HSIZE : Hid ((m.s.size : Int) ≤ 500) := hs
  clear hs
  have HK : Hid (m.kind = 2) := hk
  have HY : Hid (m.yes = false) := hy
  clear hk hy
  clear hm hg h6 he B1
  generalize hR : formB m = R at *
  clear hR
  go_enter Try.func27, Try.ntmps27
  go_wp2_with fail
  obtain ⟨W1, hW1⟩ : ∃ W, W = w.alloc (.cells (mC m).toArray 37) := ⟨_, rfl⟩
  have H1 : Hid (BoxM 37 W1.drew w.heap.size m) := (GB.out W1 hW1).1
  have B1 : Hid (Below w.heap.size w W1.drew) := (GB.out W1 hW1).2
  rw [← hW1]
  clear hW1 GB c0 c1 c2 c3
  refine wp_region_noPanic ?_
  refine wp_region_held_drew (S := fun w' => BoxM 37 w' w.heap.size m) (by kernel_rfl) (H1.out) (fun hHeld => ?_)
  try simp only [Act.put, List.setIfInBounds_toArray, List.set_cons_zero, List.set_cons_succ]
  refine wpAnyH_take (i := 0) (oi := { dst := some 48, op := Go.Op.load 37 (Go.Operand.tmp 1), type := 37, pos := "ref.go:297", after := #[], guard := none }) (v := .agg (List.toArray (mC m))) rfl (by kernel_rfl) (by kernel_rfl) (by kernel_rfl) (fun _ _ _ h => h) (yieldsIf_load_mid rfl 37 _ rfl w.heap.size 0 rfl (mC m) _ (fun wq hSq => box_range hSq) Try.underlying37 rfl (by rw [size65, mC_length m HM.out])) hHeld ?_
  try simp only [Act.put, List.setIfInBounds_toArray, List.set_cons_zero, List.set_cons_succ]
  refine wpAnyH_take (i := 1) (oi := { dst := some 49, op := Go.Op.load 37 (Go.Operand.tmp 1), type := 37, pos := "ref.go:297", after := #[], guard := none }) (v := .agg (List.toArray (mC m))) rfl (by kernel_rfl) (by kernel_rfl) (by kernel_rfl) (fun _ _ _ h => h) (yieldsIf_load_mid rfl 37 _ rfl w.heap.size 0 rfl (mC m) _ (fun wq hSq => box_range hSq) Try.underlying37 rfl (by rw [size65, mC_length m HM.out])) hHeld ?_
  try simp only [Act.put, List.setIfInBounds_toArray, List.set_cons_zero, List.set_cons_succ]
  refine wpAnyH_ready (rs := [2]) (by kernel_rfl) (by simp) ?_
  refine AllReadyH.cons (o := { dst := some 50, op := Go.Op.call { callee := Go.Callee.value (Go.Operand.func 34), args := #[Go.Operand.tmp 49], argTypes := #[37] }, type := 37, pos := "ref.go:297", after := #[{ on := 1, ground := Go.Ground.data }], guard := none }) rfl (fun K hK => ?_) AllReadyH.nil
  go_simp
  refine (PL.out _).mono ?_
  rintro e w3 ⟨rfl, b3⟩
  have H3 : Hid (BoxM 37 w3 w.heap.size m) := H1.out.below b3
  have B3 : Hid (Below w.heap.size w w3) := B1.out.trans (b3.mono B1.out.size)
  clear b3
  refine hK.out _ _ (H3.out) (fun hHeld1 => ?_)
  clear hK K hHeld
  try simp only [Act.put, List.setIfInBounds_toArray, List.set_cons_zero, List.set_cons_succ]
  refine wpAnyH_take (i := 3) (oi := { dst := some 51, op := Go.Op.binOp Go.BinOp.neq 37 (Go.Operand.tmp 48) (Go.Operand.tmp 50) 37, type := 4, pos := "ref.go:297", after := #[{ on := 0, ground := Go.Ground.data }, { on := 2, ground := Go.Ground.data }], guard := none }) (v := (.bool false)) rfl (by kernel_rfl) (by kernel_rfl) (by kernel_rfl) (fun _ _ _ h => h) (Or.inl ⟨by rfl, ?_⟩) hHeld1 ?_
  · (intro wq hSq; exact run_neq 37 guard65 _ _ _ _ _ rfl _ _ rfl rfl _ wq (EQ.out wq))
  try simp only [Act.put, List.setIfInBounds_toArray, List.set_cons_zero, List.set_cons_succ]
  refine wpAnyH_take (i := 4) (oi := { dst := some 52, op := Go.Op.move (Go.Operand.tmp 51), type := 4, pos := "ref.go:297", after := #[{ on := 3, ground := Go.Ground.data }, { on := 2, ground := Go.Ground.chain }], guard := none }) (v := ?_) rfl (by kernel_rfl) (by kernel_rfl) (by kernel_rfl) (fun _ _ _ h => h) (Or.inl ⟨by rfl, ?_⟩) hHeld1 ?_
  rotate_left 1
  · (intro wq hSq; (try dsimp only at hSq); go_simp; first | done | with_reducible rfl)
  try simp only [Act.put, List.setIfInBounds_toArray, List.set_cons_zero, List.set_cons_succ]
  refine wpAnyH_take (i := 5) (oi := { dst := some 53, op := Go.Op.fieldAddr 37 (Go.Operand.tmp 1) 4, type := 0, pos := "ref.go:297", after := #[{ on := 4, ground := Go.Ground.guard }], guard := some (4, false) }) (v := ?_) rfl (by kernel_rfl) (by kernel_rfl) (by kernel_rfl) (fun _ _ _ h => h) (Or.inl ⟨by rfl, ?_⟩) hHeld1 ?_
  rotate_left 1
  · (intro wq hSq; (try dsimp only at hSq); go_simp; first | done | with_reducible rfl)
  try simp only [Act.put, List.setIfInBounds_toArray, List.set_cons_zero, List.set_cons_succ]
  refine wpAnyH_take (i := 6) (oi := { dst := some 54, op := Go.Op.load 24 (Go.Operand.tmp 53), type := 24, pos := "ref.go:297", after := #[{ on := 5, ground := Go.Ground.data }, { on := 4, ground := Go.Ground.guard }], guard := some (4, false) }) (v := ?_) rfl (by kernel_rfl) (by kernel_rfl) (by kernel_rfl) (fun _ _ _ h => h) (Or.inl ⟨by rfl, ?_⟩) hHeld1 ?_
  rotate_left 1
  · (intro wq hSq; (try dsimp only at hSq); have hq := row_cell hSq (mC_4 m); go_simp; first | done | with_reducible rfl)
  try simp only [Act.put, List.setIfInBounds_toArray, List.set_cons_zero, List.set_cons_succ]
  refine wpAnyH_take (i := 7) (oi := { dst := some 55, op := Go.Op.binOp Go.BinOp.gtr 24 (Go.Operand.tmp 54) (Go.Operand.const (Go.Value.int Go.IntKind.u64 4294967295)) 24, type := 4, pos := "ref.go:297", after := #[{ on := 6, ground := Go.Ground.data }, { on := 4, ground := Go.Ground.guard }], guard := some (4, false) }) (v := (.bool false)) rfl (by kernel_rfl) (by kernel_rfl) (by kernel_rfl) (fun _ _ _ h => h) (Or.inl ⟨by rfl, ?_⟩) hHeld1 ?_
  · (intro wq hSq; have hq := HBASE.out; go_simp; first | done | (simp [hq]; done) | (simp at hq ⊢; omega))
  try simp only [Act.put, List.setIfInBounds_toArray, List.set_cons_zero, List.set_cons_succ]
  refine wpAnyH_take (i := 8) (oi := { dst := some 56, op := Go.Op.pick (Go.Operand.tmp 52) (Go.Operand.const (Go.Value.bool true)) (Go.Operand.tmp 55), type := 4, pos := "ref.go:297", after := #[{ on := 4, ground := Go.Ground.data }, { on := 7, ground := Go.Ground.data }], guard := none }) (v := ?_) rfl (by kernel_rfl) (by kernel_rfl) (by kernel_rfl) (fun _ _ _ h => h) (Or.inl ⟨by rfl, ?_⟩) hHeld1 ?_
  rotate_left 1
  · (intro wq hSq; (try dsimp only at hSq); go_simp; first | done | with_reducible rfl)
  try simp only [Act.put, List.setIfInBounds_toArray, List.set_cons_zero, List.set_cons_succ]
  refine wpAnyH_take (i := 9) (oi := { dst := some 57, op := Go.Op.move (Go.Operand.tmp 56), type := 4, pos := "ref.go:297", after := #[{ on := 8, ground := Go.Ground.data }, { on := 4, ground := Go.Ground.chain }], guard := none }) (v := ?_) rfl (by kernel_rfl) (by kernel_rfl) (by kernel_rfl) (fun _ _ _ h => h) (Or.inl ⟨by rfl, ?_⟩) hHeld1 ?_
  rotate_left 1
  · (intro wq hSq; (try dsimp only at hSq); go_simp; first | done | with_reducible rfl)
  try simp only [Act.put, List.setIfInBounds_toArray, List.set_cons_zero, List.set_cons_succ]
  refine wpAnyH_take (i := 10) (oi := { dst := some 58, op := Go.Op.fieldAddr 37 (Go.Operand.tmp 1) 5, type := 0, pos := "ref.go:297", after := #[{ on := 9, ground := Go.Ground.guard }], guard := some (9, false) }) (v := ?_) rfl (by kernel_rfl) (by kernel_rfl) (by kernel_rfl) (fun _ _ _ h => h) (Or.inl ⟨by rfl, ?_⟩) hHeld1 ?_
  rotate_left 1
  · (intro wq hSq; (try dsimp only at hSq); go_simp; first | done | with_reducible rfl)
  try simp only [Act.put, List.setIfInBounds_toArray, List.set_cons_zero, List.set_cons_succ]
  refine wpAnyH_take (i := 11) (oi := { dst := some 59, op := Go.Op.fieldAddr 29 (Go.Operand.tmp 58) 0, type := 0, pos := "ref.go:297", after := #[{ on := 10, ground := Go.Ground.data }, { on := 9, ground := Go.Ground.guard }], guard := some (9, false) }) (v := ?_) rfl (by kernel_rfl) (by kernel_rfl) (by kernel_rfl) (fun _ _ _ h => h) (Or.inl ⟨by rfl, ?_⟩) hHeld1 ?_
  rotate_left 1
  · (intro wq hSq; (try dsimp only at hSq); go_simp; first | done | with_reducible rfl)
  try simp only [Act.put, List.setIfInBounds_toArray, List.set_cons_zero, List.set_cons_succ]
  refine wpAnyH_take (i := 12) (oi := { dst := some 60, op := Go.Op.load 9 (Go.Operand.tmp 59), type := 9, pos := "ref.go:297", after := #[{ on := 11, ground := Go.Ground.data }, { on := 9, ground := Go.Ground.guard }], guard := some (9, false) }) (v := ?_) rfl (by kernel_rfl) (by kernel_rfl) (by kernel_rfl) (fun _ _ _ h => h) (Or.inl ⟨by rfl, ?_⟩) hHeld1 ?_
  rotate_left 1
  · (intro wq hSq; (try dsimp only at hSq); have hq := row_cell hSq (mC_5 m); go_simp; first | done | with_reducible rfl)
  try simp only [Act.put, List.setIfInBounds_toArray, List.set_cons_zero, List.set_cons_succ]
  refine wpAnyH_take (i := 13) (oi := { dst := some 61, op := Go.Op.call { callee := Go.Callee.builtin Go.Builtin.len, args := #[Go.Operand.tmp 60], argTypes := #[9] }, type := 3, pos := "ref.go:297", after := #[{ on := 12, ground := Go.Ground.data }, { on := 9, ground := Go.Ground.guard }], guard := some (9, false) }) (v := ?_) rfl (by kernel_rfl) (by kernel_rfl) (by kernel_rfl) (fun _ _ _ h => h) (Or.inl ⟨by rfl, ?_⟩) hHeld1 ?_
  rotate_left 1
  · (intro wq hSq; (try dsimp only at hSq); go_simp; first | done | with_reducible rfl)
  try simp only [Act.put, List.setIfInBounds_toArray, List.set_cons_zero, List.set_cons_succ]
  refine wpAnyH_take (i := 14) (oi := { dst := some 62, op := Go.Op.binOp Go.BinOp.gtr 3 (Go.Operand.tmp 61) (Go.Operand.const (Go.Value.int Go.IntKind.i64 500)) 3, type := 4, pos := "ref.go:297", after := #[{ on := 13, ground := Go.Ground.data }, { on := 9, ground := Go.Ground.guard }], guard := some (9, false) }) (v := (.bool false)) rfl (by kernel_rfl) (by kernel_rfl) (by kernel_rfl) (fun _ _ _ h => h) (Or.inl ⟨by rfl, ?_⟩) hHeld1 ?_
  · (intro wq hSq; have hq := HSIZE.out; go_simp; first | done | (simp [hq]; done) | (simp at hq ⊢; omega))
  try simp only [Act.put, List.setIfInBounds_toArray, List.set_cons_zero, List.set_cons_succ]
  refine wpAnyH_take (i := 15) (oi := { dst := some 63, op := Go.Op.pick (Go.Operand.tmp 57) (Go.Operand.const (Go.Value.bool true)) (Go.Operand.tmp 62), type := 4, pos := "ref.go:297", after := #[{ on := 9, ground := Go.Ground.data }, { on := 14, ground := Go.Ground.data }], guard := none }) (v := ?_) rfl (by kernel_rfl) (by kernel_rfl) (by kernel_rfl) (fun _ _ _ h => h) (Or.inl ⟨by rfl, ?_⟩) hHeld1 ?_
  rotate_left 1
  · (intro wq hSq; (try dsimp only at hSq); go_simp; first | done | with_reducible rfl)
  try simp only [Act.put, List.setIfInBounds_toArray, List.set_cons_zero, List.set_cons_succ]
  refine wpAnyH_done (by kernel_rfl) ?_ _
  refine NoPanic.normal ?_
  have c0 := row_cell H3.out (mC_0 m)
  rw [HK.out] at c0
  have c40 := row_cell H3.out (mC_40 m HM.out)
  rw [HY.out] at c40
  have c41 := row_cell H3.out (mC_41 m HM.out)
  go_wp2
  go_ret
  exact ⟨by rw [HF.out]; first | rfl | simp [hd] | simp, B3.out⟩
theorem rformed_any (m : Msg) (hm : m.Ok) (w : World) : Calls Try.prog 27 #[.agg (mC m).toArray] w fun e w' => e = .returned (.bool (formB m)) ∧ Below w.heap.size w w' := by
  by_cases h0 : 1 ≤ m.kind
  case neg => exact rform_0 m hm h0 w
  by_cases h1 : m.kind ≤ 6
  case neg => exact rform_1 m hm h0 h1 w
  by_cases h2 : 0 ≤ m.frm
  case neg => exact rform_2 m hm h0 h1 h2 w
  by_cases h3 : m.frm ≤ 16
  case neg => exact rform_3 m hm h0 h1 h2 h3 w
  by_cases h4 : 0 ≤ m.to
  case neg => exact rform_4 m hm h0 h1 h2 h3 h4 w
  by_cases h5 : m.to ≤ 16
  case neg => exact rform_5 m hm h0 h1 h2 h3 h4 h5 w
  by_cases h6 : ¬ m.frm = m.to
  case neg => exact rform_6 m hm h0 h1 h2 h3 h4 h5 (Classical.not_not.1 h6) w
  by_cases h7 : 1 ≤ m.id
  case neg => exact rform_7 m hm h0 h1 h2 h3 h4 h5 h6 h7 w
  by_cases h8 : m.id ≤ 4294967295
  case neg => exact rform_8 m hm h0 h1 h2 h3 h4 h5 h6 h7 h8 w
  cases he : eqM m (ofKind m) with
  | false => exact rform_e m hm h0 h1 h2 h3 h4 h5 h6 h7 h8 he w
  | true =>
  by_cases hb : m.base ≤ 4294967295
  case neg => exact rform_b m hm h0 h1 h2 h3 h4 h5 h6 h7 h8 he hb w
  by_cases hs : (m.s.size : Int) ≤ 500
  case neg => exact rform_s m hm h0 h1 h2 h3 h4 h5 h6 h7 h8 he hb hs w
  by_cases hk : m.kind = 2
  case neg => exact rform_k m hm h0 h1 h2 h3 h4 h5 h6 h7 h8 he hb hs hk w
  cases hy : m.yes with
  | true => exact rform_y m hm h0 h1 h2 h3 h4 h5 h6 h7 h8 he hb hs hk hy w
  | false =>
  by_cases hc : 1 ≤ m.code
  case neg => exact rform_c m hm h0 h1 h2 h3 h4 h5 h6 h7 h8 he hb hs hk hy hc w
  by_cases hd : m.code ≤ 17
  case neg => exact rform_d m hm h0 h1 h2 h3 h4 h5 h6 h7 h8 he hb hs hk hy hc hd w
  exact rform_ok m hm h0 h1 h2 h3 h4 h5 h6 h7 h8 he hb hs hk hy hc hd w
end Go.Proofs.Ytnpjknnalekdpaa
