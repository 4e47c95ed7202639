import Derived.Test.YtnpjknnalekdpaaGy
namespace Go.Proofs.Ytnpjknnalekdpaa
set_option linter.unusedSimpArgs false
set_option linter.unusedVariables false
open Go.RowKit
theorem ce65 (m : Msg) : ((((zcel37.setIfInBounds 0 (Value.int IntKind.i64 m.kind)).setIfInBounds 1 (Value.int IntKind.i64 m.frm)).setIfInBounds 2 (Value.int IntKind.i64 m.to)).setIfInBounds 3 (Value.int IntKind.u64 m.id)) = (mC (own0 m)).toArray := by
  rw [zero65, List.setIfInBounds_toArray, List.setIfInBounds_toArray, List.setIfInBounds_toArray, List.setIfInBounds_toArray]; rfl
set_option maxHeartbeats 1000000 in
set_option maxRecDepth 100000 in
theorem plain_other (m : Msg) (hm : m.Ok) (h1 : ¬ m.kind = 1) (h2 : ¬ m.kind = 2) (h3 : ¬ m.kind = 3) (h6 : ¬ m.kind = 6) (w : World) : Calls Try.prog 34 #[.agg (mC m).toArray] w fun e w' => e = .returned (.agg (mC (ofKind m)).toArray) ∧ Below w.heap.size w w' := by
  have hX : ofKind m = own0 m := by unfold ofKind; rw [if_neg h1, if_neg h2, if_neg (by omega)]
  have hg : ((w.alloc (.cells (mC m).toArray 37)).alloc (.cells zcel37 37)).heap[w.heap.size]? = some (.cells (mC m).toArray 37) := by rw [Below.heap_alloc _ _ _ (by simp)]; exact heap_alloc_new _ _
  have c0 := row_cell hg (mC_0 m)
  have c1 := row_cell hg (mC_1 m)
  have c2 := row_cell hg (mC_2 m)
  have c3 := row_cell hg (mC_3 m)
  have H3 : Hid ((((w.alloc (.cells (mC m).toArray 37)).alloc (.cells zcel37 37)).alloc (.cells zcel37 37)).heap[(w.heap.size + 1 + 1)]? = some (.cells zcel37 37)) := by
    have := heap_alloc_new ((w.alloc (.cells (mC m).toArray 37)).alloc (.cells zcel37 37)) (.cells zcel37 37)
    rw [show ((w.alloc (.cells (mC m).toArray 37)).alloc (.cells zcel37 37)).heap.size = w.heap.size + 1 + 1 by simp] at this
    exact this
  have HCE : Hid (((((zcel37.setIfInBounds 0 (Value.int IntKind.i64 m.kind)).setIfInBounds 1 (Value.int IntKind.i64 m.frm)).setIfInBounds 2 (Value.int IntKind.i64 m.to)).setIfInBounds 3 (Value.int IntKind.u64 m.id)) = (mC (own0 m)).toArray) := ce65 m
  have ok0 := own0_ok m hm
  have HI : Hid ((Try.prog.info? 37).map (·.size) = some ((((zcel37.setIfInBounds 0 (Value.int IntKind.i64 m.kind)).setIfInBounds 1 (Value.int IntKind.i64 m.frm)).setIfInBounds 2 (Value.int IntKind.i64 m.to)).setIfInBounds 3 (Value.int IntKind.u64 m.id)).size) := by unfold Hid; rw [HCE.out, size65, List.size_toArray, mC_length _ ok0]
  have HZ : Hid (zcel37.size = ((((zcel37.setIfInBounds 0 (Value.int IntKind.i64 m.kind)).setIfInBounds 1 (Value.int IntKind.i64 m.frm)).setIfInBounds 2 (Value.int IntKind.i64 m.to)).setIfInBounds 3 (Value.int IntKind.u64 m.id)).size) := by unfold Hid; rw [HCE.out, zero65, List.size_toArray, List.size_toArray, mC_length _ ok0, mC_length _ msg0_ok]
  have HO : Hid (((((zcel37.setIfInBounds 0 (Value.int IntKind.i64 m.kind)).setIfInBounds 1 (Value.int IntKind.i64 m.frm)).setIfInBounds 2 (Value.int IntKind.i64 m.to)).setIfInBounds 3 (Value.int IntKind.u64 m.id)).all (·.oneCell') = true) := by unfold Hid; rw [HCE.out]; exact all_oneCell_toArray (mC_one _)
  have FK : Hid (∀ W, W = (((w.alloc (.cells (mC m).toArray 37)).alloc (.cells zcel37 37)).alloc (.cells zcel37 37)).setRow (w.heap.size + 1 + 1) ((((zcel37.setIfInBounds 0 (Value.int IntKind.i64 m.kind)).setIfInBounds 1 (Value.int IntKind.i64 m.frm)).setIfInBounds 2 (Value.int IntKind.i64 m.to)).setIfInBounds 3 (Value.int IntKind.u64 m.id)) → BoxM 37 W w.heap.size m ∧ BoxM 37 W (w.heap.size + 1) msg0 ∧ BoxM 37 W (w.heap.size + 1 + 1) (own0 m) ∧ Below w.heap.size w W) := fun W hW => by
    subst hW
    have k1 : Below w.heap.size w (w.alloc (.cells (mC m).toArray 37)) := (Below.refl _ _).alloc (Nat.le_refl _) _
    have k2 : Below w.heap.size w ((w.alloc (.cells (mC m).toArray 37)).alloc (.cells zcel37 37)) := k1.alloc k1.size _
    have k3 : Below w.heap.size w (((w.alloc (.cells (mC m).toArray 37)).alloc (.cells zcel37 37)).alloc (.cells zcel37 37)) := k2.alloc k2.size _
    refine ⟨?_, ?_, ?_, below_setRow k3 (by omega) _⟩
    · unfold BoxM; rw [setRow_far _ _ _ _ (by omega), Below.heap_alloc _ _ _ (by simp; omega)]; exact hg
    · unfold BoxM
      rw [setRow_far _ _ _ _ (by omega), Below.heap_alloc _ _ _ (by simp)]
      have := heap_alloc_new (w.alloc (.cells (mC m).toArray 37)) (.cells zcel37 37)
      rw [show (w.alloc (.cells (mC m).toArray 37)).heap.size = w.heap.size + 1 by simp] at this
      rw [this, zero65]
    · unfold BoxM; rw [setRow_same H3.out, HCE.out]
  have HX : Hid (ofKind m = own0 m) := hX
  have HM : Hid (m.Ok ∧ (own0 m).Ok) := ⟨hm, ok0⟩
  clear hg hX hm ok0
  generalize hC : (mC m).toArray = C at c0 c1 c2 c3 H3 FK ⊢
  have HC : Hid ((mC m).toArray = C) := hC
  clear hC
  have z1 : (m.kind == 1) = false := by simpa using h1
  have z2 : (m.kind == 2) = false := by simpa using h2
  have z3 : (m.kind == 3) = false := by simpa using h3
  have z6 : (m.kind == 6) = false := by simpa using h6
  clear h1 h2 h3 h6
  go_enter Try.func34, Try.ntmps34
  go_wp2_with (first | (refine wpList_store_row rfl 37 _ _ rfl (w.heap.size + 1 + 1) ((((zcel37.setIfInBounds 0 (Value.int IntKind.i64 m.kind)).setIfInBounds 1 (Value.int IntKind.i64 m.frm)).setIfInBounds 2 (Value.int IntKind.i64 m.to)).setIfInBounds 3 (Value.int IntKind.u64 m.id)) rfl rfl 37 zcel37 H3.out HI.out HZ.out HO.out ?_; (obtain ⟨W4, hW4⟩ : ∃ W, W = (((w.alloc (.cells C 37)).alloc (.cells zcel37 37)).alloc (.cells zcel37 37)).setRow (w.heap.size + 1 + 1) ((((zcel37.setIfInBounds 0 (Value.int IntKind.i64 m.kind)).setIfInBounds 1 (Value.int IntKind.i64 m.frm)).setIfInBounds 2 (Value.int IntKind.i64 m.to)).setIfInBounds 3 (Value.int IntKind.u64 m.id)) := ⟨_, rfl⟩); rw [← hW4]; (have K4 := FK.out W4 hW4); clear hW4 FK H3 HI HZ HO HCE c0 c1 c2 c3; (have G1 : Hid (BoxM 37 W4 w.heap.size m) := K4.1); (have G2 : Hid (BoxM 37 W4 (w.heap.size + 1) msg0) := K4.2.1); (have G3 : Hid (BoxM 37 W4 (w.heap.size + 1 + 1) (own0 m)) := K4.2.2.1); (have B4 : Hid (Below w.heap.size w W4) := K4.2.2.2); (have c0 : W4.cell? ⟨w.heap.size, 0, none⟩ = some (.int .i64 m.kind) := by first | exact row_cell G1.out (mC_0 m) | (have := row_cell G1.out (mC_0 m); rw [HK.out] at this; exact this)); clear K4; skip) | (refine loadM65 rfl _ rfl (w.heap.size + 1 + 1) rfl (own0 m) HM.out.2 G3.out ?_) | (refine storeM65 rfl _ _ rfl (w.heap.size + 1) rfl (own0 m) msg0 rfl HM.out.2 msg0_ok G2.out ?_))
  rw [HX.out]
  exact bodyPost_ret (v := .agg (mC (own0 m)).toArray) (resM65 2 Try.results34 _ _ (w.heap.size + 1) _ HM.out.2 rfl (box_set G2.out _)) rfl ⟨rfl, below_setRow B4.out (by omega) _⟩
set_option maxHeartbeats 1000000 in
set_option maxRecDepth 100000 in
theorem plain_k3 (m : Msg) (hm : m.Ok) (hk : m.kind = 3) (w : World) : Calls Try.prog 34 #[.agg (mC m).toArray] w fun e w' => e = .returned (.agg (mC (ofKind m)).toArray) ∧ Below w.heap.size w w' := by
  have hX : ofKind m = { own0 m with commit := m.commit } := by unfold ofKind; rw [if_neg (by omega), if_neg (by omega), if_pos (by omega)]
  have hg : ((w.alloc (.cells (mC m).toArray 37)).alloc (.cells zcel37 37)).heap[w.heap.size]? = some (.cells (mC m).toArray 37) := by rw [Below.heap_alloc _ _ _ (by simp)]; exact heap_alloc_new _ _
  have c0 := row_cell hg (mC_0 m)
  have c1 := row_cell hg (mC_1 m)
  have c2 := row_cell hg (mC_2 m)
  have c3 := row_cell hg (mC_3 m)
  have H3 : Hid ((((w.alloc (.cells (mC m).toArray 37)).alloc (.cells zcel37 37)).alloc (.cells zcel37 37)).heap[(w.heap.size + 1 + 1)]? = some (.cells zcel37 37)) := by
    have := heap_alloc_new ((w.alloc (.cells (mC m).toArray 37)).alloc (.cells zcel37 37)) (.cells zcel37 37)
    rw [show ((w.alloc (.cells (mC m).toArray 37)).alloc (.cells zcel37 37)).heap.size = w.heap.size + 1 + 1 by simp] at this
    exact this
  have HCE : Hid (((((zcel37.setIfInBounds 0 (Value.int IntKind.i64 m.kind)).setIfInBounds 1 (Value.int IntKind.i64 m.frm)).setIfInBounds 2 (Value.int IntKind.i64 m.to)).setIfInBounds 3 (Value.int IntKind.u64 m.id)) = (mC (own0 m)).toArray) := ce65 m
  have ok0 := own0_ok m hm
  have HI : Hid ((Try.prog.info? 37).map (·.size) = some ((((zcel37.setIfInBounds 0 (Value.int IntKind.i64 m.kind)).setIfInBounds 1 (Value.int IntKind.i64 m.frm)).setIfInBounds 2 (Value.int IntKind.i64 m.to)).setIfInBounds 3 (Value.int IntKind.u64 m.id)).size) := by unfold Hid; rw [HCE.out, size65, List.size_toArray, mC_length _ ok0]
  have HZ : Hid (zcel37.size = ((((zcel37.setIfInBounds 0 (Value.int IntKind.i64 m.kind)).setIfInBounds 1 (Value.int IntKind.i64 m.frm)).setIfInBounds 2 (Value.int IntKind.i64 m.to)).setIfInBounds 3 (Value.int IntKind.u64 m.id)).size) := by unfold Hid; rw [HCE.out, zero65, List.size_toArray, List.size_toArray, mC_length _ ok0, mC_length _ msg0_ok]
  have HO : Hid (((((zcel37.setIfInBounds 0 (Value.int IntKind.i64 m.kind)).setIfInBounds 1 (Value.int IntKind.i64 m.frm)).setIfInBounds 2 (Value.int IntKind.i64 m.to)).setIfInBounds 3 (Value.int IntKind.u64 m.id)).all (·.oneCell') = true) := by unfold Hid; rw [HCE.out]; exact all_oneCell_toArray (mC_one _)
  have FK : Hid (∀ W, W = (((w.alloc (.cells (mC m).toArray 37)).alloc (.cells zcel37 37)).alloc (.cells zcel37 37)).setRow (w.heap.size + 1 + 1) ((((zcel37.setIfInBounds 0 (Value.int IntKind.i64 m.kind)).setIfInBounds 1 (Value.int IntKind.i64 m.frm)).setIfInBounds 2 (Value.int IntKind.i64 m.to)).setIfInBounds 3 (Value.int IntKind.u64 m.id)) → BoxM 37 W w.heap.size m ∧ BoxM 37 W (w.heap.size + 1) msg0 ∧ BoxM 37 W (w.heap.size + 1 + 1) (own0 m) ∧ Below w.heap.size w W) := fun W hW => by
    subst hW
    have k1 : Below w.heap.size w (w.alloc (.cells (mC m).toArray 37)) := (Below.refl _ _).alloc (Nat.le_refl _) _
    have k2 : Below w.heap.size w ((w.alloc (.cells (mC m).toArray 37)).alloc (.cells zcel37 37)) := k1.alloc k1.size _
    have k3 : Below w.heap.size w (((w.alloc (.cells (mC m).toArray 37)).alloc (.cells zcel37 37)).alloc (.cells zcel37 37)) := k2.alloc k2.size _
    refine ⟨?_, ?_, ?_, below_setRow k3 (by omega) _⟩
    · unfold BoxM; rw [setRow_far _ _ _ _ (by omega), Below.heap_alloc _ _ _ (by simp; omega)]; exact hg
    · unfold BoxM
      rw [setRow_far _ _ _ _ (by omega), Below.heap_alloc _ _ _ (by simp)]
      have := heap_alloc_new (w.alloc (.cells (mC m).toArray 37)) (.cells zcel37 37)
      rw [show (w.alloc (.cells (mC m).toArray 37)).heap.size = w.heap.size + 1 by simp] at this
      rw [this, zero65]
    · unfold BoxM; rw [setRow_same H3.out, HCE.out]
  have HX : Hid (ofKind m = { own0 m with commit := m.commit }) := hX
  have HM : Hid (m.Ok ∧ (own0 m).Ok) := ⟨hm, ok0⟩
  clear hg hX hm ok0
  generalize hC : (mC m).toArray = C at c0 c1 c2 c3 H3 FK ⊢
  have HC : Hid ((mC m).toArray = C) := hC
  clear hC
  have HK : Hid (m.kind = 3) := hk
  clear hk
  go_enter Try.func34, Try.ntmps34
  go_wp2_with (first | (refine wpList_store_row rfl 37 _ _ rfl (w.heap.size + 1 + 1) ((((zcel37.setIfInBounds 0 (Value.int IntKind.i64 m.kind)).setIfInBounds 1 (Value.int IntKind.i64 m.frm)).setIfInBounds 2 (Value.int IntKind.i64 m.to)).setIfInBounds 3 (Value.int IntKind.u64 m.id)) rfl rfl 37 zcel37 H3.out HI.out HZ.out HO.out ?_; (obtain ⟨W4, hW4⟩ : ∃ W, W = (((w.alloc (.cells C 37)).alloc (.cells zcel37 37)).alloc (.cells zcel37 37)).setRow (w.heap.size + 1 + 1) ((((zcel37.setIfInBounds 0 (Value.int IntKind.i64 m.kind)).setIfInBounds 1 (Value.int IntKind.i64 m.frm)).setIfInBounds 2 (Value.int IntKind.i64 m.to)).setIfInBounds 3 (Value.int IntKind.u64 m.id)) := ⟨_, rfl⟩); rw [← hW4]; (have K4 := FK.out W4 hW4); clear hW4 FK H3 HI HZ HO HCE c0 c1 c2 c3; (have G1 : Hid (BoxM 37 W4 w.heap.size m) := K4.1); (have G2 : Hid (BoxM 37 W4 (w.heap.size + 1) msg0) := K4.2.1); (have G3 : Hid (BoxM 37 W4 (w.heap.size + 1 + 1) (own0 m)) := K4.2.2.1); (have B4 : Hid (Below w.heap.size w W4) := K4.2.2.2); (have c0 : W4.cell? ⟨w.heap.size, 0, none⟩ = some (.int .i64 3) := by first | exact row_cell G1.out (mC_0 m) | (have := row_cell G1.out (mC_0 m); rw [HK.out] at this; exact this)); clear K4; (have c106 := row_cell G1.out (mC_106 m HM.out.1)); (have o106 : W4.cell? ⟨(w.heap.size + 1 + 1), 106, none⟩ = some (.bool false) := row_cell G3.out (mC_106 (own0 m) HM.out.2)); (have f106 : W4.frozen? ⟨(w.heap.size + 1 + 1), 106, none⟩ = false := unfrozen G3.out); (have HMX : Hid (({ own0 m with commit := m.commit }).Ok) := by rw [← HX.out]; exact ofKind_ok m HM.out.1); (have GN3 : Hid (BoxM 37 (W4.setCell ⟨(w.heap.size + 1 + 1), 106, none⟩ (.bool m.commit)) (w.heap.size + 1 + 1) ({ own0 m with commit := m.commit })) := boxCell G3.out 106 _ (set_commit _ HM.out.2 _)); (have GN2 : Hid (BoxM 37 (W4.setCell ⟨(w.heap.size + 1 + 1), 106, none⟩ (.bool m.commit)) (w.heap.size + 1) msg0) := box_cell_far G2.out (by omega)); (have BN : Hid (Below w.heap.size w (W4.setCell ⟨(w.heap.size + 1 + 1), 106, none⟩ (.bool m.commit))) := B4.out.setCell (show w.heap.size ≤ (w.heap.size + 1 + 1) by omega) _)) | (refine loadM65 rfl _ rfl (w.heap.size + 1 + 1) rfl ({ own0 m with commit := m.commit }) HMX.out GN3.out ?_) | (refine storeM65 rfl _ _ rfl (w.heap.size + 1) rfl ({ own0 m with commit := m.commit }) msg0 rfl HMX.out msg0_ok GN2.out ?_))
  rw [HX.out]
  exact bodyPost_ret (v := .agg (mC ({ own0 m with commit := m.commit })).toArray) (resM65 2 Try.results34 _ _ (w.heap.size + 1) _ HMX.out rfl (box_set GN2.out _)) rfl ⟨rfl, below_setRow BN.out (by omega) _⟩
set_option maxHeartbeats 1000000 in
set_option maxRecDepth 100000 in
theorem plain_k6 (m : Msg) (hm : m.Ok) (hk : m.kind = 6) (w : World) : Calls Try.prog 34 #[.agg (mC m).toArray] w fun e w' => e = .returned (.agg (mC (ofKind m)).toArray) ∧ Below w.heap.size w w' := by
  have hX : ofKind m = { own0 m with commit := m.commit } := by unfold ofKind; rw [if_neg (by omega), if_neg (by omega), if_pos (by omega)]
  have hg : ((w.alloc (.cells (mC m).toArray 37)).alloc (.cells zcel37 37)).heap[w.heap.size]? = some (.cells (mC m).toArray 37) := by rw [Below.heap_alloc _ _ _ (by simp)]; exact heap_alloc_new _ _
  have c0 := row_cell hg (mC_0 m)
  have c1 := row_cell hg (mC_1 m)
  have c2 := row_cell hg (mC_2 m)
  have c3 := row_cell hg (mC_3 m)
  have H3 : Hid ((((w.alloc (.cells (mC m).toArray 37)).alloc (.cells zcel37 37)).alloc (.cells zcel37 37)).heap[(w.heap.size + 1 + 1)]? = some (.cells zcel37 37)) := by
    have := heap_alloc_new ((w.alloc (.cells (mC m).toArray 37)).alloc (.cells zcel37 37)) (.cells zcel37 37)
    rw [show ((w.alloc (.cells (mC m).toArray 37)).alloc (.cells zcel37 37)).heap.size = w.heap.size + 1 + 1 by simp] at this
    exact this
  have HCE : Hid (((((zcel37.setIfInBounds 0 (Value.int IntKind.i64 m.kind)).setIfInBounds 1 (Value.int IntKind.i64 m.frm)).setIfInBounds 2 (Value.int IntKind.i64 m.to)).setIfInBounds 3 (Value.int IntKind.u64 m.id)) = (mC (own0 m)).toArray) := ce65 m
  have ok0 := own0_ok m hm
  have HI : Hid ((Try.prog.info? 37).map (·.size) = some ((((zcel37.setIfInBounds 0 (Value.int IntKind.i64 m.kind)).setIfInBounds 1 (Value.int IntKind.i64 m.frm)).setIfInBounds 2 (Value.int IntKind.i64 m.to)).setIfInBounds 3 (Value.int IntKind.u64 m.id)).size) := by unfold Hid; rw [HCE.out, size65, List.size_toArray, mC_length _ ok0]
  have HZ : Hid (zcel37.size = ((((zcel37.setIfInBounds 0 (Value.int IntKind.i64 m.kind)).setIfInBounds 1 (Value.int IntKind.i64 m.frm)).setIfInBounds 2 (Value.int IntKind.i64 m.to)).setIfInBounds 3 (Value.int IntKind.u64 m.id)).size) := by unfold Hid; rw [HCE.out, zero65, List.size_toArray, List.size_toArray, mC_length _ ok0, mC_length _ msg0_ok]
  have HO : Hid (((((zcel37.setIfInBounds 0 (Value.int IntKind.i64 m.kind)).setIfInBounds 1 (Value.int IntKind.i64 m.frm)).setIfInBounds 2 (Value.int IntKind.i64 m.to)).setIfInBounds 3 (Value.int IntKind.u64 m.id)).all (·.oneCell') = true) := by unfold Hid; rw [HCE.out]; exact all_oneCell_toArray (mC_one _)
  have FK : Hid (∀ W, W = (((w.alloc (.cells (mC m).toArray 37)).alloc (.cells zcel37 37)).alloc (.cells zcel37 37)).setRow (w.heap.size + 1 + 1) ((((zcel37.setIfInBounds 0 (Value.int IntKind.i64 m.kind)).setIfInBounds 1 (Value.int IntKind.i64 m.frm)).setIfInBounds 2 (Value.int IntKind.i64 m.to)).setIfInBounds 3 (Value.int IntKind.u64 m.id)) → BoxM 37 W w.heap.size m ∧ BoxM 37 W (w.heap.size + 1) msg0 ∧ BoxM 37 W (w.heap.size + 1 + 1) (own0 m) ∧ Below w.heap.size w W) := fun W hW => by
    subst hW
    have k1 : Below w.heap.size w (w.alloc (.cells (mC m).toArray 37)) := (Below.refl _ _).alloc (Nat.le_refl _) _
    have k2 : Below w.heap.size w ((w.alloc (.cells (mC m).toArray 37)).alloc (.cells zcel37 37)) := k1.alloc k1.size _
    have k3 : Below w.heap.size w (((w.alloc (.cells (mC m).toArray 37)).alloc (.cells zcel37 37)).alloc (.cells zcel37 37)) := k2.alloc k2.size _
    refine ⟨?_, ?_, ?_, below_setRow k3 (by omega) _⟩
    · unfold BoxM; rw [setRow_far _ _ _ _ (by omega), Below.heap_alloc _ _ _ (by simp; omega)]; exact hg
    · unfold BoxM
      rw [setRow_far _ _ _ _ (by omega), Below.heap_alloc _ _ _ (by simp)]
      have := heap_alloc_new (w.alloc (.cells (mC m).toArray 37)) (.cells zcel37 37)
      rw [show (w.alloc (.cells (mC m).toArray 37)).heap.size = w.heap.size + 1 by simp] at this
      rw [this, zero65]
    · unfold BoxM; rw [setRow_same H3.out, HCE.out]
  have HX : Hid (ofKind m = { own0 m with commit := m.commit }) := hX
  have HM : Hid (m.Ok ∧ (own0 m).Ok) := ⟨hm, ok0⟩
  clear hg hX hm ok0
  generalize hC : (mC m).toArray = C at c0 c1 c2 c3 H3 FK ⊢
  have HC : Hid ((mC m).toArray = C) := hC
  clear hC
  have HK : Hid (m.kind = 6) := hk
  clear hk
  go_enter Try.func34, Try.ntmps34
  go_wp2_with (first | (refine wpList_store_row rfl 37 _ _ rfl (w.heap.size + 1 + 1) ((((zcel37.setIfInBounds 0 (Value.int IntKind.i64 m.kind)).setIfInBounds 1 (Value.int IntKind.i64 m.frm)).setIfInBounds 2 (Value.int IntKind.i64 m.to)).setIfInBounds 3 (Value.int IntKind.u64 m.id)) rfl rfl 37 zcel37 H3.out HI.out HZ.out HO.out ?_; (obtain ⟨W4, hW4⟩ : ∃ W, W = (((w.alloc (.cells C 37)).alloc (.cells zcel37 37)).alloc (.cells zcel37 37)).setRow (w.heap.size + 1 + 1) ((((zcel37.setIfInBounds 0 (Value.int IntKind.i64 m.kind)).setIfInBounds 1 (Value.int IntKind.i64 m.frm)).setIfInBounds 2 (Value.int IntKind.i64 m.to)).setIfInBounds 3 (Value.int IntKind.u64 m.id)) := ⟨_, rfl⟩); rw [← hW4]; (have K4 := FK.out W4 hW4); clear hW4 FK H3 HI HZ HO HCE c0 c1 c2 c3; (have G1 : Hid (BoxM 37 W4 w.heap.size m) := K4.1); (have G2 : Hid (BoxM 37 W4 (w.heap.size + 1) msg0) := K4.2.1); (have G3 : Hid (BoxM 37 W4 (w.heap.size + 1 + 1) (own0 m)) := K4.2.2.1); (have B4 : Hid (Below w.heap.size w W4) := K4.2.2.2); (have c0 : W4.cell? ⟨w.heap.size, 0, none⟩ = some (.int .i64 6) := by first | exact row_cell G1.out (mC_0 m) | (have := row_cell G1.out (mC_0 m); rw [HK.out] at this; exact this)); clear K4; (have c106 := row_cell G1.out (mC_106 m HM.out.1)); (have o106 : W4.cell? ⟨(w.heap.size + 1 + 1), 106, none⟩ = some (.bool false) := row_cell G3.out (mC_106 (own0 m) HM.out.2)); (have f106 : W4.frozen? ⟨(w.heap.size + 1 + 1), 106, none⟩ = false := unfrozen G3.out); (have HMX : Hid (({ own0 m with commit := m.commit }).Ok) := by rw [← HX.out]; exact ofKind_ok m HM.out.1); (have GN3 : Hid (BoxM 37 (W4.setCell ⟨(w.heap.size + 1 + 1), 106, none⟩ (.bool m.commit)) (w.heap.size + 1 + 1) ({ own0 m with commit := m.commit })) := boxCell G3.out 106 _ (set_commit _ HM.out.2 _)); (have GN2 : Hid (BoxM 37 (W4.setCell ⟨(w.heap.size + 1 + 1), 106, none⟩ (.bool m.commit)) (w.heap.size + 1) msg0) := box_cell_far G2.out (by omega)); (have BN : Hid (Below w.heap.size w (W4.setCell ⟨(w.heap.size + 1 + 1), 106, none⟩ (.bool m.commit))) := B4.out.setCell (show w.heap.size ≤ (w.heap.size + 1 + 1) by omega) _)) | (refine loadM65 rfl _ rfl (w.heap.size + 1 + 1) rfl ({ own0 m with commit := m.commit }) HMX.out GN3.out ?_) | (refine storeM65 rfl _ _ rfl (w.heap.size + 1) rfl ({ own0 m with commit := m.commit }) msg0 rfl HMX.out msg0_ok GN2.out ?_))
  rw [HX.out]
  exact bodyPost_ret (v := .agg (mC ({ own0 m with commit := m.commit })).toArray) (resM65 2 Try.results34 _ _ (w.heap.size + 1) _ HMX.out rfl (box_set GN2.out _)) rfl ⟨rfl, below_setRow BN.out (by omega) _⟩
set_option maxHeartbeats 1000000 in
set_option maxRecDepth 100000 in
theorem plain_k2n (m : Msg) (hm : m.Ok) (hk : m.kind = 2) (hy : m.yes = false) (w : World) : Calls Try.prog 34 #[.agg (mC m).toArray] w fun e w' => e = .returned (.agg (mC (ofKind m)).toArray) ∧ Below w.heap.size w w' := by
  have hX : ofKind m = { own0 m with code := m.code } := by unfold ofKind; rw [if_neg (by omega), if_pos hk, if_neg (by rw [hy]; simp)]
  have hg : ((w.alloc (.cells (mC m).toArray 37)).alloc (.cells zcel37 37)).heap[w.heap.size]? = some (.cells (mC m).toArray 37) := by rw [Below.heap_alloc _ _ _ (by simp)]; exact heap_alloc_new _ _
  have c0 := row_cell hg (mC_0 m)
  have c1 := row_cell hg (mC_1 m)
  have c2 := row_cell hg (mC_2 m)
  have c3 := row_cell hg (mC_3 m)
  have H3 : Hid ((((w.alloc (.cells (mC m).toArray 37)).alloc (.cells zcel37 37)).alloc (.cells zcel37 37)).heap[(w.heap.size + 1 + 1)]? = some (.cells zcel37 37)) := by
    have := heap_alloc_new ((w.alloc (.cells (mC m).toArray 37)).alloc (.cells zcel37 37)) (.cells zcel37 37)
    rw [show ((w.alloc (.cells (mC m).toArray 37)).alloc (.cells zcel37 37)).heap.size = w.heap.size + 1 + 1 by simp] at this
    exact this
  have HCE : Hid (((((zcel37.setIfInBounds 0 (Value.int IntKind.i64 m.kind)).setIfInBounds 1 (Value.int IntKind.i64 m.frm)).setIfInBounds 2 (Value.int IntKind.i64 m.to)).setIfInBounds 3 (Value.int IntKind.u64 m.id)) = (mC (own0 m)).toArray) := ce65 m
  have ok0 := own0_ok m hm
  have HI : Hid ((Try.prog.info? 37).map (·.size) = some ((((zcel37.setIfInBounds 0 (Value.int IntKind.i64 m.kind)).setIfInBounds 1 (Value.int IntKind.i64 m.frm)).setIfInBounds 2 (Value.int IntKind.i64 m.to)).setIfInBounds 3 (Value.int IntKind.u64 m.id)).size) := by unfold Hid; rw [HCE.out, size65, List.size_toArray, mC_length _ ok0]
  have HZ : Hid (zcel37.size = ((((zcel37.setIfInBounds 0 (Value.int IntKind.i64 m.kind)).setIfInBounds 1 (Value.int IntKind.i64 m.frm)).setIfInBounds 2 (Value.int IntKind.i64 m.to)).setIfInBounds 3 (Value.int IntKind.u64 m.id)).size) := by unfold Hid; rw [HCE.out, zero65, List.size_toArray, List.size_toArray, mC_length _ ok0, mC_length _ msg0_ok]
  have HO : Hid (((((zcel37.setIfInBounds 0 (Value.int IntKind.i64 m.kind)).setIfInBounds 1 (Value.int IntKind.i64 m.frm)).setIfInBounds 2 (Value.int IntKind.i64 m.to)).setIfInBounds 3 (Value.int IntKind.u64 m.id)).all (·.oneCell') = true) := by unfold Hid; rw [HCE.out]; exact all_oneCell_toArray (mC_one _)
  have FK : Hid (∀ W, W = (((w.alloc (.cells (mC m).toArray 37)).alloc (.cells zcel37 37)).alloc (.cells zcel37 37)).setRow (w.heap.size + 1 + 1) ((((zcel37.setIfInBounds 0 (Value.int IntKind.i64 m.kind)).setIfInBounds 1 (Value.int IntKind.i64 m.frm)).setIfInBounds 2 (Value.int IntKind.i64 m.to)).setIfInBounds 3 (Value.int IntKind.u64 m.id)) → BoxM 37 W w.heap.size m ∧ BoxM 37 W (w.heap.size + 1) msg0 ∧ BoxM 37 W (w.heap.size + 1 + 1) (own0 m) ∧ Below w.heap.size w W) := fun W hW => by
    subst hW
    have k1 : Below w.heap.size w (w.alloc (.cells (mC m).toArray 37)) := (Below.refl _ _).alloc (Nat.le_refl _) _
    have k2 : Below w.heap.size w ((w.alloc (.cells (mC m).toArray 37)).alloc (.cells zcel37 37)) := k1.alloc k1.size _
    have k3 : Below w.heap.size w (((w.alloc (.cells (mC m).toArray 37)).alloc (.cells zcel37 37)).alloc (.cells zcel37 37)) := k2.alloc k2.size _
    refine ⟨?_, ?_, ?_, below_setRow k3 (by omega) _⟩
    · unfold BoxM; rw [setRow_far _ _ _ _ (by omega), Below.heap_alloc _ _ _ (by simp; omega)]; exact hg
    · unfold BoxM
      rw [setRow_far _ _ _ _ (by omega), Below.heap_alloc _ _ _ (by simp)]
      have := heap_alloc_new (w.alloc (.cells (mC m).toArray 37)) (.cells zcel37 37)
      rw [show (w.alloc (.cells (mC m).toArray 37)).heap.size = w.heap.size + 1 by simp] at this
      rw [this, zero65]
    · unfold BoxM; rw [setRow_same H3.out, HCE.out]
  have HX : Hid (ofKind m = { own0 m with code := m.code }) := hX
  have HM : Hid (m.Ok ∧ (own0 m).Ok) := ⟨hm, ok0⟩
  clear hg hX hm ok0
  generalize hC : (mC m).toArray = C at c0 c1 c2 c3 H3 FK ⊢
  have HC : Hid ((mC m).toArray = C) := hC
  clear hC
  have HK : Hid (m.kind = 2) := hk
  have HY : Hid (m.yes = false) := hy
  clear hk hy
  go_enter Try.func34, Try.ntmps34
  go_wp2_with (first | (refine wpList_store_row rfl 37 _ _ rfl (w.heap.size + 1 + 1) ((((zcel37.setIfInBounds 0 (Value.int IntKind.i64 m.kind)).setIfInBounds 1 (Value.int IntKind.i64 m.frm)).setIfInBounds 2 (Value.int IntKind.i64 m.to)).setIfInBounds 3 (Value.int IntKind.u64 m.id)) rfl rfl 37 zcel37 H3.out HI.out HZ.out HO.out ?_; (obtain ⟨W4, hW4⟩ : ∃ W, W = (((w.alloc (.cells C 37)).alloc (.cells zcel37 37)).alloc (.cells zcel37 37)).setRow (w.heap.size + 1 + 1) ((((zcel37.setIfInBounds 0 (Value.int IntKind.i64 m.kind)).setIfInBounds 1 (Value.int IntKind.i64 m.frm)).setIfInBounds 2 (Value.int IntKind.i64 m.to)).setIfInBounds 3 (Value.int IntKind.u64 m.id)) := ⟨_, rfl⟩); rw [← hW4]; (have K4 := FK.out W4 hW4); clear hW4 FK H3 HI HZ HO HCE c0 c1 c2 c3; (have G1 : Hid (BoxM 37 W4 w.heap.size m) := K4.1); (have G2 : Hid (BoxM 37 W4 (w.heap.size + 1) msg0) := K4.2.1); (have G3 : Hid (BoxM 37 W4 (w.heap.size + 1 + 1) (own0 m)) := K4.2.2.1); (have B4 : Hid (Below w.heap.size w W4) := K4.2.2.2); (have c0 : W4.cell? ⟨w.heap.size, 0, none⟩ = some (.int .i64 2) := by first | exact row_cell G1.out (mC_0 m) | (have := row_cell G1.out (mC_0 m); rw [HK.out] at this; exact this)); clear K4; (have c40 := row_cell G1.out (mC_40 m HM.out.1)); (have o40 : W4.cell? ⟨(w.heap.size + 1 + 1), 40, none⟩ = some (.bool false) := row_cell G3.out (mC_40 (own0 m) HM.out.2)); (have f40 : W4.frozen? ⟨(w.heap.size + 1 + 1), 40, none⟩ = false := unfrozen G3.out); rw [HY.out] at c40; (have c41 := row_cell G1.out (mC_41 m HM.out.1)); (have o41 : W4.cell? ⟨(w.heap.size + 1 + 1), 41, none⟩ = some (.int .i64 0) := row_cell G3.out (mC_41 (own0 m) HM.out.2)); (have f41 : W4.frozen? ⟨(w.heap.size + 1 + 1), 41, none⟩ = false := unfrozen G3.out); (have HMX : Hid (({ own0 m with code := m.code }).Ok) := by rw [← HX.out]; exact ofKind_ok m HM.out.1); (have GN3 : Hid (BoxM 37 ((W4.setCell ⟨(w.heap.size + 1 + 1), 40, none⟩ (.bool false)).setCell ⟨(w.heap.size + 1 + 1), 41, none⟩ (.int .i64 m.code)) (w.heap.size + 1 + 1) ({ own0 m with code := m.code })) := boxCell (boxCell G3.out 40 _ (set_yes _ HM.out.2 false)) 41 _ (set_code (own0 m) HM.out.2 _)); (have GN2 : Hid (BoxM 37 ((W4.setCell ⟨(w.heap.size + 1 + 1), 40, none⟩ (.bool false)).setCell ⟨(w.heap.size + 1 + 1), 41, none⟩ (.int .i64 m.code)) (w.heap.size + 1) msg0) := box_cell_far (box_cell_far G2.out (by omega)) (by omega)); (have BN : Hid (Below w.heap.size w ((W4.setCell ⟨(w.heap.size + 1 + 1), 40, none⟩ (.bool false)).setCell ⟨(w.heap.size + 1 + 1), 41, none⟩ (.int .i64 m.code))) := (B4.out.setCell (show w.heap.size ≤ (w.heap.size + 1 + 1) by omega) _).setCell (show w.heap.size ≤ (w.heap.size + 1 + 1) by omega) _)) | (refine loadM65 rfl _ rfl (w.heap.size + 1 + 1) rfl ({ own0 m with code := m.code }) HMX.out GN3.out ?_) | (refine storeM65 rfl _ _ rfl (w.heap.size + 1) rfl ({ own0 m with code := m.code }) msg0 rfl HMX.out msg0_ok GN2.out ?_))
  rw [HX.out]
  exact bodyPost_ret (v := .agg (mC ({ own0 m with code := m.code })).toArray) (resM65 2 Try.results34 _ _ (w.heap.size + 1) _ HMX.out rfl (box_set GN2.out _)) rfl ⟨rfl, below_setRow BN.out (by omega) _⟩
set_option maxHeartbeats 1000000 in
set_option maxRecDepth 100000 in
theorem plain_k2y (m : Msg) (hm : m.Ok) (hk : m.kind = 2) (hy : m.yes = true) (w : World) : Calls Try.prog 34 #[.agg (mC m).toArray] w fun e w' => e = .returned (.agg (mC (ofKind m)).toArray) ∧ Below w.heap.size w w' := by
  have hX : ofKind m = { own0 m with yes := true, vh := m.vh, vr := m.vr } := by unfold ofKind; rw [if_neg (by omega), if_pos hk, if_pos hy]
  have hg : ((w.alloc (.cells (mC m).toArray 37)).alloc (.cells zcel37 37)).heap[w.heap.size]? = some (.cells (mC m).toArray 37) := by rw [Below.heap_alloc _ _ _ (by simp)]; exact heap_alloc_new _ _
  have c0 := row_cell hg (mC_0 m)
  have c1 := row_cell hg (mC_1 m)
  have c2 := row_cell hg (mC_2 m)
  have c3 := row_cell hg (mC_3 m)
  have H3 : Hid ((((w.alloc (.cells (mC m).toArray 37)).alloc (.cells zcel37 37)).alloc (.cells zcel37 37)).heap[(w.heap.size + 1 + 1)]? = some (.cells zcel37 37)) := by
    have := heap_alloc_new ((w.alloc (.cells (mC m).toArray 37)).alloc (.cells zcel37 37)) (.cells zcel37 37)
    rw [show ((w.alloc (.cells (mC m).toArray 37)).alloc (.cells zcel37 37)).heap.size = w.heap.size + 1 + 1 by simp] at this
    exact this
  have HCE : Hid (((((zcel37.setIfInBounds 0 (Value.int IntKind.i64 m.kind)).setIfInBounds 1 (Value.int IntKind.i64 m.frm)).setIfInBounds 2 (Value.int IntKind.i64 m.to)).setIfInBounds 3 (Value.int IntKind.u64 m.id)) = (mC (own0 m)).toArray) := ce65 m
  have ok0 := own0_ok m hm
  have HI : Hid ((Try.prog.info? 37).map (·.size) = some ((((zcel37.setIfInBounds 0 (Value.int IntKind.i64 m.kind)).setIfInBounds 1 (Value.int IntKind.i64 m.frm)).setIfInBounds 2 (Value.int IntKind.i64 m.to)).setIfInBounds 3 (Value.int IntKind.u64 m.id)).size) := by unfold Hid; rw [HCE.out, size65, List.size_toArray, mC_length _ ok0]
  have HZ : Hid (zcel37.size = ((((zcel37.setIfInBounds 0 (Value.int IntKind.i64 m.kind)).setIfInBounds 1 (Value.int IntKind.i64 m.frm)).setIfInBounds 2 (Value.int IntKind.i64 m.to)).setIfInBounds 3 (Value.int IntKind.u64 m.id)).size) := by unfold Hid; rw [HCE.out, zero65, List.size_toArray, List.size_toArray, mC_length _ ok0, mC_length _ msg0_ok]
  have HO : Hid (((((zcel37.setIfInBounds 0 (Value.int IntKind.i64 m.kind)).setIfInBounds 1 (Value.int IntKind.i64 m.frm)).setIfInBounds 2 (Value.int IntKind.i64 m.to)).setIfInBounds 3 (Value.int IntKind.u64 m.id)).all (·.oneCell') = true) := by unfold Hid; rw [HCE.out]; exact all_oneCell_toArray (mC_one _)
  have FK : Hid (∀ W, W = (((w.alloc (.cells (mC m).toArray 37)).alloc (.cells zcel37 37)).alloc (.cells zcel37 37)).setRow (w.heap.size + 1 + 1) ((((zcel37.setIfInBounds 0 (Value.int IntKind.i64 m.kind)).setIfInBounds 1 (Value.int IntKind.i64 m.frm)).setIfInBounds 2 (Value.int IntKind.i64 m.to)).setIfInBounds 3 (Value.int IntKind.u64 m.id)) → BoxM 37 W w.heap.size m ∧ BoxM 37 W (w.heap.size + 1) msg0 ∧ BoxM 37 W (w.heap.size + 1 + 1) (own0 m) ∧ Below w.heap.size w W) := fun W hW => by
    subst hW
    have k1 : Below w.heap.size w (w.alloc (.cells (mC m).toArray 37)) := (Below.refl _ _).alloc (Nat.le_refl _) _
    have k2 : Below w.heap.size w ((w.alloc (.cells (mC m).toArray 37)).alloc (.cells zcel37 37)) := k1.alloc k1.size _
    have k3 : Below w.heap.size w (((w.alloc (.cells (mC m).toArray 37)).alloc (.cells zcel37 37)).alloc (.cells zcel37 37)) := k2.alloc k2.size _
    refine ⟨?_, ?_, ?_, below_setRow k3 (by omega) _⟩
    · unfold BoxM; rw [setRow_far _ _ _ _ (by omega), Below.heap_alloc _ _ _ (by simp; omega)]; exact hg
    · unfold BoxM
      rw [setRow_far _ _ _ _ (by omega), Below.heap_alloc _ _ _ (by simp)]
      have := heap_alloc_new (w.alloc (.cells (mC m).toArray 37)) (.cells zcel37 37)
      rw [show (w.alloc (.cells (mC m).toArray 37)).heap.size = w.heap.size + 1 by simp] at this
      rw [this, zero65]
    · unfold BoxM; rw [setRow_same H3.out, HCE.out]
  have HX : Hid (ofKind m = { own0 m with yes := true, vh := m.vh, vr := m.vr }) := hX
  have HM : Hid (m.Ok ∧ (own0 m).Ok) := ⟨hm, ok0⟩
  clear hg hX hm ok0
  generalize hC : (mC m).toArray = C at c0 c1 c2 c3 H3 FK ⊢
  have HC : Hid ((mC m).toArray = C) := hC
  clear hC
  have HK : Hid (m.kind = 2) := hk
  have HY : Hid (m.yes = true) := hy
  clear hk hy
  go_enter Try.func34, Try.ntmps34
  go_wp2_with (first | (refine wpList_store_row rfl 37 _ _ rfl (w.heap.size + 1 + 1) ((((zcel37.setIfInBounds 0 (Value.int IntKind.i64 m.kind)).setIfInBounds 1 (Value.int IntKind.i64 m.frm)).setIfInBounds 2 (Value.int IntKind.i64 m.to)).setIfInBounds 3 (Value.int IntKind.u64 m.id)) rfl rfl 37 zcel37 H3.out HI.out HZ.out HO.out ?_; (obtain ⟨W4, hW4⟩ : ∃ W, W = (((w.alloc (.cells C 37)).alloc (.cells zcel37 37)).alloc (.cells zcel37 37)).setRow (w.heap.size + 1 + 1) ((((zcel37.setIfInBounds 0 (Value.int IntKind.i64 m.kind)).setIfInBounds 1 (Value.int IntKind.i64 m.frm)).setIfInBounds 2 (Value.int IntKind.i64 m.to)).setIfInBounds 3 (Value.int IntKind.u64 m.id)) := ⟨_, rfl⟩); rw [← hW4]; (have K4 := FK.out W4 hW4); clear hW4 FK H3 HI HZ HO HCE c0 c1 c2 c3; (have G1 : Hid (BoxM 37 W4 w.heap.size m) := K4.1); (have G2 : Hid (BoxM 37 W4 (w.heap.size + 1) msg0) := K4.2.1); (have G3 : Hid (BoxM 37 W4 (w.heap.size + 1 + 1) (own0 m)) := K4.2.2.1); (have B4 : Hid (Below w.heap.size w W4) := K4.2.2.2); (have c0 : W4.cell? ⟨w.heap.size, 0, none⟩ = some (.int .i64 2) := by first | exact row_cell G1.out (mC_0 m) | (have := row_cell G1.out (mC_0 m); rw [HK.out] at this; exact this)); clear K4; (have c40 := row_cell G1.out (mC_40 m HM.out.1)); (have o40 : W4.cell? ⟨(w.heap.size + 1 + 1), 40, none⟩ = some (.bool false) := row_cell G3.out (mC_40 (own0 m) HM.out.2)); (have f40 : W4.frozen? ⟨(w.heap.size + 1 + 1), 40, none⟩ = false := unfrozen G3.out); rw [HY.out] at c40))
  obtain ⟨W5, hW5⟩ : ∃ W, W = W4.setCell ⟨(w.heap.size + 1 + 1), 40, none⟩ (.bool true) := ⟨_, rfl⟩
  have H1 : Hid (BoxM 37 W5.drew w.heap.size m) := by rw [hW5]; exact box_cell_far G1.out (by omega)
  have H2 : Hid (BoxM 37 W5.drew (w.heap.size + 1) msg0) := by rw [hW5]; exact box_cell_far G2.out (by omega)
  have H3 : Hid (BoxM 37 W5.drew (w.heap.size + 1 + 1) { own0 m with yes := true }) := by rw [hW5]; exact boxCell G3.out 40 _ (set_yes _ HM.out.2 true)
  have B5 : Hid (Below w.heap.size w W5.drew) := by rw [hW5]; exact (B4.out.setCell (show w.heap.size ≤ (w.heap.size + 1 + 1) by omega) _).drew
  have O5 : Hid (({ own0 m with yes := true } : Msg).Ok) := ⟨HM.out.2.k, HM.out.2.f, HM.out.2.t, HM.out.2.i, HM.out.2.b, HM.out.2.c, HM.out.2.s, HM.out.2.h, HM.out.2.v, HM.out.2.r, HM.out.2.hb, HM.out.2.vb, HM.out.2.rb⟩
  have O6 : Hid (({ own0 m with yes := true, vh := m.vh } : Msg).Ok) := ⟨HM.out.2.k, HM.out.2.f, HM.out.2.t, HM.out.2.i, HM.out.2.b, HM.out.2.c, HM.out.2.s, HM.out.2.h, HM.out.1.v, HM.out.2.r, HM.out.2.hb, HM.out.1.vb, HM.out.2.rb⟩
  have H3b : Hid (BoxM 37 (W5.drew.setCells (w.heap.size + 1 + 1) 42 (vB m.vh).toList) (w.heap.size + 1 + 1) { own0 m with yes := true, vh := m.vh }) := boxCells H3.out 42 _ (by rw [vBl, HM.out.1.v, mC_length _ O5.out]; omega) (set_vh _ O5.out _ HM.out.1.v)
  rw [← hW5]
  clear hW5 c40 o40 f40 G1 G2 G3 B4 c0
  refine wp_region_noPanic ?_
  refine wp_region_held_drew (S := fun w' => BoxM 37 w' w.heap.size m) (by kernel_rfl) (H1.out) (fun hHeld => ?_)
  try simp only [Act.put, List.setIfInBounds_toArray, List.set_cons_zero, List.set_cons_succ]
  refine wpAnyH_take (i := 0) (oi := { dst := some 30, op := Go.Op.fieldAddr 37 (Go.Operand.tmp 1) 8, type := 0, pos := "ref.go:283", after := #[], guard := none }) (v := ?_) rfl (by kernel_rfl) (by kernel_rfl) (by kernel_rfl) (fun _ _ _ h => h) (Or.inl ⟨by rfl, ?_⟩) hHeld ?_
  rotate_left 1
  · (intro wq hSq; (try dsimp only at hSq); go_simp; first | done | with_reducible rfl)
  try simp only [Act.put, List.setIfInBounds_toArray, List.set_cons_zero, List.set_cons_succ]
  refine wpAnyH_take (i := 1) (oi := { dst := some 31, op := Go.Op.load 27 (Go.Operand.tmp 30), type := 27, pos := "ref.go:283", after := #[{ on := 0, ground := Go.Ground.data }], guard := none }) (v := .agg (List.toArray ((vB m.vh).toList))) rfl (by kernel_rfl) (by kernel_rfl) (by kernel_rfl) (fun _ _ _ h => h) (yieldsIf_load_mid rfl 27 _ rfl w.heap.size 42 rfl (vB m.vh).toList _ (fun wq hSq => range_of hSq 42 32 _ (mC_vh m HM.out.1)) Try.underlying27 rfl (by rw [vBl, HM.out.1.v]; exact size24)) hHeld ?_
  try simp only [Act.put, List.setIfInBounds_toArray, List.set_cons_zero, List.set_cons_succ]
  refine wpAnyH_take (i := 2) (oi := { dst := some 32, op := Go.Op.fieldAddr 37 (Go.Operand.tmp 1) 9, type := 0, pos := "ref.go:283", after := #[{ on := 5, ground := Go.Ground.gcOnly Go.Departure.lateStores }], guard := none }) (v := ?_) rfl (by kernel_rfl) (by kernel_rfl) (by kernel_rfl) (fun _ _ _ h => h) (Or.inl ⟨by rfl, ?_⟩) hHeld ?_
  rotate_left 1
  · (intro wq hSq; (try dsimp only at hSq); go_simp; first | done | with_reducible rfl)
  try simp only [Act.put, List.setIfInBounds_toArray, List.set_cons_zero, List.set_cons_succ]
  refine wpAnyH_take (i := 3) (oi := { dst := some 33, op := Go.Op.load 27 (Go.Operand.tmp 32), type := 27, pos := "ref.go:283", after := #[{ on := 2, ground := Go.Ground.data }, { on := 5, ground := Go.Ground.gcOnly Go.Departure.lateStores }], guard := none }) (v := .agg (List.toArray ((vB m.vr).toList))) rfl (by kernel_rfl) (by kernel_rfl) (by kernel_rfl) (fun _ _ _ h => h) (yieldsIf_load_mid rfl 27 _ rfl w.heap.size 74 rfl (vB m.vr).toList _ (fun wq hSq => range_of hSq 74 32 _ (mC_vr m HM.out.1)) Try.underlying27 rfl (by rw [vBl, HM.out.1.r]; exact size24)) hHeld ?_
  try simp only [Act.put, List.setIfInBounds_toArray, List.set_cons_zero, List.set_cons_succ]
  refine wpAnyH_take (i := 4) (oi := { dst := some 34, op := Go.Op.fieldAddr 37 (Go.Operand.tmp 3) 8, type := 0, pos := "ref.go:283", after := #[{ on := 0, ground := Go.Ground.phase }, { on := 1, ground := Go.Ground.phase }, { on := 2, ground := Go.Ground.textOnly Go.Departure.lateStores }, { on := 3, ground := Go.Ground.textOnly Go.Departure.lateStores }], guard := none }) (v := ?_) rfl (by kernel_rfl) (by kernel_rfl) (by kernel_rfl) (fun _ _ _ h => h) (Or.inl ⟨by rfl, ?_⟩) hHeld ?_
  rotate_left 1
  · (intro wq hSq; (try dsimp only at hSq); go_simp; first | done | with_reducible rfl)
  try simp only [Act.put, List.setIfInBounds_toArray, List.set_cons_zero, List.set_cons_succ]
  refine wpAnyH_ready (rs := [5]) (by kernel_rfl) (by simp) ?_
  refine AllReadyH.cons (o := { dst := none, op := Go.Op.store 27 (Go.Operand.tmp 34) (Go.Operand.tmp 31), type := 0, pos := "ref.go:283", after := #[{ on := 4, ground := Go.Ground.data }, { on := 1, ground := Go.Ground.data }, { on := 0, ground := Go.Ground.phase }, { on := 1, ground := Go.Ground.phase }, { on := 2, ground := Go.Ground.textOnly Go.Departure.lateStores }, { on := 3, ground := Go.Ground.textOnly Go.Departure.lateStores }], guard := none }) rfl (fun K hK => ?_) AllReadyH.nil
  refine (if_pos rfl).mpr ?_
  refine wp_storeH _ _ rfl (w.heap.size + 1 + 1) 42 rfl m.vh HM.out.1.v rfl (there_of H3.out 42 32 (by rw [mC_length _ O5.out]; omega)) ?_
  refine hK.out _ _ (box_cells_far H1.out (by omega)) (fun hHeld1 => ?_)
  clear hK K hHeld
  try simp only [Act.put, List.setIfInBounds_toArray, List.set_cons_zero, List.set_cons_succ]
  refine wpAnyH_take (i := 6) (oi := { dst := some 35, op := Go.Op.fieldAddr 37 (Go.Operand.tmp 3) 9, type := 0, pos := "ref.go:283", after := #[{ on := 0, ground := Go.Ground.phase }, { on := 1, ground := Go.Ground.phase }, { on := 2, ground := Go.Ground.phase }, { on := 3, ground := Go.Ground.phase }, { on := 4, ground := Go.Ground.phase }, { on := 5, ground := Go.Ground.phase }], guard := none }) (v := ?_) rfl (by kernel_rfl) (by kernel_rfl) (by kernel_rfl) (fun _ _ _ h => h) (Or.inl ⟨by rfl, ?_⟩) hHeld1 ?_
  rotate_left 1
  · (intro wq hSq; (try dsimp only at hSq); go_simp; first | done | with_reducible rfl)
  try simp only [Act.put, List.setIfInBounds_toArray, List.set_cons_zero, List.set_cons_succ]
  refine wpAnyH_ready (rs := [7]) (by kernel_rfl) (by simp) ?_
  refine AllReadyH.cons (o := { dst := none, op := Go.Op.store 27 (Go.Operand.tmp 35) (Go.Operand.tmp 33), type := 0, pos := "ref.go:283", after := #[{ on := 6, ground := Go.Ground.data }, { on := 3, ground := Go.Ground.data }, { on := 5, ground := Go.Ground.chain }, { on := 0, ground := Go.Ground.phase }, { on := 1, ground := Go.Ground.phase }, { on := 2, ground := Go.Ground.phase }, { on := 3, ground := Go.Ground.phase }, { on := 4, ground := Go.Ground.phase }, { on := 5, ground := Go.Ground.phase }], guard := none }) rfl (fun K hK => ?_) AllReadyH.nil
  refine (if_pos rfl).mpr ?_
  refine wp_storeH _ _ rfl (w.heap.size + 1 + 1) 74 rfl m.vr HM.out.1.r rfl (there_of H3b.out 74 32 (by rw [mC_length _ O6.out]; omega)) ?_
  refine hK.out _ _ (box_cells_far (box_cells_far H1.out (by omega)) (by omega)) (fun hHeld2 => ?_)
  clear hK K hHeld1
  try simp only [Act.put, List.setIfInBounds_toArray, List.set_cons_zero, List.set_cons_succ]
  refine wpAnyH_done (by kernel_rfl) ?_ _
  refine NoPanic.normal ?_
  have HMX : Hid (({ own0 m with yes := true, vh := m.vh, vr := m.vr } : Msg).Ok) := by unfold Hid; rw [← HX.out]; exact ofKind_ok m HM.out.1
  have GN3 : Hid (BoxM 37 ((W5.drew.setCells (w.heap.size + 1 + 1) 42 (vB m.vh).toList).setCells (w.heap.size + 1 + 1) 74 (vB m.vr).toList) (w.heap.size + 1 + 1) { own0 m with yes := true, vh := m.vh, vr := m.vr }) := boxCells H3b.out 74 _ (by rw [vBl, HM.out.1.r, mC_length _ O6.out]; omega) (set_vr _ O6.out _ HM.out.1.r)
  have GN2 : Hid (BoxM 37 ((W5.drew.setCells (w.heap.size + 1 + 1) 42 (vB m.vh).toList).setCells (w.heap.size + 1 + 1) 74 (vB m.vr).toList) (w.heap.size + 1) msg0) := box_cells_far (box_cells_far H2.out (by omega)) (by omega)
  have BN : Hid (Below w.heap.size w ((W5.drew.setCells (w.heap.size + 1 + 1) 42 (vB m.vh).toList).setCells (w.heap.size + 1 + 1) 74 (vB m.vr).toList)) := below_cells (below_cells B5.out (by omega) B5.out.size) (by omega) (by rw [setCells_size]; exact B5.out.size)
  generalize (W5.drew.setCells (w.heap.size + 1 + 1) 42 (vB m.vh).toList).setCells (w.heap.size + 1 + 1) 74 (vB m.vr).toList = W7 at *
  go_wp2_with (first | (refine loadM65 rfl _ rfl (w.heap.size + 1 + 1) rfl ({ own0 m with yes := true, vh := m.vh, vr := m.vr }) HMX.out GN3.out ?_) | (refine storeM65 rfl _ _ rfl (w.heap.size + 1) rfl ({ own0 m with yes := true, vh := m.vh, vr := m.vr }) msg0 rfl HMX.out msg0_ok GN2.out ?_))
  rw [HX.out]
  exact bodyPost_ret (v := .agg (mC ({ own0 m with yes := true, vh := m.vh, vr := m.vr })).toArray) (resM65 2 Try.results34 _ _ (w.heap.size + 1) _ HMX.out rfl (box_set GN2.out _)) rfl ⟨rfl, below_setRow BN.out (by omega) _⟩
set_option maxHeartbeats 1000000 in
set_option maxRecDepth 100000 in
theorem plain_k1 (m : Msg) (hm : m.Ok) (hk : m.kind = 1) (w : World) : Calls Try.prog 34 #[.agg (mC m).toArray] w fun e w' => e = .returned (.agg (mC (ofKind m)).toArray) ∧ Below w.heap.size w w' := by
  have hX : ofKind m = { own0 m with base := m.base, s := m.s, quiet := m.quiet, ext := m.ext, hash := m.hash } := by unfold ofKind; rw [if_pos hk]
  have hg : ((w.alloc (.cells (mC m).toArray 37)).alloc (.cells zcel37 37)).heap[w.heap.size]? = some (.cells (mC m).toArray 37) := by rw [Below.heap_alloc _ _ _ (by simp)]; exact heap_alloc_new _ _
  have c0 := row_cell hg (mC_0 m)
  have c1 := row_cell hg (mC_1 m)
  have c2 := row_cell hg (mC_2 m)
  have c3 := row_cell hg (mC_3 m)
  have H3 : Hid ((((w.alloc (.cells (mC m).toArray 37)).alloc (.cells zcel37 37)).alloc (.cells zcel37 37)).heap[(w.heap.size + 1 + 1)]? = some (.cells zcel37 37)) := by
    have := heap_alloc_new ((w.alloc (.cells (mC m).toArray 37)).alloc (.cells zcel37 37)) (.cells zcel37 37)
    rw [show ((w.alloc (.cells (mC m).toArray 37)).alloc (.cells zcel37 37)).heap.size = w.heap.size + 1 + 1 by simp] at this
    exact this
  have HCE : Hid (((((zcel37.setIfInBounds 0 (Value.int IntKind.i64 m.kind)).setIfInBounds 1 (Value.int IntKind.i64 m.frm)).setIfInBounds 2 (Value.int IntKind.i64 m.to)).setIfInBounds 3 (Value.int IntKind.u64 m.id)) = (mC (own0 m)).toArray) := ce65 m
  have ok0 := own0_ok m hm
  have HI : Hid ((Try.prog.info? 37).map (·.size) = some ((((zcel37.setIfInBounds 0 (Value.int IntKind.i64 m.kind)).setIfInBounds 1 (Value.int IntKind.i64 m.frm)).setIfInBounds 2 (Value.int IntKind.i64 m.to)).setIfInBounds 3 (Value.int IntKind.u64 m.id)).size) := by unfold Hid; rw [HCE.out, size65, List.size_toArray, mC_length _ ok0]
  have HZ : Hid (zcel37.size = ((((zcel37.setIfInBounds 0 (Value.int IntKind.i64 m.kind)).setIfInBounds 1 (Value.int IntKind.i64 m.frm)).setIfInBounds 2 (Value.int IntKind.i64 m.to)).setIfInBounds 3 (Value.int IntKind.u64 m.id)).size) := by unfold Hid; rw [HCE.out, zero65, List.size_toArray, List.size_toArray, mC_length _ ok0, mC_length _ msg0_ok]
  have HO : Hid (((((zcel37.setIfInBounds 0 (Value.int IntKind.i64 m.kind)).setIfInBounds 1 (Value.int IntKind.i64 m.frm)).setIfInBounds 2 (Value.int IntKind.i64 m.to)).setIfInBounds 3 (Value.int IntKind.u64 m.id)).all (·.oneCell') = true) := by unfold Hid; rw [HCE.out]; exact all_oneCell_toArray (mC_one _)
  have FK : Hid (∀ W, W = (((w.alloc (.cells (mC m).toArray 37)).alloc (.cells zcel37 37)).alloc (.cells zcel37 37)).setRow (w.heap.size + 1 + 1) ((((zcel37.setIfInBounds 0 (Value.int IntKind.i64 m.kind)).setIfInBounds 1 (Value.int IntKind.i64 m.frm)).setIfInBounds 2 (Value.int IntKind.i64 m.to)).setIfInBounds 3 (Value.int IntKind.u64 m.id)) → BoxM 37 W w.heap.size m ∧ BoxM 37 W (w.heap.size + 1) msg0 ∧ BoxM 37 W (w.heap.size + 1 + 1) (own0 m) ∧ Below w.heap.size w W) := fun W hW => by
    subst hW
    have k1 : Below w.heap.size w (w.alloc (.cells (mC m).toArray 37)) := (Below.refl _ _).alloc (Nat.le_refl _) _
    have k2 : Below w.heap.size w ((w.alloc (.cells (mC m).toArray 37)).alloc (.cells zcel37 37)) := k1.alloc k1.size _
    have k3 : Below w.heap.size w (((w.alloc (.cells (mC m).toArray 37)).alloc (.cells zcel37 37)).alloc (.cells zcel37 37)) := k2.alloc k2.size _
    refine ⟨?_, ?_, ?_, below_setRow k3 (by omega) _⟩
    · unfold BoxM; rw [setRow_far _ _ _ _ (by omega), Below.heap_alloc _ _ _ (by simp; omega)]; exact hg
    · unfold BoxM
      rw [setRow_far _ _ _ _ (by omega), Below.heap_alloc _ _ _ (by simp)]
      have := heap_alloc_new (w.alloc (.cells (mC m).toArray 37)) (.cells zcel37 37)
      rw [show (w.alloc (.cells (mC m).toArray 37)).heap.size = w.heap.size + 1 by simp] at this
      rw [this, zero65]
    · unfold BoxM; rw [setRow_same H3.out, HCE.out]
  have HX : Hid (ofKind m = { own0 m with base := m.base, s := m.s, quiet := m.quiet, ext := m.ext, hash := m.hash }) := hX
  have HM : Hid (m.Ok ∧ (own0 m).Ok) := ⟨hm, ok0⟩
  clear hg hX hm ok0
  generalize hC : (mC m).toArray = C at c0 c1 c2 c3 H3 FK ⊢
  have HC : Hid ((mC m).toArray = C) := hC
  clear hC
  have HK : Hid (m.kind = 1) := hk
  clear hk
  go_enter Try.func34, Try.ntmps34
  go_wp2_with (first | (refine wpList_store_row rfl 37 _ _ rfl (w.heap.size + 1 + 1) ((((zcel37.setIfInBounds 0 (Value.int IntKind.i64 m.kind)).setIfInBounds 1 (Value.int IntKind.i64 m.frm)).setIfInBounds 2 (Value.int IntKind.i64 m.to)).setIfInBounds 3 (Value.int IntKind.u64 m.id)) rfl rfl 37 zcel37 H3.out HI.out HZ.out HO.out ?_; (obtain ⟨W4, hW4⟩ : ∃ W, W = (((w.alloc (.cells C 37)).alloc (.cells zcel37 37)).alloc (.cells zcel37 37)).setRow (w.heap.size + 1 + 1) ((((zcel37.setIfInBounds 0 (Value.int IntKind.i64 m.kind)).setIfInBounds 1 (Value.int IntKind.i64 m.frm)).setIfInBounds 2 (Value.int IntKind.i64 m.to)).setIfInBounds 3 (Value.int IntKind.u64 m.id)) := ⟨_, rfl⟩); rw [← hW4]; (have K4 := FK.out W4 hW4); clear hW4 FK H3 HI HZ HO HCE c0 c1 c2 c3; (have G1 : Hid (BoxM 37 W4 w.heap.size m) := K4.1); (have G2 : Hid (BoxM 37 W4 (w.heap.size + 1) msg0) := K4.2.1); (have G3 : Hid (BoxM 37 W4 (w.heap.size + 1 + 1) (own0 m)) := K4.2.2.1); (have B4 : Hid (Below w.heap.size w W4) := K4.2.2.2); (have c0 : W4.cell? ⟨w.heap.size, 0, none⟩ = some (.int .i64 1) := by first | exact row_cell G1.out (mC_0 m) | (have := row_cell G1.out (mC_0 m); rw [HK.out] at this; exact this)); clear K4; skip))
  have H1 : Hid (BoxM 37 W4.drew w.heap.size m) := G1.out
  have H2 : Hid (BoxM 37 W4.drew (w.heap.size + 1) msg0) := G2.out
  have H3 : Hid (BoxM 37 W4.drew (w.heap.size + 1 + 1) (own0 m)) := G3.out
  have B5 : Hid (Below w.heap.size w W4.drew) := B4.out.drew
  have O5 : Hid (({ own0 m with base := m.base } : Msg).Ok) := ⟨HM.out.2.k, HM.out.2.f, HM.out.2.t, HM.out.2.i, HM.out.1.b, HM.out.2.c, HM.out.2.s, HM.out.2.h, HM.out.2.v, HM.out.2.r, HM.out.2.hb, HM.out.2.vb, HM.out.2.rb⟩
  have o4 : W4.drew.cell? ⟨(w.heap.size + 1 + 1), 4, none⟩ = some (.int .u64 0) := row_cell H3.out (mC_4 (own0 m))
  have f4 : W4.drew.frozen? ⟨(w.heap.size + 1 + 1), 4, none⟩ = false := unfrozen H3.out
  have H3b : Hid (BoxM 37 (W4.drew.setCell ⟨(w.heap.size + 1 + 1), 4, none⟩ (.int .u64 m.base)) (w.heap.size + 1 + 1) { own0 m with base := m.base }) := boxCell H3.out 4 _ (set_base _ _)
  clear c0 G1 G2 G3 B4
  refine wp_region_noPanic ?_
  refine wp_region_held_drew (S := fun w' => BoxM 37 w' w.heap.size m) (by kernel_rfl) (H1.out) (fun hHeld => ?_)
  try simp only [Act.put, List.setIfInBounds_toArray, List.set_cons_zero, List.set_cons_succ]
  refine wpAnyH_take (i := 0) (oi := { dst := some 17, op := Go.Op.fieldAddr 37 (Go.Operand.tmp 1) 4, type := 0, pos := "ref.go:279", after := #[], guard := none }) (v := ?_) rfl (by kernel_rfl) (by kernel_rfl) (by kernel_rfl) (fun _ _ _ h => h) (Or.inl ⟨by rfl, ?_⟩) hHeld ?_
  rotate_left 1
  · (intro wq hSq; (try dsimp only at hSq); go_simp; first | done | with_reducible rfl)
  try simp only [Act.put, List.setIfInBounds_toArray, List.set_cons_zero, List.set_cons_succ]
  refine wpAnyH_take (i := 1) (oi := { dst := some 18, op := Go.Op.load 24 (Go.Operand.tmp 17), type := 24, pos := "ref.go:279", after := #[{ on := 0, ground := Go.Ground.data }], guard := none }) (v := ?_) rfl (by kernel_rfl) (by kernel_rfl) (by kernel_rfl) (fun _ _ _ h => h) (Or.inl ⟨by rfl, ?_⟩) hHeld ?_
  rotate_left 1
  · (intro wq hSq; (try dsimp only at hSq); have hq := row_cell hSq (mC_4 m); go_simp; first | done | with_reducible rfl)
  try simp only [Act.put, List.setIfInBounds_toArray, List.set_cons_zero, List.set_cons_succ]
  refine wpAnyH_take (i := 2) (oi := { dst := some 19, op := Go.Op.fieldAddr 37 (Go.Operand.tmp 1) 5, type := 0, pos := "ref.go:279", after := #[{ on := 5, ground := Go.Ground.gcOnly Go.Departure.lateStores }], guard := none }) (v := ?_) rfl (by kernel_rfl) (by kernel_rfl) (by kernel_rfl) (fun _ _ _ h => h) (Or.inl ⟨by rfl, ?_⟩) hHeld ?_
  rotate_left 1
  · (intro wq hSq; (try dsimp only at hSq); go_simp; first | done | with_reducible rfl)
  try simp only [Act.put, List.setIfInBounds_toArray, List.set_cons_zero, List.set_cons_succ]
  refine wpAnyH_take (i := 3) (oi := { dst := some 20, op := Go.Op.load 29 (Go.Operand.tmp 19), type := 29, pos := "ref.go:279", after := #[{ on := 2, ground := Go.Ground.data }, { on := 5, ground := Go.Ground.gcOnly Go.Departure.lateStores }], guard := none }) (v := .agg (List.toArray (eC m))) rfl (by kernel_rfl) (by kernel_rfl) (by kernel_rfl) (fun _ _ _ h => h) (yieldsIf_load_mid rfl 29 _ rfl w.heap.size 5 rfl (eC m) _ (fun wq hSq => range_of hSq 5 35 _ (mC_edit m HM.out.1)) Try.underlying29 rfl (by rw [eC_length m HM.out.1]; exact size63)) hHeld ?_
  try simp only [Act.put, List.setIfInBounds_toArray, List.set_cons_zero, List.set_cons_succ]
  refine wpAnyH_take (i := 4) (oi := { dst := some 21, op := Go.Op.fieldAddr 37 (Go.Operand.tmp 3) 4, type := 0, pos := "ref.go:279", after := #[{ on := 0, ground := Go.Ground.phase }, { on := 1, ground := Go.Ground.phase }, { on := 2, ground := Go.Ground.textOnly Go.Departure.lateStores }, { on := 3, ground := Go.Ground.textOnly Go.Departure.lateStores }], guard := none }) (v := ?_) rfl (by kernel_rfl) (by kernel_rfl) (by kernel_rfl) (fun _ _ _ h => h) (Or.inl ⟨by rfl, ?_⟩) hHeld ?_
  rotate_left 1
  · (intro wq hSq; (try dsimp only at hSq); go_simp; first | done | with_reducible rfl)
  try simp only [Act.put, List.setIfInBounds_toArray, List.set_cons_zero, List.set_cons_succ]
  refine wpAnyH_ready (rs := [5]) (by kernel_rfl) (by simp) ?_
  refine AllReadyH.cons (o := { dst := none, op := Go.Op.store 24 (Go.Operand.tmp 21) (Go.Operand.tmp 18), type := 0, pos := "ref.go:279", after := #[{ on := 4, ground := Go.Ground.data }, { on := 1, ground := Go.Ground.data }, { on := 0, ground := Go.Ground.phase }, { on := 1, ground := Go.Ground.phase }, { on := 2, ground := Go.Ground.textOnly Go.Departure.lateStores }, { on := 3, ground := Go.Ground.textOnly Go.Departure.lateStores }], guard := none }) rfl (fun K hK => ?_) AllReadyH.nil
  go_simp
  refine hK.out _ _ (box_cell_far H1.out (by omega)) (fun hHeld1 => ?_)
  clear hK K hHeld
  try simp only [Act.put, List.setIfInBounds_toArray, List.set_cons_zero, List.set_cons_succ]
  refine wpAnyH_take (i := 6) (oi := { dst := some 22, op := Go.Op.fieldAddr 37 (Go.Operand.tmp 3) 5, type := 0, pos := "ref.go:279", after := #[{ on := 0, ground := Go.Ground.phase }, { on := 1, ground := Go.Ground.phase }, { on := 2, ground := Go.Ground.phase }, { on := 3, ground := Go.Ground.phase }, { on := 4, ground := Go.Ground.phase }, { on := 5, ground := Go.Ground.phase }], guard := none }) (v := ?_) rfl (by kernel_rfl) (by kernel_rfl) (by kernel_rfl) (fun _ _ _ h => h) (Or.inl ⟨by rfl, ?_⟩) hHeld1 ?_
  rotate_left 1
  · (intro wq hSq; (try dsimp only at hSq); go_simp; first | done | with_reducible rfl)
  try simp only [Act.put, List.setIfInBounds_toArray, List.set_cons_zero, List.set_cons_succ]
  refine wpAnyH_ready (rs := [7]) (by kernel_rfl) (by simp) ?_
  refine AllReadyH.cons (o := { dst := none, op := Go.Op.store 29 (Go.Operand.tmp 22) (Go.Operand.tmp 20), type := 0, pos := "ref.go:279", after := #[{ on := 6, ground := Go.Ground.data }, { on := 3, ground := Go.Ground.data }, { on := 5, ground := Go.Ground.chain }, { on := 0, ground := Go.Ground.phase }, { on := 1, ground := Go.Ground.phase }, { on := 2, ground := Go.Ground.phase }, { on := 3, ground := Go.Ground.phase }, { on := 4, ground := Go.Ground.phase }, { on := 5, ground := Go.Ground.phase }], guard := none }) rfl (fun K hK => ?_) AllReadyH.nil
  refine (if_pos rfl).mpr ?_
  refine wp_storeE _ _ rfl (w.heap.size + 1 + 1) 5 rfl m HM.out.1 rfl (there_of H3b.out 5 35 (by rw [mC_length _ O5.out]; omega)) ?_
  refine hK.out _ _ (box_cells_far (box_cell_far H1.out (by omega)) (by omega)) (fun hHeld2 => ?_)
  clear hK K hHeld1
  try simp only [Act.put, List.setIfInBounds_toArray, List.set_cons_zero, List.set_cons_succ]
  refine wpAnyH_done (by kernel_rfl) ?_ _
  refine NoPanic.normal ?_
  have HMX : Hid (({ own0 m with base := m.base, s := m.s, quiet := m.quiet, ext := m.ext, hash := m.hash } : Msg).Ok) := by unfold Hid; rw [← HX.out]; exact ofKind_ok m HM.out.1
  have GN3 : Hid (BoxM 37 ((W4.setCell ⟨(w.heap.size + 1 + 1), 4, none⟩ (.int .u64 m.base)).drew.setCells (w.heap.size + 1 + 1) 5 (eC m)) (w.heap.size + 1 + 1) { own0 m with base := m.base, s := m.s, quiet := m.quiet, ext := m.ext, hash := m.hash }) := boxCells H3b.out 5 _ (by rw [eC_length m HM.out.1, mC_length _ O5.out]; omega) (set_edit _ m O5.out HM.out.1)
  have GN2 : Hid (BoxM 37 ((W4.setCell ⟨(w.heap.size + 1 + 1), 4, none⟩ (.int .u64 m.base)).drew.setCells (w.heap.size + 1 + 1) 5 (eC m)) (w.heap.size + 1) msg0) := box_cells_far (box_cell_far H2.out (by omega)) (by omega)
  have BN : Hid (Below w.heap.size w ((W4.setCell ⟨(w.heap.size + 1 + 1), 4, none⟩ (.int .u64 m.base)).drew.setCells (w.heap.size + 1 + 1) 5 (eC m))) := below_cells (B5.out.setCell (show w.heap.size ≤ (w.heap.size + 1 + 1) by omega) _) (by omega) (B5.out.setCell (show w.heap.size ≤ (w.heap.size + 1 + 1) by omega) _).size
  generalize (W4.setCell ⟨(w.heap.size + 1 + 1), 4, none⟩ (.int .u64 m.base)).drew.setCells (w.heap.size + 1 + 1) 5 (eC m) = W7 at *
  go_wp2_with (first | (refine loadM65 rfl _ rfl (w.heap.size + 1 + 1) rfl ({ own0 m with base := m.base, s := m.s, quiet := m.quiet, ext := m.ext, hash := m.hash }) HMX.out GN3.out ?_) | (refine storeM65 rfl _ _ rfl (w.heap.size + 1) rfl ({ own0 m with base := m.base, s := m.s, quiet := m.quiet, ext := m.ext, hash := m.hash }) msg0 rfl HMX.out msg0_ok GN2.out ?_))
  rw [HX.out]
  exact bodyPost_ret (v := .agg (mC ({ own0 m with base := m.base, s := m.s, quiet := m.quiet, ext := m.ext, hash := m.hash })).toArray) (resM65 2 Try.results34 _ _ (w.heap.size + 1) _ HMX.out rfl (box_set GN2.out _)) rfl ⟨rfl, below_setRow BN.out (by omega) _⟩
theorem plain_any (m : Msg) (hm : m.Ok) (w : World) : Calls Try.prog 34 #[.agg (mC m).toArray] w fun e w' => e = .returned (.agg (mC (ofKind m)).toArray) ∧ Below w.heap.size w w' := by
  by_cases h1 : m.kind = 1
  · exact plain_k1 m hm h1 w
  by_cases h2 : m.kind = 2
  · cases hy : m.yes with
    | true => exact plain_k2y m hm h2 hy w
    | false => exact plain_k2n m hm h2 hy w
  by_cases h3 : m.kind = 3
  · exact plain_k3 m hm h3 w
  by_cases h6 : m.kind = 6
  · exact plain_k6 m hm h6 w
  exact plain_other m hm h1 h2 h3 h6 w
end Go.Proofs.Ytnpjknnalekdpaa
