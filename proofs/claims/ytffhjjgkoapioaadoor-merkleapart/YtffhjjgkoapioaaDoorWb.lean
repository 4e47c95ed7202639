import Derived.Test.YtffhjjgkoapioaaDoorWa
namespace Go.Proofs.YtffhjjgkoapioaaDoor
set_option linter.unusedSimpArgs false
set_option linter.unusedVariables false
open Go.RowKit
set_option maxHeartbeats 2000000 in
theorem sched_any (bl : List Int) (hb : bl.length = 64) (w : World) :
    Calls Tryd.prog 78 #[.agg (vB bl)] w fun e w' => e = .returned (.agg (vW (sched bl))) ∧ Below w.heap.size w w' := by
  have hsz := vB_size bl
  go_enter Tryd.func78, Tryd.ntmps78
  go_wp2
  go_loopw [10] (fun i wr => ∃ k : Nat, k ≤ 16 ∧ i = .int .i64 k ∧ Below w.heap.size w wr ∧ wr.heap.size = w.heap.size + 3 ∧ wr.heap[w.heap.size]? = some (.cells (vB bl) 35) ∧ wr.heap[w.heap.size + 1]? = some (.cells (vW (zs 64)) 72) ∧ wr.heap[w.heap.size + 1 + 1]? = some (.cells (vW (words16 bl k ++ zs (64 - k))) 72)) (fun i _ => 16 - (intOf i).toNat)
  case atStart =>
    exact ⟨0, by omega, rfl, (((Below.refl _ _).alloc (Nat.le_refl _) _).alloc (by simp) _).alloc (by simp; omega) _, by simp, alloc3_at0 _ _ _ _, alloc3_at1 _ _ _ _, alloc3_at2 _ _ _ _⟩
  case round =>
    obtain ⟨k, hk, rfl, hbl, hsize, hb0, hb1, hb2⟩ := hrel
    by_cases hlt : k < 16
    · have hc0 : wr.cell? ⟨w.heap.size, 4 * k, none⟩ = some (.int .u8 (gi bl (4 * k))) := row_cell hb0 (vB_at _ _ (by omega))
      have hc1 : wr.cell? ⟨w.heap.size, 4 * k + 1, none⟩ = some (.int .u8 (gi bl (4 * k + 1))) := row_cell hb0 (vB_at _ _ (by omega))
      have hc2 : wr.cell? ⟨w.heap.size, 4 * k + 2, none⟩ = some (.int .u8 (gi bl (4 * k + 2))) := row_cell hb0 (vB_at _ _ (by omega))
      have hc3 : wr.cell? ⟨w.heap.size, 4 * k + 3, none⟩ = some (.int .u8 (gi bl (4 * k + 3))) := row_cell hb0 (vB_at _ _ (by omega))
      have hcw : wr.cell? ⟨w.heap.size + 1 + 1, k, none⟩ = some (.int .u32 (gi (words16 bl k ++ zs (64 - k)) k)) := row_cell hb2 (vW_at _ _ (by simp [words16_length, zs_length]; omega))
      have hfw : wr.frozen? ⟨w.heap.size + 1 + 1, k, none⟩ = false := frozen_of_row _ _ _ _ _ hb2
      go_wp2
      go_region
      go_wp2
      go_roundw
      case rel =>
        refine ⟨k + 1, by omega, by go_num, (hbl.setCell (by show w.heap.size ≤ w.heap.size + 1 + 1; omega) _).drew, by simpa using hsize, ?_, ?_, ?_⟩
        · rw [heap_drew, heap_setCell_other _ _ _ _ (by simp; omega)]; exact hb0
        · rw [heap_drew, heap_setCell_other _ _ _ _ (by simp)]; exact hb1
        · rw [heap_drew, heap_setCell_same _ _ _ _ _ _ hb2]
          have e := set_snoc (words16 bl k) (64 - (k + 1)) (wordAt bl k)
          rw [words16_length, show 64 - (k + 1) + 1 = 64 - k by omega] at e
          rw [vW_set]
          exact congrArg (fun l => some (Obj.cells (vW l) 72 (0, 0))) e
      case measure => simp [intOf]; omega
    · have e16 : k = 16 := by omega
      have hb2' : wr.heap[w.heap.size + 1 + 1]? = some (.cells (vW (schedTo bl (16 - 16) ++ zs (64 - 16))) 72) := by rw [hb2, e16]; rfl
      clear e16 hb0 hb2
      go_wp2
      go_loopw [5] (fun i wq => ∃ n : Nat, 16 ≤ n ∧ n ≤ 64 ∧ i = .int .i64 n ∧ Below w.heap.size w wq ∧ wq.heap.size = w.heap.size + 3 ∧ wq.heap[w.heap.size + 1]? = some (.cells (vW (zs 64)) 72) ∧ wq.heap[w.heap.size + 1 + 1]? = some (.cells (vW (schedTo bl (n - 16) ++ zs (64 - n))) 72)) (fun i _ => 64 - (intOf i).toNat)
      case atStart => exact ⟨16, by omega, by omega, rfl, hbl, hsize, hb1, hb2'⟩
      case round =>
        clear hb1 hb2' hbl hsize hk hlt
        obtain ⟨n, hn16, hn, rfl, hbl, hsize, hb1, hb2⟩ := hrel
        have hn64 : (schedTo bl (n - 16) ++ zs (64 - n)).length = 64 := by simp [schedTo_length, zs_length]; omega
        have hnl := schedTo_length bl (n - 16)
        by_cases hlt : n < 64
        · have hc : ∀ j, j < n → wr.cell? ⟨w.heap.size + 1 + 1, j, none⟩ = some (.int .u32 (gi (schedTo bl (n - 16)) j)) := fun j hj => by
            rw [row_cell hb2 (vW_at _ _ (by omega))]; rw [gi_append _ _ _ (by omega)]
          have hc2 := hc (n - 2) (by omega)
          have hc15 := hc (n - 15) (by omega)
          have hc7 := hc (n - 7) (by omega)
          have hc16 := hc (n - 16) (by omega)
          have hcn := row_cell hb2 (vW_at _ n (by omega))
          have hfw : wr.frozen? ⟨w.heap.size + 1 + 1, n, none⟩ = false := frozen_of_row _ _ _ _ _ hb2
          clear hc
          go_wp2
          go_quiet (fail)
          go_wp2_with (first | (go_at_call 79; refine (rot_any _ _ _ ?hk).mono ?_; (case hk => decide +kernel); rintro e w' ⟨rfl, rfl⟩))
          go_region
          go_wp2
          go_roundw
          case rel =>
            refine ⟨n + 1, by omega, by omega, by go_num, Below.setCell (below_drewN hbl _) (by show w.heap.size ≤ w.heap.size + 1 + 1; omega) _, by simpa using hsize, ?_, ?_⟩
            · rw [heap_setCell_other _ _ _ _ (by simp)]; exact hb1
            · rw [heap_setCell_same _ _ _ _ _ _ (show (wr.drewN (nq + 1)).heap[w.heap.size + 1 + 1]? = _ from hb2)]
              have e := set_snoc (schedTo bl (n - 16)) (64 - (n + 1)) (nextW (schedTo bl (n - 16)) n)
              rw [hnl, show 64 - (n + 1) + 1 = 64 - n by omega, show 16 + (n - 16) = n by omega] at e
              rw [vW_set]
              rw [show n + 1 - 16 = (n - 16) + 1 by omega]
              show _ = some (Obj.cells (vW ((schedTo bl (n - 16) ++ [nextW (schedTo bl (n - 16)) (16 + (n - 16))]) ++ zs (64 - (n + 1)))) 72 (0, 0))
              rw [show 16 + (n - 16) = n by omega]
              exact congrArg (fun l => some (Obj.cells (vW l) 72 (0, 0))) e
          case measure => simp [intOf]; omega
        · have e64 : n = 64 := by omega
          have hb2' : wr.heap[w.heap.size + 1 + 1]? = some (.cells (vW (sched bl)) 72) := by rw [hb2, e64]; simp [zs, sched]
          clear e64 hb2
          go_wp2_with (first | (refine load44 rfl _ rfl _ rfl (sched bl) (sched_length bl) 72 hb2' ?_) | (refine store44 rfl _ _ rfl _ (sched bl) rfl rfl (sched_length bl) 72 (zs 64) (zs_length 64) hb1 ?_))
          exact bodyPost_ret (v := .agg (vW (sched bl))) (results_cell_row (p := 2) (ty := 72) Tryd.results78 _ _ (w.heap.size + 1) 72 _ (0, 0) _ rfl (setRow_same hb1) Tryd.underlying72 rfl (by rw [vW_size, sched_length]; kernel_rfl)) rfl ⟨rfl, below_setRow hbl (by omega) _⟩
end Go.Proofs.YtffhjjgkoapioaaDoor
