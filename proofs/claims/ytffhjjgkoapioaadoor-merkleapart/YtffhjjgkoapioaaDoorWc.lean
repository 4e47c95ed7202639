import Derived.Test.YtffhjjgkoapioaaDoorWb
namespace Go.Proofs.YtffhjjgkoapioaaDoor
set_option linter.unusedSimpArgs false
set_option linter.unusedVariables false
open Go.RowKit
/-- The two package-level tables lie as the text lays them. -/
structure Laid (w : World) : Prop where
  start : ∀ i, i < 8 → w.cell? ⟨0, i, none⟩ = some (.int .u32 (gi hWords i))
  round : ∀ i, i < 64 → w.cell? ⟨1, i, none⟩ = some (.int .u32 (gi kWords i))
theorem Laid.two {w : World} (h : Laid w) : 2 ≤ w.heap.size := by
  have := block_lt_of_cell (h.round 0 (by omega)); exact this
theorem Laid.below {w w' : World} (h : Laid w) {B : Nat} (hb : Below B w w') (hB : 2 ≤ B) : Laid w' :=
  ⟨fun i hi => by rw [hb.cell (show (0 : Nat) < B by omega)]; exact h.start i hi, fun i hi => by rw [hb.cell (show (1 : Nat) < B by omega)]; exact h.round i hi⟩
set_option maxRecDepth 100000 in
set_option maxHeartbeats 2000000 in
theorem turn_any (ws bl : List Int) (hw : ws.length = 8) (hb : bl.length = 64) (w : World) (hL : Laid w) :
    Calls Tryd.prog 58 #[.agg (vW ws), .agg (vB bl)] w fun e w' => e = .returned (.agg (vW (comp ws bl))) ∧ Below w.heap.size w w' := by
  have hsz := vB_size bl
  have hsw := vW_size ws
  go_enter Tryd.func58, Tryd.ntmps58
  go_wp2_with (first | (refine load36 rfl _ rfl _ rfl bl hb 35 (alloc3_at1 _ _ _ _) ?_))
  have hbw : Below w.heap.size w (((w.alloc (Obj.cells (vW ws) 34)).alloc (Obj.cells (vB bl) 35)).alloc (Obj.cells (vW (zs 8)) 34)) := (((Below.refl _ _).alloc (Nat.le_refl _) _).alloc (by simp) _).alloc (by simp; omega) _
  have hw0 := alloc3_at0 w (Obj.cells (vW ws) 34) (Obj.cells (vB bl) 35) (Obj.cells (vW (zs 8)) 34)
  have hw2 := alloc3_at2 w (Obj.cells (vW ws) 34) (Obj.cells (vB bl) 35) (Obj.cells (vW (zs 8)) 34)
  have hws : (((w.alloc (Obj.cells (vW ws) 34)).alloc (Obj.cells (vB bl) 35)).alloc (Obj.cells (vW (zs 8)) 34)).heap.size = w.heap.size + 3 := by simp
  refine (sched_any bl hb _).mono ?_
  rintro e w1 ⟨rfl, hb1⟩
  replace hb1 : Below (((w.alloc (Obj.cells (vW ws) 34)).alloc (Obj.cells (vB bl) 35)).alloc (Obj.cells (vW (zs 8)) 34)).heap.size (((w.alloc (Obj.cells (vW ws) 34)).alloc (Obj.cells (vB bl) 35)).alloc (Obj.cells (vW (zs 8)) 34)) w1 := hb1
  have f0 : w1.heap[w.heap.size]? = some (Obj.cells (vW ws) 34) := by rw [hb1.block _ (by omega)]; exact hw0
  have f2 : w1.heap[w.heap.size + 1 + 1]? = some (Obj.cells (vW (zs 8)) 34) := by rw [hb1.block _ (by omega)]; exact hw2
  have fs : w.heap.size + 3 ≤ w1.heap.size := by have := hb1.size; omega
  have fb : Below w.heap.size w w1 := hbw.trans (hb1.mono (by omega))
  clear hb1 hws hw2 hw0 hbw
  go_wp2_with (first | (refine store44 rfl _ _ rfl _ (sched bl) rfl rfl (sched_length bl) 72 (zs 64) (zs_length 64) (heap_alloc_new _ _) ?_))
  rw [World.setRow_alloc_new]
  have g0 : (w1.alloc (Obj.cells (vW (sched bl)) 72)).heap[w.heap.size]? = some (Obj.cells (vW ws) 34) := by rw [Below.heap_alloc _ _ _ (by omega)]; exact f0
  have g2 : (w1.alloc (Obj.cells (vW (sched bl)) 72)).heap[w.heap.size + 1 + 1]? = some (Obj.cells (vW (zs 8)) 34) := by rw [Below.heap_alloc _ _ _ (by omega)]; exact f2
  have gS : (w1.alloc (Obj.cells (vW (sched bl)) 72)).heap[w1.heap.size]? = some (Obj.cells (vW (sched bl)) 72) := heap_alloc_new _ _
  have gb : Below w.heap.size w (w1.alloc (Obj.cells (vW (sched bl)) 72)) := fb.alloc (by omega) _
  generalize w1.alloc (Obj.cells (vW (sched bl)) 72) = w2 at *
  generalize w1.heap.size = p at *
  have gL : Laid w2 := hL.below gb hL.two
  clear f0 f2 fb w1
  have hL2 := hL.two
  have c0 := row_cell g0 (vW_at ws 0 (by omega))
  have c1 := row_cell g0 (vW_at ws 1 (by omega))
  have c2 := row_cell g0 (vW_at ws 2 (by omega))
  have c3 := row_cell g0 (vW_at ws 3 (by omega))
  have c4 := row_cell g0 (vW_at ws 4 (by omega))
  have c5 := row_cell g0 (vW_at ws 5 (by omega))
  have c6 := row_cell g0 (vW_at ws 6 (by omega))
  have c7 := row_cell g0 (vW_at ws 7 (by omega))
  go_quiet (fail)
  go_wp2
  go_quiet (fail)
  go_wp2
  go_loopw [6, 7, 8, 9, 10, 11, 12, 13, 39] (fun va vb vc vd ve vf vg vh i wr => ∃ k nq : Nat, k ≤ 64 ∧ i = .int .i64 k ∧ wr = w2.drewN nq ∧ va = .int .u32 (stAt (sched bl) (stOf ws) k).a ∧ vb = .int .u32 (stAt (sched bl) (stOf ws) k).b ∧ vc = .int .u32 (stAt (sched bl) (stOf ws) k).c ∧ vd = .int .u32 (stAt (sched bl) (stOf ws) k).d ∧ ve = .int .u32 (stAt (sched bl) (stOf ws) k).e ∧ vf = .int .u32 (stAt (sched bl) (stOf ws) k).f ∧ vg = .int .u32 (stAt (sched bl) (stOf ws) k).g ∧ vh = .int .u32 (stAt (sched bl) (stOf ws) k).h) (fun _ _ _ _ _ _ _ _ i _ => 64 - (intOf i).toNat)
  case atStart => exact ⟨0, _, by omega, rfl, World.drewN_drewN _ _ _, rfl, rfl, rfl, rfl, rfl, rfl, rfl, rfl⟩
  case round =>
    obtain ⟨k, nr, hk, rfl, rfl, rfl, rfl, rfl, rfl, rfl, rfl, rfl, rfl⟩ := hrel
    generalize hst : stAt (sched bl) (stOf ws) k = s
    by_cases hlt : k < 64
    · have hk1 := gL.round k hlt
      have hs1 := row_cell gS (vW_at (sched bl) k (by rw [sched_length]; exact hlt))
      have HST : Hid (stAt (sched bl) (stOf ws) k = s) := hst
      clear hst
      go_wp2_with (first | (go_at_call 79; refine (rot_any _ _ _ ?hk).mono ?_; (case hk => decide +kernel); rintro e w' ⟨rfl, rfl⟩))
      go_quiet (fail)
      go_wp2_with (first | (go_at_call 79; refine (rot_any _ _ _ ?hk).mono ?_; (case hk => decide +kernel); rintro e w' ⟨rfl, rfl⟩))
      go_roundw
      case rel =>
        have e : stAt (sched bl) (stOf ws) (k + 1) = roundS (gi kWords k) (gi (sched bl) k) s := by rw [← HST.out]; rfl
        refine ⟨k + 1, nr + nq, by omega, by go_num, rfl, ?_⟩
        rw [e]
        exact ⟨rfl, rfl, rfl, rfl, rfl, rfl, rfl, rfl⟩
      case measure => simp [intOf]; omega
    · have ek : k = 64 := by omega
      have HST : Hid (comp ws bl = turned ws s) := by unfold Hid comp; rw [← hst, ek]
      clear hst ek
      go_wp2_with (first | (refine store35 rfl _ _ rfl _ (turned ws s) rfl rfl rfl 34 (zs 8) rfl (show (w2.drewN nr).heap[w.heap.size + 1 + 1]? = _ from g2) ?_))
      exact bodyPost_ret (v := .agg (vW (turned ws s))) (results_cell_row (p := 4) (ty := 34) Tryd.results58 _ _ (w.heap.size + 1 + 1) 34 _ (0, 0) _ rfl (setRow_same (show (w2.drewN nr).heap[w.heap.size + 1 + 1]? = _ from g2)) Tryd.underlying34 rfl (by rw [vW_size]; kernel_rfl)) rfl ⟨by rw [HST.out], below_setRow (below_drewN gb _) (by omega) _⟩
end Go.Proofs.YtffhjjgkoapioaaDoor
