import Derived.Test.YtlcenbhcegmnoaaDoorRd
namespace Go.Proofs.YtlcenbhcegmnoaaDoor
set_option linter.unusedSimpArgs false
set_option linter.unusedVariables false
open Go.RowKit
theorem keep_far (w : World) (B i j : Nat) (v x : Value) (h : i ≠ j) (hc : w.cell? ⟨B, j, none⟩ = some x) : (w.setCell ⟨B, i, none⟩ v).cell? ⟨B, j, none⟩ = some x := by
  rw [World.cell?_setCell_other (a := ⟨B, i, none⟩) (b := ⟨B, j, none⟩) (v := v) (w := w) (fun e => h (congrArg Addr.off e))]
  exact hc
theorem rturn_gen (x m : Int) (w : World) (h1 : 1 ≤ m) (h2 : m ≤ 31) : Calls Tryd.prog 45 #[.int .u32 x, .int .u64 m] w fun e w' => e = .returned (.int .u32 (rotr m.toNat x)) ∧ w' = w := by
  obtain ⟨n, rfl⟩ := Int.eq_ofNat_of_zero_le (show 0 ≤ m by omega)
  exact rturn_any x n w (by omega) (by omega)
set_option maxRecDepth 1000000 in
set_option maxHeartbeats 1000000 in
theorem round1b (R H KB ga n ca t B : Nat) (S : List Int) (hS : S.length = 64) (w : World) (Q : Exit → Act → World → Prop) (k : Nat) (f : Nat → Value) (wq : World) (hk16 : 16 ≤ k) (hk : k < 64) (t47 : f 47 = .int .i64 k) (hF : Fr1 f R H KB ga n ca t B)
    (hnx : Hid (gi S k = nextR S k))
    (hbl : Below B w wq) (hsz : Hid (wq.heap.size = w.heap.size)) (hb : Hid (wq.heap[B]? = some (.cells (vW (S.take k ++ zs (64 - k))) 58))) :
    Code.wp Tryd.prog (((Tryd.f14.body.map loopsOf).getD []).getD 2 .skip) (Exit.then (fun a' w' => I1 R H KB ga n ca t B S w a' w' ∧ mu1 a' w' < mu1 (mkA f) wq) Q) (mkA f) wq := by
  have hc : ∀ j, j < k → wq.cell? ⟨B, j, none⟩ = some (.int .u32 (gi S j)) := fun j hj => by
    have e := row_cell hb.out (vW_at _ j (by simp [zs_length, hS]; omega))
    rw [gi_take S k _ j hj (by omega)] at e
    exact e
  have hcn := row_cell hb.out (vW_at _ k (by simp [zs_length, hS]; omega))
  have hc2 := hc (k - 2) (by omega)
  have hc15 := hc (k - 15) (by omega)
  have hc7 := hc (k - 7) (by omega)
  have hc16 := hc (k - 16) (by omega)
  have hfz : wq.frozen? ⟨B, k, none⟩ = false := frozen_of_row _ _ _ _ _ hb.out
  have hmu : mu1 (mkA f) wq = 64 - k := by unfold mu1; rw [mu_mk, t47]; rfl
  rw [hmu]
  obtain ⟨t2, t3, t4, t5, t6, t7⟩ := hF
  clear hmu hc
  unfold mkA
  conv => arg 2; whnf
  dsimp only
  go_wp2_with fail
  go_quiet (fail)
  go_wp2_with fail
  have z7 : (7 : Int) ≤ (k : Int) := by omega
  have z16 : (16 : Int) ≤ (k : Int) := by omega
  have x1 : IntKind.i64.wrap ((k : Int) - 16) = (k : Int) - 16 := by exact IntWalk.i64_in _ (by omega)
  have y1 : IntKind.i64.wrap ((k : Int) - 7) = (k : Int) - 7 := by exact IntWalk.i64_in _ (by omega)
  have x2 : (0 : Int) ≤ (k : Int) - 16 := by omega
  have x3 : (k : Int) - 16 < 64 := by omega
  have x4 : ((k : Int) - 16).toNat = k - 16 := by omega
  have y2 : (0 : Int) ≤ (k : Int) - 7 := by omega
  have y3 : (k : Int) - 7 < 64 := by omega
  have y4 : ((k : Int) - 7).toNat = k - 7 := by omega
  go_region_held3 (fun w' => w'.cell? ⟨B, k - 16, none⟩ = some (.int .u32 (gi S (k - 16))) ∧ w'.cell? ⟨B, k - 7, none⟩ = some (.int .u32 (gi S (k - 7)))) (first | go_keep | (exact ⟨keep_far _ _ _ _ _ _ (by omega) hc16, keep_far _ _ _ _ _ _ (by omega) hc7⟩)) (first | (go_at_call 45; refine (rturn_gen _ _ _ (by omega) (by omega)).mono ?_; rintro e w' ⟨rfl, rfl⟩))
  go_wp2_with fail
  refine ⟨⟨k + 1, _, act_lit _ rfl, by omega, by go_num, ⟨rfl, rfl, rfl, rfl, rfl, rfl⟩, Below.setCell (below_drewN hbl _) (Nat.le_refl _) _, ?_, ?_⟩, ?_⟩
  · rw [← hsz.out]; simp
  · rw [heap_setCell_same _ _ _ _ _ _ (show (wq.drewN (nq + 1)).heap[B]? = _ from hb.out), vW_set, ← take_step S hS k hk]
    have e : ∀ x y : Int, x = y → some (Obj.cells (vW ((S.take k ++ zs (64 - k)).set k x)) 58 (0, 0)) = some (Obj.cells (vW ((S.take k ++ zs (64 - k)).set k y)) 58 (0, 0)) := fun x y h => by rw [h]
    refine e _ _ ?_
    rw [hnx.out]
    unfold nextR bxor
    first | omega | (trace_state; fail)
  · show 64 - (intOf (.int .i64 ((k : Int) + 1))).toNat < 64 - k
    simp [intOf]; omega
end Go.Proofs.YtlcenbhcegmnoaaDoor
