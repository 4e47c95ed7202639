import Derived.Test.YtlcenbhcegmnoaaDoorRc
namespace Go.Proofs.YtlcenbhcegmnoaaDoor
set_option linter.unusedSimpArgs false
set_option linter.unusedVariables false
open Go.RowKit
/-- What the slots that matter hold in the schedule's loop. -/
structure Fr1 (f : Nat → Value) (R H KB ga n ca t B : Nat) : Prop where
  r : f 2 = .pointer (some ⟨R, 0, none⟩)
  h : f 3 = .pointer (some ⟨H, 0, none⟩)
  k : f 4 = .pointer (some ⟨KB, 0, none⟩)
  all : f 5 = .slice (some ⟨ga, 0, none⟩) n ca
  at_ : f 6 = .int .i64 t
  w : f 7 = .pointer (some ⟨B, 0, none⟩)
def I1 (R H KB ga n ca t B : Nat) (S : List Int) (w : World) (a : Act) (wq : World) : Prop :=
  ∃ (k : Nat) (f : Nat → Value), a = mkA f ∧ k ≤ 64 ∧ f 47 = .int .i64 k ∧ Fr1 f R H KB ga n ca t B ∧ Below B w wq ∧ wq.heap.size = w.heap.size ∧ wq.heap[B]? = some (.cells (vW (S.take k ++ zs (64 - k))) 58)
def mu1 (a : Act) (_ : World) : Nat := 64 - (intOf (a.tmps.getD 47 undef)).toNat
theorem take_step (S : List Int) (hl : S.length = 64) (k : Nat) (hk : k < 64) : (S.take k ++ zs (64 - k)).set k (gi S k) = S.take (k + 1) ++ zs (64 - (k + 1)) := by
  have e := set_snoc (S.take k) (64 - (k + 1)) (gi S k)
  rw [show (S.take k).length = k by simp; omega, show 64 - (k + 1) + 1 = 64 - k by omega] at e
  rw [e]
  have e2 : S.take k ++ [gi S k] = S.take (k + 1) := by
    rw [List.take_succ_eq_append_getElem (by omega)]
    unfold gi
    simp [hl, hk]
  rw [e2]
theorem sched_step (BL : List Int) (k : Nat) (hk : k < 64) : ((sched BL).take k ++ zs (64 - k)).set k (gi (sched BL) k) = (sched BL).take (k + 1) ++ zs (64 - (k + 1)) :=
  take_step (sched BL) (sched_length BL) k hk
theorem range_four {w : World} {b : Nat} {L : List Int} (s : Nat) (h : s + 4 ≤ L.length) (hr : w.rangeAt b 0 (vB L).toList) : w.rangeAt b s (vB [gi L s, gi L (s + 1), gi L (s + 2), gi L (s + 3)]).toList := fun j v hv => by
  have hj : j < 4 := by have := (List.getElem?_eq_some_iff.1 hv).1; rw [Array.length_toList, vB_size] at this; exact this
  have hc := rangeB hr (s + j) (by omega)
  rw [Nat.zero_add] at hc
  rw [hc]
  match j, hj, hv with
  | 0, _, hv => exact hv
  | 1, _, hv => exact hv
  | 2, _, hv => exact hv
  | 3, _, hv => exact hv
theorem gi_block (L : List Int) (t i : Nat) (hi : i < 64) : gi ((L.drop t).take 64) i = gi L (t + i) := by
  unfold gi
  simp only [List.getD_eq_getElem?_getD]
  rw [List.getElem?_take, if_pos hi, List.getElem?_drop]
theorem gi_byte {L : List Int} (h : ∀ x ∈ L, 0 ≤ x ∧ x ≤ 255) (i : Nat) : 0 ≤ gi L i ∧ gi L i ≤ 255 := by
  unfold gi
  by_cases hi : i < L.length
  · have := h L[i] (List.getElem_mem hi); simpa [hi] using this
  · simp [hi]
theorem word_here (L : List Int) (h : ∀ x ∈ L, 0 ≤ x ∧ x ≤ 255) (t k : Nat) (hk : k < 16) : ofTo [gi L (t + 4 * k), gi L (t + 4 * k + 1), gi L (t + 4 * k + 2), gi L (t + 4 * k + 3)] 4 % 4294967296 = gi (sched ((L.drop t).take 64)) k := by
  rw [word_ref _ _ _ _ (gi_byte h _) (gi_byte h _) (gi_byte h _) (gi_byte h _), sched_lo _ _ hk]
  unfold wordAt
  rw [gi_block _ _ _ (by omega), gi_block _ _ _ (by omega), gi_block _ _ _ (by omega), gi_block _ _ _ (by omega)]
  rfl
set_option maxRecDepth 1000000 in
set_option maxHeartbeats 1000000 in
theorem round1a (R H KB ga ca t B : Nat) (L : List Int) (w : World) (Q : Exit → Act → World → Prop) (k : Nat) (f : Nat → Value) (wq : World) (hk : k < 16) (t47 : f 47 = .int .i64 k) (hF : Fr1 f R H KB ga L.length ca t B)
    (ht : t + 64 ≤ L.length) (hca : L.length ≤ ca) (hcam : ca ≤ 9223372036854775807) (hby : Hid (∀ x ∈ L, 0 ≤ x ∧ x ≤ 255)) (hga : ga < B) (hra : w.rangeAt ga 0 (vB L).toList)
    (hbl : Below B w wq) (hsz : Hid (wq.heap.size = w.heap.size)) (hb : Hid (wq.heap[B]? = some (.cells (vW ((sched ((L.drop t).take 64)).take k ++ zs (64 - k))) 58))) :
    Code.wp Tryd.prog (((Tryd.f14.body.map loopsOf).getD []).getD 2 .skip) (Exit.then (fun a' w' => I1 R H KB ga L.length ca t B (sched ((L.drop t).take 64)) w a' w' ∧ mu1 a' w' < mu1 (mkA f) wq) Q) (mkA f) wq := by
  have hl := sched_length ((L.drop t).take 64)
  have hc := row_cell hb.out (vW_at _ k (by simp [zs_length, hl]; omega))
  have hfz : wq.frozen? ⟨B, k, none⟩ = false := frozen_of_row _ _ _ _ _ hb.out
  have hr4 := range_four (w := wq) (b := ga) (L := L) (t + 4 * k) (by omega) (fun m v hv => by rw [hbl.cell (show ga < B from hga)]; exact hra m v hv)
  have hmu : mu1 (mkA f) wq = 64 - k := by unfold mu1; rw [mu_mk, t47]; rfl
  rw [hmu]
  obtain ⟨t2, t3, t4, t5, t6, t7⟩ := hF
  clear hl hra hmu
  unfold mkA
  conv => arg 2; whnf
  dsimp only
  go_wp2_with fail
  refine (rof_any ga (t + 4 * k) (ca - (t + 4 * k)) [gi L (t + 4 * k), gi L (t + 4 * k + 1), gi L (t + 4 * k + 2), gi L (t + 4 * k + 3)] wq rfl (by omega) hr4).mono ?_
  rintro e w' ⟨rfl, h'⟩
  have h'' := h'.symm
  clear h'
  subst h''
  go_wp2_with fail
  have hstep := sched_step ((L.drop t).take 64) k (by omega)
  have hwd := word_here L hby.out t k hk
  refine ⟨⟨k + 1, _, act_lit _ rfl, by omega, by go_num, ⟨rfl, rfl, rfl, rfl, rfl, rfl⟩, hbl.setCell (Nat.le_refl _) _, ?_, ?_⟩, ?_⟩
  · rw [← hsz.out]; simp
  · rw [heap_setCell_same _ _ _ _ _ _ hb.out, vW_set, hwd, hstep]
  · show 64 - (intOf (.int .i64 ((k : Int) + 1))).toNat < 64 - k
    simp [intOf]; omega
theorem gi_take (S : List Int) (k m j : Nat) (hj : j < k) (hk : k ≤ S.length) : gi (S.take k ++ zs m) j = gi S j := by
  rw [gi_append _ _ _ (by simp; omega)]
  unfold gi
  simp only [List.getD_eq_getElem?_getD]
  rw [List.getElem?_take, if_pos hj]
end Go.Proofs.YtlcenbhcegmnoaaDoor
