import Derived.Test.YtlcenbhcegmnoaaDoorRg
namespace Go.Proofs.YtlcenbhcegmnoaaDoor
set_option linter.unusedSimpArgs false
set_option linter.unusedVariables false
open Go.RowKit
/-- The first k words with the rounds' words added. -/
def addTo (hs tl : List Int) : Nat → List Int
  | 0 => hs
  | k + 1 => (addTo hs tl k).set k (add32 (gi hs k) (gi tl k))
theorem addTo_length (hs tl : List Int) (k : Nat) : (addTo hs tl k).length = hs.length := by
  induction k with
  | zero => rfl
  | succ k ih => simp [addTo, ih]
theorem addTo_at (hs tl : List Int) (k : Nat) : ∀ i, k ≤ i → gi (addTo hs tl k) i = gi hs i := by
  induction k with
  | zero => intro i _; rfl
  | succ k ih =>
    intro i hi
    rw [← ih i (by omega)]
    unfold gi
    simp only [addTo, List.getD_eq_getElem?_getD]
    rw [List.getElem?_set_ne (by omega)]
theorem addTo_turned (hs : List Int) (s : St) (h : hs.length = 8) : addTo hs (stL s) 8 = turned hs s := by
  match hs, h with
  | [a, b, c, d, e, f, g, h], _ => rfl
def N3 (R H KB ga n ca t B T k : Nat) (l : List Int) (w : World) (a : Act) (wq : World) : Prop :=
  ∃ f : Nat → Value, a = mkA f ∧ f 188 = .int .i64 k ∧ Fr2 f R H KB ga n ca t B T ∧ w.grownBy wq (some H) ∧ wq.heap.size = w.heap.size ∧ wq.heap[H]? = some (.cells (vW l) 34)
def I3 (R H KB ga n ca t B T : Nat) (hs tl : List Int) (w : World) (a : Act) (wq : World) : Prop :=
  ∃ k : Nat, k ≤ 8 ∧ N3 R H KB ga n ca t B T k (addTo hs tl k) w a wq
def mu3 (a : Act) (_ : World) : Nat := 8 - (intOf (a.tmps.getD 188 undef)).toNat
theorem mu_mk3 (f : Nat → Value) : (mkA f).tmps.getD 188 undef = f 188 := rfl
set_option maxRecDepth 1000000 in
set_option maxHeartbeats 1000000 in
theorem round3a (R H KB ga n ca t B T : Nat) (l : List Int) (hl : l.length = 8) (tv : Int) (w : World) (Q : Exit → Act → World → Prop) (k : Nat) (f : Nat → Value) (wq : World) (hk : k < 8) (t188 : f 188 = .int .i64 k) (hF : Fr2 f R H KB ga n ca t B T)
    (htc : wq.cell? ⟨T, k, none⟩ = some (.int .u32 tv)) (hgr : w.grownBy wq (some H)) (hsz : Hid (wq.heap.size = w.heap.size)) (hH : Hid (wq.heap[H]? = some (.cells (vW l) 34))) :
    Code.wp Tryd.prog (((Tryd.f14.body.map loopsOf).getD []).getD 4 .skip) (Exit.then (fun a' w' => N3 R H KB ga n ca t B T (k + 1) (l.set k (add32 (gi l k) tv)) w a' w' ∧ mu3 a' w' < mu3 (mkA f) wq) Q) (mkA f) wq := by
  have hmu : mu3 (mkA f) wq = 8 - k := by unfold mu3; rw [mu_mk3, t188]; rfl
  rw [hmu]
  clear hmu
  have hc := row_cell hH.out (vW_at l k (by omega))
  have hfz : wq.frozen? ⟨H, k, none⟩ = false := frozen_of_row _ _ _ _ _ hH.out
  obtain ⟨⟨t2, t3, t4, t5, t6, t7⟩, t11⟩ := hF
  unfold mkA
  conv => arg 2; whnf
  dsimp only
  go_wp2_with fail
  go_region
  go_wp2_with fail
  refine ⟨⟨_, act_lit _ rfl, by go_num, ⟨⟨t2, t3, t4, t5, t6, t7⟩, t11⟩, ?_, ?_, ?_⟩, ?_⟩
  · exact grown_trans (grown_drewN hgr 1) (grown_setCell _ _ _ _)
  · rw [← hsz.out]; simp
  · rw [heap_drew, heap_setCell_same _ _ _ _ _ _ (show wq.heap[H]? = _ from hH.out), vW_set]
    rfl
  · show 8 - (intOf (.int .i64 ((k : Int) + 1))).toNat < 8 - k
    simp [intOf]; omega
set_option maxRecDepth 1000000 in
set_option maxHeartbeats 1000000 in
theorem round3c (R H KB ga n ca t B T : Nat) (l : List Int) (w : World) (X : Act → World → Prop) (f : Nat → Value) (wq : World) (t188 : f 188 = .int .i64 8) (hF : Fr2 f R H KB ga n ca t B T)
    (hgr : w.grownBy wq (some H)) (hsz : Hid (wq.heap.size = w.heap.size)) (hH : Hid (wq.heap[H]? = some (.cells (vW l) 34))) :
    Code.wp Tryd.prog (((Tryd.f14.body.map loopsOf).getD []).getD 4 .skip) (Exit.then X (postOf 8 (N3 R H KB ga n ca t B T 8 l w))) (mkA f) wq := by
  obtain ⟨⟨t2, t3, t4, t5, t6, t7⟩, t11⟩ := hF
  unfold mkA
  conv => arg 2; whnf
  dsimp only
  go_wp2_with fail
  exact ⟨rfl, _, act_lit _ rfl, t188, ⟨⟨t2, t3, t4, t5, t6, t7⟩, t11⟩, hgr, hsz.out, hH.out⟩
theorem loop3 (R H KB ga n ca t B T : Nat) (hs : List Int) (hl : hs.length = 8) (s : St) (w : World) (f : Nat → Value) (t188 : f 188 = .int .i64 0) (hF : Fr2 f R H KB ga n ca t B T) (hHT : H ≠ T)
    (hH : w.heap[H]? = some (.cells (vW hs) 34)) (hT : w.heap[T]? = some (.cells (vW (stL s)) 34)) :
    Code.wp Tryd.prog (.loop (((Tryd.f14.body.map loopsOf).getD []).getD 4 .skip)) (postOf 8 (N3 R H KB ga n ca t B T 8 (turned hs s) w)) (mkA f) w := by
  refine wp_loop (I3 R H KB ga n ca t B T hs (stL s) w) mu3 ⟨0, by omega, f, rfl, t188, hF, World.grownBy.refl _ _, rfl, hH⟩ ?_
  rintro a wq ⟨k, hk, f', rfl, t188', hF', hgr, hsz, hH'⟩
  by_cases h8 : k < 8
  · have htc : wq.cell? ⟨T, k, none⟩ = some (.int .u32 (gi (stL s) k)) := hgr.cell (row_cell hT (vW_at _ k (by show k < 8; omega))) (by simp; omega)
    have e := addTo_at hs (stL s) k k (Nat.le_refl _)
    refine Code.wp_mono ?_ (round3a R H KB ga n ca t B T (addTo hs (stL s) k) (by rw [addTo_length, hl]) (gi (stL s) k) w (postOf 8 (N3 R H KB ga n ca t B T 8 (turned hs s) w)) k f' wq h8 t188' hF' htc hgr hsz hH')
    intro x a' w' h
    cases x with
    | normal => refine ⟨⟨k + 1, by omega, ?_⟩, h.2⟩
                have h1 := h.1
                rw [e] at h1
                exact h1
    | _ => exact h
  · have e : k = 8 := by omega
    subst e
    rw [addTo_turned hs s hl] at hH'
    exact round3c R H KB ga n ca t B T _ w _ f' wq t188' hF' hgr hsz hH'
end Go.Proofs.YtlcenbhcegmnoaaDoor
