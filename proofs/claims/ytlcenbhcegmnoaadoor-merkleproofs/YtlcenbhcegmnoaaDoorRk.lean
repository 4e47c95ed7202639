import Derived.Test.YtlcenbhcegmnoaaDoorRj
namespace Go.Proofs.YtlcenbhcegmnoaaDoor
set_option linter.unusedSimpArgs false
set_option linter.unusedVariables false
open Go.RowKit
set_option maxRecDepth 1000000 in
set_option maxHeartbeats 1000000 in
theorem round0c (R H KB ga n ca : Nat) (l : List Int) (w : World) (X : Act → World → Prop) (f : Nat → Value) (wr : World) (hn : n ≤ 9223372036854775807) (hF : Fr0 f R H KB ga n ca n)
    (hgr : Hid (w.grownBy wr (some H))) (hH : Hid (wr.heap[H]? = some (.cells (vW l) 34))) :
    Code.wp Tryd.prog (((Tryd.f14.body.map loopsOf).getD []).getD 1 .skip) (Exit.then X (postOf 2 (N0 R H KB ga n ca n l w))) (mkA f) wr := by
  obtain ⟨t2, t3, t4, t5, t6⟩ := hF
  unfold mkA
  conv => arg 2; whnf
  dsimp only
  go_wp2_with fail
  exact ⟨rfl, _, act_lit _ rfl, by first | exact ⟨t2, t3, t4, t5, t6⟩ | exact ⟨t2, t3, t4, rfl, rfl⟩ | exact ⟨rfl, rfl, rfl, rfl, rfl⟩, hgr.out, hH.out⟩
def I0 (R H KB ga ca : Nat) (L : List Int) (w : World) (a : Act) (wq : World) : Prop :=
  ∃ j : Nat, 64 * j ≤ L.length ∧ N0 R H KB ga L.length ca (64 * j) (wordsTo L j) w a wq
theorem loop0 (R H KB ga ca : Nat) (L : List Int) (w : World) (f : Nat → Value) (hF : Fr0 f R H KB ga L.length ca 0) (hL : L.length % 64 = 0) (hca : L.length ≤ ca) (hcam : ca ≤ 9223372036854775807) (hby : ∀ x ∈ L, 0 ≤ x ∧ x ≤ 255)
    (hga : ga < w.heap.size) (hgH : ga ≠ H) (hra : w.rangeAt ga 0 (vB L).toList) (hHs : H < w.heap.size) (hKs : KB < w.heap.size) (hKH : KB ≠ H) (hK : w.heap[KB]? = some (.cells (vW kWords) 58)) (hH : w.heap[H]? = some (.cells (vW hWords) 34)) :
    Code.wp Tryd.prog (.loop (((Tryd.f14.body.map loopsOf).getD []).getD 1 .skip)) (postOf 2 (N0 R H KB ga L.length ca L.length (wordsOf L) w)) (mkA f) w := by
  refine wp_loop (I0 R H KB ga ca L w) (mu0 L.length) ⟨0, by omega, f, rfl, hF, World.grownBy.refl _ _, hH⟩ ?_
  rintro a wr ⟨j, hj, f', rfl, hF', hgr, hH'⟩
  have hs := hgr.size
  by_cases h : 64 * j < L.length
  · have hK' : wr.heap[KB]? = some (.cells (vW kWords) 58) := by rw [hgr.block _ hKs (by simp; omega)]; exact hK
    have hra' : wr.rangeAt ga 0 (vB L).toList := fun m v hv => hgr.cell (hra m v hv) (by simp; omega)
    have ht : 64 * j + 64 ≤ L.length := by omega
    have h1 : ∀ f : Nat → Value, f 47 = .int .i64 0 → Fr1 f R H KB ga L.length ca (64 * j) wr.heap.size → Code.wp Tryd.prog (.loop (((Tryd.f14.body.map loopsOf).getD []).getD 2 .skip)) (postOf 4 (R1 R H KB ga L.length ca (64 * j) wr.heap.size (sched ((L.drop (64 * j)).take 64)) (wr.alloc (.cells (vW (zs 64)) 58)))) (mkA f) (wr.alloc (.cells (vW (zs 64)) 58)) := fun f h47 hf =>
      loop1 R H KB ga ca (64 * j) wr.heap.size L (wr.alloc (.cells (vW (zs 64)) 58)) f h47 hf ht hca hcam hby (by omega) (fun m v hv => by rw [Below.cell ((Below.refl _ _).alloc (Nat.le_refl _) _) (show ga < wr.heap.size by omega)]; exact hra' m v hv) (heap_alloc_new _ _)
    refine Code.wp_mono ?_ (round0a R H KB ga ca (64 * j) L (wordsTo L j) (sched ((L.drop (64 * j)).take 64)) (wordsTo_length L j) (sched_length _) w (postOf 2 (N0 R H KB ga L.length ca L.length (wordsOf L) w)) f' wr hF' ht (by omega) h1 (by omega) (by omega) hK' hgr hH')
    intro x a' w' h
    cases x with
    | normal => exact ⟨⟨j + 1, by omega, h.1⟩, h.2⟩
    | _ => exact h
  · have e : 64 * j = L.length := by omega
    have ej : j = L.length / 64 := by omega
    rw [e] at hF'
    have hH'' : wr.heap[H]? = some (.cells (vW (wordsOf L)) 34) := by unfold wordsOf; rw [← ej]; exact hH'
    exact round0c R H KB ga L.length ca (wordsOf L) w _ f' wr (by omega) hF' hgr hH''
end Go.Proofs.YtlcenbhcegmnoaaDoor
