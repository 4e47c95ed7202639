import Derived.Test.YtlcenbhcegmnoaaDoorRe
namespace Go.Proofs.YtlcenbhcegmnoaaDoor
set_option linter.unusedSimpArgs false
set_option linter.unusedVariables false
open Go.RowKit
/-- Where the schedule's loop ends. -/
def R1 (R H KB ga n ca t B : Nat) (S : List Int) (w : World) (a : Act) (wq : World) : Prop :=
  ∃ f : Nat → Value, a = mkA f ∧ Fr1 f R H KB ga n ca t B ∧ Below B w wq ∧ wq.heap.size = w.heap.size ∧ wq.heap[B]? = some (.cells (vW S) 58)
set_option maxRecDepth 1000000 in
set_option maxHeartbeats 1000000 in
theorem round1c (R H KB ga n ca t B : Nat) (S : List Int) (w : World) (X : Act → World → Prop) (f : Nat → Value) (wq : World) (t47 : f 47 = .int .i64 64) (hF : Fr1 f R H KB ga n ca t B)
    (hbl : Below B w wq) (hsz : Hid (wq.heap.size = w.heap.size)) (hb : Hid (wq.heap[B]? = some (.cells (vW S) 58))) :
    Code.wp Tryd.prog (((Tryd.f14.body.map loopsOf).getD []).getD 2 .skip) (Exit.then X (postOf 4 (R1 R H KB ga n ca t B S w))) (mkA f) wq := by
  obtain ⟨t2, t3, t4, t5, t6, t7⟩ := hF
  unfold mkA
  conv => arg 2; whnf
  dsimp only
  go_wp2_with fail
  exact ⟨rfl, _, act_lit _ rfl, ⟨t2, t3, t4, t5, t6, t7⟩, hbl, hsz.out, hb.out⟩
theorem loop1 (R H KB ga ca t B : Nat) (L : List Int) (w : World) (f : Nat → Value) (t47 : f 47 = .int .i64 0) (hF : Fr1 f R H KB ga L.length ca t B)
    (ht : t + 64 ≤ L.length) (hca : L.length ≤ ca) (hcam : ca ≤ 9223372036854775807) (hby : ∀ x ∈ L, 0 ≤ x ∧ x ≤ 255) (hga : ga < B) (hra : w.rangeAt ga 0 (vB L).toList)
    (hb : w.heap[B]? = some (.cells (vW (zs 64)) 58)) :
    Code.wp Tryd.prog (.loop (((Tryd.f14.body.map loopsOf).getD []).getD 2 .skip)) (postOf 4 (R1 R H KB ga L.length ca t B (sched ((L.drop t).take 64)) w)) (mkA f) w := by
  have hS := sched_length ((L.drop t).take 64)
  refine wp_loop (I1 R H KB ga L.length ca t B (sched ((L.drop t).take 64)) w) mu1 ⟨0, f, rfl, by omega, t47, hF, Below.refl _ _, rfl, by simpa [zs] using hb⟩ ?_
  rintro a wq ⟨k, f', rfl, hk, t47', hF', hbl, hsz, hb'⟩
  by_cases h16 : k < 16
  · exact round1a R H KB ga ca t B L w _ k f' wq h16 t47' hF' ht hca hcam hby hga hra hbl hsz hb'
  · by_cases h64 : k < 64
    · exact round1b R H KB ga L.length ca t B _ hS w _ k f' wq (by omega) h64 t47' hF' (by unfold Hid; rw [nextR_eq]; exact sched_hi _ _ (by omega) h64) hbl hsz hb'
    · have e : k = 64 := by omega
      subst e
      refine round1c R H KB ga L.length ca t B _ w _ f' wq t47' hF' hbl hsz ?_
      unfold Hid
      rw [hb', List.take_of_length_le (by omega)]
      simp [zs]
end Go.Proofs.YtlcenbhcegmnoaaDoor
