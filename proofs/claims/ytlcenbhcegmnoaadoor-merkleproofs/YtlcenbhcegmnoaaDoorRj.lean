import Derived.Test.YtlcenbhcegmnoaaDoorRi
namespace Go.Proofs.YtlcenbhcegmnoaaDoor
set_option linter.unusedSimpArgs false
set_option linter.unusedVariables false
open Go.RowKit
/-- What the slots hold in the loop over the blocks. -/
structure Fr0 (f : Nat → Value) (R H KB ga n ca t : Nat) : Prop where
  r : f 2 = .pointer (some ⟨R, 0, none⟩)
  h : f 3 = .pointer (some ⟨H, 0, none⟩)
  k : f 4 = .pointer (some ⟨KB, 0, none⟩)
  all : f 5 = .slice (some ⟨ga, 0, none⟩) n ca
  at_ : f 6 = .int .i64 t
def N0 (R H KB ga n ca t : Nat) (l : List Int) (w : World) (a : Act) (wq : World) : Prop :=
  ∃ f : Nat → Value, a = mkA f ∧ Fr0 f R H KB ga n ca t ∧ w.grownBy wq (some H) ∧ wq.heap[H]? = some (.cells (vW l) 34)
def mu0 (n : Nat) (a : Act) (_ : World) : Nat := n - (intOf (a.tmps.getD 6 undef)).toNat
theorem mu_mk0 (f : Nat → Value) : (mkA f).tmps.getD 6 undef = f 6 := rfl
theorem stL_stOf (hs : List Int) (h : hs.length = 8) : stL (stOf hs) = hs := by
  match hs, h with
  | [a, b, c, d, e, f, g, h], _ => rfl
set_option maxRecDepth 1000000 in
set_option maxHeartbeats 1000000 in
theorem round0a (R H KB ga ca t : Nat) (L hs S : List Int) (hl : hs.length = 8) (hS : S.length = 64) (w : World) (Q : Exit → Act → World → Prop) (f : Nat → Value) (wr : World) (hF : Fr0 f R H KB ga L.length ca t)
    (ht : t + 64 ≤ L.length) (hlm : L.length ≤ 9223372036854775807)
    (h1 : Hid (∀ f : Nat → Value, f 47 = .int .i64 0 → Fr1 f R H KB ga L.length ca t wr.heap.size → Code.wp Tryd.prog (.loop (((Tryd.f14.body.map loopsOf).getD []).getD 2 .skip)) (postOf 4 (R1 R H KB ga L.length ca t wr.heap.size S (wr.alloc (.cells (vW (zs 64)) 58)))) (mkA f) (wr.alloc (.cells (vW (zs 64)) 58))))
    (hHs : H < wr.heap.size) (hKs : KB < wr.heap.size) (hK : Hid (wr.heap[KB]? = some (.cells (vW kWords) 58))) (hgr : Hid (w.grownBy wr (some H))) (hH : Hid (wr.heap[H]? = some (.cells (vW hs) 34))) :
    Code.wp Tryd.prog (((Tryd.f14.body.map loopsOf).getD []).getD 1 .skip) (Exit.then (fun a' w' => N0 R H KB ga L.length ca (t + 64) (turned hs (stAt S (stOf hs) 64)) w a' w' ∧ mu0 L.length a' w' < mu0 L.length (mkA f) wr) Q) (mkA f) wr := by
  have hmu : mu0 L.length (mkA f) wr = L.length - t := by unfold mu0; rw [mu_mk0, hF.at_]; rfl
  rw [hmu]
  clear hmu
  obtain ⟨t2, t3, t4, t5, t6⟩ := hF
  unfold mkA
  conv => arg 2; whnf
  dsimp only
  go_wp2_with fail
  rw [act_lit _ rfl]
  refine Code.wp_mono ?_ (h1.out _ rfl ⟨t2, t3, t4, t5, t6, rfl⟩)
  clear h1
  rintro e a2 w2 h
  cases e with
  | exit m =>
    obtain ⟨rfl, f2, rfl, ⟨u2, u3, u4, u5, u6, u7⟩, b2, s2, hB2⟩ := h
    have s2' : wr.heap.size + 1 ≤ w2.heap.size := by rw [s2]; simp
    have e2 : ∀ j, j < wr.heap.size → w2.heap[j]? = wr.heap[j]? := fun j hj => by rw [b2.block _ hj, Below.heap_alloc _ _ _ hj]
    have b02 : Below wr.heap.size wr w2 := ((Below.refl _ _).alloc (Nat.le_refl _) _).trans b2
    have hH2 : Hid (w2.heap[H]? = some (.cells (vW hs) 34)) := by unfold Hid; rw [e2 H hHs]; exact hH.out
    have hK2 : Hid (w2.heap[KB]? = some (.cells (vW kWords) 58)) := by unfold Hid; rw [e2 KB hKs]; exact hK.out
    have hB2' : Hid (w2.heap[wr.heap.size]? = some (.cells (vW S) 58)) := hB2
    clear hB2 e2 s2 b2 hK hH
    unfold mkA
    go_wp2_with (first | (refine load35 rfl _ rfl H u3 hs hl 34 hH2.out ?_) | (refine store35 rfl _ _ rfl w2.heap.size hs rfl rfl hl 34 (zs 8) rfl (heap_alloc_new _ _) ?_; rw [World.setRow_alloc_new]))
    rw [act_lit _ rfl]
    have hst := stL_stOf hs hl
    refine @Code.wp_mono _ _ (postOf 6 (N2 R H KB ga L.length ca t wr.heap.size w2.heap.size 64 (stAt S (stOf hs) 64) (w2.alloc (.cells (vW hs) 34)))) _ _ _ ?_ ?_
    rotate_left
    · exact loop2 R H KB ga L.length ca t wr.heap.size w2.heap.size S hS (stOf hs) (w2.alloc (.cells (vW hs) 34)) _ rfl ⟨⟨rfl, rfl, rfl, rfl, rfl, rfl⟩, rfl⟩ (by omega) (by omega) (by rw [Below.heap_alloc _ _ _ (by omega)]; exact hK2.out) (by rw [Below.heap_alloc _ _ _ (by omega)]; exact hB2'.out) (by rw [hst]; exact heap_alloc_new _ _)
    clear hst
    rintro e a4 w4 h
    cases e with
    | exit m =>
      obtain ⟨rfl, f4, rfl, _, ⟨⟨v2, v3, v4, v5, v6, v7⟩, v11⟩, b4, s4, hT4⟩ := h
      have s4' : w2.heap.size + 1 ≤ w4.heap.size := by rw [s4]; simp
      have b04 : Below w2.heap.size w2 w4 := ((Below.refl _ _).alloc (Nat.le_refl _) _).trans b4
      have hH4 : Hid (w4.heap[H]? = some (.cells (vW hs) 34)) := by unfold Hid; rw [b4.block _ (by omega), Below.heap_alloc _ _ _ (by omega)]; exact hH2.out
      have hT4' : Hid (w4.heap[w2.heap.size]? = some (.cells (vW (stL (stAt S (stOf hs) 64))) 34)) := hT4
      clear hT4 s4 b4 hH2 hK2 hB2'
      obtain ⟨s, hs'⟩ : ∃ s, s = stAt S (stOf hs) 64 := ⟨_, rfl⟩
      rw [← hs'] at hT4'
      have hs'' : Hid (s = stAt S (stOf hs) 64) := hs'
      clear hs'
      unfold mkA
      go_wp2_with fail
      rw [act_lit _ rfl]
      refine @Code.wp_mono _ _ (postOf 8 (N3 R H KB ga L.length ca t wr.heap.size w2.heap.size 8 (turned hs s) w4)) _ _ _ ?_ ?_
      rotate_left
      · exact loop3 R H KB ga L.length ca t wr.heap.size w2.heap.size hs hl s w4 _ rfl ⟨⟨v2, v3, v4, v5, v6, v7⟩, v11⟩ (by omega) hH4.out hT4'.out
      rintro e a5 w5 h
      cases e with
      | exit m =>
        obtain ⟨rfl, f5, rfl, _, ⟨⟨x2, x3, x4, x5, x6, x7⟩, x11⟩, g5, s5, hH5⟩ := h
        have hH5' : Hid (w5.heap[H]? = some (.cells (vW (turned hs s)) 34)) := hH5
        clear hH5 hT4' hH4 s5
        unfold mkA
        go_wp2_with fail
        refine ⟨⟨_, act_lit _ rfl, ⟨x2, x3, x4, x5, by go_num⟩, ?_, by rw [← hs''.out]; exact hH5'.out⟩, ?_⟩
        · exact grown_trans (grown_trans (grown_trans hgr.out (grown_below b02 _)) (grown_below b04 _)) g5
        · show L.length - (intOf (.int .i64 ((t : Int) + 64))).toNat < L.length - t
          simp [intOf]; omega
      | _ => exact h.elim
    | _ => exact h.elim
  | _ => exact h.elim
end Go.Proofs.YtlcenbhcegmnoaaDoor
