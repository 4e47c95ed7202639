import Derived.Test.YtlcenbhcegmnoaaDoorRh
namespace Go.Proofs.YtlcenbhcegmnoaaDoor
set_option linter.unusedSimpArgs false
set_option linter.unusedVariables false
open Go.RowKit
/-- What the slots hold in the loop of the answer. -/
structure Fr5 (f : Nat → Value) (R H O : Nat) : Prop where
  r : f 2 = .pointer (some ⟨R, 0, none⟩)
  h : f 3 = .pointer (some ⟨H, 0, none⟩)
  o : f 18 = .pointer (some ⟨O, 0, none⟩)
def N5 (R H O k : Nat) (l : List Int) (w : World) (a : Act) (wq : World) : Prop :=
  ∃ f : Nat → Value, a = mkA f ∧ f 201 = .int .i64 k ∧ Fr5 f R H O ∧ Below O w wq ∧ wq.heap.size = w.heap.size ∧ wq.heap[O]? = some (.cells (vB l) 24)
def mu5 (a : Act) (_ : World) : Nat := 32 - (intOf (a.tmps.getD 201 undef)).toNat
theorem mu_mk5 (f : Nat → Value) : (mkA f).tmps.getD 201 undef = f 201 := rfl
set_option maxRecDepth 1000000 in
set_option maxHeartbeats 1000000 in
theorem round5a (R H O : Nat) (l : List Int) (hl : l.length = 32) (x : Int) (w : World) (Q : Exit → Act → World → Prop) (k : Nat) (f : Nat → Value) (wq : World) (hk : k < 32) (t201 : f 201 = .int .i64 k) (hF : Fr5 f R H O)
    (hxc : wq.cell? ⟨H, k / 4, none⟩ = some (.int .u32 x)) (hbl : Below O w wq) (hsz : Hid (wq.heap.size = w.heap.size)) (hO : Hid (wq.heap[O]? = some (.cells (vB l) 24))) :
    Code.wp Tryd.prog (((Tryd.f14.body.map loopsOf).getD []).getD 5 .skip) (Exit.then (fun a' w' => N5 R H O (k + 1) (l.set k (x / 2 ^ (24 - 8 * (k % 4)) % 256)) w a' w' ∧ mu5 a' w' < mu5 (mkA f) wq) Q) (mkA f) wq := by
  have hmu : mu5 (mkA f) wq = 32 - k := by unfold mu5; rw [mu_mk5, t201]; rfl
  rw [hmu]
  clear hmu
  have hc := row_cell hO.out (vB_at l k (by omega))
  have hfz : wq.frozen? ⟨O, k, none⟩ = false := frozen_of_row _ _ _ _ _ hO.out
  obtain ⟨t2, t3, t18⟩ := hF
  unfold mkA
  conv => arg 2; whnf
  dsimp only
  go_wp2_with fail
  refine ⟨⟨_, act_lit _ rfl, by go_num, ⟨t2, t3, t18⟩, hbl.setCell (Nat.le_refl _) _, ?_, ?_⟩, ?_⟩
  · rw [← hsz.out]; simp
  · rw [heap_setCell_same _ _ _ _ _ _ (show wq.heap[O]? = _ from hO.out), vB_set]
  · show 32 - (intOf (.int .i64 ((k : Int) + 1))).toNat < 32 - k
    simp [intOf]; omega
set_option maxRecDepth 1000000 in
set_option maxHeartbeats 1000000 in
theorem round5c (R H O : Nat) (l : List Int) (w : World) (X : Act → World → Prop) (f : Nat → Value) (wq : World) (t201 : f 201 = .int .i64 32) (hF : Fr5 f R H O)
    (hbl : Below O w wq) (hsz : Hid (wq.heap.size = w.heap.size)) (hO : Hid (wq.heap[O]? = some (.cells (vB l) 24))) :
    Code.wp Tryd.prog (((Tryd.f14.body.map loopsOf).getD []).getD 5 .skip) (Exit.then X (postOf 10 (N5 R H O 32 l w))) (mkA f) wq := by
  obtain ⟨t2, t3, t18⟩ := hF
  unfold mkA
  conv => arg 2; whnf
  dsimp only
  go_wp2_with fail
  exact ⟨rfl, _, act_lit _ rfl, t201, ⟨t2, t3, t18⟩, hbl, hsz.out, hO.out⟩
theorem take_stepN (N : Nat) (S : List Int) (hl : S.length = N) (k : Nat) (hk : k < N) : (S.take k ++ zs (N - k)).set k (gi S k) = S.take (k + 1) ++ zs (N - (k + 1)) := by
  have e := set_snoc (S.take k) (N - (k + 1)) (gi S k)
  rw [show (S.take k).length = k by simp; omega, show N - (k + 1) + 1 = N - k by omega] at e
  rw [e]
  have e2 : S.take k ++ [gi S k] = S.take (k + 1) := by
    rw [List.take_succ_eq_append_getElem (by omega)]
    unfold gi
    simp [hl, hk]
  rw [e2]
def I5 (R H O : Nat) (ws : List Int) (w : World) (a : Act) (wq : World) : Prop :=
  ∃ k : Nat, k ≤ 32 ∧ N5 R H O k ((outB ws).take k ++ zs (32 - k)) w a wq
theorem loop5 (R H O : Nat) (ws : List Int) (hl : ws.length = 8) (w : World) (f : Nat → Value) (t201 : f 201 = .int .i64 0) (hF : Fr5 f R H O) (hHO : H < O)
    (hH : w.heap[H]? = some (.cells (vW ws) 34)) (hO : w.heap[O]? = some (.cells (vB (zs 32)) 24)) :
    Code.wp Tryd.prog (.loop (((Tryd.f14.body.map loopsOf).getD []).getD 5 .skip)) (postOf 10 (N5 R H O 32 (outB ws) w)) (mkA f) w := by
  have hol : (outB ws).length = 32 := outTo_length ws 8
  refine wp_loop (I5 R H O ws w) mu5 ⟨0, by omega, f, rfl, t201, hF, Below.refl _ _, rfl, by simpa [zs] using hO⟩ ?_
  rintro a wq ⟨k, hk, f', rfl, t201', hF', hbl, hsz, hO'⟩
  by_cases h32 : k < 32
  · have hxc : wq.cell? ⟨H, k / 4, none⟩ = some (.int .u32 (gi ws (k / 4))) := by rw [hbl.cell (show H < O from hHO)]; exact row_cell hH (vW_at _ _ (by omega))
    have e := outTo_at ws 8 (by omega) k (by omega)
    have e2 := take_stepN 32 (outB ws) hol k h32
    refine Code.wp_mono ?_ (round5a R H O ((outB ws).take k ++ zs (32 - k)) (by simp [hol, zs_length]; omega) (gi ws (k / 4)) w (postOf 10 (N5 R H O 32 (outB ws) w)) k f' wq h32 t201' hF' hxc hbl hsz hO')
    intro x a' w' h
    cases x with
    | normal =>
      refine ⟨⟨k + 1, by omega, ?_⟩, h.2⟩
      rw [← e2]
      have h1 := h.1
      rw [← e] at h1
      exact h1
    | _ => exact h
  · have e : k = 32 := by omega
    subst e
    have e3 : (outB ws).take 32 ++ zs (32 - 32) = outB ws := by rw [List.take_of_length_le (by omega)]; simp [zs]
    rw [e3] at hO'
    exact round5c R H O _ w _ f' wq t201' hF' hbl hsz hO'
end Go.Proofs.YtlcenbhcegmnoaaDoor
