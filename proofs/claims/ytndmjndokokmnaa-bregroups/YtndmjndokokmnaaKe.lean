import Derived.Test.YtndmjndokokmnaaKd
namespace Go.Proofs.Ytndmjndokokmnaa
set_option linter.unusedSimpArgs false
set_option linter.unusedVariables false
open Go.RowKit
open Go.Deep
theorem onlyT_one (k : Int) (t : T) : onlyT k [t] = t := rfl
theorem onlyT_more (k : Int) (l : List T) (h : l.length ≠ 1) : onlyT k l = .mk (Hd.of k) l := by
  match l, h with
  | [], _ => rfl
  | [t], h => exact absurd rfl h
  | a :: b :: r, _ => rfl
/-- What a node of the call's own is handed back as. -/
def NodeO (S : Nat → Prop) (t : T) (w : World) (e : Ending) (w' : World) : Prop := ∃ u', e = .returned (vN t.hd u') ∧ SV S w' u' t.kids ∧ Below w.heap.size w w'
set_option maxHeartbeats 1000000 in
set_option maxRecDepth 100000 in
theorem onlyOr_any (k : Int) (m : List T) (S : Nat → Prop) (w : World) (u : Value) (hu : SV S w u m) : Calls Try.prog 68 #[.int .i64 k, u] w (NodeO S (onlyT k m) w) := by
  have HU : Hid (SV S w u m) := hu
  obtain ⟨av, cp, b, o, rfl, h1, h2, h3, h4⟩ := hu
  have Y0 : Hid (BoxN 55 (w.alloc (.cells (cN hd0 (.slice none 0 0)).toArray 55)) w.heap.size hd0 (.slice none 0 0)) := BoxN.new 55 w hd0 (.slice none 0 0)
  have B0 : Hid (Below w.heap.size w (w.alloc (.cells (cN hd0 (.slice none 0 0)).toArray 55))) := (Below.refl _ _).alloc (Nat.le_refl _) _
  by_cases hm : m.length = 1
  · obtain ⟨t, rfl⟩ := List.length_eq_one_iff.1 hm
    have hat := (LAt_cons _ _ _ _ _ _ |>.mp h4).1
    have hav := h3 (by rw [hm]; omega)
    rw [onlyT_one]
    obtain ⟨h', l', rfl⟩ := t.out
    obtain ⟨u', r1, _, r3, r4⟩ := hat.out
    have HR : Hid ((w.alloc (.cells (cN hd0 (.slice none 0 0)).toArray 55)).rangeAt b o (cN h' u')) := range_block r1 (B0.out.block b r3)
    have O4 : Hid (u'.oneCell' = true) := r4.one
    have S4 : Hid (SV S w u' l') := r4
    subst hav
    rw [hm]
    clear h4 hat r1 r3 r4 h1 h3 hm HU
    unfold NodeO
    rw [T.hd_mk, T.kids_mk]
    go_enter Try.func68, Try.ntmps68
    go_wp2_with (first | (refine loadN55 rfl _ rfl b o rfl h' _ HR.out ?_) | (refine storeB55 rfl _ _ rfl w.heap.size rfl h' _ O4.out rfl hd0 _ Y0.out ?_))
    have B4 : Below w.heap.size w ((w.alloc (.cells (cN hd0 (.slice none 0 0)).toArray 55)).setRow w.heap.size (cN h' u').toArray) := below_row B0.out (Nat.le_refl _) _
    exact bodyPost_ret (v := vN h' u') (res55 4 Try.results68 _ _ w.heap.size _ _ rfl (Y0.out.row _ _)) rfl ⟨_, rfl, S4.out.below B4, B4⟩
  · rw [onlyT_more k m hm]
    have hm1 : ((m.length : Int) == 1) = false := by
      have h : ¬ (m.length : Int) = 1 := by omega
      simpa using h
    have hm2 : ¬ (m.length : Int) = 1 := by omega
    obtain ⟨n, hn⟩ : ∃ n, n = m.length := ⟨_, rfl⟩
    rw [← hn] at hm1 hm2 HU ⊢
    clear hm h1 h3 h4 hn
    unfold NodeO
    rw [T.hd_mk, T.kids_mk]
    go_enter Try.func68, Try.ntmps68
    go_wp2_with (first | (refine storeB55 rfl _ _ rfl w.heap.size rfl (Hd.of k) (.slice av n cp) rfl rfl hd0 _ Y0.out ?_))
    have B4 : Below w.heap.size w ((w.alloc (.cells (cN hd0 (.slice none 0 0)).toArray 55)).setRow w.heap.size (cN (Hd.of k) (.slice av n cp)).toArray) := below_row B0.out (Nat.le_refl _) _
    exact bodyPost_ret (v := vN (Hd.of k) (.slice av n cp)) (res55 4 Try.results68 _ _ w.heap.size _ _ rfl (Y0.out.row _ _)) rfl ⟨_, rfl, HU.out.below B4, B4⟩
set_option maxHeartbeats 1000000 in
set_option maxRecDepth 100000 in
theorem join_any (l : List T) (hc : countL l ≤ 1000000) (w : World) (u : Value) (hu : SV AnyB w u l) : Calls Try.prog 46 #[u] w (NodeO (fun b => w.heap.size ≤ b) (joinT l) w) := by
  have Y0 : Hid (BoxN 55 (w.alloc (.cells (cN hd0 (.slice none 0 0)).toArray 55)) w.heap.size hd0 (.slice none 0 0)) := BoxN.new 55 w hd0 (.slice none 0 0)
  have B0 : Hid (Below w.heap.size w (w.alloc (.cells (cN hd0 (.slice none 0 0)).toArray 55))) := (Below.refl _ _).alloc (Nat.le_refl _) _
  have Z0 : Hid ((w.alloc (.cells (cN hd0 (.slice none 0 0)).toArray 55)).heap.size = w.heap.size + 1) := by unfold Hid; simp
  have SPL : Hid (Calls Try.prog 69 #[.int .i64 8, u] (w.alloc (.cells (cN hd0 (.slice none 0 0)).toArray 55)) fun e w' => ∃ u', e = .returned u' ∧ SV (fun b => w.heap.size + 1 ≤ b) w' u' (flatK 8 l) ∧ Below w.heap.size w w' ∧ BoxN 55 w' w.heap.size hd0 (.slice none 0 0)) := (spliced_any 8 l hc _ u (hu.below B0.out)).mono fun e w' ⟨u', q1, q2, q3⟩ => ⟨u', q1, by rw [Z0.out] at q2; exact q2, B0.out.trans (q3.mono B0.out.size), Y0.out.below q3 Y0.out.lt⟩
  have ONL : Hid (∀ (W : World) (u' : Value), SV (fun b => w.heap.size + 1 ≤ b) W u' (flatK 8 l) → Calls Try.prog 68 #[.int .i64 8, u'] W (NodeO (fun b => w.heap.size + 1 ≤ b) (joinT l) W)) := fun W u' h => onlyOr_any 8 (flatK 8 l) _ W u' h
  obtain ⟨J, hJ⟩ : ∃ J, J = joinT l := ⟨_, rfl⟩
  rw [← hJ] at ONL ⊢
  obtain ⟨av, cp, b, o, rfl, _⟩ := hu
  obtain ⟨h', l', rfl⟩ := J.out
  clear hJ
  unfold NodeO
  rw [T.hd_mk, T.kids_mk]
  go_enter Try.func46, Try.ntmps46
  go_wp2_with (first | (go_at_call 69; refine SPL.out.mono ?_; rintro e w3 ⟨u3, rfl, s3, b3, y3⟩; have S3 : Hid (SV (fun b => w.heap.size + 1 ≤ b) w3 u3 (flatK 8 l)) := s3; have B3 : Hid (Below w.heap.size w w3) := b3; have Y3 : Hid (BoxN 55 w3 w.heap.size hd0 (.slice none 0 0)) := y3; clear s3 b3 y3) | (go_at_call 68; refine (ONL.out _ _ S3.out).mono ?_; rintro e w4 ⟨u4, rfl, s4, b4⟩; rw [T.hd_mk]; have S4 : Hid (SV (fun b => w.heap.size + 1 ≤ b) w4 u4 l') := (by rw [T.kids_mk] at s4; exact s4); have B4 : Hid (Below w.heap.size w w4) := B3.out.trans (b4.mono B3.out.size); have Y4 : Hid (BoxN 55 w4 w.heap.size hd0 (.slice none 0 0)) := Y3.out.below b4 Y3.out.lt; have O4 : Hid (u4.oneCell' = true) := s4.one; clear s4 b4) | (refine storeB55 rfl _ _ rfl w.heap.size rfl h' _ O4.out rfl hd0 _ Y4.out ?_))
  have B5 : Below w.heap.size w (w4.setRow w.heap.size (cN h' u4).toArray) := below_row B4.out (Nat.le_refl _) _
  exact bodyPost_ret (v := vN h' u4) (res55 2 Try.results46 _ _ w.heap.size _ _ rfl (Y4.out.row _ _)) rfl ⟨_, rfl, S4.out.keep (by simp [World.setRow]) fun b q _ => ⟨by omega, setRow_other _ _ _ _ (by omega)⟩, B5⟩
end Go.Proofs.Ytndmjndokokmnaa
