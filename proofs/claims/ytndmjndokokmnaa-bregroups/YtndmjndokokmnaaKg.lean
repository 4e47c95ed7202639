import Derived.Test.YtndmjndokokmnaaKe
import Derived.Test.YtndmjndokokmnaaKf
namespace Go.Proofs.Ytndmjndokokmnaa
set_option linter.unusedSimpArgs false
set_option linter.unusedVariables false
open Go.RowKit
open Go.Deep
theorem eitherT_none (l : List T) (h : (flatK 9 l).length = 0) : eitherT l = .mk (Hd.of 8) [] := by unfold eitherT; rw [if_pos h]
theorem eitherT_some (l : List T) (h : (flatK 9 l).length ≠ 0) : eitherT l = onlyT 9 (flatK 9 l) := by unfold eitherT; rw [if_neg h]
set_option maxHeartbeats 1000000 in
set_option maxRecDepth 100000 in
theorem either_any (l : List T) (hc : countL l ≤ 1000000) (w : World) (u : Value) (hu : SV AnyB w u l) : Calls Try.prog 48 #[u] w (NodeO (fun b => w.heap.size ≤ b) (eitherT l) w) := by
  have Y0 : Hid (BoxN 55 (w.alloc (.cells (cN hd0 (.slice none 0 0)).toArray 55)) w.heap.size hd0 (.slice none 0 0)) := BoxN.new 55 w hd0 (.slice none 0 0)
  have B0 : Hid (Below w.heap.size w (w.alloc (.cells (cN hd0 (.slice none 0 0)).toArray 55))) := (Below.refl _ _).alloc (Nat.le_refl _) _
  have Z0 : Hid ((w.alloc (.cells (cN hd0 (.slice none 0 0)).toArray 55)).heap.size = w.heap.size + 1) := by unfold Hid; simp
  obtain ⟨m, hm⟩ : ∃ m, m = (flatK 9 l).length := ⟨_, rfl⟩
  have SPL : Hid (Calls Try.prog 69 #[.int .i64 9, u] (w.alloc (.cells (cN hd0 (.slice none 0 0)).toArray 55)) fun e w' => ∃ (av3 : Option Addr) (cp3 : Nat), e = .returned (.slice av3 m cp3) ∧ SV (fun b => w.heap.size + 1 ≤ b) w' (.slice av3 m cp3) (flatK 9 l) ∧ Below w.heap.size w w' ∧ BoxN 55 w' w.heap.size hd0 (.slice none 0 0)) := (spliced_any 9 l hc _ u (hu.below B0.out)).mono fun e w' ⟨u', q1, q2, q3⟩ => by
    rw [Z0.out] at q2
    obtain ⟨av3, cp3, _, _, e3, _⟩ := id q2
    rw [← hm] at e3
    subst e3
    exact ⟨av3, cp3, q1, q2, B0.out.trans (q3.mono B0.out.size), Y0.out.below q3 Y0.out.lt⟩
  have hml := flatK_len 9 l
  have hm6 : m ≤ 1000000 := by omega
  obtain ⟨av, cp, b, o, rfl, _⟩ := hu
  by_cases hm0 : m = 0
  · rw [eitherT_none l (by rw [← hm]; exact hm0)]
    unfold NodeO
    rw [T.hd_mk, T.kids_mk]
    clear hm hml hc
    subst hm0
    go_enter Try.func48, Try.ntmps48
    go_wp2_with (first | (go_at_call 69; refine SPL.out.mono ?_; rintro e w3 ⟨av3, cp3, rfl, s3, b3, y3⟩; have S3 : Hid (SV (fun b => w.heap.size + 1 ≤ b) w3 (.slice av3 0 cp3) (flatK 9 l)) := s3; have B3 : Hid (Below w.heap.size w w3) := b3; have Y3 : Hid (BoxN 55 w3 w.heap.size hd0 (.slice none 0 0)) := y3; clear s3 b3 y3) | (refine storeB55 rfl _ _ rfl w.heap.size rfl (Hd.of 8) (.slice none 0 0) rfl rfl hd0 _ Y3.out ?_))
    exact bodyPost_ret (v := vN (Hd.of 8) (.slice none 0 0)) (res55 2 Try.results48 _ _ w.heap.size _ _ rfl (Y3.out.row _ _)) rfl ⟨_, rfl, SV.nil _ _, below_row B3.out (Nat.le_refl _) _⟩
  · rw [eitherT_some l (by rw [← hm]; exact hm0)]
    have ONL : Hid (∀ (W : World) (u' : Value), SV (fun b => w.heap.size + 1 ≤ b) W u' (flatK 9 l) → Calls Try.prog 68 #[.int .i64 9, u'] W (NodeO (fun b => w.heap.size + 1 ≤ b) (onlyT 9 (flatK 9 l)) W)) := fun W u' h => onlyOr_any 9 (flatK 9 l) _ W u' h
    obtain ⟨J, hJ⟩ : ∃ J, J = onlyT 9 (flatK 9 l) := ⟨_, rfl⟩
    rw [← hJ] at ONL ⊢
    have hm1 : ((m : Int) == 0) = false := by simpa using hm0
    have hm2 : ¬ (m : Int) = 0 := by omega
    obtain ⟨h', l', rfl⟩ := J.out
    clear hJ hm hml hc hm0
    unfold NodeO
    rw [T.hd_mk, T.kids_mk]
    go_enter Try.func48, Try.ntmps48
    go_wp2_with (first | (go_at_call 69; refine SPL.out.mono ?_; rintro e w3 ⟨av3, cp3, rfl, s3, b3, y3⟩; have S3 : Hid (SV (fun b => w.heap.size + 1 ≤ b) w3 (.slice av3 m cp3) (flatK 9 l)) := s3; have B3 : Hid (Below w.heap.size w w3) := b3; have Y3 : Hid (BoxN 55 w3 w.heap.size hd0 (.slice none 0 0)) := y3; clear s3 b3 y3) | (go_at_call 68; refine (ONL.out _ _ S3.out).mono ?_; rintro e w4 ⟨u4, rfl, s4, b4⟩; rw [T.hd_mk]; have S4 : Hid (SV (fun b => w.heap.size + 1 ≤ b) w4 u4 l') := (by rw [T.kids_mk] at s4; exact s4); have B4 : Hid (Below w.heap.size w w4) := B3.out.trans (b4.mono B3.out.size); have Y4 : Hid (BoxN 55 w4 w.heap.size hd0 (.slice none 0 0)) := Y3.out.below b4 Y3.out.lt; have O4 : Hid (u4.oneCell' = true) := s4.one; clear s4 b4) | (refine storeB55 rfl _ _ rfl w.heap.size rfl h' _ O4.out rfl hd0 _ Y4.out ?_))
    exact bodyPost_ret (v := vN h' u4) (res55 2 Try.results48 _ _ w.heap.size _ _ rfl (Y4.out.row _ _)) rfl ⟨_, rfl, S4.out.keep (by simp [World.setRow]) fun b q _ => ⟨by omega, setRow_other _ _ _ _ (by omega)⟩, below_row B4.out (Nat.le_refl _) _⟩
set_option maxHeartbeats 1000000 in
set_option maxRecDepth 100000 in
theorem rjoin_any (l : List T) (hc : countL l ≤ 1000000) (w : World) (u : Value) (hu : SV AnyB w u l) : Calls Try.prog 47 #[u] w (NodeO AnyB (joinT l) w) := by
  have Y0 : Hid (BoxN 51 (w.alloc (.cells (cN hd0 (.slice none 0 0)).toArray 51)) w.heap.size hd0 (.slice none 0 0)) := BoxN.new 51 w hd0 (.slice none 0 0)
  have B0 : Hid (Below w.heap.size w (w.alloc (.cells (cN hd0 (.slice none 0 0)).toArray 51))) := (Below.refl _ _).alloc (Nat.le_refl _) _
  have Z0 : Hid ((w.alloc (.cells (cN hd0 (.slice none 0 0)).toArray 51)).heap.size = w.heap.size + 1) := by unfold Hid; simp
  obtain ⟨m, hm⟩ : ∃ m, m = (flatK 8 l).length := ⟨_, rfl⟩
  have SPL : Hid (Calls Try.prog 70 #[.int .i64 8, u] (w.alloc (.cells (cN hd0 (.slice none 0 0)).toArray 51)) fun e w' => ∃ (av3 : Option Addr) (cp3 : Nat), e = .returned (.slice av3 m cp3) ∧ SV (fun b => b < w.heap.size ∨ w.heap.size + 1 ≤ b) w' (.slice av3 m cp3) (flatK 8 l) ∧ Below w.heap.size w w' ∧ BoxN 51 w' w.heap.size hd0 (.slice none 0 0)) := (flat_any 8 l (fun b => b < w.heap.size) hc _ u ((hu.weak (fun b _ hb => hb)).below B0.out)).mono fun e w' ⟨u', q1, q2, q3⟩ => by
    rw [Z0.out] at q2
    obtain ⟨av3, cp3, _, _, e3, _⟩ := id q2
    rw [← hm] at e3
    subst e3
    exact ⟨av3, cp3, q1, q2, B0.out.trans (q3.mono B0.out.size), Y0.out.below q3 Y0.out.lt⟩
  have hml := flatK_len 8 l
  have hm6 : m ≤ 1000000 := by omega
  obtain ⟨av, cp, b, o, rfl, _⟩ := hu
  show Calls Try.prog 47 #[_] w (NodeO AnyB (onlyT 8 (flatK 8 l)) w)
  have hm0 : True := trivial
  by_cases hmo : m = 1
  · obtain ⟨t, hft⟩ := List.length_eq_one_iff.1 (show (flatK 8 l).length = 1 by rw [← hm]; exact hmo)
    rw [hft, onlyT_one]
    have EL : Hid (∀ (W : World) (av3 : Option Addr) (cp3 : Nat), SV (fun b => b < w.heap.size ∨ w.heap.size + 1 ≤ b) W (.slice av3 1 cp3) [t] → ∃ b3 o3 u3, av3 = some ⟨b3, o3, none⟩ ∧ W.rangeAt b3 o3 (cN t.hd u3) ∧ SV (fun b => b < w.heap.size ∨ w.heap.size + 1 ≤ b) W u3 t.kids) := fun W av3 cp3 h => by
      obtain ⟨avx, cpx, bx, ox, ex, _, _, h3, h4⟩ := h
      injection ex with e1 _ e2
      subst e1 e2
      have hat := (LAt_cons _ _ _ _ _ _ |>.mp h4).1
      obtain ⟨h', l', rfl⟩ := t.out
      obtain ⟨u', r1, _, _, r4⟩ := hat.out
      exact ⟨bx, ox, u', h3 (by simp), by rw [T.hd_mk]; exact r1, by rw [T.kids_mk]; exact r4⟩
    rw [hft] at SPL
    obtain ⟨h', l', rfl⟩ := t.out
    rw [T.hd_mk, T.kids_mk] at EL
    unfold NodeO
    rw [T.hd_mk, T.kids_mk]
    clear hm hml hc hft hm0
    subst hmo
    go_enter Try.func47, Try.ntmps47
    go_wp2_with (first | (go_at_call 70; refine SPL.out.mono ?_; rintro e w3 ⟨av3, cp3, rfl, s3, b3, y3⟩; have S3 : Hid (SV (fun b => b < w.heap.size ∨ w.heap.size + 1 ≤ b) w3 (.slice av3 1 cp3) [T.mk h' l']) := s3; have B3 : Hid (Below w.heap.size w w3) := b3; have Y3 : Hid (BoxN 51 w3 w.heap.size hd0 (.slice none 0 0)) := y3; clear s3 b3 y3; obtain ⟨bb3, oo3, u3, he3, r3, v3⟩ := EL.out _ _ _ S3.out; subst he3; have R3 : Hid (w3.rangeAt bb3 oo3 (cN h' u3)) := r3; have V3 : Hid (SV (fun b => b < w.heap.size ∨ w.heap.size + 1 ≤ b) w3 u3 l') := v3; have O3 : Hid (u3.oneCell' = true) := v3.one; clear r3 v3) | (refine loadN51 rfl _ rfl bb3 oo3 rfl h' _ R3.out ?_) | (refine storeB51 rfl _ _ rfl w.heap.size rfl h' _ O3.out rfl hd0 _ Y3.out ?_))
    have B5 : Below w3.heap.size w3 w3 := Below.refl _ _
    exact bodyPost_ret (v := vN h' u3) (res51 2 Try.results47 _ _ w.heap.size _ _ rfl (Y3.out.row _ _)) rfl ⟨_, rfl, V3.out.keep (by simp [World.setRow]) fun b q _ => ⟨trivial, setRow_other _ _ _ _ (by omega)⟩, below_row B3.out (Nat.le_refl _) _⟩
  · rw [onlyT_more 8 _ (by rw [← hm]; exact hmo)]
    have hm1 : ((m : Int) == 1) = false := by
      have h : ¬ (m : Int) = 1 := by omega
      simpa using h
    have hm2 : ¬ (m : Int) = 1 := by omega
    unfold NodeO
    rw [T.hd_mk, T.kids_mk]
    clear hm hml hc hmo hm0
    go_enter Try.func47, Try.ntmps47
    go_wp2_with (first | (go_at_call 70; refine SPL.out.mono ?_; rintro e w3 ⟨av3, cp3, rfl, s3, b3, y3⟩; have S3 : Hid (SV (fun b => b < w.heap.size ∨ w.heap.size + 1 ≤ b) w3 (.slice av3 m cp3) (flatK 8 l)) := s3; have B3 : Hid (Below w.heap.size w w3) := b3; have Y3 : Hid (BoxN 51 w3 w.heap.size hd0 (.slice none 0 0)) := y3; clear s3 b3 y3) | (refine storeB51 rfl _ _ rfl w.heap.size rfl (Hd.of 8) (.slice av3 m cp3) rfl rfl hd0 _ Y3.out ?_))
    exact bodyPost_ret (v := vN (Hd.of 8) (.slice av3 m cp3)) (res51 2 Try.results47 _ _ w.heap.size _ _ rfl (Y3.out.row _ _)) rfl ⟨_, rfl, S3.out.keep (by simp [World.setRow]) fun b q _ => ⟨trivial, setRow_other _ _ _ _ (by omega)⟩, below_row B3.out (Nat.le_refl _) _⟩
set_option maxHeartbeats 1000000 in
set_option maxRecDepth 100000 in
theorem reither_any (l : List T) (hc : countL l ≤ 1000000) (w : World) (u : Value) (hu : SV AnyB w u l) : Calls Try.prog 49 #[u] w (NodeO AnyB (eitherT l) w) := by
  have Y0 : Hid (BoxN 51 (w.alloc (.cells (cN hd0 (.slice none 0 0)).toArray 51)) w.heap.size hd0 (.slice none 0 0)) := BoxN.new 51 w hd0 (.slice none 0 0)
  have B0 : Hid (Below w.heap.size w (w.alloc (.cells (cN hd0 (.slice none 0 0)).toArray 51))) := (Below.refl _ _).alloc (Nat.le_refl _) _
  have Z0 : Hid ((w.alloc (.cells (cN hd0 (.slice none 0 0)).toArray 51)).heap.size = w.heap.size + 1) := by unfold Hid; simp
  obtain ⟨m, hm⟩ : ∃ m, m = (flatK 9 l).length := ⟨_, rfl⟩
  have SPL : Hid (Calls Try.prog 70 #[.int .i64 9, u] (w.alloc (.cells (cN hd0 (.slice none 0 0)).toArray 51)) fun e w' => ∃ (av3 : Option Addr) (cp3 : Nat), e = .returned (.slice av3 m cp3) ∧ SV (fun b => b < w.heap.size ∨ w.heap.size + 1 ≤ b) w' (.slice av3 m cp3) (flatK 9 l) ∧ Below w.heap.size w w' ∧ BoxN 51 w' w.heap.size hd0 (.slice none 0 0)) := (flat_any 9 l (fun b => b < w.heap.size) hc _ u ((hu.weak (fun b _ hb => hb)).below B0.out)).mono fun e w' ⟨u', q1, q2, q3⟩ => by
    rw [Z0.out] at q2
    obtain ⟨av3, cp3, _, _, e3, _⟩ := id q2
    rw [← hm] at e3
    subst e3
    exact ⟨av3, cp3, q1, q2, B0.out.trans (q3.mono B0.out.size), Y0.out.below q3 Y0.out.lt⟩
  have hml := flatK_len 9 l
  have hm6 : m ≤ 1000000 := by omega
  obtain ⟨av, cp, b, o, rfl, _⟩ := hu
  by_cases hm0 : m = 0
  · rw [eitherT_none l (by rw [← hm]; exact hm0)]
    unfold NodeO
    rw [T.hd_mk, T.kids_mk]
    clear hm hml hc
    subst hm0
    go_enter Try.func49, Try.ntmps49
    go_wp2_with (first | (go_at_call 70; refine SPL.out.mono ?_; rintro e w3 ⟨av3, cp3, rfl, s3, b3, y3⟩; have S3 : Hid (SV (fun b => b < w.heap.size ∨ w.heap.size + 1 ≤ b) w3 (.slice av3 0 cp3) (flatK 9 l)) := s3; have B3 : Hid (Below w.heap.size w w3) := b3; have Y3 : Hid (BoxN 51 w3 w.heap.size hd0 (.slice none 0 0)) := y3; clear s3 b3 y3) | (refine storeB51 rfl _ _ rfl w.heap.size rfl (Hd.of 8) (.slice none 0 0) rfl rfl hd0 _ Y3.out ?_))
    exact bodyPost_ret (v := vN (Hd.of 8) (.slice none 0 0)) (res51 2 Try.results49 _ _ w.heap.size _ _ rfl (Y3.out.row _ _)) rfl ⟨_, rfl, SV.nil _ _, below_row B3.out (Nat.le_refl _) _⟩
  rw [eitherT_some l (by rw [← hm]; exact hm0)]
  have hm3 : ((m : Int) == 0) = false := by simpa using hm0
  have hm4 : ¬ (m : Int) = 0 := by omega
  by_cases hmo : m = 1
  · obtain ⟨t, hft⟩ := List.length_eq_one_iff.1 (show (flatK 9 l).length = 1 by rw [← hm]; exact hmo)
    rw [hft, onlyT_one]
    have EL : Hid (∀ (W : World) (av3 : Option Addr) (cp3 : Nat), SV (fun b => b < w.heap.size ∨ w.heap.size + 1 ≤ b) W (.slice av3 1 cp3) [t] → ∃ b3 o3 u3, av3 = some ⟨b3, o3, none⟩ ∧ W.rangeAt b3 o3 (cN t.hd u3) ∧ SV (fun b => b < w.heap.size ∨ w.heap.size + 1 ≤ b) W u3 t.kids) := fun W av3 cp3 h => by
      obtain ⟨avx, cpx, bx, ox, ex, _, _, h3, h4⟩ := h
      injection ex with e1 _ e2
      subst e1 e2
      have hat := (LAt_cons _ _ _ _ _ _ |>.mp h4).1
      obtain ⟨h', l', rfl⟩ := t.out
      obtain ⟨u', r1, _, _, r4⟩ := hat.out
      exact ⟨bx, ox, u', h3 (by simp), by rw [T.hd_mk]; exact r1, by rw [T.kids_mk]; exact r4⟩
    rw [hft] at SPL
    obtain ⟨h', l', rfl⟩ := t.out
    rw [T.hd_mk, T.kids_mk] at EL
    unfold NodeO
    rw [T.hd_mk, T.kids_mk]
    clear hm hml hc hft hm0 hm3 hm4
    subst hmo
    go_enter Try.func49, Try.ntmps49
    go_wp2_with (first | (go_at_call 70; refine SPL.out.mono ?_; rintro e w3 ⟨av3, cp3, rfl, s3, b3, y3⟩; have S3 : Hid (SV (fun b => b < w.heap.size ∨ w.heap.size + 1 ≤ b) w3 (.slice av3 1 cp3) [T.mk h' l']) := s3; have B3 : Hid (Below w.heap.size w w3) := b3; have Y3 : Hid (BoxN 51 w3 w.heap.size hd0 (.slice none 0 0)) := y3; clear s3 b3 y3; obtain ⟨bb3, oo3, u3, he3, r3, v3⟩ := EL.out _ _ _ S3.out; subst he3; have R3 : Hid (w3.rangeAt bb3 oo3 (cN h' u3)) := r3; have V3 : Hid (SV (fun b => b < w.heap.size ∨ w.heap.size + 1 ≤ b) w3 u3 l') := v3; have O3 : Hid (u3.oneCell' = true) := v3.one; clear r3 v3) | (refine loadN51 rfl _ rfl bb3 oo3 rfl h' _ R3.out ?_) | (refine storeB51 rfl _ _ rfl w.heap.size rfl h' _ O3.out rfl hd0 _ Y3.out ?_))
    have B5 : Below w3.heap.size w3 w3 := Below.refl _ _
    exact bodyPost_ret (v := vN h' u3) (res51 2 Try.results49 _ _ w.heap.size _ _ rfl (Y3.out.row _ _)) rfl ⟨_, rfl, V3.out.keep (by simp [World.setRow]) fun b q _ => ⟨trivial, setRow_other _ _ _ _ (by omega)⟩, below_row B3.out (Nat.le_refl _) _⟩
  · rw [onlyT_more 9 _ (by rw [← hm]; exact hmo)]
    have hm1 : ((m : Int) == 1) = false := by
      have h : ¬ (m : Int) = 1 := by omega
      simpa using h
    have hm2 : ¬ (m : Int) = 1 := by omega
    unfold NodeO
    rw [T.hd_mk, T.kids_mk]
    clear hm hml hc hmo hm0
    go_enter Try.func49, Try.ntmps49
    go_wp2_with (first | (go_at_call 70; refine SPL.out.mono ?_; rintro e w3 ⟨av3, cp3, rfl, s3, b3, y3⟩; have S3 : Hid (SV (fun b => b < w.heap.size ∨ w.heap.size + 1 ≤ b) w3 (.slice av3 m cp3) (flatK 9 l)) := s3; have B3 : Hid (Below w.heap.size w w3) := b3; have Y3 : Hid (BoxN 51 w3 w.heap.size hd0 (.slice none 0 0)) := y3; clear s3 b3 y3) | (refine storeB51 rfl _ _ rfl w.heap.size rfl (Hd.of 9) (.slice av3 m cp3) rfl rfl hd0 _ Y3.out ?_))
    exact bodyPost_ret (v := vN (Hd.of 9) (.slice av3 m cp3)) (res51 2 Try.results49 _ _ w.heap.size _ _ rfl (Y3.out.row _ _)) rfl ⟨_, rfl, S3.out.keep (by simp [World.setRow]) fun b q _ => ⟨trivial, setRow_other _ _ _ _ (by omega)⟩, below_row B3.out (Nat.le_refl _) _⟩
end Go.Proofs.Ytndmjndokokmnaa
