import Derived.Test.YtndmjndokokmnaaFa
import Derived.Test.YtndmjndokokmnaaEa
namespace Go.Proofs.Ytndmjndokokmnaa
set_option linter.unusedSimpArgs false
set_option linter.unusedVariables false
open Go.RowKit
open Go.Deep
def IxR (r : Int) (R : Bool) : Prop := decide (0 ≤ r) = R
set_option maxHeartbeats 1000000 in
set_option maxRecDepth 100000 in
theorem index_any (ks : List Int) (b o cp : Nat) (v : Int) (w : World) (hr : w.rangeAt b o (ks.map (Value.int .i64))) (hcp : ks.length ≤ cp) (hc2 : cp ≤ 9223372036854775807) :
    Calls Try.prog 129 #[.slice (some ⟨b, o, none⟩) ks.length cp, .int .i64 v] w fun e w' => (∃ r : Int, e = .returned (.int .i64 r) ∧ IxR r (ks.contains v)) ∧ w' = w := by
  obtain ⟨n, hn⟩ : ∃ n, n = ks.length := ⟨_, rfl⟩
  have HN : Hid (n = ks.length) := hn
  have HR : Hid (∀ j x, ks[j]? = some x → w.cell? ⟨b, o + j, none⟩ = some (.int .i64 x)) := fun j x hx => hr j _ (by rw [List.getElem?_map, hx]; rfl)
  rw [← hn] at hcp ⊢
  obtain ⟨R, hR⟩ : ∃ R, R = ks.contains v := ⟨_, rfl⟩
  rw [← hR]
  have HRR : Hid (R = ks.contains v) := hR
  clear hn hr hR
  go_enter Try.func129, Try.ntmps129
  go_wp2
  go_loopw [8] (fun i wr => ∃ j : Nat, j ≤ n ∧ i = .int .i64 j ∧ Hid ((ks.take j).contains v = false) ∧ wr = w) (fun i _ => n - (intOf i).toNat)
  case atStart => exact ⟨0, by omega, rfl, rfl, rfl⟩
  case round =>
    obtain ⟨j, hj, rfl, HF, rfl⟩ := hrel
    by_cases hlt : j < n
    · obtain ⟨x, hx⟩ : ∃ x, ks[j]? = some x := ⟨ks[j]'(by rw [← HN.out]; exact hlt), List.getElem?_eq_getElem (by rw [← HN.out]; exact hlt)⟩
      have hc := HR.out j x hx
      have htk : ks.take (j + 1) = ks.take j ++ [x] := by rw [List.take_add_one, hx]; rfl
      have i1 : (j : Int) < (n : Int) := by omega
      have i0 : (0 : Int) ≤ (j : Int) := by omega
      have HLT : Hid (j < n) := hlt
      by_cases hv : v = x
      · have HE : Hid (R = true) := by unfold Hid; rw [HRR.out, List.contains_iff_mem, hv]; exact List.mem_of_getElem? hx
        subst hv
        clear htk hx hlt
        go_wp2
        go_ret
        exact ⟨⟨j, rfl, by rw [HE.out]; exact decide_eq_true i0⟩, rfl⟩
      · have HF2 : Hid ((ks.take (j + 1)).contains v = false) := by
          unfold Hid; rw [htk]
          have := HF.out
          rw [Bool.eq_false_iff] at this ⊢
          intro e
          rw [List.contains_iff_mem, List.mem_append] at e
          rcases e with e | e
          · exact this (List.contains_iff_mem.2 e)
          · exact hv (by simpa using e)
        have hv2 : (v == x) = false := by simpa using hv
        clear htk hx hlt HF
        go_wp2
        go_roundw
        case rel => exact ⟨j + 1, by have := HLT.out; omega, by go_num, HF2.out, by first | rfl | trivial⟩
        case measure => have := HLT.out; simp [intOf]; omega
    · have i1 : ¬ (j : Int) < (n : Int) := by omega
      have HE : Hid (R = false) := by
        have := HF.out; unfold Hid; rw [HRR.out]; rw [List.take_of_length_le (by rw [← HN.out]; omega)] at this; exact this
      clear hlt HF
      go_wp2
      go_ret
      exact ⟨⟨-1, rfl, by rw [HE.out]; rfl⟩, rfl⟩
set_option maxHeartbeats 1000000 in
set_option maxRecDepth 100000 in
theorem contains_any (ks : List Int) (b o cp : Nat) (v : Int) (w : World) (hr : w.rangeAt b o (ks.map (Value.int .i64))) (hcp : ks.length ≤ cp) (hc2 : cp ≤ 9223372036854775807) :
    Calls Try.prog 117 #[.slice (some ⟨b, o, none⟩) ks.length cp, .int .i64 v] w fun e w' => e = .returned (.bool (ks.contains v)) ∧ w' = w := by
  have IX := index_any ks b o cp v w hr hcp hc2
  generalize ks.contains v = R at *
  generalize ks.length = n at *
  have IX : Hid (Calls Try.prog 129 #[.slice (some ⟨b, o, none⟩) n cp, .int .i64 v] w fun e w' => (∃ r : Int, e = .returned (.int .i64 r) ∧ IxR r R) ∧ w' = w) := IX
  clear hr
  go_enter Try.func117, Try.ntmps117
  go_wp2_with (go_at_call 129; refine IX.out.mono ?_; rintro e w' ⟨⟨r, rfl, hR⟩, rfl⟩; have HR : Hid (decide (0 ≤ r) = R) := hR; clear hR)
  go_ret
  exact ⟨ret_bool HR.out, rfl⟩
set_option maxHeartbeats 1000000 in
set_option maxRecDepth 100000 in
theorem needed_any (h : Hd) (u : Value) (w : World) : Calls Try.prog 84 #[vN h u] w fun e w' => e = .returned (vN (needH h) (.slice none 0 0)) ∧ Below w.heap.size w w' := by
  obtain ⟨k, c, x0, x1, x2, x3, nn, lo, hi⟩ := h
  have hsz1 : (w.alloc (.cells (cN ⟨k, c, x0, x1, x2, x3, nn, lo, hi⟩ u).toArray 55)).heap.size = w.heap.size + 1 := by simp
  have HB : Hid (BoxN 55 ((w.alloc (.cells (cN ⟨k, c, x0, x1, x2, x3, nn, lo, hi⟩ u).toArray 55)).alloc (.cells (cN hd0 (.slice none 0 0)).toArray 55)) (w.heap.size + 1) hd0 (.slice none 0 0)) := by
    have := BoxN.new 55 (w.alloc (.cells (cN ⟨k, c, x0, x1, x2, x3, nn, lo, hi⟩ u).toArray 55)) hd0 (.slice none 0 0); rw [hsz1] at this; exact this
  have HW : Hid (Below w.heap.size w ((w.alloc (.cells (cN ⟨k, c, x0, x1, x2, x3, nn, lo, hi⟩ u).toArray 55)).alloc (.cells (cN hd0 (.slice none 0 0)).toArray 55))) := ((Below.refl _ _).alloc (Nat.le_refl _) _).alloc (by simp) _
  change Calls Try.prog 84 #[.agg #[.int .i64 k, .int .u8 (c : Int), .int .u64 (x0 : Int), .int .u64 x1, .int .u64 x2, .int .u64 x3, .int .i64 nn, .int .i64 lo, .int .i64 hi, u]] w _
  clear hsz1
  by_cases k1 : k = 1
  · subst k1
    go_enter Try.func84, Try.ntmps84
    go_wp2_with (first | (refine storeB55 rfl _ _ rfl (w.heap.size + 1) rfl (needH ⟨1, c, x0, x1, x2, x3, nn, lo, hi⟩) (.slice none 0 0) rfl rfl hd0 _ HB.out ?_))
    exact bodyPost_ret (v := vN (needH ⟨1, c, x0, x1, x2, x3, nn, lo, hi⟩) (.slice none 0 0)) (res55 2 Try.results84 _ _ (w.heap.size + 1) _ _ rfl (HB.out.row _ _)) rfl ⟨rfl, below_row HW.out (by omega) _⟩
  · have b1 : (k == 1) = false := by simpa using k1
    by_cases k3 : k = 3
    · subst k3
      go_enter Try.func84, Try.ntmps84
      go_wp2_with (first | (refine storeB55 rfl _ _ rfl (w.heap.size + 1) rfl (needH ⟨3, c, x0, x1, x2, x3, nn, lo, hi⟩) (.slice none 0 0) rfl rfl hd0 _ HB.out ?_))
      exact bodyPost_ret (v := vN (needH ⟨3, c, x0, x1, x2, x3, nn, lo, hi⟩) (.slice none 0 0)) (res55 2 Try.results84 _ _ (w.heap.size + 1) _ _ rfl (HB.out.row _ _)) rfl ⟨rfl, below_row HW.out (by omega) _⟩
    · have b3 : (k == 3) = false := by simpa using k3
      by_cases k6 : k = 6
      · subst k6
        go_enter Try.func84, Try.ntmps84
        go_wp2_with (first | (refine storeB55 rfl _ _ rfl (w.heap.size + 1) rfl (needH ⟨6, c, x0, x1, x2, x3, nn, lo, hi⟩) (.slice none 0 0) rfl rfl hd0 _ HB.out ?_))
        exact bodyPost_ret (v := vN (needH ⟨6, c, x0, x1, x2, x3, nn, lo, hi⟩) (.slice none 0 0)) (res55 2 Try.results84 _ _ (w.heap.size + 1) _ _ rfl (HB.out.row _ _)) rfl ⟨rfl, below_row HW.out (by omega) _⟩
      · have b6 : (k == 6) = false := by simpa using k6
        by_cases k7 : k = 7
        · subst k7
          go_enter Try.func84, Try.ntmps84
          go_wp2_with (first | (refine storeB55 rfl _ _ rfl (w.heap.size + 1) rfl (needH ⟨7, c, x0, x1, x2, x3, nn, lo, hi⟩) (.slice none 0 0) rfl rfl hd0 _ HB.out ?_))
          exact bodyPost_ret (v := vN (needH ⟨7, c, x0, x1, x2, x3, nn, lo, hi⟩) (.slice none 0 0)) (res55 2 Try.results84 _ _ (w.heap.size + 1) _ _ rfl (HB.out.row _ _)) rfl ⟨rfl, below_row HW.out (by omega) _⟩
        · have b7 : (k == 7) = false := by simpa using k7
          by_cases k10 : k = 10
          · subst k10
            go_enter Try.func84, Try.ntmps84
            go_wp2_with (first | (refine storeB55 rfl _ _ rfl (w.heap.size + 1) rfl (needH ⟨10, c, x0, x1, x2, x3, nn, lo, hi⟩) (.slice none 0 0) rfl rfl hd0 _ HB.out ?_))
            exact bodyPost_ret (v := vN (needH ⟨10, c, x0, x1, x2, x3, nn, lo, hi⟩) (.slice none 0 0)) (res55 2 Try.results84 _ _ (w.heap.size + 1) _ _ rfl (HB.out.row _ _)) rfl ⟨rfl, below_row HW.out (by omega) _⟩
          · have b10 : (k == 10) = false := by simpa using k10
            have HE : Hid (needH ⟨k, c, x0, x1, x2, x3, nn, lo, hi⟩ = ⟨k, 0, 0, 0, 0, 0, 0, 0, 0⟩) := by
              unfold Hid needH
              rw [if_neg k1, if_neg k3, if_neg (by intro e; rcases e with e | e; exact k6 e; exact k7 e), if_neg k10]
            rw [HE.out]
            clear k1 k3 k6 k7 k10
            go_enter Try.func84, Try.ntmps84
            go_wp2_with (first | (refine storeB55 rfl _ _ rfl (w.heap.size + 1) rfl ⟨k, 0, 0, 0, 0, 0, 0, 0, 0⟩ (.slice none 0 0) rfl rfl hd0 _ HB.out ?_))
            exact bodyPost_ret (v := vN ⟨k, 0, 0, 0, 0, 0, 0, 0, 0⟩ (.slice none 0 0)) (res55 2 Try.results84 _ _ (w.heap.size + 1) _ _ rfl (HB.out.row _ _)) rfl ⟨rfl, below_row HW.out (by omega) _⟩
set_option maxHeartbeats 1000000 in
set_option maxRecDepth 100000 in
theorem times_any (h : Hd) (u : Value) (w : World) : Calls Try.prog 86 #[vN h u] w fun e w' => e = .returned (.bool (timesB h)) ∧ Below w.heap.size w w' := by
  obtain ⟨k, c, x0, x1, x2, x3, nn, lo, hi⟩ := h
  change Calls Try.prog 86 #[.agg #[.int .i64 k, .int .u8 (c : Int), .int .u64 (x0 : Int), .int .u64 x1, .int .u64 x2, .int .u64 x3, .int .i64 nn, .int .i64 lo, .int .i64 hi, u]] w _
  unfold timesB
  by_cases k10 : k = 10
  · subst k10
    rw [if_pos rfl]
    show Calls Try.prog 86 _ w fun e w' => e = .returned (.bool (decide (0 ≤ lo ∧ lo ≤ 255 ∧ (hi = -1 ∨ lo ≤ hi ∧ hi ≤ 255)))) ∧ Below w.heap.size w w'
    have hD : ∀ q, q = decide (0 ≤ lo ∧ lo ≤ 255 ∧ (hi = -1 ∨ lo ≤ hi ∧ hi ≤ 255)) → Hid (q = decide (0 ≤ lo ∧ lo ≤ 255 ∧ (hi = -1 ∨ lo ≤ hi ∧ hi ≤ 255))) := fun q e => e
    by_cases a1 : 0 ≤ lo
    · by_cases a2 : lo ≤ 255
      · by_cases a3 : hi = -1
        · have HE := hD true (by symm; apply decide_eq_true; exact ⟨a1, a2, .inl a3⟩)
          rw [← HE.out]
          subst a3
          clear hD HE
          go_enter Try.func86, Try.ntmps86
          go_wp2
          go_ret
          exact ⟨rfl, (Below.refl _ _).alloc (Nat.le_refl _) _⟩
        · have a4 : (hi == -1) = false := by simpa using a3
          by_cases a5 : lo ≤ hi
          · by_cases a6 : hi ≤ 255
            · have HE := hD true (by symm; apply decide_eq_true; exact ⟨a1, a2, .inr ⟨a5, a6⟩⟩)
              rw [← HE.out]
              clear hD HE
              go_enter Try.func86, Try.ntmps86
              go_wp2
              go_ret
              exact ⟨rfl, (Below.refl _ _).alloc (Nat.le_refl _) _⟩
            · have HE := hD false (by symm; apply decide_eq_false; omega)
              rw [← HE.out]
              clear hD HE
              go_enter Try.func86, Try.ntmps86
              go_wp2
              go_ret
              exact ⟨rfl, (Below.refl _ _).alloc (Nat.le_refl _) _⟩
          · have HE := hD false (by symm; apply decide_eq_false; omega)
            rw [← HE.out]
            clear hD HE
            go_enter Try.func86, Try.ntmps86
            go_wp2
            go_ret
            exact ⟨rfl, (Below.refl _ _).alloc (Nat.le_refl _) _⟩
      · have HE := hD false (by symm; apply decide_eq_false; omega)
        rw [← HE.out]
        clear hD HE
        go_enter Try.func86, Try.ntmps86
        go_wp2
        go_ret
        exact ⟨rfl, (Below.refl _ _).alloc (Nat.le_refl _) _⟩
    · have HE := hD false (by symm; apply decide_eq_false; omega)
      rw [← HE.out]
      clear hD HE
      go_enter Try.func86, Try.ntmps86
      go_wp2
      go_ret
      exact ⟨rfl, (Below.refl _ _).alloc (Nat.le_refl _) _⟩
  · rw [if_neg k10]
    have b10 : (k == 10) = false := by simpa using k10
    go_enter Try.func86, Try.ntmps86
    go_wp2
    go_ret
    exact ⟨rfl, (Below.refl _ _).alloc (Nat.le_refl _) _⟩
end Go.Proofs.Ytndmjndokokmnaa
