import Derived.Test.YtaoobmpjlagkpaaTb
import Derived.Test.YtaoobmpjlagkpaaTg
namespace Go.Proofs.Ytaoobmpjlagkpaa
set_option linter.unusedSimpArgs false
set_option linter.unusedVariables false
open Go.RowKit
open Go.Deep
/-- What Least and the reference's answer of a tree. -/
def LeastP (F : Nat) (t : T) : Prop := ∀ (w : World) (u : Value), SV AnyB w u t.kids → Calls Try.prog F #[vN t.hd u] w fun e w' => e = .returned (.int .i64 (leastT t)) ∧ Below w.heap.size w w'
set_option maxHeartbeats 4000000 in
set_option maxRecDepth 100000 in
theorem lall_any (l : List T) (ih : ∀ t ∈ l, LeastP 39 t) (w : World) (u : Value) (hu : SV AnyB w u l) : Calls Try.prog 58 #[u] w fun e w' => e = .returned (.int .i64 (sumF 0 l)) ∧ Below w.heap.size w w' := by
  obtain ⟨av, cp, b, o, rfl, h1, h2, h3, h4⟩ := hu
  obtain ⟨n, hn⟩ : ∃ n, n = l.length := ⟨_, rfl⟩
  have HN : Hid (n = l.length) := hn
  have HL : Hid (LAt AnyB w b o l) := h4
  have HA : Hid (0 < n → av = some ⟨b, o, none⟩) := by rw [hn]; exact h3
  rw [← hn] at h1 ⊢
  clear hn h3 h4
  obtain ⟨R, hR⟩ : ∃ R, R = sumF 0 l := ⟨_, rfl⟩
  have HR0 : Hid (sumF 0 l = R) := hR.symm
  have IH : Hid (∀ t ∈ l, LeastP 39 t) := ih
  rw [← hR]
  clear hR ih
  go_enter Try.func58, Try.ntmps58
  go_wp2
  go_loopw [8, 3] (fun i acc wr => ∃ (j : Nat) (S : Int), j ≤ n ∧ i = .int .i64 j ∧ acc = .int .i64 S ∧ 0 ≤ S ∧ S ≤ 2147483647 ∧ Hid (sumF S (l.drop j) = R) ∧ Below w.heap.size w wr) (fun i _ _ => n - (intOf i).toNat)
  case atStart => exact ⟨0, 0, by omega, rfl, rfl, by omega, by omega, HR0.out, Below.refl _ _⟩
  case round =>
    obtain ⟨j, S, hj, rfl, rfl, hS1, hS2, HF, bw0⟩ := hrel
    have BW : Hid (Below w.heap.size w wr) := bw0
    clear bw0
    by_cases hlt : j < n
    · obtain rfl := HA.out (by omega)
      obtain ⟨t, ht⟩ : ∃ t, l[j]? = some t := ⟨l[j]'(by rw [← HN.out]; exact hlt), List.getElem?_eq_getElem (by rw [← HN.out]; exact hlt)⟩
      have hdrop : l.drop j = t :: l.drop (j + 1) := by
        have hjl : j < l.length := by rw [← HN.out]; exact hlt
        rw [List.drop_eq_getElem_cons hjl]
        rw [List.getElem?_eq_getElem hjl] at ht
        injection ht with ht; rw [ht]
      have hmem := List.mem_of_getElem? ht
      have hat := HL.out.get ht
      have hIH := IH.out t hmem
      have hbd := least_bd.1 t
      have hC1 : 0 ≤ leastT t := hbd.1
      have hC2 : leastT t ≤ 2147483647 := hbd.2
      have HF2 : Hid (sumF (min 2147483647 (S + (leastT t))) (l.drop (j + 1)) = R) := by
        unfold Hid; rw [← HF.out, hdrop]; rw [sumF_cons]; rfl
      obtain ⟨h', l', rfl⟩ := t.out
      obtain ⟨u', r1, _, r3, r4⟩ := hat.out
      have HR : Hid (wr.rangeAt b (o + j * 10) (cN h' u')) := range_block r1 (BW.out.block b r3)
      obtain ⟨av', cp', b', o', hu', _⟩ := id r4
      have CALL : Hid (∀ W, Below w.heap.size w W → Calls Try.prog 39 #[vN h' u'] W fun e w' => e = .returned (.int .i64 (leastT (.mk h' l'))) ∧ Below w.heap.size w w') := fun W hW => by
        have q := hIH W u' (by rw [T.kids_mk]; exact r4.below hW)
        rw [T.hd_mk] at q
        exact q.mono fun e w' ⟨q1, q2⟩ => ⟨q1, hW.trans (q2.mono hW.size)⟩
      generalize leastT (.mk h' l') = C at *
      have hBX : Hid (Below w.heap.size w (wr.alloc (.cells (cN h' u').toArray 55))) := BW.out.alloc BW.out.size _
      have HB : Hid ((wr.alloc (.cells (cN h' u').toArray 55)).rangeAt wr.heap.size 0 (cN h' u')) := (BoxN.new 55 wr h' u').range
      subst hu'
      have i1 : (j : Int) < (n : Int) := by omega
      have i0 : (0 : Int) ≤ (j : Int) := by omega
      have HLT : Hid (j < n) := hlt
      clear hdrop hbd hmem hat hIH r1 r3 r4 ht hlt
      go_wp2_with (first | (refine loadN55 rfl _ rfl b (o + j * 10) rfl h' _ HR.out ?_) | (refine storeN55 rfl _ _ rfl rfl h' av' l'.length cp' rfl ?_) | (refine loadN55 rfl _ rfl wr.heap.size 0 rfl h' _ HB.out ?_) | (go_at_call 39; refine (CALL.out _ hBX.out).mono ?_; rintro e w6 ⟨rfl, b6⟩))
      go_roundw
      case rel => exact ⟨j + 1, min 2147483647 (S + C), by have := HLT.out; omega, by go_num, by first | rfl | (congr 1; omega), by omega, by omega, HF2.out, by assumption⟩
      case measure => have := HLT.out; simp [intOf]; omega
    · have i1 : ¬ (j : Int) < (n : Int) := by omega
      have HE : Hid (S = R) := by
        have e1 := HF.out
        rw [List.drop_of_length_le (by rw [← HN.out]; omega), sumF_nil] at e1
        exact e1
      clear hlt HF
      go_wp2
      go_ret
      exact ⟨ret_int HE.out, BW.out⟩
set_option maxHeartbeats 4000000 in
set_option maxRecDepth 100000 in
theorem lone_any (l : List T) (ih : ∀ t ∈ l, LeastP 39 t) (w : World) (u : Value) (hu : SV AnyB w u l) : Calls Try.prog 59 #[u] w fun e w' => e = .returned (.int .i64 (if l = [] then 0 else minF mostI l)) ∧ Below w.heap.size w w' := by
  obtain ⟨av, cp, b, o, rfl, h1, h2, h3, h4⟩ := hu
  obtain ⟨n, hn⟩ : ∃ n, n = l.length := ⟨_, rfl⟩
  have HN : Hid (n = l.length) := hn
  have HL : Hid (LAt AnyB w b o l) := h4
  have HA : Hid (0 < n → av = some ⟨b, o, none⟩) := by rw [hn]; exact h3
  rw [← hn] at h1 ⊢
  clear hn h3 h4
  obtain ⟨R, hR⟩ : ∃ R, R = minF 2147483647 l := ⟨_, rfl⟩
  have HR0 : Hid (minF 2147483647 l = R) := hR.symm
  have HM : minF mostI l = R := hR.symm
  have IH : Hid (∀ t ∈ l, LeastP 39 t) := ih
  by_cases hl0 : l = []
  · rw [if_pos hl0]
    have hn0 : n = 0 := by rw [HN.out, hl0]; rfl
    clear HN HR0 HM hR IH ih HL HA
    subst hn0
    go_enter Try.func59, Try.ntmps59
    go_wp2
    go_ret
    exact ⟨rfl, Below.refl _ _⟩
  rw [if_neg hl0, HM]
  have hnp : n ≠ 0 := by intro q; rw [HN.out] at q; exact hl0 (List.eq_nil_of_length_eq_zero q)
  have hn1 : ((n : Int) == 0) = false := by simpa using hnp
  have hn2 : ¬ (n : Int) = 0 := by omega
  clear hR ih HM hl0 hnp
  go_enter Try.func59, Try.ntmps59
  go_wp2
  go_loopw [11, 3] (fun i acc wr => ∃ (j : Nat) (S : Int), j ≤ n ∧ i = .int .i64 j ∧ acc = .int .i64 S ∧ 0 ≤ S ∧ S ≤ 2147483647 ∧ Hid (minF S (l.drop j) = R) ∧ Below w.heap.size w wr) (fun i _ _ => n - (intOf i).toNat)
  case atStart => exact ⟨0, 2147483647, by omega, rfl, rfl, by omega, by omega, HR0.out, Below.refl _ _⟩
  case round =>
    obtain ⟨j, S, hj, rfl, rfl, hS1, hS2, HF, bw0⟩ := hrel
    have BW : Hid (Below w.heap.size w wr) := bw0
    clear bw0
    by_cases hlt : j < n
    · obtain rfl := HA.out (by omega)
      obtain ⟨t, ht⟩ : ∃ t, l[j]? = some t := ⟨l[j]'(by rw [← HN.out]; exact hlt), List.getElem?_eq_getElem (by rw [← HN.out]; exact hlt)⟩
      have hdrop : l.drop j = t :: l.drop (j + 1) := by
        have hjl : j < l.length := by rw [← HN.out]; exact hlt
        rw [List.drop_eq_getElem_cons hjl]
        rw [List.getElem?_eq_getElem hjl] at ht
        injection ht with ht; rw [ht]
      have hmem := List.mem_of_getElem? ht
      have hat := HL.out.get ht
      have hIH := IH.out t hmem
      have hbd := least_bd.1 t
      have hC1 : 0 ≤ leastT t := hbd.1
      have hC2 : leastT t ≤ 2147483647 := hbd.2
      have HF2 : Hid (minF (min S (leastT t)) (l.drop (j + 1)) = R) := by
        unfold Hid; rw [← HF.out, hdrop]; rw [minF_cons]
      obtain ⟨h', l', rfl⟩ := t.out
      obtain ⟨u', r1, _, r3, r4⟩ := hat.out
      have HR : Hid (wr.rangeAt b (o + j * 10) (cN h' u')) := range_block r1 (BW.out.block b r3)
      obtain ⟨av', cp', b', o', hu', _⟩ := id r4
      have CALL : Hid (∀ W, Below w.heap.size w W → Calls Try.prog 39 #[vN h' u'] W fun e w' => e = .returned (.int .i64 (leastT (.mk h' l'))) ∧ Below w.heap.size w w') := fun W hW => by
        have q := hIH W u' (by rw [T.kids_mk]; exact r4.below hW)
        rw [T.hd_mk] at q
        exact q.mono fun e w' ⟨q1, q2⟩ => ⟨q1, hW.trans (q2.mono hW.size)⟩
      generalize leastT (.mk h' l') = C at *
      have hBX : Hid (Below w.heap.size w (wr.alloc (.cells (cN h' u').toArray 55))) := BW.out.alloc BW.out.size _
      have HB : Hid ((wr.alloc (.cells (cN h' u').toArray 55)).rangeAt wr.heap.size 0 (cN h' u')) := (BoxN.new 55 wr h' u').range
      subst hu'
      have i1 : (j : Int) < (n : Int) := by omega
      have i0 : (0 : Int) ≤ (j : Int) := by omega
      have HLT : Hid (j < n) := hlt
      clear hdrop hbd hmem hat hIH r1 r3 r4 ht hlt
      go_wp2_with (first | (refine loadN55 rfl _ rfl b (o + j * 10) rfl h' _ HR.out ?_) | (refine storeN55 rfl _ _ rfl rfl h' av' l'.length cp' rfl ?_) | (refine loadN55 rfl _ rfl wr.heap.size 0 rfl h' _ HB.out ?_) | (go_at_call 39; refine (CALL.out _ hBX.out).mono ?_; rintro e w6 ⟨rfl, b6⟩))
      go_roundw
      case rel => exact ⟨j + 1, min S C, by have := HLT.out; omega, by go_num, by first | rfl | (congr 1; omega), by omega, by omega, HF2.out, by assumption⟩
      case measure => have := HLT.out; simp [intOf]; omega
    · have i1 : ¬ (j : Int) < (n : Int) := by omega
      have HE : Hid (S = R) := by
        have e1 := HF.out
        rw [List.drop_of_length_le (by rw [← HN.out]; omega), minF_nil] at e1
        exact e1
      clear hlt HF
      go_wp2
      go_ret
      exact ⟨ret_int HE.out, BW.out⟩
set_option maxHeartbeats 4000000 in
set_option maxRecDepth 100000 in
theorem lfirst_any (l : List T) (ih : ∀ t ∈ l, LeastP 39 t) (w : World) (u : Value) (hu : SV AnyB w u l) : Calls Try.prog 56 #[u] w fun e w' => e = .returned (.int .i64 (firstL l)) ∧ Below w.heap.size w w' := by
  cases l with
  | nil =>
    obtain ⟨av, cp, b, o, rfl, h1, h2, h3, h4⟩ := hu
    go_enter Try.func56, Try.ntmps56
    go_wp2
    go_ret
    exact ⟨rfl, Below.refl _ _⟩
  | cons t l0 =>
    rw [firstL_cons]
    have hIH := ih t (by simp)
    clear ih
    obtain ⟨av, cp, b, o, rfl, h1, h2, h3, h4⟩ := hu
    obtain ⟨n, hn⟩ : ∃ n, n = (t :: l0).length := ⟨_, rfl⟩
    have HN : Hid (n = (t :: l0).length) := hn
    have HL : Hid (LAt AnyB w b o (t :: l0)) := h4
    have HA : Hid (0 < n → av = some ⟨b, o, none⟩) := by rw [hn]; exact h3
    rw [← hn] at h1 ⊢
    clear hn h3 h4
    have hnp : 0 < n := by rw [HN.out]; simp
    obtain rfl := HA.out hnp
    have hn1 : ((n : Int) == 0) = false := by
      have q : n ≠ 0 := by omega
      simpa using q
    have hn2 : ¬ (n : Int) = 0 := by omega
    have hn3 : (0 : Int) < (n : Int) := by omega
    have hat := (LAt_cons _ _ _ _ _ _ |>.mp HL.out).1
    obtain ⟨h', l', rfl⟩ := t.out
    obtain ⟨u', r1, _, r3, r4⟩ := hat.out
    have HR : Hid (w.rangeAt b o (cN h' u')) := r1
    have CALL : Hid (Calls Try.prog 39 #[vN h' u'] w fun e w' => e = .returned (.int .i64 (leastT (.mk h' l'))) ∧ Below w.heap.size w w') := by
      have q := hIH w u' (by rw [T.kids_mk]; exact r4)
      rw [T.hd_mk] at q; exact q
    generalize leastT (.mk h' l') = C at *
    clear hIH HN HL HA hat r1 r3 r4 hnp
    go_enter Try.func56, Try.ntmps56
    go_wp2_with (first | (refine loadN55 rfl _ rfl b o rfl h' _ HR.out ?_) | (go_at_call 39; refine CALL.out.mono ?_; rintro e w6 ⟨rfl, b6⟩))
    go_ret
    exact ⟨rfl, b6⟩
set_option maxHeartbeats 4000000 in
set_option maxRecDepth 100000 in
theorem ltimes_any (a d : Int) (hd : 0 ≤ d) (hd2 : d ≤ 2147483647) (w : World) : Calls Try.prog 57 #[.int .i64 a, .int .i64 d] w fun e w' => e = .returned (.int .i64 (timesI a d)) ∧ Below w.heap.size w w' := by
  by_cases h1 : a < 1
  · have HE : Hid (timesI a d = 0) := by unfold Hid timesI; rw [if_pos (.inl h1)]
    rw [HE.out]
    clear HE
    go_enter Try.func57, Try.ntmps57
    go_wp2
    go_ret
    exact ⟨rfl, Below.refl _ _⟩
  · by_cases h2 : d = 0
    · have HE : Hid (timesI a d = 0) := by unfold Hid timesI; rw [if_pos (.inr h2)]
      rw [HE.out]
      subst h2
      clear HE
      go_enter Try.func57, Try.ntmps57
      go_wp2
      go_ret
      exact ⟨rfl, Below.refl _ _⟩
    · have h2b : (d == 0) = false := by simpa using h2
      have hq : Int.tdiv 2147483647 d = 2147483647 / d := by rw [Int.tdiv_eq_ediv_of_nonneg (by omega)]
      have hq0 : 0 ≤ 2147483647 / d := Int.ediv_nonneg (by omega) hd
      have hq1 : 2147483647 / d ≤ 2147483647 := Int.ediv_le_self _ (by omega)
      by_cases h3 : 2147483647 / d < a
      · have HE : Hid (timesI a d = 2147483647) := by unfold Hid timesI mostI; rw [if_neg (by omega), if_pos h3]
        rw [HE.out]
        clear HE
        generalize 2147483647 / d = Q at *
        go_enter Try.func57, Try.ntmps57
        go_wp2
        go_ret
        exact ⟨rfl, Below.refl _ _⟩
      · have HE : Hid (timesI a d = a * d) := by unfold Hid timesI mostI; rw [if_neg (by omega), if_neg h3]
        have hm1 : a * d ≤ 2147483647 := by
          have q1 : a * d ≤ 2147483647 / d * d := Int.mul_le_mul_of_nonneg_right (by omega) hd
          have q2 := Int.ediv_mul_le 2147483647 (show d ≠ 0 from h2)
          omega
        have hm0 : 0 ≤ a * d := Int.mul_nonneg (by omega) hd
        rw [HE.out]
        clear HE
        generalize 2147483647 / d = Q at *
        go_enter Try.func57, Try.ntmps57
        go_wp2
        go_ret
        exact ⟨rfl, Below.refl _ _⟩
end Go.Proofs.Ytaoobmpjlagkpaa
