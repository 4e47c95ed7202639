import Derived.Test.YtndmjndokokmnaaSa
import Derived.Test.YtndmjndokokmnaaTi
namespace Go.Proofs.Ytndmjndokokmnaa
set_option linter.unusedSimpArgs false
set_option linter.unusedVariables false
open Go.RowKit
open Go.Deep
theorem back_drop (l : List T) (j : Nat) (t : T) (h : l[j]? = some t) : backL (l.drop j) = (backT t || backL (l.drop (j + 1))) := by
  obtain ⟨hj, e⟩ := List.getElem?_eq_some_iff.1 h
  rw [List.drop_eq_getElem_cons hj, e, backL_cons]
set_option maxHeartbeats 1000000 in
set_option maxRecDepth 100000 in
theorem backs_any (t : T) : ∀ (w : World) (u : Value), SV AnyB w u t.kids → countT t ≤ 1000000 →
    Calls Try.prog 54 #[vN t.hd u] w fun e w' => e = .returned (.bool (backT t)) ∧ Below w.heap.size w w' := by
  induction t using T.ind; rename_i hd l ih; intro w u hu hc
  obtain ⟨av, cp, b, o, rfl, h1, h2, h3, h4⟩ := hu
  simp only [T.kids_mk, T.hd_mk] at h1 h3 h4 ih ⊢
  rw [backT_mk]
  obtain ⟨n, hn⟩ : ∃ n, n = l.length := ⟨_, rfl⟩
  have HN : Hid (n = l.length) := hn
  have HL : Hid (LAt AnyB w b o l) := h4
  have HA : Hid (0 < n → av = some ⟨b, o, none⟩) := by rw [hn]; exact h3
  have HC : Hid (1 + countL l ≤ 1000000) := hc
  have IH : Hid (∀ t ∈ l, ∀ (w : World) (u : Value), SV AnyB w u t.kids → countT t ≤ 1000000 →
    Calls Try.prog 54 #[vN t.hd u] w fun e w' => e = .returned (.bool (backT t)) ∧ Below w.heap.size w w') := ih
  have hll := len_le_countL l
  have hn6 : n ≤ 1000000 := by have := HC.out; omega
  rw [← hn] at h1 ⊢
  have X0 : Hid (BoxN 55 (w.alloc (.cells (cN hd (.slice av n cp)).toArray 55)) w.heap.size hd (.slice av n cp)) := BoxN.new 55 w hd _
  have B0 : Hid (Below w.heap.size w (w.alloc (.cells (cN hd (.slice av n cp)).toArray 55))) := (Below.refl _ _).alloc (Nat.le_refl _) _
  clear hn h3 h4 hc ih hll
  obtain ⟨k, c, x0, x1, x2, x3, nn, lo, hi⟩ := hd
  change Calls Try.prog 54 #[.agg #[.int .i64 k, .int .u8 (c : Int), .int .u64 (x0 : Int), .int .u64 x1, .int .u64 x2, .int .u64 x3, .int .i64 nn, .int .i64 lo, .int .i64 hi, .slice av n cp]] w _
  by_cases hk : k = 7
  · have e7 : (k == 7) = true := by simpa using hk
    have HE : Hid ((decide (k = 7) || backL l) = true) := by unfold Hid; rw [decide_eq_true hk]; rfl
    show Calls Try.prog 54 _ w fun e w' => e = .returned (.bool (decide (k = 7) || backL l)) ∧ _
    rw [HE.out]
    clear hk
    go_enter Try.func54, Try.ntmps54
    go_wp2
    go_ret
    exact ⟨rfl, B0.out⟩
  · have e7 : (k == 7) = false := by simpa using hk
    obtain ⟨R, hR⟩ : ∃ R, R = backL l := ⟨_, rfl⟩
    have HR0 : Hid (backL (l.drop 0) = R) := by unfold Hid; rw [hR, List.drop_zero]
    show Calls Try.prog 54 _ w fun e w' => e = .returned (.bool (decide (k = 7) || backL l)) ∧ _
    rw [decide_eq_false hk, Bool.false_or, ← hR]
    clear hk hR
    go_enter Try.func54, Try.ntmps54
    go_wp2
    go_loopw [10] (fun i wr => ∃ j : Nat, j ≤ n ∧ i = .int .i64 j ∧ Hid (backL (l.drop j) = R) ∧ Hid (Below w.heap.size w wr) ∧ Hid (BoxN 55 wr w.heap.size ⟨k, c, x0, x1, x2, x3, nn, lo, hi⟩ (.slice av n cp))) (fun i _ => n - (intOf i).toNat)
    case atStart => exact ⟨0, by omega, rfl, HR0.out, B0.out, X0.out⟩
    case round =>
      obtain ⟨j, hj, rfl, HF, BW, BX⟩ := hrel
      by_cases hlt : j < n
      · obtain rfl := HA.out (by omega)
        obtain ⟨t, ht⟩ : ∃ t, l[j]? = some t := ⟨l[j]'(by rw [← HN.out]; exact hlt), List.getElem?_eq_getElem (by rw [← HN.out]; exact hlt)⟩
        have hmem := List.mem_of_getElem? ht
        have hat := HL.out.get ht
        have hct : countT t ≤ 1000000 := by have := count_mem hmem; have := HC.out; omega
        have hst := back_drop l j t ht
        rw [HF.out] at hst
        have hIH := IH.out t hmem
        obtain ⟨h', l', rfl⟩ := t.out
        rw [T.hd_mk, T.kids_mk] at hIH
        obtain ⟨u', r1, _, r3, r4⟩ := hat.out
        have HR : Hid (wr.rangeAt b (o + j * 10) (cN h' u')) := range_block r1 (BW.out.block b r3)
        obtain ⟨av', cp', b', o', hu', _⟩ := id r4
        have CALL : Hid (Calls Try.prog 54 #[vN h' u'] wr fun e w' => e = .returned (.bool (backT (.mk h' l'))) ∧ Below wr.heap.size wr w') := hIH wr u' (r4.below BW.out) hct
        have c9 := BX.out.cell 9 _ rfl
        subst hu'
        have i1 : (j : Int) < (n : Int) := by omega
        have i0 : (0 : Int) ≤ (j : Int) := by omega
        have HLT : Hid (j < n) := hlt
        cases hB : backT (.mk h' l') with
        | true =>
          rw [hB] at CALL hst
          have HE : Hid (R = true) := hst
          clear hst hmem hat hIH r1 r3 r4 ht hlt hct hB
          go_wp2_with (first | (refine loadN55 rfl _ rfl b (o + j * 10) rfl h' _ HR.out ?_) | (go_at_call 54; refine CALL.out.mono ?_; rintro e w6 ⟨rfl, b6⟩; have B6 : Hid (Below w.heap.size w w6) := BW.out.trans (b6.mono BW.out.size); clear b6))
          go_ret
          exact ⟨by rw [HE.out]; rfl, B6.out⟩
        | false =>
          rw [hB] at CALL hst
          have HE : Hid (backL (l.drop (j + 1)) = R) := by unfold Hid; rw [hst]; rfl
          clear hst hmem hat hIH r1 r3 r4 ht hlt hct hB
          go_wp2_with (first | (refine loadN55 rfl _ rfl b (o + j * 10) rfl h' _ HR.out ?_) | (go_at_call 54; refine CALL.out.mono ?_; rintro e w6 ⟨rfl, b6⟩; have B6 : Hid (Below w.heap.size w w6) := BW.out.trans (b6.mono BW.out.size); have X6 : Hid (BoxN 55 w6 w.heap.size ⟨k, c, x0, x1, x2, x3, nn, lo, hi⟩ (.slice (some ⟨b, o, none⟩) n cp)) := BX.out.below b6 BX.out.lt; clear b6))
          go_roundw
          case rel => exact ⟨j + 1, by have := HLT.out; omega, by go_num, HE.out, B6.out, X6.out⟩
          case measure => have := HLT.out; simp [intOf]; omega
      · have i1 : ¬ (j : Int) < (n : Int) := by omega
        have HE : Hid (R = false) := by
          have := HF.out; rw [List.drop_of_length_le (by rw [← HN.out]; omega)] at this; exact this.symm
        clear hlt HF
        go_wp2
        go_ret
        exact ⟨by rw [HE.out]; rfl, BW.out⟩
end Go.Proofs.Ytndmjndokokmnaa
