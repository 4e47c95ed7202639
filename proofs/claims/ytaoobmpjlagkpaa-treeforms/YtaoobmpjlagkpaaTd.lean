import Derived.Test.YtaoobmpjlagkpaaTb
namespace Go.Proofs.Ytaoobmpjlagkpaa
set_option linter.unusedSimpArgs false
set_option linter.unusedVariables false
open Go.RowKit
open Go.Deep
set_option maxHeartbeats 1000000 in
set_option maxRecDepth 100000 in
theorem rcount_any (t : T) : ∀ (w : World) (u : Value), SV AnyB w u t.kids → countT t ≤ 1000000 → Calls Try.prog 34 #[vN t.hd u] w fun e w' => e = .returned (.int .i64 ((countT t : Nat) : Int)) ∧ Below w.heap.size w w' := by
  induction t using T.ind; rename_i hd l ih; intro w u hu hc
  obtain ⟨av, cp, b, o, rfl, h1, h2, h3, h4⟩ := hu
  obtain ⟨k, c, x0, x1, x2, x3, nn, lo, hi⟩ := hd
  simp only [T.kids_mk, T.hd_mk] at h1 h3 h4 ih ⊢
  obtain ⟨n, hn⟩ : ∃ n, n = l.length := ⟨_, rfl⟩
  have HN : Hid (n = l.length) := hn
  have HL : Hid (LAt AnyB w b o l) := h4
  have HA : Hid (0 < n → av = some ⟨b, o, none⟩) := by rw [hn]; exact h3
  have HC : Hid (1 + countL l ≤ 1000000) := hc
  have IH : Hid (∀ t ∈ l, ∀ (w : World) (u : Value), SV AnyB w u t.kids → countT t ≤ 1000000 → Calls Try.prog 34 #[vN t.hd u] w fun e w' => e = .returned (.int .i64 ((countT t : Nat) : Int)) ∧ Below w.heap.size w w') := ih
  rw [show countT (.mk (⟨k, c, x0, x1, x2, x3, nn, lo, hi⟩ : Hd) l) = 1 + countL l from countT_mk _ _]
  rw [← hn] at h1 ⊢
  clear hn h3 h4 hc ih
  change Calls Try.prog 34 #[.agg #[.int .i64 k, .int .u8 (c : Int), .int .u64 (x0 : Int), .int .u64 x1, .int .u64 x2, .int .u64 x3, .int .i64 nn, .int .i64 lo, .int .i64 hi, .slice av n cp]] w _
  go_enter Try.func34, Try.ntmps34
  go_wp2
  go_loopw [8, 3] (fun i cnt wr => ∃ j : Nat, j ≤ n ∧ i = .int .i64 j ∧ cnt = .int .i64 ((1 + countL (l.take j) : Nat) : Int) ∧ Below w.heap.size w wr ∧ Hid (BoxN 51 wr w.heap.size ⟨k, c, x0, x1, x2, x3, nn, lo, hi⟩ (.slice av n cp))) (fun i _ _ => n - (intOf i).toNat)
  case atStart => exact ⟨0, by omega, rfl, by simp [countL_nil], (Below.refl _ _).alloc (Nat.le_refl _) _, BoxN.new 51 w ⟨k, c, x0, x1, x2, x3, nn, lo, hi⟩ (.slice av n cp)⟩
  case round =>
    obtain ⟨j, hj, rfl, rfl, bw0, BX⟩ := hrel
    have BW : Hid (Below w.heap.size w wr) := bw0
    clear bw0
    by_cases hlt : j < n
    · obtain rfl := HA.out (by omega)
      obtain ⟨t, ht⟩ : ∃ t, l[j]? = some t := ⟨l[j]'(by rw [← HN.out]; exact hlt), List.getElem?_eq_getElem (by rw [← HN.out]; exact hlt)⟩
      have hmem := List.mem_of_getElem? ht
      have hat := HL.out.get ht
      have hct : countT t ≤ 1000000 := by have := count_mem hmem; have := HC.out; omega
      have hst := countL_take l j t ht
      have hdc := deep_le.1 t
      have hdg := groups_le.1 t
      have hle := deep_le.2 (l.take j)
      have hlg := groups_le.2 (l.take j)
      have hlc := countL_take_le l j
      have hlc2 := countL_take l j t ht
      have hlc3 := countL_take_le l (j + 1)
      have hIH := IH.out t hmem
      obtain ⟨h', l', rfl⟩ := t.out
      rw [T.hd_mk, T.kids_mk] at hIH
      obtain ⟨u', r1, _, r3, r4⟩ := hat.out
      have HR : Hid (wr.rangeAt b (o + j * 10) (cN h' u')) := range_block r1 (BW.out.block b r3)
      obtain ⟨av', cp', b', o', hu', _⟩ := id r4
      have CALL : Hid (∀ W, Below wr.heap.size wr W → Calls Try.prog 34 #[vN h' u'] W fun e w' => e = .returned (.int .i64 ((countT (.mk h' l') : Nat) : Int)) ∧ Below wr.heap.size wr w') := fun W hW => (hIH W u' ((r4.below BW.out).below hW) hct).mono fun e w' ⟨q1, q2⟩ => ⟨q1, hW.trans (q2.mono hW.size)⟩
      have HS : Hid (1 + countL (l.take (j + 1)) = 1 + countL (l.take j) + countT (.mk h' l')) := by unfold Hid; omega
      have hA : 1 + countL (l.take j) ≤ 1000000 := by have := HC.out; omega
      have hA2 : 1 + countL (l.take (j + 1)) ≤ 1000000 := by have := HC.out; omega
      have hC1 : countT (.mk h' l') ≤ 1000000 := by omega
      rw [HS.out] at hA2
      generalize countT (.mk h' l') = C at *
      generalize hK : 1 + countL (l.take j) = K at *
      have hbx := BX.out.cell 9 _ rfl
      have BXC : Hid (∀ W, Below wr.heap.size wr W → BoxN 51 W w.heap.size ⟨k, c, x0, x1, x2, x3, nn, lo, hi⟩ (.slice (some ⟨b, o, none⟩) n cp)) := fun W hW => BX.out.below hW BX.out.lt
      subst hu'
      have i1 : (j : Int) < (n : Int) := by omega
      have i0 : (0 : Int) ≤ (j : Int) := by omega
      have HLT : Hid (j < n) := hlt
      clear hst hle hlg hlc hlc2 hlc3 hdc hdg hmem hat hIH r1 r3 r4 ht hlt hK hct
      go_wp2_with (first | (refine loadN51 rfl _ rfl b (o + j * 10) rfl h' _ HR.out ?_) | (go_at_call 34; refine (CALL.out _ (Below.refl _ _)).mono ?_; rintro e w6 ⟨rfl, b6⟩; have BX6 := BXC.out _ b6; have BW6 := BW.out.trans (b6.mono BW.out.size)))
      go_roundw
      case rel => exact ⟨j + 1, by have := HLT.out; omega, by go_num, by rw [HS.out]; first | rfl | go_num | (congr 1; omega), by assumption, BX6⟩
      case measure => have := HLT.out; simp [intOf]; omega
    · have i1 : ¬ (j : Int) < (n : Int) := by omega
      have HE : Hid (1 + countL (l.take j) = 1 + countL l) := by unfold Hid; rw [List.take_of_length_le (by rw [← HN.out]; omega)]
      rw [HE.out]
      have hbd : 1 + countL l ≤ 1000000 := by have := HC.out; have := deep_le.2 l; have := groups_le.2 l; omega
      clear hlt HE
      go_wp2
      go_ret
      exact ⟨by first | rfl | (congr 1; go_num) | (congr 2; omega) | (congr 1; congr 1; omega), BW.out⟩
end Go.Proofs.Ytaoobmpjlagkpaa
