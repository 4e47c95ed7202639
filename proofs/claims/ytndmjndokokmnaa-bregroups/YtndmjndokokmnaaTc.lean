import Derived.Test.YtndmjndokokmnaaTb
namespace Go.Proofs.Ytndmjndokokmnaa
set_option linter.unusedSimpArgs false
set_option linter.unusedVariables false
open Go.RowKit
open Go.Deep
set_option maxHeartbeats 1000000 in
set_option maxRecDepth 100000 in
theorem count_any (t : T) : ∀ (w : World) (u : Value), SV AnyB w u t.kids → countT t ≤ 1000000 →
    Calls Try.prog 36 #[vN t.hd u] w fun e w' => e = .returned (.int .i64 ((countT t : Nat) : Int)) ∧ Below w.heap.size w w' := by
  induction t using T.ind; rename_i hd l ih; intro w u hu hc
  obtain ⟨av, cp, b, o, rfl, h1, h2, h3, h4⟩ := hu
  obtain ⟨k, c, x0, x1, x2, x3, nn, lo, hi⟩ := hd
  simp only [T.kids_mk, T.hd_mk] at h1 h3 h4 ih ⊢
  obtain ⟨n, hn⟩ : ∃ n, n = l.length := ⟨_, rfl⟩
  have HN : Hid (n = l.length) := hn
  have HL : Hid (LAt AnyB w b o l) := h4
  have HA : Hid (0 < n → av = some ⟨b, o, none⟩) := by rw [hn]; exact h3
  have HC : Hid (1 + countL l ≤ 1000000) := hc
  have IH : Hid (∀ t ∈ l, ∀ (w : World) (u : Value), SV AnyB w u t.kids → countT t ≤ 1000000 →
    Calls Try.prog 36 #[vN t.hd u] w fun e w' => e = .returned (.int .i64 ((countT t : Nat) : Int)) ∧ Below w.heap.size w w') := ih
  rw [show countT (.mk _ l) = 1 + countL l from countT_mk _ _]
  rw [← hn] at h1 ⊢
  clear hn h3 h4 hc ih
  unfold vN
  go_enter Try.func36, Try.ntmps36
  go_wp2
  go_loopw [9, 3] (fun i cnt wr => ∃ j : Nat, j ≤ n ∧ i = .int .i64 j ∧ cnt = .int .i64 ((1 + countL (l.take j) : Nat) : Int) ∧ Below w.heap.size w wr) (fun i _ _ => n - (intOf i).toNat)
  case atStart => exact ⟨0, by omega, rfl, by simp [countL_nil], (Below.refl _ _).alloc (Nat.le_refl _) _⟩
  case round =>
    obtain ⟨j, hj, rfl, rfl, bw0⟩ := hrel
    have BW : Hid (Below w.heap.size w wr) := bw0
    clear bw0
    by_cases hlt : j < n
    · obtain rfl := HA.out (by omega)
      obtain ⟨t, ht⟩ : ∃ t, l[j]? = some t := ⟨l[j]'(by rw [← HN.out]; exact hlt), List.getElem?_eq_getElem (by rw [← HN.out]; exact hlt)⟩
      have hmem := List.mem_of_getElem? ht
      have hat := HL.out.get ht
      have hct : countT t ≤ 1000000 := by have := count_mem hmem; have := HC.out; omega
      have hst := countL_take l j t ht
      have hle := countL_take_le l (j + 1)
      have hIH := IH.out t hmem
      obtain ⟨h', l', rfl⟩ := t.out
      rw [T.hd_mk, T.kids_mk] at hIH
      obtain ⟨u', r1, _, r3, r4⟩ := hat.out
      have HR : Hid (wr.rangeAt b (o + j * 10) (cN h' u')) := range_block r1 (BW.out.block b r3)
      obtain ⟨av', cp', b', o', hu', _⟩ := id r4
      have CALL : Hid (∀ W, Below w.heap.size w W → Calls Try.prog 36 #[vN h' u'] W fun e w' => e = .returned (.int .i64 ((countT (.mk h' l') : Nat) : Int)) ∧ Below w.heap.size w w') := fun W hW =>
        (hIH W u' (r4.below hW) hct).mono fun e w' ⟨q1, q2⟩ => ⟨q1, hW.trans (q2.mono hW.size)⟩
      have HS : Hid (1 + countL (l.take (j + 1)) = 1 + countL (l.take j) + countT (.mk h' l')) := by unfold Hid; omega
      generalize countT (.mk h' l') = C at *
      generalize hK : 1 + countL (l.take j) = K at *
      have hKC : K + C ≤ 1000000 := by have := HC.out; have := HS.out; omega
      have hBX : Hid (Below w.heap.size w (wr.alloc (.cells (cN h' u').toArray 55))) := BW.out.alloc BW.out.size _
      have HB : Hid ((wr.alloc (.cells (cN h' u').toArray 55)).rangeAt wr.heap.size 0 (cN h' u')) := (BoxN.new 55 wr h' u').range
      subst hu'
      have i1 : (j : Int) < (n : Int) := by omega
      have i0 : (0 : Int) ≤ (j : Int) := by omega
      have HLT : Hid (j < n) := hlt
      clear hst hle hmem hat hIH r1 r3 r4 ht hlt hK hct
      go_wp2_with (first | (refine loadN55 rfl _ rfl b (o + j * 10) rfl h' _ HR.out ?_) | (refine storeN55 rfl _ _ rfl rfl h' av' l'.length cp' rfl ?_) | (refine loadN55 rfl _ rfl wr.heap.size 0 rfl h' _ HB.out ?_) | (go_at_call 36; refine (CALL.out _ hBX.out).mono ?_; rintro e w6 ⟨rfl, b6⟩))
      go_roundw
      case rel => exact ⟨j + 1, by have := HLT.out; omega, by go_num, by rw [HS.out]; go_num, by assumption⟩
      case measure => have := HLT.out; simp [intOf]; omega
    · have i1 : ¬ (j : Int) < (n : Int) := by omega
      have HE : Hid (1 + countL (l.take j) = 1 + countL l) := by unfold Hid; rw [List.take_of_length_le (by rw [← HN.out]; omega)]
      rw [HE.out]
      clear hlt HE
      go_wp2
      go_ret
      exact ⟨rfl, BW.out⟩
end Go.Proofs.Ytndmjndokokmnaa
