import Derived.Test.YtndmjndokokmnaaTb
namespace Go.Proofs.Ytndmjndokokmnaa
set_option linter.unusedSimpArgs false
set_option linter.unusedVariables false
open Go.RowKit
open Go.Deep
theorem ret_int {k : IntKind} {a b : Int} (h : a = b) : Ending.returned (.int k a) = .returned (.int k b) := by rw [h]
theorem ret_bool {a b : Bool} (h : a = b) : Ending.returned (.bool a) = .returned (.bool b) := by rw [h]
theorem bnd_le : (∀ t, ∀ d a, bndT d a t ≤ bndZ a ∧ 0 ≤ bndT d a t) ∧ ∀ l, ∀ d a, bndF d a l ≤ bndZ a := by
  refine T.both (p := fun t => ∀ d a, bndT d a t ≤ bndZ a ∧ 0 ≤ bndT d a t) (q := fun l => ∀ d a, bndF d a l ≤ bndZ a) (fun h l q d a => ?_) (fun d a => ?_) (fun t r x y d a => ?_)
  · simp only [bndT_mk]
    split
    · unfold bndZ; omega
    · have := q (d - 1) (a - 1)
      unfold bndZ at this ⊢; omega
  · simp only [bndF_nil]; unfold bndZ; omega
  · simp only [bndF_cons]
    split
    · unfold bndZ; omega
    · have h1 := y d (bndT d a t)
      have h2 := x d a
      unfold bndZ at h1 h2 ⊢; omega
set_option maxHeartbeats 1000000 in
set_option maxRecDepth 100000 in
theorem bnd_any (t : T) : ∀ (d : Nat) (left : Int) (w : World) (u : Value), SV AnyB w u t.kids → d ≤ 40 → 0 ≤ left → left ≤ 400 →
    Calls Try.prog 61 #[vN t.hd u, .int .i64 (d : Int), .int .i64 left] w fun e w' => e = .returned (.int .i64 (bndT d left t)) ∧ Below w.heap.size w w' := by
  induction t using T.ind; rename_i hd l ih; intro d left w u hu hd40 hl0 hl400
  obtain ⟨av, cp, b, o, rfl, h1, h2, h3, h4⟩ := hu
  obtain ⟨k, c, x0, x1, x2, x3, nn, lo, hi⟩ := hd
  simp only [T.kids_mk, T.hd_mk] at h1 h3 h4 ih ⊢
  obtain ⟨n, hn⟩ : ∃ n, n = l.length := ⟨_, rfl⟩
  have HN : Hid (n = l.length) := hn
  have HL : Hid (LAt AnyB w b o l) := h4
  have HA : Hid (0 < n → av = some ⟨b, o, none⟩) := by rw [hn]; exact h3
  have IH : Hid (∀ t ∈ l, ∀ (d : Nat) (left : Int) (w : World) (u : Value), SV AnyB w u t.kids → d ≤ 40 → 0 ≤ left → left ≤ 400 →
    Calls Try.prog 61 #[vN t.hd u, .int .i64 (d : Int), .int .i64 left] w fun e w' => e = .returned (.int .i64 (bndT d left t)) ∧ Below w.heap.size w w') := ih
  rw [show bndT d left (.mk (⟨k, c, x0, x1, x2, x3, nn, lo, hi⟩ : Hd) l) = if d = 0 then 0 else bndZ (bndF (d - 1) (left - 1) l) from bndT_mk _ _ _ _]
  rw [← hn] at h1 ⊢
  clear hn h3 h4 ih
  change Calls Try.prog 61 #[.agg #[.int .i64 k, .int .u8 (c : Int), .int .u64 (x0 : Int), .int .u64 x1, .int .u64 x2, .int .u64 x3, .int .i64 nn, .int .i64 lo, .int .i64 hi, .slice av n cp], .int .i64 (d : Int), .int .i64 left] w _
  rcases Nat.eq_zero_or_pos d with hd0 | hd0
  · subst hd0
    rw [if_pos rfl]
    go_enter Try.func61, Try.ntmps61
    go_wp2
    go_ret
    exact ⟨rfl, (Below.refl _ _).alloc (Nat.le_refl _) _⟩
  · rw [if_neg (by omega)]
    obtain ⟨d', rfl⟩ : ∃ d', d = d' + 1 := ⟨d - 1, by omega⟩
    rw [show d' + 1 - 1 = d' from rfl]
    have hdn : ¬ ((d' + 1 : Nat) : Int) = 0 := by omega
    have hdb : (((d' + 1 : Nat) : Int) == 0) = false := by simpa using hdn
    have hd1 : ((d' + 1 : Nat) : Int) - 1 = (d' : Int) := by omega
    have hd2 : ((d' + 1 : Nat) : Int) ≤ 40 := by omega
    have hd3 : (1 : Int) ≤ ((d' + 1 : Nat) : Int) := by omega
    generalize hDD : ((d' + 1 : Nat) : Int) = D at *
    obtain ⟨R, hR⟩ : ∃ R, R = bndF d' (left - 1) l := ⟨_, rfl⟩
    have HR0 : Hid (bndF d' (left - 1) l = R) := hR.symm
    rw [← hR]
    have HD : Hid (d' + 1 ≤ 40) := hd40
    have HD1 : Hid (D - 1 = (d' : Int)) := hd1
    clear hR hDD hd40 hd1 hd0
    go_enter Try.func61, Try.ntmps61
    go_wp2
    go_loopw [15, 2] (fun i cnt wr => ∃ (j : Nat) (L : Int), j ≤ n ∧ i = .int .i64 j ∧ cnt = .int .i64 L ∧ -1 ≤ L ∧ L ≤ 400 ∧ Hid (bndF d' L (l.drop j) = R) ∧ Below w.heap.size w wr ∧ Hid (BoxN 51 wr w.heap.size ⟨k, c, x0, x1, x2, x3, nn, lo, hi⟩ (.slice av n cp))) (fun i _ _ => n - (intOf i).toNat)
    case atStart => exact ⟨0, left - 1, by omega, rfl, rfl, by omega, by omega, HR0.out, (Below.refl _ _).alloc (Nat.le_refl _) _, BoxN.new 51 w ⟨k, c, x0, x1, x2, x3, nn, lo, hi⟩ (.slice av n cp)⟩
    case round =>
      obtain ⟨j, L, hj, rfl, rfl, hL1, hL2, HF, bw0, BX⟩ := hrel
      have BW : Hid (Below w.heap.size w wr) := bw0
      clear bw0
      by_cases hlt : j < n
      · obtain rfl := HA.out (by omega)
        obtain ⟨t, ht⟩ : ∃ t, l[j]? = some t := ⟨l[j]'(by rw [← HN.out]; exact hlt), List.getElem?_eq_getElem (by rw [← HN.out]; exact hlt)⟩
        have hdrop : l.drop j = t :: l.drop (j + 1) := by
          have hjl : j < l.length := by rw [← HN.out]; exact hlt
          rw [List.drop_eq_getElem_cons hjl]
          rw [List.getElem?_eq_getElem hjl] at ht
          injection ht with ht; rw [ht]
        by_cases hL : L ≤ 0
        · have HE : Hid (bndZ R = 0) := by
            unfold Hid; rw [← HF.out, hdrop]; simp only [bndF_cons]; rw [if_pos hL]; rfl
          have i1 : (j : Int) < (n : Int) := by omega
          clear hdrop ht hlt
          go_wp2
          go_ret
          exact ⟨ret_int HE.out.symm, BW.out⟩
        · have hmem := List.mem_of_getElem? ht
          have hat := HL.out.get ht
          have hIH := IH.out t hmem d' L
          have hbd := bnd_le.1 t d' L
          have HF2 : Hid (bndF d' (bndT d' L t) (l.drop (j + 1)) = R) := by
            unfold Hid; rw [← HF.out, hdrop]; simp only [bndF_cons]; rw [if_neg hL]
          have hb0 : 0 ≤ bndT d' L t := hbd.2
          have hb1 : bndT d' L t ≤ 400 := by have := hbd.1; unfold bndZ at this; omega
          obtain ⟨h', l', rfl⟩ := t.out
          rw [T.hd_mk, T.kids_mk] at hIH
          obtain ⟨u', r1, _, r3, r4⟩ := hat.out
          have HR : Hid (wr.rangeAt b (o + j * 10) (cN h' u')) := range_block r1 (BW.out.block b r3)
          obtain ⟨av', cp', b', o', hu', _⟩ := id r4
          have CALL : Hid (∀ W, Below wr.heap.size wr W → Calls Try.prog 61 #[vN h' u', .int .i64 (D - 1), .int .i64 L] W fun e w' => e = .returned (.int .i64 (bndT d' L (.mk h' l'))) ∧ Below wr.heap.size wr w') := fun W hW => by
            rw [HD1.out]
            exact (hIH W u' ((r4.below BW.out).below hW) (by have := HD.out; omega) (by omega) hL2).mono fun e w' ⟨q1, q2⟩ => ⟨q1, hW.trans (q2.mono hW.size)⟩
          generalize bndT d' L (.mk h' l') = L' at *
          have hbx := BX.out.cell 9 _ rfl
          have BXC : Hid (∀ W, Below wr.heap.size wr W → BoxN 51 W w.heap.size ⟨k, c, x0, x1, x2, x3, nn, lo, hi⟩ (.slice (some ⟨b, o, none⟩) n cp)) := fun W hW => BX.out.below hW BX.out.lt
          subst hu'
          have i1 : (j : Int) < (n : Int) := by omega
          have i0 : (0 : Int) ≤ (j : Int) := by omega
          have i2 : 0 < L := by omega
          have HLT : Hid (j < n) := hlt
          clear hmem hat hIH r1 r3 r4 ht hlt hdrop hbd hL HF
          go_wp2_with (first | (refine loadN51 rfl _ rfl b (o + j * 10) rfl h' _ HR.out ?_) | (go_at_call 61; refine (CALL.out _ (Below.refl _ _)).mono ?_; rintro e w6 ⟨rfl, b6⟩; have BX6 := BXC.out _ b6; have BW6 := BW.out.trans (b6.mono BW.out.size)))
          go_roundw
          case rel => exact ⟨j + 1, L', by have := HLT.out; omega, by go_num, rfl, by omega, hb1, HF2.out, by assumption, BX6⟩
          case measure => have := HLT.out; simp [intOf]; omega
      · have i1 : ¬ (j : Int) < (n : Int) := by omega
        have HE : Hid (bndZ R = max L 0) := by unfold Hid; rw [← HF.out, List.drop_eq_nil_of_le (by rw [← HN.out]; omega)]; rfl
        clear hlt HF
        go_wp2
        all_goals (go_ret; exact ⟨ret_int (by rw [HE.out]; omega), BW.out⟩)
set_option maxHeartbeats 1000000 in
set_option maxRecDepth 100000 in
theorem few_any (t : T) (w : World) (u : Value) (hu : SV AnyB w u t.kids) : Calls Try.prog 32 #[vN t.hd u] w fun e w' => e = .returned (.bool (fewT t)) ∧ Below w.heap.size w w' := by
  obtain ⟨hd, l, rfl⟩ := t.out
  rw [T.kids_mk] at hu
  rw [T.hd_mk]
  have CALL : Hid (∀ W, Below w.heap.size w W → Calls Try.prog 61 #[vN hd u, .int .i64 40, .int .i64 400] W fun e w' => e = .returned (.int .i64 (bndT 40 400 (.mk hd l))) ∧ Below w.heap.size w w') := fun W hW => by
    have q := bnd_any (.mk hd l) 40 400 W u (by rw [T.kids_mk]; exact hu.below hW) (by omega) (by omega) (by omega)
    rw [T.hd_mk] at q
    exact q.mono fun e w' ⟨q1, q2⟩ => ⟨q1, hW.trans (q2.mono hW.size)⟩
  have HB : Hid ((w.alloc (.cells (cN hd u).toArray 51)).rangeAt w.heap.size 0 (cN hd u)) := (BoxN.new 51 w hd u).range
  have hBX : Hid (Below w.heap.size w (w.alloc (.cells (cN hd u).toArray 51))) := (Below.refl _ _).alloc (Nat.le_refl _) _
  unfold fewT
  generalize bndT 40 400 (.mk hd l) = L at *
  clear hu
  obtain ⟨k, c, x0, x1, x2, x3, nn, lo, hi⟩ := hd
  change Calls Try.prog 32 #[.agg #[.int .i64 k, .int .u8 (c : Int), .int .u64 (x0 : Int), .int .u64 x1, .int .u64 x2, .int .u64 x3, .int .i64 nn, .int .i64 lo, .int .i64 hi, u]] w _
  go_enter Try.func32, Try.ntmps32
  go_wp2_with (first | (refine loadN51 rfl _ rfl w.heap.size 0 rfl ⟨k, c, x0, x1, x2, x3, nn, lo, hi⟩ _ HB.out ?_) | (go_at_call 61; refine (CALL.out _ hBX.out).mono ?_; rintro e w6 ⟨rfl, b6⟩))
  go_ret
  exact ⟨rfl, by assumption⟩
end Go.Proofs.Ytndmjndokokmnaa
