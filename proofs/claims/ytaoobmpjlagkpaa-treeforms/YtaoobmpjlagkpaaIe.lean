import Derived.Test.YtaoobmpjlagkpaaIb
import Derived.Test.YtaoobmpjlagkpaaTi
namespace Go.Proofs.Ytaoobmpjlagkpaa
set_option linter.unusedSimpArgs false
set_option linter.unusedVariables false
open Go.RowKit
open Go.Deep
set_option maxHeartbeats 4000000 in
set_option maxRecDepth 100000 in
theorem rleast_8 (c x0 : Nat) (x1 x2 x3 nn lo hi : Int) (l : List T) (ih : ∀ t ∈ l, LeastP 40 t) : LeastP 40 (T.mk ⟨8, c, x0, x1, x2, x3, nn, lo, hi⟩ l) := by
  intro w u hu
  rw [T.kids_mk] at hu
  rw [T.hd_mk]
  rw [leastT_mk]
  rw [show (if ((⟨8, c, x0, x1, x2, x3, nn, lo, hi⟩ : Hd).k = 1 ∨ (⟨8, c, x0, x1, x2, x3, nn, lo, hi⟩ : Hd).k = 2 ∨ (⟨8, c, x0, x1, x2, x3, nn, lo, hi⟩ : Hd).k = 3) then (1 : Int) else if (⟨8, c, x0, x1, x2, x3, nn, lo, hi⟩ : Hd).k = 6 then firstL l else if (⟨8, c, x0, x1, x2, x3, nn, lo, hi⟩ : Hd).k = 10 then timesI (⟨8, c, x0, x1, x2, x3, nn, lo, hi⟩ : Hd).lo (firstL l) else if (⟨8, c, x0, x1, x2, x3, nn, lo, hi⟩ : Hd).k = 8 then sumF 0 l else if (⟨8, c, x0, x1, x2, x3, nn, lo, hi⟩ : Hd).k = 9 then (if l = [] then 0 else minF mostI l) else 0) = sumF 0 l from rfl]
  have IH : Hid (∀ t ∈ l, LeastP 40 t) := ih
  clear ih
  obtain ⟨av, cp, b, o, rfl, h1, h2, h3, h4⟩ := hu
  obtain ⟨n, hn⟩ : ∃ n, n = l.length := ⟨_, rfl⟩
  have HN : Hid (n = l.length) := hn
  have HL : Hid (LAt AnyB w b o l) := h4
  have HA : Hid (0 < n → av = some ⟨b, o, none⟩) := by rw [hn]; exact h3
  rw [← hn] at h1 ⊢
  clear hn h3 h4
  have B0 : Hid (Below w.heap.size w (w.alloc (.cells (cN ⟨8, c, x0, x1, x2, x3, nn, lo, hi⟩ (.slice av n cp)).toArray 51))) := (Below.refl _ _).alloc (Nat.le_refl _) _
  have X0 : Hid (BoxN 51 (w.alloc (.cells (cN ⟨8, c, x0, x1, x2, x3, nn, lo, hi⟩ (.slice av n cp)).toArray 51)) w.heap.size ⟨8, c, x0, x1, x2, x3, nn, lo, hi⟩ (.slice av n cp)) := BoxN.new 51 w ⟨8, c, x0, x1, x2, x3, nn, lo, hi⟩ (.slice av n cp)
  obtain ⟨R, hR⟩ : ∃ R, R = sumF 0 l := ⟨_, rfl⟩
  have HR0 : Hid (sumF 0 l = R) := hR.symm
  rw [← hR]
  clear hR
  have a0 := X0.out.cell 0 _ rfl
  have a9 := X0.out.cell 9 _ rfl
  change Calls Try.prog 40 #[.agg #[.int .i64 8, .int .u8 (c : Int), .int .u64 (x0 : Int), .int .u64 x1, .int .u64 x2, .int .u64 x3, .int .i64 nn, .int .i64 lo, .int .i64 hi, (.slice av n cp)]] w _
  go_enter Try.func40, Try.ntmps40
  go_wp2
  go_loopw [51, 4] (fun i acc wr => ∃ (j : Nat) (S : Int), j ≤ n ∧ i = .int .i64 j ∧ acc = .int .i64 S ∧ 0 ≤ S ∧ S ≤ 2147483647 ∧ Hid (sumF S (l.drop j) = R) ∧ Below w.heap.size w wr ∧ Hid (BoxN 51 wr w.heap.size ⟨8, c, x0, x1, x2, x3, nn, lo, hi⟩ (.slice av n cp))) (fun i _ _ => n - (intOf i).toNat)
  case atStart => exact ⟨0, 0, by omega, rfl, rfl, by omega, by omega, HR0.out, (Below.refl _ _).alloc (Nat.le_refl _) _, BoxN.new 51 w ⟨8, c, x0, x1, x2, x3, nn, lo, hi⟩ (.slice av n cp)⟩
  case round =>
    obtain ⟨j, S, hj, rfl, rfl, hS1, hS2, HF, bw0, BX⟩ := hrel
    have BW : Hid (Below w.heap.size w wr) := bw0
    clear bw0
    by_cases hlt : j < n
    · obtain rfl := HA.out (by omega)
      obtain ⟨t, ht⟩ : ∃ t, l[j]? = some t := ⟨l[j]'(by rw [← HN.out]; exact hlt), List.getElem?_eq_getElem (by rw [← HN.out]; exact hlt)⟩
      have hdrop : l.drop j = t :: l.drop (j + 1) := by
        have hjl : j < l.length := by rw [← HN.out]; exact hlt
        rw [List.drop_eq_getElem_cons hjl]
        rw [List.getElem?_eq_getElem hjl] at ht
        injection ht with ht; rw [ht]
      have hmem := List.mem_of_getElem? ht
      have hat := HL.out.get ht
      have hIH := IH.out t hmem
      have hbd := least_bd.1 t
      have hC1 : 0 ≤ leastT t := hbd.1
      have hC2 : leastT t ≤ 2147483647 := hbd.2
      have HF2 : Hid (sumF (min 2147483647 (S + (leastT t))) (l.drop (j + 1)) = R) := by
        unfold Hid; rw [← HF.out, hdrop]; rw [sumF_cons]; rfl
      obtain ⟨h', l', rfl⟩ := t.out
      obtain ⟨u', r1, _, r3, r4⟩ := hat.out
      have HR : Hid (wr.rangeAt b (o + j * 10) (cN h' u')) := range_block r1 (BW.out.block b r3)
      obtain ⟨av', cp', b', o', hu', _⟩ := id r4
      have CALL : Hid (∀ W, Below w.heap.size w W → Calls Try.prog 40 #[vN h' u'] W fun e w' => e = .returned (.int .i64 (leastT (.mk h' l'))) ∧ (Below W.heap.size W w' ∧ Below w.heap.size w w')) := fun W hW => by
        have q := hIH W u' (by rw [T.kids_mk]; exact r4.below hW)
        rw [T.hd_mk] at q
        exact q.mono fun e w' ⟨q1, q2⟩ => ⟨q1, q2, hW.trans (q2.mono hW.size)⟩
      generalize leastT (.mk h' l') = C at *
      have hbx := BX.out.cell 9 _ rfl
      have BXC : Hid (∀ W, Below wr.heap.size wr W → BoxN 51 W w.heap.size ⟨8, c, x0, x1, x2, x3, nn, lo, hi⟩ (.slice (some ⟨b, o, none⟩) n cp)) := fun W hW => BX.out.below hW BX.out.lt
      subst hu'
      have i1 : (j : Int) < (n : Int) := by omega
      have i0 : (0 : Int) ≤ (j : Int) := by omega
      have HLT : Hid (j < n) := hlt
      clear hdrop hbd hmem hat hIH r1 r3 r4 ht hlt
      go_wp2_with (first | (refine loadN51 rfl _ rfl b (o + j * 10) rfl h' _ HR.out ?_) | (go_at_call 40; refine (CALL.out _ BW.out).mono ?_; rintro e w6 ⟨rfl, b6⟩; have BX6 := BXC.out _ b6.1; have BW6 := b6.2))
      go_roundw
      case rel => exact ⟨j + 1, min 2147483647 (S + C), by have := HLT.out; omega, by go_num, by first | rfl | (congr 1; omega), by omega, by omega, HF2.out, by assumption, BX6⟩
      case measure => have := HLT.out; simp [intOf]; omega
    · have i1 : ¬ (j : Int) < (n : Int) := by omega
      have HE : Hid (S = R) := by
        have e1 := HF.out
        rw [List.drop_of_length_le (by rw [← HN.out]; omega), sumF_nil] at e1
        exact e1
      clear hlt HF
      go_wp2
      go_ret
      exact ⟨ret_int HE.out, BW.out⟩
set_option maxHeartbeats 4000000 in
set_option maxRecDepth 100000 in
theorem rleast_9 (c x0 : Nat) (x1 x2 x3 nn lo hi : Int) (l : List T) (ih : ∀ t ∈ l, LeastP 40 t) : LeastP 40 (T.mk ⟨9, c, x0, x1, x2, x3, nn, lo, hi⟩ l) := by
  intro w u hu
  rw [T.kids_mk] at hu
  rw [T.hd_mk]
  rw [leastT_mk]
  rw [show (if ((⟨9, c, x0, x1, x2, x3, nn, lo, hi⟩ : Hd).k = 1 ∨ (⟨9, c, x0, x1, x2, x3, nn, lo, hi⟩ : Hd).k = 2 ∨ (⟨9, c, x0, x1, x2, x3, nn, lo, hi⟩ : Hd).k = 3) then (1 : Int) else if (⟨9, c, x0, x1, x2, x3, nn, lo, hi⟩ : Hd).k = 6 then firstL l else if (⟨9, c, x0, x1, x2, x3, nn, lo, hi⟩ : Hd).k = 10 then timesI (⟨9, c, x0, x1, x2, x3, nn, lo, hi⟩ : Hd).lo (firstL l) else if (⟨9, c, x0, x1, x2, x3, nn, lo, hi⟩ : Hd).k = 8 then sumF 0 l else if (⟨9, c, x0, x1, x2, x3, nn, lo, hi⟩ : Hd).k = 9 then (if l = [] then 0 else minF mostI l) else 0) = (if l = [] then 0 else minF mostI l) from rfl]
  have IH : Hid (∀ t ∈ l, LeastP 40 t) := ih
  clear ih
  obtain ⟨av, cp, b, o, rfl, h1, h2, h3, h4⟩ := hu
  obtain ⟨n, hn⟩ : ∃ n, n = l.length := ⟨_, rfl⟩
  have HN : Hid (n = l.length) := hn
  have HL : Hid (LAt AnyB w b o l) := h4
  have HA : Hid (0 < n → av = some ⟨b, o, none⟩) := by rw [hn]; exact h3
  rw [← hn] at h1 ⊢
  clear hn h3 h4
  have B0 : Hid (Below w.heap.size w (w.alloc (.cells (cN ⟨9, c, x0, x1, x2, x3, nn, lo, hi⟩ (.slice av n cp)).toArray 51))) := (Below.refl _ _).alloc (Nat.le_refl _) _
  have X0 : Hid (BoxN 51 (w.alloc (.cells (cN ⟨9, c, x0, x1, x2, x3, nn, lo, hi⟩ (.slice av n cp)).toArray 51)) w.heap.size ⟨9, c, x0, x1, x2, x3, nn, lo, hi⟩ (.slice av n cp)) := BoxN.new 51 w ⟨9, c, x0, x1, x2, x3, nn, lo, hi⟩ (.slice av n cp)
  obtain ⟨R, hR⟩ : ∃ R, R = minF 2147483647 l := ⟨_, rfl⟩
  have HR0 : Hid (minF 2147483647 l = R) := hR.symm
  have HM : minF mostI l = R := hR.symm
  by_cases hl0 : l = []
  · rw [if_pos hl0]
    have hn0 : n = 0 := by rw [HN.out, hl0]; rfl
    clear HN HR0 HM hR IH HL HA
    subst hn0
    have a0 := X0.out.cell 0 _ rfl
    have a9 := X0.out.cell 9 _ rfl
    change Calls Try.prog 40 #[.agg #[.int .i64 9, .int .u8 (c : Int), .int .u64 (x0 : Int), .int .u64 x1, .int .u64 x2, .int .u64 x3, .int .i64 nn, .int .i64 lo, .int .i64 hi, (.slice av 0 cp)]] w _
    go_enter Try.func40, Try.ntmps40
    go_wp2
    go_ret
    exact ⟨rfl, B0.out⟩
  rw [if_neg hl0, HM]
  have hnp : n ≠ 0 := by intro q; rw [HN.out] at q; exact hl0 (List.eq_nil_of_length_eq_zero q)
  have hn1 : ((n : Int) == 0) = false := by simpa using hnp
  have hn2 : ¬ (n : Int) = 0 := by omega
  clear hR HM hl0 hnp
  have a0 := X0.out.cell 0 _ rfl
  have a9 := X0.out.cell 9 _ rfl
  change Calls Try.prog 40 #[.agg #[.int .i64 9, .int .u8 (c : Int), .int .u64 (x0 : Int), .int .u64 x1, .int .u64 x2, .int .u64 x3, .int .i64 nn, .int .i64 lo, .int .i64 hi, (.slice av n cp)]] w _
  go_enter Try.func40, Try.ntmps40
  go_wp2
  go_loopw [74, 6] (fun i acc wr => ∃ (j : Nat) (S : Int), j ≤ n ∧ i = .int .i64 j ∧ acc = .int .i64 S ∧ 0 ≤ S ∧ S ≤ 2147483647 ∧ Hid (minF S (l.drop j) = R) ∧ Below w.heap.size w wr ∧ Hid (BoxN 51 wr w.heap.size ⟨9, c, x0, x1, x2, x3, nn, lo, hi⟩ (.slice av n cp))) (fun i _ _ => n - (intOf i).toNat)
  case atStart => exact ⟨0, 2147483647, by omega, rfl, rfl, by omega, by omega, HR0.out, (Below.refl _ _).alloc (Nat.le_refl _) _, BoxN.new 51 w ⟨9, c, x0, x1, x2, x3, nn, lo, hi⟩ (.slice av n cp)⟩
  case round =>
    obtain ⟨j, S, hj, rfl, rfl, hS1, hS2, HF, bw0, BX⟩ := hrel
    have BW : Hid (Below w.heap.size w wr) := bw0
    clear bw0
    by_cases hlt : j < n
    · obtain rfl := HA.out (by omega)
      obtain ⟨t, ht⟩ : ∃ t, l[j]? = some t := ⟨l[j]'(by rw [← HN.out]; exact hlt), List.getElem?_eq_getElem (by rw [← HN.out]; exact hlt)⟩
      have hdrop : l.drop j = t :: l.drop (j + 1) := by
        have hjl : j < l.length := by rw [← HN.out]; exact hlt
        rw [List.drop_eq_getElem_cons hjl]
        rw [List.getElem?_eq_getElem hjl] at ht
        injection ht with ht; rw [ht]
      have hmem := List.mem_of_getElem? ht
      have hat := HL.out.get ht
      have hIH := IH.out t hmem
      have hbd := least_bd.1 t
      have hC1 : 0 ≤ leastT t := hbd.1
      have hC2 : leastT t ≤ 2147483647 := hbd.2
      have HF2 : Hid (minF (min S (leastT t)) (l.drop (j + 1)) = R) := by
        unfold Hid; rw [← HF.out, hdrop]; rw [minF_cons]
      obtain ⟨h', l', rfl⟩ := t.out
      obtain ⟨u', r1, _, r3, r4⟩ := hat.out
      have HR : Hid (wr.rangeAt b (o + j * 10) (cN h' u')) := range_block r1 (BW.out.block b r3)
      obtain ⟨av', cp', b', o', hu', _⟩ := id r4
      have CALL : Hid (∀ W, Below w.heap.size w W → Calls Try.prog 40 #[vN h' u'] W fun e w' => e = .returned (.int .i64 (leastT (.mk h' l'))) ∧ (Below W.heap.size W w' ∧ Below w.heap.size w w')) := fun W hW => by
        have q := hIH W u' (by rw [T.kids_mk]; exact r4.below hW)
        rw [T.hd_mk] at q
        exact q.mono fun e w' ⟨q1, q2⟩ => ⟨q1, q2, hW.trans (q2.mono hW.size)⟩
      generalize leastT (.mk h' l') = C at *
      have hbx := BX.out.cell 9 _ rfl
      have BXC : Hid (∀ W, Below wr.heap.size wr W → BoxN 51 W w.heap.size ⟨9, c, x0, x1, x2, x3, nn, lo, hi⟩ (.slice (some ⟨b, o, none⟩) n cp)) := fun W hW => BX.out.below hW BX.out.lt
      subst hu'
      have i1 : (j : Int) < (n : Int) := by omega
      have i0 : (0 : Int) ≤ (j : Int) := by omega
      have HLT : Hid (j < n) := hlt
      clear hdrop hbd hmem hat hIH r1 r3 r4 ht hlt
      go_wp2_with (first | (refine loadN51 rfl _ rfl b (o + j * 10) rfl h' _ HR.out ?_) | (go_at_call 40; refine (CALL.out _ BW.out).mono ?_; rintro e w6 ⟨rfl, b6⟩; have BX6 := BXC.out _ b6.1; have BW6 := b6.2))
      go_roundw
      case rel => exact ⟨j + 1, min S C, by have := HLT.out; omega, by go_num, by first | rfl | (congr 1; omega), by omega, by omega, HF2.out, by assumption, BX6⟩
      case measure => have := HLT.out; simp [intOf]; omega
    · have i1 : ¬ (j : Int) < (n : Int) := by omega
      have HE : Hid (S = R) := by
        have e1 := HF.out
        rw [List.drop_of_length_le (by rw [← HN.out]; omega), minF_nil] at e1
        exact e1
      clear hlt HF
      go_wp2
      go_ret
      exact ⟨ret_int HE.out, BW.out⟩
end Go.Proofs.Ytaoobmpjlagkpaa
