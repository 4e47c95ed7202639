import Derived.Test.YtaoobmpjlagkpaaIb
import Derived.Test.YtaoobmpjlagkpaaTi
namespace Go.Proofs.Ytaoobmpjlagkpaa
set_option linter.unusedSimpArgs false
set_option linter.unusedVariables false
open Go.RowKit
open Go.Deep
set_option maxHeartbeats 4000000 in
set_option maxRecDepth 100000 in
theorem rleast_1 (c x0 : Nat) (x1 x2 x3 nn lo hi : Int) (l : List T) (ih : ∀ t ∈ l, LeastP 40 t) : LeastP 40 (T.mk ⟨1, c, x0, x1, x2, x3, nn, lo, hi⟩ l) := by
  intro w u hu
  rw [T.kids_mk] at hu
  rw [T.hd_mk]
  rw [leastT_mk]
  rw [show (if ((⟨1, c, x0, x1, x2, x3, nn, lo, hi⟩ : Hd).k = 1 ∨ (⟨1, c, x0, x1, x2, x3, nn, lo, hi⟩ : Hd).k = 2 ∨ (⟨1, c, x0, x1, x2, x3, nn, lo, hi⟩ : Hd).k = 3) then (1 : Int) else if (⟨1, c, x0, x1, x2, x3, nn, lo, hi⟩ : Hd).k = 6 then firstL l else if (⟨1, c, x0, x1, x2, x3, nn, lo, hi⟩ : Hd).k = 10 then timesI (⟨1, c, x0, x1, x2, x3, nn, lo, hi⟩ : Hd).lo (firstL l) else if (⟨1, c, x0, x1, x2, x3, nn, lo, hi⟩ : Hd).k = 8 then sumF 0 l else if (⟨1, c, x0, x1, x2, x3, nn, lo, hi⟩ : Hd).k = 9 then (if l = [] then 0 else minF mostI l) else 0) = 1 from rfl]
  have IH : Hid (∀ t ∈ l, LeastP 40 t) := ih
  clear ih
  obtain ⟨av, cp, b, o, rfl, h1, h2, h3, h4⟩ := hu
  obtain ⟨n, hn⟩ : ∃ n, n = l.length := ⟨_, rfl⟩
  have HN : Hid (n = l.length) := hn
  have HL : Hid (LAt AnyB w b o l) := h4
  have HA : Hid (0 < n → av = some ⟨b, o, none⟩) := by rw [hn]; exact h3
  rw [← hn] at h1 ⊢
  clear hn h3 h4
  have B0 : Hid (Below w.heap.size w (w.alloc (.cells (cN ⟨1, c, x0, x1, x2, x3, nn, lo, hi⟩ (.slice av n cp)).toArray 51))) := (Below.refl _ _).alloc (Nat.le_refl _) _
  have X0 : Hid (BoxN 51 (w.alloc (.cells (cN ⟨1, c, x0, x1, x2, x3, nn, lo, hi⟩ (.slice av n cp)).toArray 51)) w.heap.size ⟨1, c, x0, x1, x2, x3, nn, lo, hi⟩ (.slice av n cp)) := BoxN.new 51 w ⟨1, c, x0, x1, x2, x3, nn, lo, hi⟩ (.slice av n cp)
  have a0 := X0.out.cell 0 _ rfl
  have a9 := X0.out.cell 9 _ rfl
  change Calls Try.prog 40 #[.agg #[.int .i64 1, .int .u8 (c : Int), .int .u64 (x0 : Int), .int .u64 x1, .int .u64 x2, .int .u64 x3, .int .i64 nn, .int .i64 lo, .int .i64 hi, (.slice av n cp)]] w _
  go_enter Try.func40, Try.ntmps40
  go_wp2
  go_ret
  exact ⟨rfl, B0.out⟩
set_option maxHeartbeats 4000000 in
set_option maxRecDepth 100000 in
theorem rleast_2 (c x0 : Nat) (x1 x2 x3 nn lo hi : Int) (l : List T) (ih : ∀ t ∈ l, LeastP 40 t) : LeastP 40 (T.mk ⟨2, c, x0, x1, x2, x3, nn, lo, hi⟩ l) := by
  intro w u hu
  rw [T.kids_mk] at hu
  rw [T.hd_mk]
  rw [leastT_mk]
  rw [show (if ((⟨2, c, x0, x1, x2, x3, nn, lo, hi⟩ : Hd).k = 1 ∨ (⟨2, c, x0, x1, x2, x3, nn, lo, hi⟩ : Hd).k = 2 ∨ (⟨2, c, x0, x1, x2, x3, nn, lo, hi⟩ : Hd).k = 3) then (1 : Int) else if (⟨2, c, x0, x1, x2, x3, nn, lo, hi⟩ : Hd).k = 6 then firstL l else if (⟨2, c, x0, x1, x2, x3, nn, lo, hi⟩ : Hd).k = 10 then timesI (⟨2, c, x0, x1, x2, x3, nn, lo, hi⟩ : Hd).lo (firstL l) else if (⟨2, c, x0, x1, x2, x3, nn, lo, hi⟩ : Hd).k = 8 then sumF 0 l else if (⟨2, c, x0, x1, x2, x3, nn, lo, hi⟩ : Hd).k = 9 then (if l = [] then 0 else minF mostI l) else 0) = 1 from rfl]
  have IH : Hid (∀ t ∈ l, LeastP 40 t) := ih
  clear ih
  obtain ⟨av, cp, b, o, rfl, h1, h2, h3, h4⟩ := hu
  obtain ⟨n, hn⟩ : ∃ n, n = l.length := ⟨_, rfl⟩
  have HN : Hid (n = l.length) := hn
  have HL : Hid (LAt AnyB w b o l) := h4
  have HA : Hid (0 < n → av = some ⟨b, o, none⟩) := by rw [hn]; exact h3
  rw [← hn] at h1 ⊢
  clear hn h3 h4
  have B0 : Hid (Below w.heap.size w (w.alloc (.cells (cN ⟨2, c, x0, x1, x2, x3, nn, lo, hi⟩ (.slice av n cp)).toArray 51))) := (Below.refl _ _).alloc (Nat.le_refl _) _
  have X0 : Hid (BoxN 51 (w.alloc (.cells (cN ⟨2, c, x0, x1, x2, x3, nn, lo, hi⟩ (.slice av n cp)).toArray 51)) w.heap.size ⟨2, c, x0, x1, x2, x3, nn, lo, hi⟩ (.slice av n cp)) := BoxN.new 51 w ⟨2, c, x0, x1, x2, x3, nn, lo, hi⟩ (.slice av n cp)
  have a0 := X0.out.cell 0 _ rfl
  have a9 := X0.out.cell 9 _ rfl
  change Calls Try.prog 40 #[.agg #[.int .i64 2, .int .u8 (c : Int), .int .u64 (x0 : Int), .int .u64 x1, .int .u64 x2, .int .u64 x3, .int .i64 nn, .int .i64 lo, .int .i64 hi, (.slice av n cp)]] w _
  go_enter Try.func40, Try.ntmps40
  go_wp2
  go_ret
  exact ⟨rfl, B0.out⟩
set_option maxHeartbeats 4000000 in
set_option maxRecDepth 100000 in
theorem rleast_3 (c x0 : Nat) (x1 x2 x3 nn lo hi : Int) (l : List T) (ih : ∀ t ∈ l, LeastP 40 t) : LeastP 40 (T.mk ⟨3, c, x0, x1, x2, x3, nn, lo, hi⟩ l) := by
  intro w u hu
  rw [T.kids_mk] at hu
  rw [T.hd_mk]
  rw [leastT_mk]
  rw [show (if ((⟨3, c, x0, x1, x2, x3, nn, lo, hi⟩ : Hd).k = 1 ∨ (⟨3, c, x0, x1, x2, x3, nn, lo, hi⟩ : Hd).k = 2 ∨ (⟨3, c, x0, x1, x2, x3, nn, lo, hi⟩ : Hd).k = 3) then (1 : Int) else if (⟨3, c, x0, x1, x2, x3, nn, lo, hi⟩ : Hd).k = 6 then firstL l else if (⟨3, c, x0, x1, x2, x3, nn, lo, hi⟩ : Hd).k = 10 then timesI (⟨3, c, x0, x1, x2, x3, nn, lo, hi⟩ : Hd).lo (firstL l) else if (⟨3, c, x0, x1, x2, x3, nn, lo, hi⟩ : Hd).k = 8 then sumF 0 l else if (⟨3, c, x0, x1, x2, x3, nn, lo, hi⟩ : Hd).k = 9 then (if l = [] then 0 else minF mostI l) else 0) = 1 from rfl]
  have IH : Hid (∀ t ∈ l, LeastP 40 t) := ih
  clear ih
  obtain ⟨av, cp, b, o, rfl, h1, h2, h3, h4⟩ := hu
  obtain ⟨n, hn⟩ : ∃ n, n = l.length := ⟨_, rfl⟩
  have HN : Hid (n = l.length) := hn
  have HL : Hid (LAt AnyB w b o l) := h4
  have HA : Hid (0 < n → av = some ⟨b, o, none⟩) := by rw [hn]; exact h3
  rw [← hn] at h1 ⊢
  clear hn h3 h4
  have B0 : Hid (Below w.heap.size w (w.alloc (.cells (cN ⟨3, c, x0, x1, x2, x3, nn, lo, hi⟩ (.slice av n cp)).toArray 51))) := (Below.refl _ _).alloc (Nat.le_refl _) _
  have X0 : Hid (BoxN 51 (w.alloc (.cells (cN ⟨3, c, x0, x1, x2, x3, nn, lo, hi⟩ (.slice av n cp)).toArray 51)) w.heap.size ⟨3, c, x0, x1, x2, x3, nn, lo, hi⟩ (.slice av n cp)) := BoxN.new 51 w ⟨3, c, x0, x1, x2, x3, nn, lo, hi⟩ (.slice av n cp)
  have a0 := X0.out.cell 0 _ rfl
  have a9 := X0.out.cell 9 _ rfl
  change Calls Try.prog 40 #[.agg #[.int .i64 3, .int .u8 (c : Int), .int .u64 (x0 : Int), .int .u64 x1, .int .u64 x2, .int .u64 x3, .int .i64 nn, .int .i64 lo, .int .i64 hi, (.slice av n cp)]] w _
  go_enter Try.func40, Try.ntmps40
  go_wp2
  go_ret
  exact ⟨rfl, B0.out⟩
set_option maxHeartbeats 4000000 in
set_option maxRecDepth 100000 in
theorem rleast_6 (c x0 : Nat) (x1 x2 x3 nn lo hi : Int) (l : List T) (ih : ∀ t ∈ l, LeastP 40 t) : LeastP 40 (T.mk ⟨6, c, x0, x1, x2, x3, nn, lo, hi⟩ l) := by
  intro w u hu
  rw [T.kids_mk] at hu
  rw [T.hd_mk]
  rw [leastT_mk]
  rw [show (if ((⟨6, c, x0, x1, x2, x3, nn, lo, hi⟩ : Hd).k = 1 ∨ (⟨6, c, x0, x1, x2, x3, nn, lo, hi⟩ : Hd).k = 2 ∨ (⟨6, c, x0, x1, x2, x3, nn, lo, hi⟩ : Hd).k = 3) then (1 : Int) else if (⟨6, c, x0, x1, x2, x3, nn, lo, hi⟩ : Hd).k = 6 then firstL l else if (⟨6, c, x0, x1, x2, x3, nn, lo, hi⟩ : Hd).k = 10 then timesI (⟨6, c, x0, x1, x2, x3, nn, lo, hi⟩ : Hd).lo (firstL l) else if (⟨6, c, x0, x1, x2, x3, nn, lo, hi⟩ : Hd).k = 8 then sumF 0 l else if (⟨6, c, x0, x1, x2, x3, nn, lo, hi⟩ : Hd).k = 9 then (if l = [] then 0 else minF mostI l) else 0) = firstL l from rfl]
  have IH : Hid (∀ t ∈ l, LeastP 40 t) := ih
  clear ih
  obtain ⟨av, cp, b, o, rfl, h1, h2, h3, h4⟩ := hu
  obtain ⟨n, hn⟩ : ∃ n, n = l.length := ⟨_, rfl⟩
  have HN : Hid (n = l.length) := hn
  have HL : Hid (LAt AnyB w b o l) := h4
  have HA : Hid (0 < n → av = some ⟨b, o, none⟩) := by rw [hn]; exact h3
  rw [← hn] at h1 ⊢
  clear hn h3 h4
  have B0 : Hid (Below w.heap.size w (w.alloc (.cells (cN ⟨6, c, x0, x1, x2, x3, nn, lo, hi⟩ (.slice av n cp)).toArray 51))) := (Below.refl _ _).alloc (Nat.le_refl _) _
  have X0 : Hid (BoxN 51 (w.alloc (.cells (cN ⟨6, c, x0, x1, x2, x3, nn, lo, hi⟩ (.slice av n cp)).toArray 51)) w.heap.size ⟨6, c, x0, x1, x2, x3, nn, lo, hi⟩ (.slice av n cp)) := BoxN.new 51 w ⟨6, c, x0, x1, x2, x3, nn, lo, hi⟩ (.slice av n cp)
  by_cases hn0 : n = 0
  · have hl0 : l = [] := List.eq_nil_of_length_eq_zero (by rw [← HN.out]; exact hn0)
    have HE : Hid (firstL l = 0) := by unfold Hid; rw [hl0]; rfl
    rw [HE.out]
  
    clear HE hl0 HN HL HA IH
    subst hn0
    have a0 := X0.out.cell 0 _ rfl
    have a9 := X0.out.cell 9 _ rfl
    change Calls Try.prog 40 #[.agg #[.int .i64 6, .int .u8 (c : Int), .int .u64 (x0 : Int), .int .u64 x1, .int .u64 x2, .int .u64 x3, .int .i64 nn, .int .i64 lo, .int .i64 hi, (.slice av 0 cp)]] w _
    go_enter Try.func40, Try.ntmps40
    go_wp2
    go_ret
    exact ⟨rfl, B0.out⟩
  obtain rfl := HA.out (by omega)
  have hn1 : ((n : Int) == 0) = false := by simpa using hn0
  have hn2 : ¬ (n : Int) = 0 := by omega
  have hn3 : (0 : Int) < (n : Int) := by omega
  obtain ⟨t, ht⟩ : ∃ t, l[0]? = some t := ⟨l[0]'(by rw [← HN.out]; omega), List.getElem?_eq_getElem (by rw [← HN.out]; omega)⟩
  have hF : firstL l = leastT t := by
    cases l with
    | nil => cases ht
    | cons a r => simp only [List.getElem?_cons_zero, Option.some.injEq] at ht; rw [firstL_cons, ht]
  have hmem := List.mem_of_getElem? ht
  have hat := HL.out.get ht
  have hIH := IH.out t hmem
  have hbd := least_bd.1 t
  rw [hF]
  have hC1 : 0 ≤ leastT t := hbd.1
  have hC2 : leastT t ≤ 2147483647 := hbd.2
  obtain ⟨h', l', rfl⟩ := t.out
  obtain ⟨u', r1, _, r3, r4⟩ := hat.out
  have HR : Hid ((w.alloc (.cells (cN ⟨6, c, x0, x1, x2, x3, nn, lo, hi⟩ (.slice (some ⟨b, o, none⟩) n cp)).toArray 51)).rangeAt b o (cN h' u')) := range_block (by simpa using r1) (B0.out.block b r3)
  have CALL : Hid (∀ W, Below w.heap.size w W → Calls Try.prog 40 #[vN h' u'] W fun e w' => e = .returned (.int .i64 (leastT (.mk h' l'))) ∧ Below W.heap.size W w') := fun W hW => by
    have q := hIH W u' (by rw [T.kids_mk]; exact r4.below hW)
    rw [T.hd_mk] at q; exact q
  generalize leastT (.mk h' l') = C at *
  clear hIH HN HL HA IH hat r1 r3 r4 hn0 hF hbd hmem ht
  have a0 := X0.out.cell 0 _ rfl
  have a9 := X0.out.cell 9 _ rfl
  change Calls Try.prog 40 #[.agg #[.int .i64 6, .int .u8 (c : Int), .int .u64 (x0 : Int), .int .u64 x1, .int .u64 x2, .int .u64 x3, .int .i64 nn, .int .i64 lo, .int .i64 hi, (.slice (some ⟨b, o, none⟩) n cp)]] w _
  go_enter Try.func40, Try.ntmps40
  go_wp2_with (first | (refine loadN51 rfl _ rfl b o rfl h' _ HR.out ?_) | (go_at_call 40; refine (CALL.out _ B0.out).mono ?_; rintro e w6 ⟨rfl, b6⟩; have X6 := X0.out.below b6 X0.out.lt; have B6 := B0.out.trans (b6.mono B0.out.size); have c0 := X6.cell 0 _ rfl; have c7 := X6.cell 7 _ rfl; have X7 : Hid (BoxN 51 w6.drew w.heap.size ⟨6, c, x0, x1, x2, x3, nn, lo, hi⟩ (.slice (some ⟨b, o, none⟩) n cp)) := X6.blk rfl; have c7d := X7.out.cell 7 _ rfl))
  go_ret
  exact ⟨rfl, B6⟩
set_option maxHeartbeats 4000000 in
set_option maxRecDepth 100000 in
theorem rleast_k (k : Int) (c x0 : Nat) (x1 x2 x3 nn lo hi : Int) (l : List T) (ih : ∀ t ∈ l, LeastP 40 t) (k1 : k ≠ 1) (k2 : k ≠ 2) (k3 : k ≠ 3) (k6 : k ≠ 6) (k8 : k ≠ 8) (k9 : k ≠ 9) (k10 : k ≠ 10) : LeastP 40 (T.mk ⟨k, c, x0, x1, x2, x3, nn, lo, hi⟩ l) := by
  intro w u hu
  rw [T.kids_mk] at hu
  rw [T.hd_mk]
  rw [leastT_mk]

  have IH : Hid (∀ t ∈ l, LeastP 40 t) := ih
  clear ih
  obtain ⟨av, cp, b, o, rfl, h1, h2, h3, h4⟩ := hu
  obtain ⟨n, hn⟩ : ∃ n, n = l.length := ⟨_, rfl⟩
  have HN : Hid (n = l.length) := hn
  have HL : Hid (LAt AnyB w b o l) := h4
  have HA : Hid (0 < n → av = some ⟨b, o, none⟩) := by rw [hn]; exact h3
  rw [← hn] at h1 ⊢
  clear hn h3 h4
  have B0 : Hid (Below w.heap.size w (w.alloc (.cells (cN ⟨k, c, x0, x1, x2, x3, nn, lo, hi⟩ (.slice av n cp)).toArray 51))) := (Below.refl _ _).alloc (Nat.le_refl _) _
  have X0 : Hid (BoxN 51 (w.alloc (.cells (cN ⟨k, c, x0, x1, x2, x3, nn, lo, hi⟩ (.slice av n cp)).toArray 51)) w.heap.size ⟨k, c, x0, x1, x2, x3, nn, lo, hi⟩ (.slice av n cp)) := BoxN.new 51 w ⟨k, c, x0, x1, x2, x3, nn, lo, hi⟩ (.slice av n cp)
  have HE : Hid ((if ((⟨k, c, x0, x1, x2, x3, nn, lo, hi⟩ : Hd).k = 1 ∨ (⟨k, c, x0, x1, x2, x3, nn, lo, hi⟩ : Hd).k = 2 ∨ (⟨k, c, x0, x1, x2, x3, nn, lo, hi⟩ : Hd).k = 3) then (1 : Int) else if (⟨k, c, x0, x1, x2, x3, nn, lo, hi⟩ : Hd).k = 6 then firstL l else if (⟨k, c, x0, x1, x2, x3, nn, lo, hi⟩ : Hd).k = 10 then timesI (⟨k, c, x0, x1, x2, x3, nn, lo, hi⟩ : Hd).lo (firstL l) else if (⟨k, c, x0, x1, x2, x3, nn, lo, hi⟩ : Hd).k = 8 then sumF 0 l else if (⟨k, c, x0, x1, x2, x3, nn, lo, hi⟩ : Hd).k = 9 then (if l = [] then 0 else minF mostI l) else 0) = 0) := by
    unfold Hid
    rw [if_neg (by intro q; rcases q with q | q | q; exact k1 q; exact k2 q; exact k3 q), if_neg k6, if_neg k10, if_neg k8, if_neg k9]
  rw [HE.out]
  have b1 : (k == 1) = false := by simpa using k1
  have b2 : (k == 2) = false := by simpa using k2
  have b3 : (k == 3) = false := by simpa using k3
  have b6 : (k == 6) = false := by simpa using k6
  have b8 : (k == 8) = false := by simpa using k8
  have b9 : (k == 9) = false := by simpa using k9
  have b10 : (k == 10) = false := by simpa using k10
  clear HE k1 k2 k3 k6 k8 k9 k10
  have a0 := X0.out.cell 0 _ rfl
  have a9 := X0.out.cell 9 _ rfl
  change Calls Try.prog 40 #[.agg #[.int .i64 k, .int .u8 (c : Int), .int .u64 (x0 : Int), .int .u64 x1, .int .u64 x2, .int .u64 x3, .int .i64 nn, .int .i64 lo, .int .i64 hi, (.slice av n cp)]] w _
  go_enter Try.func40, Try.ntmps40
  go_wp2
  go_ret
  exact ⟨rfl, B0.out⟩
end Go.Proofs.Ytaoobmpjlagkpaa
