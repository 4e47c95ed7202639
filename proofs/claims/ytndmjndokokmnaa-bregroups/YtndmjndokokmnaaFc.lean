import Derived.Test.YtndmjndokokmnaaFb
namespace Go.Proofs.Ytndmjndokokmnaa
set_option linter.unusedSimpArgs false
set_option linter.unusedVariables false
open Go.RowKit
open Go.Deep
/-- The box of the kinds that the closure holds. -/
structure KBox (w : World) (g : Nat) (ks : List Int) (b cp : Nat) : Prop where
  box : w.heap[g]? = some (.cells #[.slice (some ⟨b, 0, none⟩) ks.length cp] 135)
  row : w.rangeAt b 0 (ks.map (Value.int .i64))
  lt : b < w.heap.size
  cp1 : ks.length ≤ cp
  cp2 : cp ≤ 9223372036854775807
theorem KBox.glt {w : World} {g : Nat} {ks : List Int} {b cp : Nat} (h : KBox w g ks b cp) : g < w.heap.size := (Array.getElem?_eq_some_iff.1 h.box).1
theorem KBox.below {w w' : World} {g : Nat} {ks : List Int} {b cp : Nat} (h : KBox w g ks b cp) (k : Below w.heap.size w w') : KBox w' g ks b cp :=
  ⟨by rw [k.block g h.glt]; exact h.box, range_block h.row (k.block b h.lt), Nat.lt_of_lt_of_le h.lt k.size, h.cp1, h.cp2⟩
set_option maxHeartbeats 1000000 in
set_option maxRecDepth 100000 in
theorem closure_any (ks : List Int) (g b cp : Nat) (h : Hd) (u : Value) (w : World) (hk : KBox w g ks b cp) :
    Calls Try.prog 116 #[vN h u, .pointer (some ⟨g, 0, none⟩)] w fun e w' => e = .returned (.bool (ks.contains h.k)) ∧ Below w.heap.size w w' := by
  have B1 : Below w.heap.size w (w.alloc (.cells (cN h u).toArray 55)) := (Below.refl _ _).alloc (Nat.le_refl _) _
  have K1 := hk.below B1
  have CT : Hid (Calls Try.prog 117 #[.slice (some ⟨b, 0, none⟩) ks.length cp, .int .i64 h.k] (w.alloc (.cells (cN h u).toArray 55)) fun e w' => e = .returned (.bool (ks.contains h.k)) ∧ w' = w.alloc (.cells (cN h u).toArray 55)) := contains_any ks b 0 cp h.k _ K1.row K1.cp1 K1.cp2
  have c1 : (w.alloc (.cells (cN h u).toArray 55)).cell? ⟨g, 0, none⟩ = some (.slice (some ⟨b, 0, none⟩) ks.length cp) := row_cell K1.box rfl
  have HB1 : Hid (Below w.heap.size w (w.alloc (.cells (cN h u).toArray 55))) := B1
  clear hk B1 K1
  generalize ks.contains h.k = R at *
  generalize ks.length = n at *
  obtain ⟨k, c, x0, x1, x2, x3, nn, lo, hi⟩ := h
  change Calls Try.prog 116 #[.agg #[.int .i64 k, .int .u8 (c : Int), .int .u64 (x0 : Int), .int .u64 x1, .int .u64 x2, .int .u64 x3, .int .i64 nn, .int .i64 lo, .int .i64 hi, u], _] w _
  change (w.alloc (.cells #[.int .i64 k, .int .u8 (c : Int), .int .u64 (x0 : Int), .int .u64 x1, .int .u64 x2, .int .u64 x3, .int .i64 nn, .int .i64 lo, .int .i64 hi, u] 55)).cell? ⟨g, 0, none⟩ = _ at c1
  go_enter Try.func116, Try.ntmps116
  go_wp2_with (go_at_call 117; refine CT.out.mono ?_; rintro e w' ⟨rfl, rfl⟩)
  go_ret
  exact ⟨rfl, HB1.out⟩
theorem hasK_take (ks : List Int) (l : List T) (j : Nat) (t : T) (h : l[j]? = some t) : hasK ks (l.take (j + 1)) = (hasK ks (l.take j) || ks.contains t.hd.k) := by
  rw [take_snocT l j t h]; simp [hasK]
theorem hasK_mem {ks : List Int} {l : List T} {t : T} (h : t ∈ l) (hk : ks.contains t.hd.k = true) : hasK ks l = true := by
  unfold hasK; rw [List.any_eq_true]; exact ⟨t, h, hk⟩
set_option maxHeartbeats 1000000 in
set_option maxRecDepth 100000 in
theorem indexFunc_any (ks : List Int) (g kb kcp : Nat) (l : List T) (u : Value) (w : World) (hu : SV AnyB w u l) (hk : KBox w g ks kb kcp) :
    Calls Try.prog 128 #[u, .func (Fn.func 116) #[] #[.pointer (some ⟨g, 0, none⟩)]] w fun e w' => (∃ r : Int, e = .returned (.int .i64 r) ∧ IxR r (hasK ks l)) ∧ Below w.heap.size w w' := by
  obtain ⟨av, cp, b, o, rfl, h1, h2, h3, h4⟩ := hu
  obtain ⟨n, hn⟩ : ∃ n, n = l.length := ⟨_, rfl⟩
  have HN : Hid (n = l.length) := hn
  have HL : Hid (LAt AnyB w b o l) := h4
  have HA : Hid (0 < n → av = some ⟨b, o, none⟩) := by rw [hn]; exact h3
  have HK : Hid (KBox w g ks kb kcp) := hk
  obtain ⟨R, hR⟩ : ∃ R, R = hasK ks l := ⟨_, rfl⟩
  have HRR : Hid (R = hasK ks l) := hR
  rw [← hn] at h1 ⊢
  rw [← hR]
  clear hn h3 h4 hk hR
  go_enter Try.func128, Try.ntmps128
  go_wp2
  go_loopw [8] (fun i wr => ∃ j : Nat, j ≤ n ∧ i = .int .i64 j ∧ Hid (hasK ks (l.take j) = false) ∧ Hid (Below w.heap.size w wr)) (fun i _ => n - (intOf i).toNat)
  case atStart => exact ⟨0, by omega, rfl, rfl, Below.refl _ _⟩
  case round =>
    obtain ⟨j, hj, rfl, HF, BW⟩ := hrel
    by_cases hlt : j < n
    · obtain rfl := HA.out (by omega)
      obtain ⟨t, ht⟩ : ∃ t, l[j]? = some t := ⟨l[j]'(by rw [← HN.out]; exact hlt), List.getElem?_eq_getElem (by rw [← HN.out]; exact hlt)⟩
      have hmem := List.mem_of_getElem? ht
      have hat := HL.out.get ht
      have htk := hasK_take ks l j t ht
      rw [HF.out, Bool.false_or] at htk
      have hmk := hasK_mem (ks := ks) hmem
      obtain ⟨h', l', rfl⟩ := t.out
      rw [T.hd_mk] at htk hmk
      obtain ⟨u', r1, _, r3, r4⟩ := hat.out
      have HR : Hid (wr.rangeAt b (o + j * 10) (cN h' u')) := range_block r1 (BW.out.block b r3)
      obtain ⟨av', cp', b', o', hu', _⟩ := id r4
      have CALL : Hid (Calls Try.prog 116 #[vN h' u', .pointer (some ⟨g, 0, none⟩)] wr fun e w' => e = .returned (.bool (ks.contains h'.k)) ∧ Below wr.heap.size wr w') := closure_any ks g kb kcp h' u' wr (HK.out.below BW.out)
      subst hu'
      have i1 : (j : Int) < (n : Int) := by omega
      have i0 : (0 : Int) ≤ (j : Int) := by omega
      have HLT : Hid (j < n) := hlt
      cases hB : ks.contains h'.k with
      | true =>
        rw [hB] at CALL
        have HE : Hid (R = true) := by unfold Hid; rw [HRR.out]; exact hmk hB
        clear hmem hat htk hmk r1 r3 r4 ht hlt hB
        go_wp2_with (first | (refine loadN55 rfl _ rfl b (o + j * 10) rfl h' _ HR.out ?_) | (go_at_call 116; refine CALL.out.mono ?_; rintro e w6 ⟨rfl, b6⟩; have B6 : Hid (Below w.heap.size w w6) := BW.out.trans (b6.mono BW.out.size)))
        go_ret
        exact ⟨⟨j, rfl, by rw [HE.out]; exact decide_eq_true i0⟩, B6.out⟩
      | false =>
        rw [hB] at CALL htk
        have HF2 : Hid (hasK ks (l.take (j + 1)) = false) := htk
        clear hmem hat htk hmk r1 r3 r4 ht hlt hB HF
        go_wp2_with (first | (refine loadN55 rfl _ rfl b (o + j * 10) rfl h' _ HR.out ?_) | (go_at_call 116; refine CALL.out.mono ?_; rintro e w6 ⟨rfl, b6⟩; have B6 : Hid (Below w.heap.size w w6) := BW.out.trans (b6.mono BW.out.size)))
        go_roundw
        case rel => exact ⟨j + 1, by have := HLT.out; omega, by go_num, HF2.out, B6.out⟩
        case measure => have := HLT.out; simp [intOf]; omega
    · have i1 : ¬ (j : Int) < (n : Int) := by omega
      have HE : Hid (R = false) := by
        have := HF.out; rw [List.take_of_length_le (by rw [← HN.out]; omega)] at this; unfold Hid; rw [HRR.out]; exact this
      clear hlt HF
      go_wp2
      go_ret
      exact ⟨⟨-1, rfl, by rw [HE.out]; rfl⟩, BW.out⟩
set_option maxHeartbeats 1000000 in
set_option maxRecDepth 100000 in
theorem containsFunc_any (ks : List Int) (g kb kcp : Nat) (l : List T) (u : Value) (w : World) (hu : SV AnyB w u l) (hk : KBox w g ks kb kcp) :
    Calls Try.prog 115 #[u, .func (Fn.func 116) #[] #[.pointer (some ⟨g, 0, none⟩)]] w fun e w' => e = .returned (.bool (hasK ks l)) ∧ Below w.heap.size w w' := by
  have IX : Hid (Calls Try.prog 128 #[u, .func (Fn.func 116) #[] #[.pointer (some ⟨g, 0, none⟩)]] w fun e w' => (∃ r : Int, e = .returned (.int .i64 r) ∧ IxR r (hasK ks l)) ∧ Below w.heap.size w w') := indexFunc_any ks g kb kcp l u w hu hk
  generalize hasK ks l = R at *
  obtain ⟨av, cp, b, o, rfl, _⟩ := hu
  clear hk
  go_enter Try.func115, Try.ntmps115
  go_wp2_with (go_at_call 128; refine IX.out.mono ?_; rintro e w' ⟨⟨r, rfl, hR⟩, b1⟩; have HR : Hid (decide (0 ≤ r) = R) := hR; have B1 : Hid (Below w.heap.size w w') := b1; clear hR b1)
  go_ret
  exact ⟨ret_bool HR.out, B1.out⟩
set_option maxHeartbeats 1000000 in
set_option maxRecDepth 100000 in
theorem hasKind_any (ks : List Int) (kb kcp : Nat) (l : List T) (u : Value) (w : World) (hu : SV AnyB w u l) (hr : w.rangeAt kb 0 (ks.map (Value.int .i64))) (hlt : kb < w.heap.size) (h1 : ks.length ≤ kcp) (h2 : kcp ≤ 9223372036854775807) :
    Calls Try.prog 103 #[u, .slice (some ⟨kb, 0, none⟩) ks.length kcp] w fun e w' => e = .returned (.bool (hasK ks l)) ∧ Below w.heap.size w w' := by
  have B1 : Below w.heap.size w (w.alloc (.cells #[.slice (some ⟨kb, 0, none⟩) ks.length kcp] 135)) := (Below.refl _ _).alloc (Nat.le_refl _) _
  have K1 : KBox (w.alloc (.cells #[.slice (some ⟨kb, 0, none⟩) ks.length kcp] 135)) w.heap.size ks kb kcp := ⟨heap_alloc_last w _, range_block hr (B1.block kb hlt), by simp; omega, h1, h2⟩
  have CF : Hid (Calls Try.prog 115 #[u, .func (Fn.func 116) #[] #[.pointer (some ⟨w.heap.size, 0, none⟩)]] (w.alloc (.cells #[.slice (some ⟨kb, 0, none⟩) ks.length kcp] 135)) fun e w' => e = .returned (.bool (hasK ks l)) ∧ Below w.heap.size w w') :=
    (containsFunc_any ks w.heap.size kb kcp l u _ (hu.below B1) K1).mono fun e w' ⟨q1, q2⟩ => ⟨q1, B1.trans (q2.mono (by simp))⟩
  generalize hasK ks l = R at *
  generalize ks.length = n at *
  obtain ⟨av, cp, b, o, rfl, _⟩ := hu
  clear B1 K1 hr
  go_enter Try.func103, Try.ntmps103
  go_wp2_with (go_at_call 115; refine CF.out.mono ?_; rintro e w' ⟨rfl, b1⟩)
  go_ret
  exact ⟨rfl, b1⟩
end Go.Proofs.Ytndmjndokokmnaa
