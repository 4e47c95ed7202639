import Derived.Test.YtndmjndokokmnaaXe
namespace Go.Proofs.Ytndmjndokokmnaa
set_option linter.unusedSimpArgs false
set_option linter.unusedVariables false
open Go.RowKit
def parseP (l : List UInt8) (a : Int) : S4 × Int × Int :=
  if a < 0 ∨ (l.length : Int) ≤ a ∨ l[a.toNat]? ≠ some 91 then (S4.zero, 0, 1)
  else match exprP (l.drop (a.toNat + 1)) with
    | none => (S4.zero, 0, 10)
    | some (m, t) => (m, (l.length : Int) - t.length, 0)
/-- What Parse, and the reference's Bracket, hand back. -/
def ParO (l : List UInt8) (a : Int) (w : World) (e : Ending) (w' : World) : Prop :=
  ∃ x0 x1 x2 x3 : Int, e = .returned (.tuple #[.agg #[.int .u64 x0, .int .u64 x1, .int .u64 x2, .int .u64 x3], .int .i64 (parseP l a).2.1, .int .i64 (parseP l a).2.2]) ∧ S4V (parseP l a).1 x0 x1 x2 x3 ∧ Below w.heap.size w w'
theorem get_at (s : ByteArray) (k : Nat) (h : k < s.size) : s.data.toList[k]? = some s[k] := by
  rw [List.getElem?_eq_getElem (by rw [← Lib.size_eq]; exact h)]
  simp [ByteArray.getElem_eq_getElem_data]
theorem RB.new (w : World) (t : ByteArray) (T : Nat) : RB (w.alloc (.cells #[.string t] T)) w.heap.size t.data.toList := by
  refine ⟨t, ?_, rfl, ?_, by simp⟩ <;> go_simp
theorem parse_bad (s : ByteArray) (a : Int) (h : a < 0 ∨ (s.data.toList.length : Int) ≤ a ∨ s.data.toList[a.toNat]? ≠ some 91) : parseP s.data.toList a = (S4.zero, 0, 1) := by
  unfold parseP; rw [if_pos h]
set_option maxHeartbeats 2000000 in
set_option maxRecDepth 100000 in
theorem parse_neg (s : ByteArray) (a : Int) (w : World) (h : a < 0) : Calls Try.prog 27 #[.string s, .int .i64 a] w (ParO s.data.toList a w) := by
  have HE : Hid (parseP s.data.toList a = (S4.zero, 0, 1)) := parse_bad s a (.inl h)
  go_enter Try.func27, Try.ntmps27
  go_wp2
  exact bodyPost_ret (v := .tuple #[.agg #[.int .u64 0, .int .u64 0, .int .u64 0, .int .u64 0], .int .i64 0, .int .i64 1]) (by simp [results, Try.results27, go_sem]) rfl ⟨0, 0, 0, 0, by rw [HE.out], by rw [HE.out]; exact S4V.nought, (Below.refl _ _).alloc (Nat.le_refl _) _⟩
set_option maxHeartbeats 2000000 in
set_option maxRecDepth 100000 in
theorem parse_past (s : ByteArray) (a : Int) (w : World) (h0 : 0 ≤ a) (hi : a ≤ 9223372036854775807) (hs : s.size ≤ 4000000) (h : (s.size : Int) ≤ a) : Calls Try.prog 27 #[.string s, .int .i64 a] w (ParO s.data.toList a w) := by
  have HE : Hid (parseP s.data.toList a = (S4.zero, 0, 1)) := parse_bad s a (.inr (.inl (by rw [← Lib.size_eq]; exact h)))
  go_enter Try.func27, Try.ntmps27
  go_wp2
  exact bodyPost_ret (v := .tuple #[.agg #[.int .u64 0, .int .u64 0, .int .u64 0, .int .u64 0], .int .i64 0, .int .i64 1]) (by simp [results, Try.results27, go_sem]) rfl ⟨0, 0, 0, 0, by rw [HE.out], by rw [HE.out]; exact S4V.nought, (Below.refl _ _).alloc (Nat.le_refl _) _⟩
set_option maxHeartbeats 2000000 in
set_option maxRecDepth 100000 in
theorem parse_other (s : ByteArray) (k : Nat) (w : World) (hs : s.size ≤ 4000000) (h : k < s.size) (hv : s[k] ≠ 91) : Calls Try.prog 27 #[.string s, .int .i64 k] w (ParO s.data.toList k w) := by
  have HE : Hid (parseP s.data.toList k = (S4.zero, 0, 1)) := parse_bad s k (.inr (.inr (by rw [Int.toNat_natCast, get_at s k h]; intro q; injection q with q; exact hv q)))
  have hn : (((s[k]'h).toNat : Int) != 91) = true := by
    rw [bne_iff_ne]; intro q; exact hv (UInt8.toNat_inj.1 (by show (s[k]'h).toNat = 91; omega))
  have hki : (k : Int) < s.size := by omega
  clear hv
  go_enter Try.func27, Try.ntmps27
  go_wp2
  exact bodyPost_ret (v := .tuple #[.agg #[.int .u64 0, .int .u64 0, .int .u64 0, .int .u64 0], .int .i64 0, .int .i64 1]) (by simp [results, Try.results27, go_sem]) rfl ⟨0, 0, 0, 0, by rw [HE.out], by rw [HE.out]; exact S4V.nought, (Below.refl _ _).alloc (Nat.le_refl _) _⟩
theorem below_put {w w2 : World} (h : Below w.heap.size w w2) (v0 v1 v2 v3 : Value) (o : Obj) :
    Below w.heap.size w (((((w2.setCell ⟨w.heap.size, 0, none⟩ v0).setCell ⟨w.heap.size, 1, none⟩ v1).setCell ⟨w.heap.size, 2, none⟩ v2).setCell ⟨w.heap.size, 3, none⟩ v3).alloc o) :=
  ((((h.setCell (p := ⟨w.heap.size, 0, none⟩) (Nat.le_refl _) _).setCell (p := ⟨w.heap.size, 1, none⟩) (Nat.le_refl _) _).setCell (p := ⟨w.heap.size, 2, none⟩) (Nat.le_refl _) _).setCell (p := ⟨w.heap.size, 3, none⟩) (Nat.le_refl _) _).alloc (by simpa [World.setCell] using h.size) _
theorem membersP_le : ∀ (n : Nat) (first : Bool) (acc : S4) (l : List UInt8) (s : S4) (t : List UInt8), membersP n first acc l = some (s, t) → t.length ≤ l.length
  | 0, _, _, _, _, _, h => by simp [membersP] at h
  | n + 1, first, acc, l, s, t, h => by
    unfold membersP at h
    split at h
    · simp only [Option.some.injEq, Prod.mk.injEq] at h
      rw [← h.2, List.length_drop]; omega
    · split at h
      · cases h
      · rename_i m t' hm
        have := memberP_lt hm
        have := membersP_le n _ _ _ _ _ h
        omega
theorem exprP_le {l : List UInt8} {s : S4} {t : List UInt8} (h : exprP l = some (s, t)) : t.length ≤ l.length := by
  rw [exprP_eq] at h
  split at h
  · obtain ⟨x, hx, hq⟩ := Option.map_eq_some_iff.1 h
    have := membersP_le _ _ _ _ _ _ (show membersP _ _ _ _ = some (x.1, x.2) from hx)
    simp only [Prod.mk.injEq] at hq
    rw [← hq.2]; simp at this; omega
  · exact membersP_le _ _ _ _ _ _ h
set_option maxHeartbeats 4000000 in
set_option maxRecDepth 100000 in
theorem parse_in (s : ByteArray) (k : Nat) (w : World) (hM : MaxL w) (hs : s.size ≤ 4000000) (h : k < s.size) (hv : s[k] = 91) : Calls Try.prog 27 #[.string s, .int .i64 k] w (ParO s.data.toList k w) := by
  have hn : (((s[k]'h).toNat : Int) != 91) = false := by rw [hv]; rfl
  have hki : (k : Int) < s.size := by omega
  have hki1 : (k : Int) + 1 ≤ s.size := by omega
  have hss : (s.size : Int) ≤ 4000000 := by omega
  have hx : (s.extract (k + 1) s.size).data.toList = s.data.toList.drop (k + 1) := by
    rw [Lib.extract_data, List.take_of_length_le]
    rw [List.length_drop, ← Lib.size_eq]; exact Nat.le_refl _
  have HP : Hid (parseP s.data.toList k = match exprP (s.data.toList.drop (k + 1)) with | none => (S4.zero, 0, 10) | some (m, t) => (m, (s.data.toList.length : Int) - t.length, 0)) := by
    unfold Hid parseP
    rw [if_neg (by rw [← Lib.size_eq, Int.toNat_natCast, get_at s k h, hv]; rintro (q | q | q); omega; omega; exact q rfl)]; rfl
  have HL : Hid ((s.data.toList.drop (k + 1)).length ≤ 4000000) := by show _ ≤ _; rw [List.length_drop, ← Lib.size_eq]; omega
  have HZ : Hid (s.data.toList.length = s.size) := (Lib.size_eq s).symm
  have BX : Hid (Box4 ((w.alloc (.cells #[.int .u64 0, .int .u64 0, .int .u64 0, .int .u64 0] 26)).alloc (.cells #[.string (s.extract (k + 1) s.size)] 76)) w.heap.size) := (Box4.new w 26).more (by simp) _
  have RX : Hid (RB ((w.alloc (.cells #[.int .u64 0, .int .u64 0, .int .u64 0, .int .u64 0] 26)).alloc (.cells #[.string (s.extract (k + 1) s.size)] 76)) (w.heap.size + 1) (s.data.toList.drop (k + 1))) := by
    have := RB.new (w.alloc (.cells #[.int .u64 0, .int .u64 0, .int .u64 0, .int .u64 0] 26)) (s.extract (k + 1) s.size) 76
    rw [hx] at this
    have e : (w.alloc (.cells #[.int .u64 0, .int .u64 0, .int .u64 0, .int .u64 0] 26)).heap.size = w.heap.size + 1 := by simp
    rw [e] at this; exact this
  have BW : Hid (Below w.heap.size w ((w.alloc (.cells #[.int .u64 0, .int .u64 0, .int .u64 0, .int .u64 0] 26)).alloc (.cells #[.string (s.extract (k + 1) s.size)] 76))) := ((Below.refl _ _).alloc (Nat.le_refl _) _).alloc (by simp) _
  have MX : Hid (MaxL ((w.alloc (.cells #[.int .u64 0, .int .u64 0, .int .u64 0, .int .u64 0] 26)).alloc (.cells #[.string (s.extract (k + 1) s.size)] 76))) := (hM.alloc _).alloc _
  have hwz : w.heap.size + 1 < ((w.alloc (.cells #[.int .u64 0, .int .u64 0, .int .u64 0, .int .u64 0] 26)).alloc (.cells #[.string (s.extract (k + 1) s.size)] 76)).heap.size := by simp
  clear hv hx hM
  go_enter Try.func27, Try.ntmps27
  go_wp2_with fail
  generalize ((w.alloc (.cells #[.int .u64 0, .int .u64 0, .int .u64 0, .int .u64 0] 26)).alloc (.cells #[.string (s.extract (k + 1) s.size)] 76)) = w1 at *
  refine (expr_any (w.heap.size + 1) (s.data.toList.drop (k + 1)) _ RX.out MX.out HL.out (by omega)).mono ?_
  rintro e w2 ⟨x0, x1, x2, x3, ok, l', rfl, r, gr, h5, h6⟩
  have BX2 : Hid (Box4 w2 w.heap.size) := BX.out.grown gr (by omega) (by omega)
  have BW2 : Hid (Below w.heap.size w w2) := BW.out.grown gr (by omega) (by intro q hq; injection hq with hq; omega)
  have hz2 : w.heap.size + 1 < w2.heap.size := Nat.lt_of_lt_of_le hwz gr.size
  have H6 : Hid ((exprP (s.data.toList.drop (k + 1))).isSome = ok ∧ (ok = true → ∃ m, exprP (s.data.toList.drop (k + 1)) = some (m, l') ∧ S4V m x0 x1 x2 x3)) := ⟨h5, h6⟩
  obtain ⟨t, tc, tl, tf, _⟩ := r
  have TL : Hid (t.data.toList = l') := tl
  obtain ⟨⟨ca, cb, cc, cd⟩, fa, fb, fc, fd⟩ := id BX2.out
  clear BX RX BW MX gr h5 h6 hwz tl tf BX2
  have hz3 : w.heap.size < w2.heap.size := by omega
  cases ok
  · have HE : Hid (parseP s.data.toList k = (S4.zero, 0, 10)) := by
      show parseP s.data.toList k = _
      rw [HP.out]
      cases hq : exprP (s.data.toList.drop (k + 1)) with
      | none => rfl
      | some x => have := H6.out.1; rw [hq] at this; cases this
    clear HP H6
    go_wp2
    exact bodyPost_ret (v := .tuple #[.agg #[.int .u64 0, .int .u64 0, .int .u64 0, .int .u64 0], .int .i64 0, .int .i64 10]) (by simp [results, Try.results27, go_sem, ca, cb, cc, cd, fa, fb, fc, fd, hz3]) rfl ⟨0, 0, 0, 0, by rw [HE.out], by rw [HE.out]; exact S4V.nought, below_put BW2.out _ _ _ _ _⟩
  · obtain ⟨m, hm, hsv⟩ := H6.out.2 rfl
    have HE : Hid (parseP s.data.toList k = (m, (s.size : Int) - t.size, 0)) := by
      show parseP s.data.toList k = _
      rw [HP.out, hm, HZ.out, Lib.size_eq t, TL.out]
    have HV : Hid (S4V m x0 x1 x2 x3) := hsv
    have hts : (t.size : Int) ≤ 4000000 := by
      have := exprP_le hm; have := HL.out; rw [Lib.size_eq t, TL.out]; omega
    clear HP H6 hm hsv
    go_wp2
    go_region
    go_wp2
    exact bodyPost_ret (v := .tuple #[.agg #[.int .u64 x0, .int .u64 x1, .int .u64 x2, .int .u64 x3], .int .i64 ((s.size : Int) - t.size), .int .i64 0]) (by simp [results, Try.results27, go_sem, ca, cb, cc, cd, fa, fb, fc, fd, hz3]) rfl ⟨x0, x1, x2, x3, by rw [HE.out], by rw [HE.out]; exact HV.out, (below_put BW2.out _ _ _ _ _).drew⟩
theorem parse_any (s : ByteArray) (a : Int) (w : World) (hM : MaxL w) (hs : s.size ≤ 4000000) (hi : a ≤ 9223372036854775807) : Calls Try.prog 27 #[.string s, .int .i64 a] w (ParO s.data.toList a w) := by
  by_cases h0 : a < 0
  · exact parse_neg s a w h0
  · by_cases h1 : (s.size : Int) ≤ a
    · exact parse_past s a w (by omega) hi hs h1
    · obtain ⟨k, rfl⟩ := Int.eq_ofNat_of_zero_le (show 0 ≤ a by omega)
      by_cases hv : s[k]'(by omega) = 91
      · exact parse_in s k w hM hs (by omega) hv
      · exact parse_other s k w hs (by omega) hv
end Go.Proofs.Ytndmjndokokmnaa
