import Derived.Test.YtnhbjjjoocpedaaZg
namespace Go.Proofs.Ytnhbjjjoocpedaa
set_option linter.unusedSimpArgs false
set_option linter.unusedVariables false
open Go.RowKit
set_option maxHeartbeats 4000000 in
set_option maxRecDepth 100000 in
theorem ref_not (s : ByteArray) (k : Nat) (w : World) (hs : s.size ≤ 4000000) (h : k < s.size) (hv : s[k] = 91) (hc : k + 1 < s.size ∧ (∀ q, s[k + 1]'q = 94)) : Calls Try.prog 21 #[.string s, .int .i64 k] w (ParO s.data.toList k w) := by
  have hn : (((s[k]'h).toNat : Int) != 91) = false := by rw [hv]; rfl
  have hki : (k : Int) < s.size := by omega
  have hss : (s.size : Int) ≤ 4000000 := by omega
  obtain ⟨R, hR⟩ : ∃ R, restP true S4.zero (from_ s (k + 2)) = R := ⟨_, rfl⟩
  have hex : exprP (from_ s (k + 1)) = R.map fun x => (x.1.not, x.2) := by
    rw [exprP_eq]
    have hp : pre [94] (from_ s (k + 1)) = true := by rw [from_cons s (k + 1) hc.1, pre1, hc.2 hc.1]; rfl
    rw [hp, from_drop]; simp only [if_true]; rw [← hR]
  have HP : Hid (parseP s.data.toList k = match exprP (from_ s (k + 1)) with | none => (S4.zero, 0, 10) | some (m, t) => (m, (s.data.toList.length : Int) - t.length, 0)) := by
    unfold Hid parseP
    rw [if_neg (by rw [← Lib.size_eq, Int.toNat_natCast, get_at s k h, hv]; rintro (q | q | q); omega; omega; exact q rfl)]; rfl
  have HEX : Hid (exprP (from_ s (k + 1)) = R.map fun x => (x.1.not, x.2)) := hex
  have HRR : Hid (restP true S4.zero (from_ s (k + 2)) = R) := hR
  have hk1 : (k : Int) + 1 < s.size := by have := hc.1; omega
  have hk1n : k + 1 < s.size := hc.1
  have hv1 : ((s[k + 1]'hk1n).toNat : Int) = 94 := by rw [hc.2 hk1n]; rfl
  clear hv hex hR hc
  go_enter Try.func21, Try.ntmps21
  go_wp2
  have S0 : Hid (Sb w (two0 w) 0 0 0 0) := Sb.start w
  go_loopw [1, 9] (fun s1 s9 wr => ∃ (first : Bool) (acc : S4) (n : Nat) (x0 x1 x2 x3 : Int), s1 = .int .i64 n ∧ s9 = .bool first ∧ n ≤ s.size ∧ Hid (Sb w wr x0 x1 x2 x3) ∧ Hid (SV acc x0 x1 x2 x3) ∧ Hid (restP first acc (from_ s n) = R)) (fun s1 _ _ => s.size - (intOf s1).toNat)
  case atStart =>
    exact ⟨true, S4.zero, k + 2, 0, 0, 0, 0, by first | rfl | go_num | (congr 1; omega), rfl, by omega, S0.out, SV.nought, HRR.out⟩
  case round =>
    obtain ⟨first, acc, n, x0, x1, x2, x3, rfl, rfl, hn, SB, SVr, RR⟩ := hrel
    clear S0 HRR
    obtain ⟨⟨ka, kb, kc, kd⟩, ja, jb, jc, jd⟩ := id SB.out.set
    obtain ⟨⟨ca, cb, cc, cd⟩, fa, fb, fc, fd⟩ := id SB.out.box
    by_cases hlt : n < s.size
    · have hni : (n : Int) < s.size := by omega
      rcases (show (first = false ∧ s[n] = 93) ∨ (first = false ∧ s[n] ≠ 93) ∨ (first = true ∧ s[n] = 93) ∨ (first = true ∧ s[n] ≠ 93) by cases first <;> simp <;> exact Decidable.em _) with ⟨rfl, h93⟩ | ⟨rfl, h93⟩ | ⟨rfl, h93⟩ | ⟨rfl, h93⟩
      · have RE : R = some (acc, from_ s (n + 1)) := by rw [← RR.out, restP_end acc _ (by rw [from_cons s n hlt, pre1, h93]; rfl), from_drop]
        have HE : Hid (parseP s.data.toList k = (acc.not, (n : Int) + 1, 0)) := by unfold Hid; rw [HP.out, HEX.out, RE]; simp only [Option.map_some]; rw [from_len, ← Lib.size_eq]; congr 2; omega
        have hv9 : ((s[n]'hlt).toNat : Int) = 93 := v8 _ 93 (by decide) h93
        have GN := not_at17 acc x0 x1 x2 x3 SVr.out
        clear RE RR HP HEX h93
        go_wp2_with fail
        refine (GN.out _).mono ?_
        rintro e w4 ⟨y0, y1, y2, y3, rfl, sv, b4⟩
        have SB4 : Hid (Sb w w4 x0 x1 x2 x3) := SB.out.below b4
        have HSV := (show Hid _ from sv)
        clear ka kb kc kd ja jb jc jd ca cb cc cd fa fb fc fd sv b4 SB
        obtain ⟨⟨ka, kb, kc, kd⟩, ja, jb, jc, jd⟩ := id SB4.out.set
        obtain ⟨⟨ca, cb, cc, cd⟩, fa, fb, fc, fd⟩ := id SB4.out.box
        have SB5 := (show Hid _ from SB4.out.put y0 y1 y2 y3)
        go_wp2
        exact bodyPost_ret (v := .tuple #[.agg #[.int .u64 y0, .int .u64 y1, .int .u64 y2, .int .u64 y3], .int .i64 ((n : Int) + 1), .int .i64 0]) (by simp [results, Try.results21, go_sem, ca, cb, cc, cd, fa, fb, fc, fd, ka, kb, kc, kd, ja, jb, jc, jd]) rfl ⟨y0, y1, y2, y3, by rw [HE.out], by rw [HE.out]; exact HSV.out, put0 SB5.out.bel _ _ _ _⟩
      · have hgo : ¬ (false = false ∧ pre [93] (from_ s n) = true) := by rw [from_cons s n hlt, pre1]; rintro ⟨_, q⟩; exact h93 (beq_iff_eq.1 q).symm
        have hv9 : (((s[n]'hlt).toNat : Int) == 93) = false := u8_ne _ 93 (by decide) h93
        clear h93
        have GM : Hid (∀ W, Calls Try.prog 26 #[.string s, .int .i64 n] W (MemR (memberR (from_ s n)) s n W)) := fun W => mem_any s n W hs hlt
        cases hm : memberR (from_ s n) with
        | none =>
          have RE : R = none := by rw [← RR.out]; exact restR_none false acc _ hgo hm
          have HE : Hid (parseP s.data.toList k = (S4.zero, 0, 10)) := by unfold Hid; rw [HP.out, HEX.out, RE]; try rfl
          rw [hm] at GM
          clear RE RR HP HEX hm hgo ka kb kc kd ja jb jc jd ca cb cc cd fa fb fc fd
          go_wp2_with fail
          refine (GM.out _).mono ?_
          rintro e w4 ⟨y0, y1, y2, y3, n', ok, rfl, b4, h5, h6⟩
          have hok : ok = false := by simpa using h5.symm
          subst hok
          have SB4 : Hid (Sb w w4 x0 x1 x2 x3) := SB.out.below b4
          have hz : w.heap.size < w4.heap.size := by have := SB4.out.size; omega
          clear b4 h5 h6 GM
          obtain ⟨⟨ca, cb, cc, cd⟩, fa, fb, fc, fd⟩ := id SB4.out.box
          go_wp2
          exact bodyPost_ret (v := .tuple #[.agg #[.int .u64 0, .int .u64 0, .int .u64 0, .int .u64 0], .int .i64 0, .int .i64 10]) (by simp [results, Try.results21, go_sem, ca, cb, cc, cd, fa, fb, fc, fd, hz]) rfl ⟨0, 0, 0, 0, by rw [HE.out], by rw [HE.out]; exact SV.nought, below_put SB4.out.bel _ _ _ _ _⟩
        | some mt =>
          obtain ⟨m, t⟩ := mt
          rw [hm] at GM
          have RE : Hid (restP false (acc.or m) t = R) := by rw [← RR.out]; exact (restR_some false acc _ hgo hm).symm
          clear RR hm hgo ka kb kc kd ja jb jc jd ca cb cc cd fa fb fc fd
          go_wp2_with fail
          refine (GM.out _).mono ?_
          rintro e w4 ⟨y0, y1, y2, y3, n', ok, rfl, b4, h5, h6⟩
          have hok : ok = true := by simpa using h5.symm
          subst hok
          obtain ⟨m', e6, hsv, hn1, hn2⟩ := h6 rfl
          simp only [Option.some.injEq, Prod.mk.injEq] at e6
          obtain ⟨rfl, rfl⟩ := e6
          have SB4 : Hid (Sb w w4 x0 x1 x2 x3) := SB.out.below b4
          have hb4 : w.heap.size + 1 < w4.heap.size := SB4.out.size
          have GO := or_at27 acc m x0 x1 x2 x3 y0 y1 y2 y3 SVr.out hsv
          clear b4 h5 h6 GM hsv SB
          obtain ⟨⟨ka, kb, kc, kd⟩, ja, jb, jc, jd⟩ := id SB4.out.set
          go_wp2_with fail
          refine (GO.out _).mono ?_
          rintro e w5 ⟨z0, z1, z2, z3, rfl, sv, b5⟩
          have SB5 : Hid (Sb w w5 x0 x1 x2 x3) := (SB4.out.alloc _).below b5
          have HSV := (show Hid _ from sv)
          clear ka kb kc kd ja jb jc jd sv b5 SB4 hb4
          obtain ⟨⟨ka, kb, kc, kd⟩, ja, jb, jc, jd⟩ := id SB5.out.set
          have SB6 := (show Hid _ from SB5.out.put z0 z1 z2 z3)
          go_wp2
          have hd : decide (s.size ≤ k) = false := by rw [decide_eq_false_iff_not]; omega
          try simp only [hd, Bool.or_false]
          go_roundw
          case rel => exact ⟨false, acc.or m, n', z0, z1, z2, z3, rfl, rfl, hn2, SB6.out, HSV.out, RE.out⟩
          case measure => simp [intOf]; omega
      · have hgo : ¬ (true = false ∧ pre [93] (from_ s n) = true) := by simp
        have hv9 : ((s[n]'hlt).toNat : Int) = 93 := v8 _ 93 (by decide) h93
        clear h93
        have GM : Hid (∀ W, Calls Try.prog 26 #[.string s, .int .i64 n] W (MemR (memberR (from_ s n)) s n W)) := fun W => mem_any s n W hs hlt
        cases hm : memberR (from_ s n) with
        | none =>
          have RE : R = none := by rw [← RR.out]; exact restR_none true acc _ hgo hm
          have HE : Hid (parseP s.data.toList k = (S4.zero, 0, 10)) := by unfold Hid; rw [HP.out, HEX.out, RE]; try rfl
          rw [hm] at GM
          clear RE RR HP HEX hm hgo ka kb kc kd ja jb jc jd ca cb cc cd fa fb fc fd
          go_wp2_with fail
          refine (GM.out _).mono ?_
          rintro e w4 ⟨y0, y1, y2, y3, n', ok, rfl, b4, h5, h6⟩
          have hok : ok = false := by simpa using h5.symm
          subst hok
          have SB4 : Hid (Sb w w4 x0 x1 x2 x3) := SB.out.below b4
          have hz : w.heap.size < w4.heap.size := by have := SB4.out.size; omega
          clear b4 h5 h6 GM
          obtain ⟨⟨ca, cb, cc, cd⟩, fa, fb, fc, fd⟩ := id SB4.out.box
          go_wp2
          exact bodyPost_ret (v := .tuple #[.agg #[.int .u64 0, .int .u64 0, .int .u64 0, .int .u64 0], .int .i64 0, .int .i64 10]) (by simp [results, Try.results21, go_sem, ca, cb, cc, cd, fa, fb, fc, fd, hz]) rfl ⟨0, 0, 0, 0, by rw [HE.out], by rw [HE.out]; exact SV.nought, below_put SB4.out.bel _ _ _ _ _⟩
        | some mt =>
          obtain ⟨m, t⟩ := mt
          rw [hm] at GM
          have RE : Hid (restP false (acc.or m) t = R) := by rw [← RR.out]; exact (restR_some true acc _ hgo hm).symm
          clear RR hm hgo ka kb kc kd ja jb jc jd ca cb cc cd fa fb fc fd
          go_wp2_with fail
          refine (GM.out _).mono ?_
          rintro e w4 ⟨y0, y1, y2, y3, n', ok, rfl, b4, h5, h6⟩
          have hok : ok = true := by simpa using h5.symm
          subst hok
          obtain ⟨m', e6, hsv, hn1, hn2⟩ := h6 rfl
          simp only [Option.some.injEq, Prod.mk.injEq] at e6
          obtain ⟨rfl, rfl⟩ := e6
          have SB4 : Hid (Sb w w4 x0 x1 x2 x3) := SB.out.below b4
          have hb4 : w.heap.size + 1 < w4.heap.size := SB4.out.size
          have GO := or_at27 acc m x0 x1 x2 x3 y0 y1 y2 y3 SVr.out hsv
          clear b4 h5 h6 GM hsv SB
          obtain ⟨⟨ka, kb, kc, kd⟩, ja, jb, jc, jd⟩ := id SB4.out.set
          go_wp2_with fail
          refine (GO.out _).mono ?_
          rintro e w5 ⟨z0, z1, z2, z3, rfl, sv, b5⟩
          have SB5 : Hid (Sb w w5 x0 x1 x2 x3) := (SB4.out.alloc _).below b5
          have HSV := (show Hid _ from sv)
          clear ka kb kc kd ja jb jc jd sv b5 SB4 hb4
          obtain ⟨⟨ka, kb, kc, kd⟩, ja, jb, jc, jd⟩ := id SB5.out.set
          have SB6 := (show Hid _ from SB5.out.put z0 z1 z2 z3)
          go_wp2
          have hd : decide (s.size ≤ k) = false := by rw [decide_eq_false_iff_not]; omega
          try simp only [hd, Bool.or_false]
          go_roundw
          case rel => exact ⟨false, acc.or m, n', z0, z1, z2, z3, rfl, rfl, hn2, SB6.out, HSV.out, RE.out⟩
          case measure => simp [intOf]; omega
      · have hgo : ¬ (true = false ∧ pre [93] (from_ s n) = true) := by simp
        have hv9 : (((s[n]'hlt).toNat : Int) == 93) = false := u8_ne _ 93 (by decide) h93
        clear h93
        have GM : Hid (∀ W, Calls Try.prog 26 #[.string s, .int .i64 n] W (MemR (memberR (from_ s n)) s n W)) := fun W => mem_any s n W hs hlt
        cases hm : memberR (from_ s n) with
        | none =>
          have RE : R = none := by rw [← RR.out]; exact restR_none true acc _ hgo hm
          have HE : Hid (parseP s.data.toList k = (S4.zero, 0, 10)) := by unfold Hid; rw [HP.out, HEX.out, RE]; try rfl
          rw [hm] at GM
          clear RE RR HP HEX hm hgo ka kb kc kd ja jb jc jd ca cb cc cd fa fb fc fd
          go_wp2_with fail
          refine (GM.out _).mono ?_
          rintro e w4 ⟨y0, y1, y2, y3, n', ok, rfl, b4, h5, h6⟩
          have hok : ok = false := by simpa using h5.symm
          subst hok
          have SB4 : Hid (Sb w w4 x0 x1 x2 x3) := SB.out.below b4
          have hz : w.heap.size < w4.heap.size := by have := SB4.out.size; omega
          clear b4 h5 h6 GM
          obtain ⟨⟨ca, cb, cc, cd⟩, fa, fb, fc, fd⟩ := id SB4.out.box
          go_wp2
          exact bodyPost_ret (v := .tuple #[.agg #[.int .u64 0, .int .u64 0, .int .u64 0, .int .u64 0], .int .i64 0, .int .i64 10]) (by simp [results, Try.results21, go_sem, ca, cb, cc, cd, fa, fb, fc, fd, hz]) rfl ⟨0, 0, 0, 0, by rw [HE.out], by rw [HE.out]; exact SV.nought, below_put SB4.out.bel _ _ _ _ _⟩
        | some mt =>
          obtain ⟨m, t⟩ := mt
          rw [hm] at GM
          have RE : Hid (restP false (acc.or m) t = R) := by rw [← RR.out]; exact (restR_some true acc _ hgo hm).symm
          clear RR hm hgo ka kb kc kd ja jb jc jd ca cb cc cd fa fb fc fd
          go_wp2_with fail
          refine (GM.out _).mono ?_
          rintro e w4 ⟨y0, y1, y2, y3, n', ok, rfl, b4, h5, h6⟩
          have hok : ok = true := by simpa using h5.symm
          subst hok
          obtain ⟨m', e6, hsv, hn1, hn2⟩ := h6 rfl
          simp only [Option.some.injEq, Prod.mk.injEq] at e6
          obtain ⟨rfl, rfl⟩ := e6
          have SB4 : Hid (Sb w w4 x0 x1 x2 x3) := SB.out.below b4
          have hb4 : w.heap.size + 1 < w4.heap.size := SB4.out.size
          have GO := or_at27 acc m x0 x1 x2 x3 y0 y1 y2 y3 SVr.out hsv
          clear b4 h5 h6 GM hsv SB
          obtain ⟨⟨ka, kb, kc, kd⟩, ja, jb, jc, jd⟩ := id SB4.out.set
          go_wp2_with fail
          refine (GO.out _).mono ?_
          rintro e w5 ⟨z0, z1, z2, z3, rfl, sv, b5⟩
          have SB5 : Hid (Sb w w5 x0 x1 x2 x3) := (SB4.out.alloc _).below b5
          have HSV := (show Hid _ from sv)
          clear ka kb kc kd ja jb jc jd sv b5 SB4 hb4
          obtain ⟨⟨ka, kb, kc, kd⟩, ja, jb, jc, jd⟩ := id SB5.out.set
          have SB6 := (show Hid _ from SB5.out.put z0 z1 z2 z3)
          go_wp2
          have hd : decide (s.size ≤ k) = false := by rw [decide_eq_false_iff_not]; omega
          try simp only [hd, Bool.or_false]
          go_roundw
          case rel => exact ⟨false, acc.or m, n', z0, z1, z2, z3, rfl, rfl, hn2, SB6.out, HSV.out, RE.out⟩
          case measure => simp [intOf]; omega
    · have hni : ¬ (n : Int) < s.size := by omega
      have hni' : (s.size : Int) ≤ n := by omega
      have RE : R = none := by rw [← RR.out, from_nil s n (by omega)]; exact restP_nil _ _
      have HE : Hid (parseP s.data.toList k = (S4.zero, 0, 10)) := by unfold Hid; rw [HP.out, HEX.out, RE]; try rfl
      clear RE RR HP HEX
      go_wp2
      exact bodyPost_ret (v := .tuple #[.agg #[.int .u64 0, .int .u64 0, .int .u64 0, .int .u64 0], .int .i64 0, .int .i64 10]) (by simp [results, Try.results21, go_sem, ca, cb, cc, cd, fa, fb, fc, fd]) rfl ⟨0, 0, 0, 0, by rw [HE.out], by rw [HE.out]; exact SV.nought, put0 SB.out.bel _ _ _ _⟩
theorem bracket_any (s : ByteArray) (a : Int) (w : World) (hs : s.size ≤ 4000000) (hi : a ≤ 9223372036854775807) : Calls Try.prog 21 #[.string s, .int .i64 a] w (ParO s.data.toList a w) := by
  by_cases h0 : a < 0
  · exact ref_neg s a w h0
  · by_cases h1 : (s.size : Int) ≤ a
    · exact ref_past s a w (by omega) hi hs h1
    · obtain ⟨k, rfl⟩ := Int.eq_ofNat_of_zero_le (show 0 ≤ a by omega)
      have hk : k < s.size := by omega
      by_cases hv : s[k] = 91
      · by_cases h2 : k + 1 < s.size
        · by_cases h3 : s[k + 1] = 94
          · exact ref_not s k w hs hk hv ⟨h2, fun q => h3⟩
          · exact ref_plain s k w hs hk hv (.inr ⟨h2, h3⟩)
        · exact ref_plain s k w hs hk hv (.inl h2)
      · exact ref_other s k w hs hk hv
end Go.Proofs.Ytnhbjjjoocpedaa
