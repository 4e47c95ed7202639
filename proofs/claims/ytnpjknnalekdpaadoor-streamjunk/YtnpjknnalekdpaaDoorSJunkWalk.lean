import Derived.Test.YtnpjknnalekdpaaDoorTt
namespace Go.Proofs.YtnpjknnalekdpaaDoor
set_option linter.unusedSimpArgs false
set_option linter.unusedVariables false
open Go.RowKit
theorem OuterS.at {w0 w W : World} {g : Nat} {D : Int} (h : OuterS w0 w g D) (b : Below w.heap.size w W) : Below w0.heap.size w0 W := h.bel.trans (b.mono h.bel.size)
set_option maxHeartbeats 4000000 in
set_option maxRecDepth 100000 in
theorem streamJunk_walk (v : Value) (ps : List Pc) (w : World) (hL : Laid w) (hp : PiecesAt w v ps) : Calls Tryd.prog 16 #[v] w fun e w' => e = .returned (.bool true) ∧ Below w.heap.size w w' := by
  have h2 := hL.two
  have AW : Hid (∀ W, Below w.heap.size w W → Calls Tryd.prog 46 #[] W fun e w' => e = .returned (.bool true) ∧ Below w.heap.size w w') := fun W q =>
    (awake6_any W (hL.below q h2)).mono fun e w' ⟨r1, r2⟩ => ⟨r1, q.trans (r2.mono q.size)⟩
  have HB : Hid (∀ p ∈ ps, (0 ≤ p.1 ∧ p.1 ≤ 255) ∧ Bytes p.2.1 ∧ Bytes p.2.2) := hp.choose_spec.choose_spec.choose_spec.choose_spec.2.2.2.2.2
  obtain ⟨av, n, cp, rfl⟩ : ∃ av n cp, v = .slice av n cp := by obtain ⟨av, b, o, cp, h, _⟩ := hp; exact ⟨av, _, cp, h⟩
  obtain ⟨hn, b, o, hA, hC⟩ := hp.cells
  have HN : Hid (n = ps.length) := hn
  have HA : Hid (0 < n → av = some ⟨b, o, none⟩) := hA
  have HC : Hid _ := hC
  have HL : Hid (Laid w) := hL
  have B0 : Hid (Below w.heap.size w w) := Below.refl _ _
  have H2 : Hid (2 ≤ w.heap.size) := h2
  clear hL h2 hp hn hA hC
  go_enter Tryd.func16, Tryd.ntmps16
  go_wp2_with fail
  refine (AW.out _ B0.out).mono ?_
  rintro e w1 ⟨rfl, b1⟩
  have B1 : Hid (Below w.heap.size w w1) := b1
  clear b1
  by_cases h20 : (20 : Int) < (n : Int)
  · go_wp2_with fail
    refine (AW.out _ B1.out).mono ?_
    rintro e w3 ⟨rfl, b3⟩
    go_wp2
    go_ret
    exact ⟨rfl, b3⟩
  · have H20 : Hid (n ≤ 20) := by unfold Hid; omega
    have O0 : Hid (OuterS w (w1.alloc (.cells #[.string ⟨#[]⟩, .int .i64 0] 78)) w1.heap.size ((0 : Nat) : Int)) := ⟨B1.out.alloc B1.out.size _, B1.out.size, heap_alloc_new _ _⟩
    go_wp2
    go_loopw [4, 21] (fun s4 i wr => ∃ k D : Nat, k ≤ n ∧ i = .int .i64 k ∧ s4 = .int .i64 D ∧ D ≤ 400 * k ∧ Hid (OuterS w wr w1.heap.size D)) (fun _ i _ => n - (intOf i).toNat)
    case atStart => exact ⟨0, 0, by omega, rfl, rfl, by omega, O0.out⟩
    case round =>
      clear O0
      obtain ⟨k, D, hk, rfl, rfl, hD, S1⟩ := hrel
      by_cases hlt : k < n
      · obtain ⟨⟨t, bd, jk⟩, hpk⟩ : ∃ p, ps[k]? = some p := ⟨ps[k]'(by rw [← HN.out]; exact hlt), List.getElem?_eq_getElem (by rw [← HN.out]; exact hlt)⟩
        obtain rfl := HA.out (by omega)
        obtain ⟨x, y, hcy⟩ := HC.out k _ hpk
        have CY : Hid _ := hcy
        have s1 := S1.out
        have hp3 := HB.out _ (List.mem_of_getElem? hpk)
        have h20' := H20.out
        have i1 : (k : Int) < (n : Int) := by omega
        have i0 : (0 : Int) ≤ (k : Int) := by omega
        have HLT : Hid (k < n) := hlt
        have q1 := CY.out _ s1.bel
        obtain ⟨c0, c1, _, p1, pj⟩ := q1
        obtain ⟨xa, xb, xo, xc, hx, _⟩ := id p1
        subst hx
        obtain ⟨ya, yb, yo, yc, hy, _⟩ := id pj
        subst hy
        obtain ⟨L, hLn⟩ : ∃ L, L = bd.length := ⟨_, rfl⟩
        obtain ⟨J, hJn⟩ : ∃ J, J = jk.length := ⟨_, rfl⟩
        have HLN : Hid (L = bd.length) := hLn
        have HJN : Hid (J = jk.length) := hJn
        dsimp only at c1
        rw [← hLn] at c1
        have P1 : Hid (PartAt wr (.slice xa L xc) bd) := by rw [hLn]; exact p1
        clear hpk hlt p1 pj hcy hLn hJn
        go_wp2_with fail
        refine wp_region_noPanic ?_
        refine wp_region_held_drew (S := fun w' => w'.cell? ⟨b, o + k * 3, none⟩ = some (.int .u8 t) ∧ w'.cell? ⟨b, o + k * 3 + 1, none⟩ = some (.slice xa L xc)) (by kernel_rfl) ((⟨c0, c1⟩ : wr.drew.cell? _ = _ ∧ wr.drew.cell? _ = _)) (fun hHeld => ?_)
        try simp only [Act.put, List.setIfInBounds_toArray, List.set_cons_zero, List.set_cons_succ]
        refine wpAnyH_take (i := 0) (oi := ⟨some 24, .move (.tmp 0), 85, "law.go:99", #[], none⟩) (v := ?_) rfl (by kernel_rfl) (by kernel_rfl) (by kernel_rfl) (fun _ _ _ h => h) (Or.inl ⟨by rfl, ?_⟩) hHeld ?_
        rotate_left 1
        · (intro wq hSq; obtain ⟨hq0, hq1⟩ := hSq; go_simp; first | done | with_reducible rfl)
        try simp only [Act.put, List.setIfInBounds_toArray, List.set_cons_zero, List.set_cons_succ]
        refine wpAnyH_take (i := 1) (oi := ⟨some 25, .move (.tmp 5), 3, "law.go:99", #[], none⟩) (v := ?_) rfl (by kernel_rfl) (by kernel_rfl) (by kernel_rfl) (fun _ _ _ h => h) (Or.inl ⟨by rfl, ?_⟩) hHeld ?_
        rotate_left 1
        · (intro wq hSq; obtain ⟨hq0, hq1⟩ := hSq; go_simp; first | done | with_reducible rfl)
        try simp only [Act.put, List.setIfInBounds_toArray, List.set_cons_zero, List.set_cons_succ]
        refine wpAnyH_take (i := 2) (oi := ⟨some 26, .indexAddr 85 (.tmp 24) (.tmp 25), 0, "law.go:99", #[⟨0, .data⟩, ⟨1, .data⟩], none⟩) (v := ?_) rfl (by kernel_rfl) (by kernel_rfl) (by kernel_rfl) (fun _ _ _ h => h) (Or.inl ⟨by rfl, ?_⟩) hHeld ?_
        rotate_left 1
        · (intro wq hSq; obtain ⟨hq0, hq1⟩ := hSq; go_simp; first | done | with_reducible rfl)
        try simp only [Act.put, List.setIfInBounds_toArray, List.set_cons_zero, List.set_cons_succ]
        refine wpAnyH_take (i := 3) (oi := ⟨some 27, .fieldAddr 87 (.tmp 26) 0, 0, "law.go:99", #[⟨2, .data⟩], none⟩) (v := ?_) rfl (by kernel_rfl) (by kernel_rfl) (by kernel_rfl) (fun _ _ _ h => h) (Or.inl ⟨by rfl, ?_⟩) hHeld ?_
        rotate_left 1
        · (intro wq hSq; obtain ⟨hq0, hq1⟩ := hSq; go_simp; first | done | with_reducible rfl)
        try simp only [Act.put, List.setIfInBounds_toArray, List.set_cons_zero, List.set_cons_succ]
        refine wpAnyH_take (i := 4) (oi := ⟨some 28, .load 5 (.tmp 27), 5, "law.go:99", #[⟨3, .data⟩], none⟩) (v := ?_) rfl (by kernel_rfl) (by kernel_rfl) (by kernel_rfl) (fun _ _ _ h => h) (Or.inl ⟨by rfl, ?_⟩) hHeld ?_
        rotate_left 1
        · (intro wq hSq; obtain ⟨hq0, hq1⟩ := hSq; go_simp; first | done | with_reducible rfl)
        try simp only [Act.put, List.setIfInBounds_toArray, List.set_cons_zero, List.set_cons_succ]
        refine wpAnyH_take (i := 5) (oi := ⟨some 29, .call ⟨.builtin .max, #[.tmp 28, .const (.int .u8 1)], #[5, 5]⟩, 5, "law.go:99", #[⟨4, .data⟩], none⟩) (v := ?_) rfl (by kernel_rfl) (by kernel_rfl) (by kernel_rfl) (fun _ _ _ h => h) (Or.inl ⟨by rfl, ?_⟩) hHeld ?_
        rotate_left 1
        · (intro wq hSq; obtain ⟨hq0, hq1⟩ := hSq; go_simp; first | done | with_reducible rfl)
        try simp only [Act.put, List.setIfInBounds_toArray, List.set_cons_zero, List.set_cons_succ]
        refine wpAnyH_take (i := 6) (oi := ⟨some 30, .move (.tmp 0), 85, "law.go:99", #[], none⟩) (v := ?_) rfl (by kernel_rfl) (by kernel_rfl) (by kernel_rfl) (fun _ _ _ h => h) (Or.inl ⟨by rfl, ?_⟩) hHeld ?_
        rotate_left 1
        · (intro wq hSq; obtain ⟨hq0, hq1⟩ := hSq; go_simp; first | done | with_reducible rfl)
        try simp only [Act.put, List.setIfInBounds_toArray, List.set_cons_zero, List.set_cons_succ]
        refine wpAnyH_take (i := 7) (oi := ⟨some 31, .move (.tmp 5), 3, "law.go:99", #[], none⟩) (v := ?_) rfl (by kernel_rfl) (by kernel_rfl) (by kernel_rfl) (fun _ _ _ h => h) (Or.inl ⟨by rfl, ?_⟩) hHeld ?_
        rotate_left 1
        · (intro wq hSq; obtain ⟨hq0, hq1⟩ := hSq; go_simp; first | done | with_reducible rfl)
        try simp only [Act.put, List.setIfInBounds_toArray, List.set_cons_zero, List.set_cons_succ]
        refine wpAnyH_take (i := 8) (oi := ⟨some 32, .indexAddr 85 (.tmp 30) (.tmp 31), 0, "law.go:99", #[⟨6, .data⟩, ⟨7, .data⟩], none⟩) (v := ?_) rfl (by kernel_rfl) (by kernel_rfl) (by kernel_rfl) (fun _ _ _ h => h) (Or.inl ⟨by rfl, ?_⟩) hHeld ?_
        rotate_left 1
        · (intro wq hSq; obtain ⟨hq0, hq1⟩ := hSq; go_simp; first | done | with_reducible rfl)
        try simp only [Act.put, List.setIfInBounds_toArray, List.set_cons_zero, List.set_cons_succ]
        refine wpAnyH_take (i := 9) (oi := ⟨some 33, .fieldAddr 87 (.tmp 32) 1, 0, "law.go:99", #[⟨8, .data⟩], none⟩) (v := ?_) rfl (by kernel_rfl) (by kernel_rfl) (by kernel_rfl) (fun _ _ _ h => h) (Or.inl ⟨by rfl, ?_⟩) hHeld ?_
        rotate_left 1
        · (intro wq hSq; obtain ⟨hq0, hq1⟩ := hSq; go_simp; first | done | with_reducible rfl)
        try simp only [Act.put, List.setIfInBounds_toArray, List.set_cons_zero, List.set_cons_succ]
        refine wpAnyH_take (i := 10) (oi := ⟨some 34, .load 22 (.tmp 33), 22, "law.go:99", #[⟨9, .data⟩], none⟩) (v := ?_) rfl (by kernel_rfl) (by kernel_rfl) (by kernel_rfl) (fun _ _ _ h => h) (Or.inl ⟨by rfl, ?_⟩) hHeld ?_
        rotate_left 1
        · (intro wq hSq; obtain ⟨hq0, hq1⟩ := hSq; go_simp; first | done | with_reducible rfl)
        try simp only [Act.put, List.setIfInBounds_toArray, List.set_cons_zero, List.set_cons_succ]
        refine wpAnyH_take (i := 11) (oi := ⟨some 35, .build 48 #[(0, .tmp 29), (1, .tmp 34)], 48, "law.go:99", #[⟨5, .data⟩, ⟨10, .data⟩], none⟩) (v := ?_) rfl (by kernel_rfl) (by kernel_rfl) (by kernel_rfl) (fun _ _ _ h => h) (Or.inl ⟨by rfl, ?_⟩) hHeld ?_
        rotate_left 1
        · (intro wq hSq; obtain ⟨hq0, hq1⟩ := hSq; go_simp; first | done | with_reducible rfl)
        try simp only [Act.put, List.setIfInBounds_toArray, List.set_cons_zero, List.set_cons_succ]
        refine wpAnyH_ready (rs := [12]) (by kernel_rfl) (by simp) ?_
        refine (AllReadyH.cons (o := ⟨some 6, .alloc 48, 0, "law.go:99", #[], none⟩) rfl (fun K hK => ?_) AllReadyH.nil)
        go_simp
        refine hK.out _ _ (cells_new (⟨c0, c1⟩ : wr.drew.cell? _ = _ ∧ wr.drew.cell? _ = _)) (fun hHeld1 => ?_)
        clear hK K hHeld
        try simp only [Act.put, List.setIfInBounds_toArray, List.set_cons_zero, List.set_cons_succ]
        refine wpAnyH_ready (rs := [13]) (by kernel_rfl) (by simp) ?_
        refine (AllReadyH.cons (o := ⟨none, .store 48 (.tmp 6) (.tmp 35), 0, "law.go:99", #[⟨12, .data⟩, ⟨11, .data⟩, ⟨0, .phase⟩, ⟨1, .phase⟩, ⟨2, .phase⟩, ⟨3, .phase⟩, ⟨4, .phase⟩, ⟨5, .phase⟩, ⟨6, .phase⟩, ⟨7, .phase⟩, ⟨8, .phase⟩, ⟨9, .phase⟩, ⟨10, .phase⟩, ⟨11, .phase⟩, ⟨12, .phase⟩], none⟩) rfl (fun K hK => ?_) AllReadyH.nil)
        go_simp
        refine hK.out _ _ (cells_new (⟨c0, c1⟩ : wr.drew.cell? _ = _ ∧ wr.drew.cell? _ = _)) (fun hHeld2 => ?_)
        clear hK K hHeld1
        try simp only [Act.put, List.setIfInBounds_toArray, List.set_cons_zero, List.set_cons_succ]
        refine wpAnyH_done (by kernel_rfl) ?_ _
        refine NoPanic.normal ?_
        skip
        have hg := heap_alloc_new wr (.cells #[.int .u8 (max t 1), .slice xa L xc] 48)
        have bb : Below wr.heap.size wr (wr.alloc (.cells #[.int .u8 (max t 1), .slice xa L xc] 48)).drew := ((Below.refl _ _).alloc (Nat.le_refl _) _).drew
        have hg : (wr.alloc (.cells #[.int .u8 (max t 1), .slice xa L xc] 48)).drew.heap[wr.heap.size]? = some (.cells #[.int .u8 (max t 1), .slice xa L xc] 48) := hg
        have hT : 0 < max t 1 ∧ max t 1 ≤ 255 := by have q : 0 ≤ t ∧ t ≤ 255 := hp3.1; omega
        generalize (wr.alloc (.cells #[.int .u8 (max t 1), .slice xa L xc] 48)).drew = w2 at *
        generalize max t 1 = T at *
        have O2 : Hid (OuterS w w2 w1.heap.size D) := s1.below bb
        have XB2 : Hid (BoxW w2 wr.heap.size T (.slice xa L xc)) := hg
        have NE : Hid (w1.heap.size < wr.heap.size) := s1.st.lt
        have d0 := row_cell (j := 0) hg rfl
        have d1 := row_cell (j := 1) hg rfl
        have P2 : Hid (PartAt w2 (.slice xa L xc) bd) := P1.out.below bb
        have PW : Hid (∀ W, Below w.heap.size w W → PartAt W (.slice xa L xc) bd) := fun W q => by
          have q := (CY.out W q).2.2.2.1
          rw [HLN.out]; exact q
        have PJ : Hid (∀ W, Below w.heap.size w W → PartAt W (.slice ya J yc) jk) := fun W q => by
          have q := (CY.out W q).2.2.2.2
          rw [HJN.out]; exact q
        have c2 : w2.cell? ⟨b, o + k * 3 + 2, none⟩ = some (.slice ya J yc) := by
          have q := (CY.out w2 O2.out.bel).2.2.1
          rw [HJN.out]; exact q
        have HT : Hid (0 < T ∧ T ≤ 255) := hT
        have HBD : Hid (Bytes bd) := hp3.2.1
        have HBJ : Hid (Bytes jk) := hp3.2.2
        clear s1 c0 c1 hg bb hT hp3 S1 P1 CY
        generalize wr.heap.size = gf at *
        go_wp2
        go_loopw [43] (fun j wi => ∃ i : Nat, i ≤ J ∧ j = .int .i64 i ∧ i ≤ 301 ∧ Hid (∀ q, q < i → gi jk q ≠ 114) ∧ wi = w2) (fun j _ => J - (intOf j).toNat)
        case atStart => exact ⟨0, by omega, rfl, by omega, fun q h => by omega, rfl⟩
        case round =>
          obtain ⟨i, hi, rfl, hi3, hno, rfl⟩ := hrel
          by_cases hij : i < J
          · have PJ2 := PJ.out _ O2.out.bel
            obtain ⟨ya', yb', yo', yc', hy', r1, r2, r3, r4, r5, r6⟩ := PJ2
            injection hy' with hy1 hy2 hy3
            subst hy1
            have hya := r3 (by rw [← hy2]; omega)
            subst hya
            have ce : wr.cell? ⟨yb', yo' + i, none⟩ = some (.int .u8 (gi jk i)) := r4 i _ (by rw [Array.getElem?_toList]; exact vB_at jk i (by rw [← hy2]; exact hij))
            have k1 : (i : Int) < (J : Int) := by omega
            have k0 : (0 : Int) ≤ (i : Int) := by omega
            have HIJ : Hid (i < J) := hij
            clear hij r1 r2 r3 r4 r5 r6
            by_cases e114 : gi jk i = 114
            · clear hno
              go_wp2
              go_ret
              exact ⟨rfl, O2.out.bel⟩
            · have e114b : (gi jk i == 114) = false := by simpa using e114
              by_cases i300 : (300 : Int) < (i : Int)
              · clear hno
                go_wp2
                go_ret
                exact ⟨rfl, O2.out.bel⟩
              · have NO : Hid (∀ q, q < i + 1 → gi jk q ≠ 114) := fun q h => by
                  rcases Nat.lt_or_ge q i with h1 | h1
                  · exact hno.out q h1
                  · rw [show q = i by omega]; exact e114
                clear hno
                go_wp2
                go_roundw
                case rel => exact ⟨i + 1, by have := HIJ.out; omega, by go_num, by omega, NO, by first | rfl | trivial⟩
                case measure => have := HIJ.out; simp [intOf]; omega
          · have k1 : ¬ (i : Int) < (J : Int) := by omega
            have HJ4 : Hid (jk.length ≤ 400) := by unfold Hid; have := HJN.out; omega
            have HJ3 : Hid (J ≤ 301) := by unfold Hid; omega
            have HJR : Hid (∀ x ∈ jk, x ≠ 114) := fun x hx => by
              obtain ⟨q, hq, e⟩ := List.getElem_of_mem hx
              have := hno.out q (by have := HJN.out; omega)
              unfold gi at this
              simp [hq] at this
              rw [e] at this; exact this
            clear hno hij
            by_cases g300 : (300 : Int) < (L : Int)
            · go_wp2
              go_ret
              exact ⟨rfl, O2.out.bel⟩
            · have HL3 : Hid (L ≤ 300) := by unfold Hid; omega
              have HBL : Hid (bd.length ≤ 300) := by unfold Hid; have := HLN.out; omega
              have SZ : Hid (0 < wr.heap.size) := by have := O2.out.bel.size; have := H2.out; unfold Hid; omega
              have ENC : Hid (Calls Tryd.prog 31 #[.agg #[.int .u8 T, .slice xa L xc]] wr fun e w' => ∃ g9 c9, e = .returned (.tuple #[.slice (some ⟨g9, 0, none⟩) (L + 10) c9, .int .i64 0]) ∧ PartAt w' (.slice (some ⟨g9, 0, none⟩) (L + 10) c9) (encB T bd) ∧ Below wr.heap.size wr w') :=
                (rencode_own T HT.out xa L xc bd HLN.out.symm (by have := HL3.out; omega) HBD.out wr SZ.out P2.out).mono fun e w' ⟨u, r1, r2, r3⟩ => by
                  have hl : (encB T bd).length = L + 10 := by rw [encB_length, HLN.out]
                  have p := OwnB.partG r2 (by have := r3.size; have := SZ.out; omega)
                  rcases r2.2 with ⟨q, q0⟩ | ⟨g0, cap, cur0, q1, _⟩
                  · omega
                  · subst q1
                    rw [hl] at r1 p
                    exact ⟨g0, cap, r1, p, r3⟩
              have hlE : (encB T bd).length = L + 10 := by rw [encB_length, HLN.out]
              have LN1 : Hid (([] : List Int).length + jk.length ≤ 140737488355328) := by unfold Hid; have := HJ4.out; simp; omega
              have LN2 : Hid ((([] : List Int) ++ jk).length + (encB T bd).length ≤ 140737488355328) := by unfold Hid; have := HJ4.out; have := HL3.out; rw [List.nil_append]; omega
              have HD : Hid (D ≤ 100000) := by unfold Hid; have := H20.out; omega
              have hDJ : IntKind.i64.wrap ((D : Int) + (J : Int)) = (D : Int) + (J : Int) := wrapI _ (by omega) (by have := HD.out; have := HJ3.out; omega)
              clear hlE
              go_wp2_with fail
              refine ENC.out.mono ?_
              rintro e w3 ⟨g9, c9, rfl, p9, b9⟩
              have b9d := b9.drew
              have O4 : Hid (OuterS w w3.drew w1.heap.size D) := O2.out.below b9d
              have XF : Hid (BoxW w3.drew gf T (.slice xa L xc)) := XB2.out.below b9d
              have E4 : Hid (PartAt w3.drew (.slice (some ⟨g9, 0, none⟩) (L + 10) c9) (encB T bd)) := p9.below ((Below.refl _ _).drew)
              have BF : Hid (Below w3.drew.heap.size w3.drew w3.drew) := Below.refl _ _
              clear O2 XB2 p9 b9 b9d ENC d0 d1 c2 P2
              go_wp2_with fail
              refine wp_region_noPanic ?_
              refine wp_region_held_drew (S := fun w' => BoxW w' gf T (.slice xa L xc)) (by kernel_rfl) (XF.out) (fun hHeld => ?_)
              try simp only [Act.put, List.setIfInBounds_toArray, List.set_cons_zero, List.set_cons_succ]
              generalize w3.drew = w4 at *
              refine wpAnyH_take (i := 1) (oi := ⟨some 70, .move (.tmp 7), 22, "law.go:111", #[], none⟩) (v := ?_) rfl (by kernel_rfl) (by kernel_rfl) (by kernel_rfl) (fun _ _ _ h => h) (Or.inl ⟨by rfl, ?_⟩) hHeld ?_
              rotate_left 1
              · (intro wq hSq; (try dsimp only at hSq); go_simp; first | done | with_reducible rfl)
              try simp only [Act.put, List.setIfInBounds_toArray, List.set_cons_zero, List.set_cons_succ]
              refine wpAnyH_take (i := 3) (oi := ⟨some 72, .move (.tmp 9), 22, "law.go:111", #[], none⟩) (v := ?_) rfl (by kernel_rfl) (by kernel_rfl) (by kernel_rfl) (fun _ _ _ h => h) (Or.inl ⟨by rfl, ?_⟩) hHeld ?_
              rotate_left 1
              · (intro wq hSq; (try dsimp only at hSq); go_simp; first | done | with_reducible rfl)
              try simp only [Act.put, List.setIfInBounds_toArray, List.set_cons_zero, List.set_cons_succ]
              refine wpAnyH_take (i := 6) (oi := ⟨some 75, .load 48 (.tmp 6), 48, "law.go:111", #[], none⟩) (v := .agg (List.toArray (.int .u8 T :: .slice xa L xc :: []))) rfl (by kernel_rfl) (by kernel_rfl) (by kernel_rfl) (fun _ _ _ h => h) (yieldsIf_load_mid rfl 48 _ rfl gf 0 rfl [.int .u8 T, .slice xa L xc] _ (fun wq hSq => BoxW.range hSq) Tryd.underlying48 rfl (by kernel_rfl)) hHeld ?_
              try simp only [Act.put, List.setIfInBounds_toArray, List.set_cons_zero, List.set_cons_succ]
              refine wpAnyH_ready (rs := [0, 7]) (by kernel_rfl) (by simp) ?_
              refine (AllReadyH.cons (o := ⟨some 69, .buildSlice 22 0 #[], 22, "law.go:111", #[], none⟩) rfl (fun K hK => ?_) (AllReadyH.cons (o := ⟨some 76, .buildSlice 81 1 #[(0, .tmp 75)], 81, "law.go:111", #[⟨6, .data⟩], none⟩) rfl (fun K hK => ?_) AllReadyH.nil))
              · go_simp
                refine hK.out _ _ (XF.out.below ((Below.refl _ _).alloc (Nat.le_refl _) _)) (fun hHeld1 => ?_)
                clear hK K hHeld
                try simp only [Act.put, List.setIfInBounds_toArray, List.set_cons_zero, List.set_cons_succ]
                have JF : Hid (JS w4 (w4.alloc (.cells #[] 5)) (.slice (some ⟨w4.heap.size, 0, none⟩) 0 0) []) := JS.start BF.out
                replace XF : Hid (BoxW (w4.alloc (.cells #[] 5)) gf T (.slice xa L xc)) := XF.out.below ((Below.refl _ _).alloc (Nat.le_refl _) _)
                clear BF
                generalize (w4.alloc (.cells #[] 5)) = w5 at *
                refine wpAnyH_ready (rs := [2, 7]) (by kernel_rfl) (by simp) ?_
                refine (AllReadyH.cons (o := ⟨some 71, .call ⟨.builtin .append, #[.tmp 69, .tmp 70], #[22, 22]⟩, 22, "law.go:111", #[⟨0, .data⟩, ⟨1, .data⟩], none⟩) rfl (fun K hK => ?_) (AllReadyH.cons (o := ⟨some 76, .buildSlice 81 1 #[(0, .tmp 75)], 81, "law.go:111", #[⟨6, .data⟩], none⟩) rfl (fun K hK => ?_) AllReadyH.nil))
                · obtain ⟨va, w6, rN, jN, kN⟩ := run_appJ JF.out (PJ.out _ (O4.out.at JF.out.bel)) LN1.out
                  refine Lib.wp_append_run_sl _ _ _ 22 rfl _ _ rfl rfl rN ?_
                  refine hK.out _ _ (XF.out.k48 kN) (fun hHeld2 => ?_)
                  clear hK K hHeld1
                  try simp only [Act.put, List.setIfInBounds_toArray, List.set_cons_zero, List.set_cons_succ]
                  replace JF : Hid (JS w4 w6 va ([] ++ jk)) := jN
                  replace XF : Hid (BoxW w6 gf T (.slice xa L xc)) := XF.out.k48 kN
                  clear jN kN rN
                  refine wpAnyH_ready (rs := [4, 7]) (by kernel_rfl) (by simp) ?_
                  refine (AllReadyH.cons (o := ⟨some 73, .call ⟨.builtin .append, #[.tmp 71, .tmp 72], #[22, 22]⟩, 22, "law.go:111", #[⟨2, .data⟩, ⟨3, .data⟩, ⟨2, .chain⟩], none⟩) rfl (fun K hK => ?_) (AllReadyH.cons (o := ⟨some 76, .buildSlice 81 1 #[(0, .tmp 75)], 81, "law.go:111", #[⟨6, .data⟩], none⟩) rfl (fun K hK => ?_) AllReadyH.nil))
                  · obtain ⟨vb, w7, rN, jN, kN⟩ := run_appJ JF.out (E4.out.below JF.out.bel) LN2.out
                    refine Lib.wp_append_run_sl _ _ _ 22 rfl _ _ rfl rfl rN ?_
                    refine hK.out _ _ (XF.out.k48 kN) (fun hHeld3 => ?_)
                    clear hK K hHeld2
                    try simp only [Act.put, List.setIfInBounds_toArray, List.set_cons_zero, List.set_cons_succ]
                    replace JF : Hid (JS w4 w7 vb (([] ++ jk) ++ encB T bd)) := jN
                    replace XF : Hid (BoxW w7 gf T (.slice xa L xc)) := XF.out.k48 kN
                    clear jN kN rN
                    refine wpAnyH_ready (rs := [5, 7]) (by kernel_rfl) (by simp) ?_
                    refine (AllReadyH.cons (o := ⟨some 74, .call ⟨.value (.func 48), #[.tmp 3, .tmp 73], #[78, 22]⟩, 79, "law.go:111", #[⟨4, .data⟩, ⟨4, .chain⟩], none⟩) rfl (fun K hK => ?_) (AllReadyH.cons (o := ⟨some 76, .buildSlice 81 1 #[(0, .tmp 75)], 81, "law.go:111", #[⟨6, .data⟩], none⟩) rfl (fun K hK => ?_) AllReadyH.nil))
                    · go_simp
                      refine (feed_one HL.out O4.out JF.out HT.out HBD.out HBL.out HBJ.out HJ4.out HJR.out HD.out).mono ?_
                      rintro e w8 ⟨uF, rfl, fN, gN⟩
                      refine hK.out _ _ (XF.out.grown gN (fun e => by injection e with e; have := NE.out; omega)) (fun hHeld4 => ?_)
                      clear hK K hHeld3
                      try simp only [Act.put, List.setIfInBounds_toArray, List.set_cons_zero, List.set_cons_succ]
                      have FE : Hid (FedS w w8 w1.heap.size ((D : Int) + (J : Int)) uF (T, bd)) := by have q := fN; rw [← HJN.out] at q; exact q
                      replace XF : Hid (BoxW w8 gf T (.slice xa L xc)) := XF.out.grown gN (fun e => by injection e with e; have := NE.out; omega)
                      clear fN gN JF
                      refine wpAnyH_ready (rs := [7]) (by kernel_rfl) (by simp) ?_
                      refine (AllReadyH.cons (o := ⟨some 76, .buildSlice 81 1 #[(0, .tmp 75)], 81, "law.go:111", #[⟨6, .data⟩], none⟩) rfl (fun K hK => ?_) AllReadyH.nil)
                      go_simp
                      refine hK.out _ _ (XF.out.below ((Below.refl _ _).alloc (Nat.le_refl _) _)) (fun hHeld5 => ?_)
                      clear hK K hHeld4
                      try simp only [Act.put, List.setIfInBounds_toArray, List.set_cons_zero, List.set_cons_succ]
                      have GF : Hid (BoxW (w8.alloc (.cells #[.int .u8 T, .slice xa L xc] 48)) w8.heap.size T (.slice xa L xc)) := heap_alloc_new _ _
                      replace XF : Hid (BoxW (w8.alloc (.cells #[.int .u8 T, .slice xa L xc] 48)) gf T (.slice xa L xc)) := XF.out.below ((Below.refl _ _).alloc (Nat.le_refl _) _)
                      replace FE : Hid (FedS w (w8.alloc (.cells #[.int .u8 T, .slice xa L xc] 48)) w1.heap.size ((D : Int) + (J : Int)) uF (T, bd)) := FE.out.below ((Below.refl _ _).alloc (Nat.le_refl _) _)
                      generalize (w8.alloc (.cells #[.int .u8 T, .slice xa L xc] 48)) = w9 at *
                      refine wpAnyH_ready (rs := [8]) (by kernel_rfl) (by simp) ?_
                      refine (AllReadyH.cons (o := ⟨some 77, .call ⟨.value (.func 50), #[.tmp 74, .tmp 76], #[79, 81]⟩, 4, "law.go:111", #[⟨5, .data⟩, ⟨7, .data⟩, ⟨5, .chain⟩], none⟩) rfl (fun K hK => ?_) AllReadyH.nil)
                      obtain ⟨B9, us9, f9⟩ := FE.out.2
                      go_simp
                      refine (same_one f9 GF.out (PW.out _ FE.out.1.bel) (by have := FE.out.1.bel.size; have := H2.out; omega)).mono ?_
                      rintro e w10 ⟨rfl, bN⟩
                      refine hK.out _ _ (XF.out.below bN) (fun hHeld6 => ?_)
                      clear hK K hHeld5
                      try simp only [Act.put, List.setIfInBounds_toArray, List.set_cons_zero, List.set_cons_succ]
                      have FO : Hid (OuterS w w10 w1.heap.size ((D : Int) + (J : Int))) := FE.out.1.below bN
                      replace XF : Hid (BoxW w10 gf T (.slice xa L xc)) := XF.out.below bN
                      clear bN f9 GF FE O4 E4
                      refine wpAnyH_take (i := 9) (oi := ⟨some 78, .unOp .not 4 (.tmp 77), 4, "law.go:111", #[⟨8, .data⟩], none⟩) (v := ?_) rfl (by kernel_rfl) (by kernel_rfl) (by kernel_rfl) (fun _ _ _ h => h) (Or.inl ⟨by rfl, ?_⟩) hHeld6 ?_
                      rotate_left 1
                      · (intro wq hSq; (try dsimp only at hSq); go_simp; first | done | with_reducible rfl)
                      try simp only [Act.put, List.setIfInBounds_toArray, List.set_cons_zero, List.set_cons_succ]
                      refine wpAnyH_take (i := 10) (oi := ⟨some 79, .move (.tmp 78), 4, "law.go:111", #[⟨9, .data⟩, ⟨8, .chain⟩], none⟩) (v := ?_) rfl (by kernel_rfl) (by kernel_rfl) (by kernel_rfl) (fun _ _ _ h => h) (Or.inl ⟨by rfl, ?_⟩) hHeld6 ?_
                      rotate_left 1
                      · (intro wq hSq; (try dsimp only at hSq); go_simp; first | done | with_reducible rfl)
                      try simp only [Act.put, List.setIfInBounds_toArray, List.set_cons_zero, List.set_cons_succ]
                      refine wpAnyH_take (i := 12) (oi := ⟨some 81, .move (.tmp 4), 3, "law.go:111", #[⟨10, .guard⟩], some (10, false)⟩) (v := ?_) rfl (by kernel_rfl) (by kernel_rfl) (by kernel_rfl) (fun _ _ _ h => h) (Or.inl ⟨by rfl, ?_⟩) hHeld6 ?_
                      rotate_left 1
                      · (intro wq hSq; (try dsimp only at hSq); go_simp; first | done | with_reducible rfl)
                      try simp only [Act.put, List.setIfInBounds_toArray, List.set_cons_zero, List.set_cons_succ]
                      refine wpAnyH_ready (rs := [11]) (by kernel_rfl) (by simp) ?_
                      refine (AllReadyH.cons (o := ⟨some 80, .call ⟨.value (.func 51), #[.tmp 3], #[78]⟩, 3, "law.go:111", #[⟨10, .chain⟩, ⟨10, .guard⟩], some (10, false)⟩) rfl (fun K hK => ?_) AllReadyH.nil)
                      go_simp
                      refine (dropped_any w1.heap.size _ _ _ FO.out.st).mono ?_
                      rintro e w19 ⟨rfl, rfl⟩
                      refine hK.out _ _ (XF.out) (fun hHeld7 => ?_)
                      clear hK K hHeld6
                      try simp only [Act.put, List.setIfInBounds_toArray, List.set_cons_zero, List.set_cons_succ]
                      refine wpAnyH_take (i := 13) (oi := ⟨some 82, .binOp .neq 3 (.tmp 80) (.tmp 81) 3, 4, "law.go:111", #[⟨11, .data⟩, ⟨12, .data⟩, ⟨10, .guard⟩], some (10, false)⟩) (v := ?_) rfl (by kernel_rfl) (by kernel_rfl) (by kernel_rfl) (fun _ _ _ h => h) (Or.inl ⟨by rfl, ?_⟩) hHeld7 ?_
                      rotate_left 1
                      · (intro wq hSq; (try dsimp only at hSq); go_simp; first | done | with_reducible rfl)
                      try simp only [Act.put, List.setIfInBounds_toArray, List.set_cons_zero, List.set_cons_succ]
                      refine wpAnyH_take (i := 14) (oi := ⟨some 83, .pick (.tmp 79) (.const (.bool true)) (.tmp 82), 4, "law.go:111", #[⟨10, .data⟩, ⟨13, .data⟩], none⟩) (v := ?_) rfl (by kernel_rfl) (by kernel_rfl) (by kernel_rfl) (fun _ _ _ h => h) (Or.inl ⟨by rfl, ?_⟩) hHeld7 ?_
                      rotate_left 1
                      · (intro wq hSq; (try dsimp only at hSq); go_simp; first | done | with_reducible rfl)
                      try simp only [Act.put, List.setIfInBounds_toArray, List.set_cons_zero, List.set_cons_succ]
                      refine wpAnyH_take (i := 15) (oi := ⟨some 84, .move (.tmp 83), 4, "law.go:111", #[⟨14, .data⟩, ⟨11, .chain⟩], none⟩) (v := ?_) rfl (by kernel_rfl) (by kernel_rfl) (by kernel_rfl) (fun _ _ _ h => h) (Or.inl ⟨by rfl, ?_⟩) hHeld7 ?_
                      rotate_left 1
                      · (intro wq hSq; (try dsimp only at hSq); go_simp; first | done | with_reducible rfl)
                      try simp only [Act.put, List.setIfInBounds_toArray, List.set_cons_zero, List.set_cons_succ]
                      refine wpAnyH_ready (rs := [16]) (by kernel_rfl) (by simp) ?_
                      refine (AllReadyH.cons (o := ⟨some 85, .call ⟨.value (.func 52), #[.tmp 3], #[78]⟩, 3, "law.go:111", #[⟨15, .chain⟩, ⟨15, .guard⟩], some (15, false)⟩) rfl (fun K hK => ?_) AllReadyH.nil)
                      have WT : Hid (Calls Tryd.prog 52 #[.pointer (some ⟨w1.heap.size, 0, none⟩)] w10 fun e w' => e = .returned (.int .i64 0) ∧ w10 = w') := waits_any w1.heap.size _ _ _ FO.out.st
                      go_simp
                      refine WT.out.mono ?_
                      rintro e w19 ⟨rfl, rfl⟩
                      refine hK.out _ _ (XF.out) (fun hHeld8 => ?_)
                      clear hK K hHeld7
                      try simp only [Act.put, List.setIfInBounds_toArray, List.set_cons_zero, List.set_cons_succ]
                      refine wpAnyH_take (i := 17) (oi := ⟨some 86, .binOp .neq 3 (.tmp 85) (.const (.int .i64 0)) 3, 4, "law.go:111", #[⟨16, .data⟩, ⟨15, .guard⟩], some (15, false)⟩) (v := ?_) rfl (by kernel_rfl) (by kernel_rfl) (by kernel_rfl) (fun _ _ _ h => h) (Or.inl ⟨by rfl, ?_⟩) hHeld8 ?_
                      rotate_left 1
                      · (intro wq hSq; (try dsimp only at hSq); go_simp; first | done | with_reducible rfl)
                      try simp only [Act.put, List.setIfInBounds_toArray, List.set_cons_zero, List.set_cons_succ]
                      refine wpAnyH_take (i := 18) (oi := ⟨some 87, .pick (.tmp 84) (.const (.bool true)) (.tmp 86), 4, "law.go:111", #[⟨15, .data⟩, ⟨17, .data⟩], none⟩) (v := ?_) rfl (by kernel_rfl) (by kernel_rfl) (by kernel_rfl) (fun _ _ _ h => h) (Or.inl ⟨by rfl, ?_⟩) hHeld8 ?_
                      rotate_left 1
                      · (intro wq hSq; (try dsimp only at hSq); go_simp; first | done | with_reducible rfl)
                      try simp only [Act.put, List.setIfInBounds_toArray, List.set_cons_zero, List.set_cons_succ]
                      refine wpAnyH_done (by kernel_rfl) ?_ _
                      refine NoPanic.normal ?_
                      go_wp2
                      go_roundw
                      case rel => exact ⟨k + 1, D + J, by have := HLT.out; omega, by go_num, by go_num, by have := HJ3.out; omega, by have q := FO.out; rw [show (D : Int) + (J : Int) = ((D + J : Nat) : Int) by omega] at q; exact q⟩
                      case measure => have := HLT.out; simp [intOf]; omega
                    · go_simp
                      refine hK.out _ _ (XF.out.below ((Below.refl _ _).alloc (Nat.le_refl _) _)) (fun hHeld4 => ?_)
                      clear hK K hHeld3
                      try simp only [Act.put, List.setIfInBounds_toArray, List.set_cons_zero, List.set_cons_succ]
                      have GF : Hid (BoxW (w7.alloc (.cells #[.int .u8 T, .slice xa L xc] 48)) w7.heap.size T (.slice xa L xc)) := heap_alloc_new _ _
                      have GN : Hid (w1.heap.size < w7.heap.size) := by have q1 := O4.out.st.lt; have q2 := JF.out.bel.size; unfold Hid; omega
                      replace XF : Hid (BoxW (w7.alloc (.cells #[.int .u8 T, .slice xa L xc] 48)) gf T (.slice xa L xc)) := XF.out.below ((Below.refl _ _).alloc (Nat.le_refl _) _)
                      replace JF : Hid (JS w4 (w7.alloc (.cells #[.int .u8 T, .slice xa L xc] 48)) vb (([] ++ jk) ++ encB T bd)) := JF.out.below ((Below.refl _ _).alloc (Nat.le_refl _) _)
                      generalize (w7.alloc (.cells #[.int .u8 T, .slice xa L xc] 48)) = w8 at *
                      refine wpAnyH_ready (rs := [5]) (by kernel_rfl) (by simp) ?_
                      refine (AllReadyH.cons (o := ⟨some 74, .call ⟨.value (.func 48), #[.tmp 3, .tmp 73], #[78, 22]⟩, 79, "law.go:111", #[⟨4, .data⟩, ⟨4, .chain⟩], none⟩) rfl (fun K hK => ?_) AllReadyH.nil)
                      go_simp
                      refine (feed_one HL.out O4.out JF.out HT.out HBD.out HBL.out HBJ.out HJ4.out HJR.out HD.out).mono ?_
                      rintro e w9 ⟨uF, rfl, fN, gN⟩
                      refine hK.out _ _ (XF.out.grown gN (fun e => by injection e with e; have := NE.out; omega)) (fun hHeld5 => ?_)
                      clear hK K hHeld4
                      try simp only [Act.put, List.setIfInBounds_toArray, List.set_cons_zero, List.set_cons_succ]
                      have FE : Hid (FedS w w9 w1.heap.size ((D : Int) + (J : Int)) uF (T, bd)) := by have q := fN; rw [← HJN.out] at q; exact q
                      replace XF : Hid (BoxW w9 gf T (.slice xa L xc)) := XF.out.grown gN (fun e => by injection e with e; have := NE.out; omega)
                      replace GF : Hid (BoxW w9 w7.heap.size T (.slice xa L xc)) := GF.out.grown gN (fun e => by injection e with e; have := GN.out; omega)
                      clear fN gN JF
                      refine wpAnyH_ready (rs := [8]) (by kernel_rfl) (by simp) ?_
                      refine (AllReadyH.cons (o := ⟨some 77, .call ⟨.value (.func 50), #[.tmp 74, .tmp 76], #[79, 81]⟩, 4, "law.go:111", #[⟨5, .data⟩, ⟨7, .data⟩, ⟨5, .chain⟩], none⟩) rfl (fun K hK => ?_) AllReadyH.nil)
                      obtain ⟨B9, us9, f9⟩ := FE.out.2
                      go_simp
                      refine (same_one f9 GF.out (PW.out _ FE.out.1.bel) (by have := FE.out.1.bel.size; have := H2.out; omega)).mono ?_
                      rintro e w10 ⟨rfl, bN⟩
                      refine hK.out _ _ (XF.out.below bN) (fun hHeld6 => ?_)
                      clear hK K hHeld5
                      try simp only [Act.put, List.setIfInBounds_toArray, List.set_cons_zero, List.set_cons_succ]
                      have FO : Hid (OuterS w w10 w1.heap.size ((D : Int) + (J : Int))) := FE.out.1.below bN
                      replace XF : Hid (BoxW w10 gf T (.slice xa L xc)) := XF.out.below bN
                      clear bN f9 GF FE O4 E4
                      refine wpAnyH_take (i := 9) (oi := ⟨some 78, .unOp .not 4 (.tmp 77), 4, "law.go:111", #[⟨8, .data⟩], none⟩) (v := ?_) rfl (by kernel_rfl) (by kernel_rfl) (by kernel_rfl) (fun _ _ _ h => h) (Or.inl ⟨by rfl, ?_⟩) hHeld6 ?_
                      rotate_left 1
                      · (intro wq hSq; (try dsimp only at hSq); go_simp; first | done | with_reducible rfl)
                      try simp only [Act.put, List.setIfInBounds_toArray, List.set_cons_zero, List.set_cons_succ]
                      refine wpAnyH_take (i := 10) (oi := ⟨some 79, .move (.tmp 78), 4, "law.go:111", #[⟨9, .data⟩, ⟨8, .chain⟩], none⟩) (v := ?_) rfl (by kernel_rfl) (by kernel_rfl) (by kernel_rfl) (fun _ _ _ h => h) (Or.inl ⟨by rfl, ?_⟩) hHeld6 ?_
                      rotate_left 1
                      · (intro wq hSq; (try dsimp only at hSq); go_simp; first | done | with_reducible rfl)
                      try simp only [Act.put, List.setIfInBounds_toArray, List.set_cons_zero, List.set_cons_succ]
                      refine wpAnyH_take (i := 12) (oi := ⟨some 81, .move (.tmp 4), 3, "law.go:111", #[⟨10, .guard⟩], some (10, false)⟩) (v := ?_) rfl (by kernel_rfl) (by kernel_rfl) (by kernel_rfl) (fun _ _ _ h => h) (Or.inl ⟨by rfl, ?_⟩) hHeld6 ?_
                      rotate_left 1
                      · (intro wq hSq; (try dsimp only at hSq); go_simp; first | done | with_reducible rfl)
                      try simp only [Act.put, List.setIfInBounds_toArray, List.set_cons_zero, List.set_cons_succ]
                      refine wpAnyH_ready (rs := [11]) (by kernel_rfl) (by simp) ?_
                      refine (AllReadyH.cons (o := ⟨some 80, .call ⟨.value (.func 51), #[.tmp 3], #[78]⟩, 3, "law.go:111", #[⟨10, .chain⟩, ⟨10, .guard⟩], some (10, false)⟩) rfl (fun K hK => ?_) AllReadyH.nil)
                      go_simp
                      refine (dropped_any w1.heap.size _ _ _ FO.out.st).mono ?_
                      rintro e w19 ⟨rfl, rfl⟩
                      refine hK.out _ _ (XF.out) (fun hHeld7 => ?_)
                      clear hK K hHeld6
                      try simp only [Act.put, List.setIfInBounds_toArray, List.set_cons_zero, List.set_cons_succ]
                      refine wpAnyH_take (i := 13) (oi := ⟨some 82, .binOp .neq 3 (.tmp 80) (.tmp 81) 3, 4, "law.go:111", #[⟨11, .data⟩, ⟨12, .data⟩, ⟨10, .guard⟩], some (10, false)⟩) (v := ?_) rfl (by kernel_rfl) (by kernel_rfl) (by kernel_rfl) (fun _ _ _ h => h) (Or.inl ⟨by rfl, ?_⟩) hHeld7 ?_
                      rotate_left 1
                      · (intro wq hSq; (try dsimp only at hSq); go_simp; first | done | with_reducible rfl)
                      try simp only [Act.put, List.setIfInBounds_toArray, List.set_cons_zero, List.set_cons_succ]
                      refine wpAnyH_take (i := 14) (oi := ⟨some 83, .pick (.tmp 79) (.const (.bool true)) (.tmp 82), 4, "law.go:111", #[⟨10, .data⟩, ⟨13, .data⟩], none⟩) (v := ?_) rfl (by kernel_rfl) (by kernel_rfl) (by kernel_rfl) (fun _ _ _ h => h) (Or.inl ⟨by rfl, ?_⟩) hHeld7 ?_
                      rotate_left 1
                      · (intro wq hSq; (try dsimp only at hSq); go_simp; first | done | with_reducible rfl)
                      try simp only [Act.put, List.setIfInBounds_toArray, List.set_cons_zero, List.set_cons_succ]
                      refine wpAnyH_take (i := 15) (oi := ⟨some 84, .move (.tmp 83), 4, "law.go:111", #[⟨14, .data⟩, ⟨11, .chain⟩], none⟩) (v := ?_) rfl (by kernel_rfl) (by kernel_rfl) (by kernel_rfl) (fun _ _ _ h => h) (Or.inl ⟨by rfl, ?_⟩) hHeld7 ?_
                      rotate_left 1
                      · (intro wq hSq; (try dsimp only at hSq); go_simp; first | done | with_reducible rfl)
                      try simp only [Act.put, List.setIfInBounds_toArray, List.set_cons_zero, List.set_cons_succ]
                      refine wpAnyH_ready (rs := [16]) (by kernel_rfl) (by simp) ?_
                      refine (AllReadyH.cons (o := ⟨some 85, .call ⟨.value (.func 52), #[.tmp 3], #[78]⟩, 3, "law.go:111", #[⟨15, .chain⟩, ⟨15, .guard⟩], some (15, false)⟩) rfl (fun K hK => ?_) AllReadyH.nil)
                      have WT : Hid (Calls Tryd.prog 52 #[.pointer (some ⟨w1.heap.size, 0, none⟩)] w10 fun e w' => e = .returned (.int .i64 0) ∧ w10 = w') := waits_any w1.heap.size _ _ _ FO.out.st
                      go_simp
                      refine WT.out.mono ?_
                      rintro e w19 ⟨rfl, rfl⟩
                      refine hK.out _ _ (XF.out) (fun hHeld8 => ?_)
                      clear hK K hHeld7
                      try simp only [Act.put, List.setIfInBounds_toArray, List.set_cons_zero, List.set_cons_succ]
                      refine wpAnyH_take (i := 17) (oi := ⟨some 86, .binOp .neq 3 (.tmp 85) (.const (.int .i64 0)) 3, 4, "law.go:111", #[⟨16, .data⟩, ⟨15, .guard⟩], some (15, false)⟩) (v := ?_) rfl (by kernel_rfl) (by kernel_rfl) (by kernel_rfl) (fun _ _ _ h => h) (Or.inl ⟨by rfl, ?_⟩) hHeld8 ?_
                      rotate_left 1
                      · (intro wq hSq; (try dsimp only at hSq); go_simp; first | done | with_reducible rfl)
                      try simp only [Act.put, List.setIfInBounds_toArray, List.set_cons_zero, List.set_cons_succ]
                      refine wpAnyH_take (i := 18) (oi := ⟨some 87, .pick (.tmp 84) (.const (.bool true)) (.tmp 86), 4, "law.go:111", #[⟨15, .data⟩, ⟨17, .data⟩], none⟩) (v := ?_) rfl (by kernel_rfl) (by kernel_rfl) (by kernel_rfl) (fun _ _ _ h => h) (Or.inl ⟨by rfl, ?_⟩) hHeld8 ?_
                      rotate_left 1
                      · (intro wq hSq; (try dsimp only at hSq); go_simp; first | done | with_reducible rfl)
                      try simp only [Act.put, List.setIfInBounds_toArray, List.set_cons_zero, List.set_cons_succ]
                      refine wpAnyH_done (by kernel_rfl) ?_ _
                      refine NoPanic.normal ?_
                      go_wp2
                      go_roundw
                      case rel => exact ⟨k + 1, D + J, by have := HLT.out; omega, by go_num, by go_num, by have := HJ3.out; omega, by have q := FO.out; rw [show (D : Int) + (J : Int) = ((D + J : Nat) : Int) by omega] at q; exact q⟩
                      case measure => have := HLT.out; simp [intOf]; omega
                  · go_simp
                    refine hK.out _ _ (XF.out.below ((Below.refl _ _).alloc (Nat.le_refl _) _)) (fun hHeld3 => ?_)
                    clear hK K hHeld2
                    try simp only [Act.put, List.setIfInBounds_toArray, List.set_cons_zero, List.set_cons_succ]
                    have GF : Hid (BoxW (w6.alloc (.cells #[.int .u8 T, .slice xa L xc] 48)) w6.heap.size T (.slice xa L xc)) := heap_alloc_new _ _
                    have GN : Hid (w1.heap.size < w6.heap.size) := by have q1 := O4.out.st.lt; have q2 := JF.out.bel.size; unfold Hid; omega
                    replace XF : Hid (BoxW (w6.alloc (.cells #[.int .u8 T, .slice xa L xc] 48)) gf T (.slice xa L xc)) := XF.out.below ((Below.refl _ _).alloc (Nat.le_refl _) _)
                    replace JF : Hid (JS w4 (w6.alloc (.cells #[.int .u8 T, .slice xa L xc] 48)) va ([] ++ jk)) := JF.out.below ((Below.refl _ _).alloc (Nat.le_refl _) _)
                    generalize (w6.alloc (.cells #[.int .u8 T, .slice xa L xc] 48)) = w7 at *
                    refine wpAnyH_ready (rs := [4]) (by kernel_rfl) (by simp) ?_
                    refine (AllReadyH.cons (o := ⟨some 73, .call ⟨.builtin .append, #[.tmp 71, .tmp 72], #[22, 22]⟩, 22, "law.go:111", #[⟨2, .data⟩, ⟨3, .data⟩, ⟨2, .chain⟩], none⟩) rfl (fun K hK => ?_) AllReadyH.nil)
                    obtain ⟨vb, w8, rN, jN, kN⟩ := run_appJ JF.out (E4.out.below JF.out.bel) LN2.out
                    refine Lib.wp_append_run_sl _ _ _ 22 rfl _ _ rfl rfl rN ?_
                    refine hK.out _ _ (XF.out.k48 kN) (fun hHeld4 => ?_)
                    clear hK K hHeld3
                    try simp only [Act.put, List.setIfInBounds_toArray, List.set_cons_zero, List.set_cons_succ]
                    replace JF : Hid (JS w4 w8 vb (([] ++ jk) ++ encB T bd)) := jN
                    replace XF : Hid (BoxW w8 gf T (.slice xa L xc)) := XF.out.k48 kN
                    replace GF : Hid (BoxW w8 w6.heap.size T (.slice xa L xc)) := GF.out.k48 kN
                    clear jN kN rN
                    refine wpAnyH_ready (rs := [5]) (by kernel_rfl) (by simp) ?_
                    refine (AllReadyH.cons (o := ⟨some 74, .call ⟨.value (.func 48), #[.tmp 3, .tmp 73], #[78, 22]⟩, 79, "law.go:111", #[⟨4, .data⟩, ⟨4, .chain⟩], none⟩) rfl (fun K hK => ?_) AllReadyH.nil)
                    go_simp
                    refine (feed_one HL.out O4.out JF.out HT.out HBD.out HBL.out HBJ.out HJ4.out HJR.out HD.out).mono ?_
                    rintro e w9 ⟨uF, rfl, fN, gN⟩
                    refine hK.out _ _ (XF.out.grown gN (fun e => by injection e with e; have := NE.out; omega)) (fun hHeld5 => ?_)
                    clear hK K hHeld4
                    try simp only [Act.put, List.setIfInBounds_toArray, List.set_cons_zero, List.set_cons_succ]
                    have FE : Hid (FedS w w9 w1.heap.size ((D : Int) + (J : Int)) uF (T, bd)) := by have q := fN; rw [← HJN.out] at q; exact q
                    replace XF : Hid (BoxW w9 gf T (.slice xa L xc)) := XF.out.grown gN (fun e => by injection e with e; have := NE.out; omega)
                    replace GF : Hid (BoxW w9 w6.heap.size T (.slice xa L xc)) := GF.out.grown gN (fun e => by injection e with e; have := GN.out; omega)
                    clear fN gN JF
                    refine wpAnyH_ready (rs := [8]) (by kernel_rfl) (by simp) ?_
                    refine (AllReadyH.cons (o := ⟨some 77, .call ⟨.value (.func 50), #[.tmp 74, .tmp 76], #[79, 81]⟩, 4, "law.go:111", #[⟨5, .data⟩, ⟨7, .data⟩, ⟨5, .chain⟩], none⟩) rfl (fun K hK => ?_) AllReadyH.nil)
                    obtain ⟨B9, us9, f9⟩ := FE.out.2
                    go_simp
                    refine (same_one f9 GF.out (PW.out _ FE.out.1.bel) (by have := FE.out.1.bel.size; have := H2.out; omega)).mono ?_
                    rintro e w10 ⟨rfl, bN⟩
                    refine hK.out _ _ (XF.out.below bN) (fun hHeld6 => ?_)
                    clear hK K hHeld5
                    try simp only [Act.put, List.setIfInBounds_toArray, List.set_cons_zero, List.set_cons_succ]
                    have FO : Hid (OuterS w w10 w1.heap.size ((D : Int) + (J : Int))) := FE.out.1.below bN
                    replace XF : Hid (BoxW w10 gf T (.slice xa L xc)) := XF.out.below bN
                    clear bN f9 GF FE O4 E4
                    refine wpAnyH_take (i := 9) (oi := ⟨some 78, .unOp .not 4 (.tmp 77), 4, "law.go:111", #[⟨8, .data⟩], none⟩) (v := ?_) rfl (by kernel_rfl) (by kernel_rfl) (by kernel_rfl) (fun _ _ _ h => h) (Or.inl ⟨by rfl, ?_⟩) hHeld6 ?_
                    rotate_left 1
                    · (intro wq hSq; (try dsimp only at hSq); go_simp; first | done | with_reducible rfl)
                    try simp only [Act.put, List.setIfInBounds_toArray, List.set_cons_zero, List.set_cons_succ]
                    refine wpAnyH_take (i := 10) (oi := ⟨some 79, .move (.tmp 78), 4, "law.go:111", #[⟨9, .data⟩, ⟨8, .chain⟩], none⟩) (v := ?_) rfl (by kernel_rfl) (by kernel_rfl) (by kernel_rfl) (fun _ _ _ h => h) (Or.inl ⟨by rfl, ?_⟩) hHeld6 ?_
                    rotate_left 1
                    · (intro wq hSq; (try dsimp only at hSq); go_simp; first | done | with_reducible rfl)
                    try simp only [Act.put, List.setIfInBounds_toArray, List.set_cons_zero, List.set_cons_succ]
                    refine wpAnyH_take (i := 12) (oi := ⟨some 81, .move (.tmp 4), 3, "law.go:111", #[⟨10, .guard⟩], some (10, false)⟩) (v := ?_) rfl (by kernel_rfl) (by kernel_rfl) (by kernel_rfl) (fun _ _ _ h => h) (Or.inl ⟨by rfl, ?_⟩) hHeld6 ?_
                    rotate_left 1
                    · (intro wq hSq; (try dsimp only at hSq); go_simp; first | done | with_reducible rfl)
                    try simp only [Act.put, List.setIfInBounds_toArray, List.set_cons_zero, List.set_cons_succ]
                    refine wpAnyH_ready (rs := [11]) (by kernel_rfl) (by simp) ?_
                    refine (AllReadyH.cons (o := ⟨some 80, .call ⟨.value (.func 51), #[.tmp 3], #[78]⟩, 3, "law.go:111", #[⟨10, .chain⟩, ⟨10, .guard⟩], some (10, false)⟩) rfl (fun K hK => ?_) AllReadyH.nil)
                    go_simp
                    refine (dropped_any w1.heap.size _ _ _ FO.out.st).mono ?_
                    rintro e w19 ⟨rfl, rfl⟩
                    refine hK.out _ _ (XF.out) (fun hHeld7 => ?_)
                    clear hK K hHeld6
                    try simp only [Act.put, List.setIfInBounds_toArray, List.set_cons_zero, List.set_cons_succ]
                    refine wpAnyH_take (i := 13) (oi := ⟨some 82, .binOp .neq 3 (.tmp 80) (.tmp 81) 3, 4, "law.go:111", #[⟨11, .data⟩, ⟨12, .data⟩, ⟨10, .guard⟩], some (10, false)⟩) (v := ?_) rfl (by kernel_rfl) (by kernel_rfl) (by kernel_rfl) (fun _ _ _ h => h) (Or.inl ⟨by rfl, ?_⟩) hHeld7 ?_
                    rotate_left 1
                    · (intro wq hSq; (try dsimp only at hSq); go_simp; first | done | with_reducible rfl)
                    try simp only [Act.put, List.setIfInBounds_toArray, List.set_cons_zero, List.set_cons_succ]
                    refine wpAnyH_take (i := 14) (oi := ⟨some 83, .pick (.tmp 79) (.const (.bool true)) (.tmp 82), 4, "law.go:111", #[⟨10, .data⟩, ⟨13, .data⟩], none⟩) (v := ?_) rfl (by kernel_rfl) (by kernel_rfl) (by kernel_rfl) (fun _ _ _ h => h) (Or.inl ⟨by rfl, ?_⟩) hHeld7 ?_
                    rotate_left 1
                    · (intro wq hSq; (try dsimp only at hSq); go_simp; first | done | with_reducible rfl)
                    try simp only [Act.put, List.setIfInBounds_toArray, List.set_cons_zero, List.set_cons_succ]
                    refine wpAnyH_take (i := 15) (oi := ⟨some 84, .move (.tmp 83), 4, "law.go:111", #[⟨14, .data⟩, ⟨11, .chain⟩], none⟩) (v := ?_) rfl (by kernel_rfl) (by kernel_rfl) (by kernel_rfl) (fun _ _ _ h => h) (Or.inl ⟨by rfl, ?_⟩) hHeld7 ?_
                    rotate_left 1
                    · (intro wq hSq; (try dsimp only at hSq); go_simp; first | done | with_reducible rfl)
                    try simp only [Act.put, List.setIfInBounds_toArray, List.set_cons_zero, List.set_cons_succ]
                    refine wpAnyH_ready (rs := [16]) (by kernel_rfl) (by simp) ?_
                    refine (AllReadyH.cons (o := ⟨some 85, .call ⟨.value (.func 52), #[.tmp 3], #[78]⟩, 3, "law.go:111", #[⟨15, .chain⟩, ⟨15, .guard⟩], some (15, false)⟩) rfl (fun K hK => ?_) AllReadyH.nil)
                    have WT : Hid (Calls Tryd.prog 52 #[.pointer (some ⟨w1.heap.size, 0, none⟩)] w10 fun e w' => e = .returned (.int .i64 0) ∧ w10 = w') := waits_any w1.heap.size _ _ _ FO.out.st
                    go_simp
                    refine WT.out.mono ?_
                    rintro e w19 ⟨rfl, rfl⟩
                    refine hK.out _ _ (XF.out) (fun hHeld8 => ?_)
                    clear hK K hHeld7
                    try simp only [Act.put, List.setIfInBounds_toArray, List.set_cons_zero, List.set_cons_succ]
                    refine wpAnyH_take (i := 17) (oi := ⟨some 86, .binOp .neq 3 (.tmp 85) (.const (.int .i64 0)) 3, 4, "law.go:111", #[⟨16, .data⟩, ⟨15, .guard⟩], some (15, false)⟩) (v := ?_) rfl (by kernel_rfl) (by kernel_rfl) (by kernel_rfl) (fun _ _ _ h => h) (Or.inl ⟨by rfl, ?_⟩) hHeld8 ?_
                    rotate_left 1
                    · (intro wq hSq; (try dsimp only at hSq); go_simp; first | done | with_reducible rfl)
                    try simp only [Act.put, List.setIfInBounds_toArray, List.set_cons_zero, List.set_cons_succ]
                    refine wpAnyH_take (i := 18) (oi := ⟨some 87, .pick (.tmp 84) (.const (.bool true)) (.tmp 86), 4, "law.go:111", #[⟨15, .data⟩, ⟨17, .data⟩], none⟩) (v := ?_) rfl (by kernel_rfl) (by kernel_rfl) (by kernel_rfl) (fun _ _ _ h => h) (Or.inl ⟨by rfl, ?_⟩) hHeld8 ?_
                    rotate_left 1
                    · (intro wq hSq; (try dsimp only at hSq); go_simp; first | done | with_reducible rfl)
                    try simp only [Act.put, List.setIfInBounds_toArray, List.set_cons_zero, List.set_cons_succ]
                    refine wpAnyH_done (by kernel_rfl) ?_ _
                    refine NoPanic.normal ?_
                    go_wp2
                    go_roundw
                    case rel => exact ⟨k + 1, D + J, by have := HLT.out; omega, by go_num, by go_num, by have := HJ3.out; omega, by have q := FO.out; rw [show (D : Int) + (J : Int) = ((D + J : Nat) : Int) by omega] at q; exact q⟩
                    case measure => have := HLT.out; simp [intOf]; omega
                · go_simp
                  refine hK.out _ _ (XF.out.below ((Below.refl _ _).alloc (Nat.le_refl _) _)) (fun hHeld2 => ?_)
                  clear hK K hHeld1
                  try simp only [Act.put, List.setIfInBounds_toArray, List.set_cons_zero, List.set_cons_succ]
                  have GF : Hid (BoxW (w5.alloc (.cells #[.int .u8 T, .slice xa L xc] 48)) w5.heap.size T (.slice xa L xc)) := heap_alloc_new _ _
                  have GN : Hid (w1.heap.size < w5.heap.size) := by have q1 := O4.out.st.lt; have q2 := JF.out.bel.size; unfold Hid; omega
                  replace XF : Hid (BoxW (w5.alloc (.cells #[.int .u8 T, .slice xa L xc] 48)) gf T (.slice xa L xc)) := XF.out.below ((Below.refl _ _).alloc (Nat.le_refl _) _)
                  replace JF : Hid (JS w4 (w5.alloc (.cells #[.int .u8 T, .slice xa L xc] 48)) (.slice (some ⟨w4.heap.size, 0, none⟩) 0 0) []) := JF.out.below ((Below.refl _ _).alloc (Nat.le_refl _) _)
                  generalize (w5.alloc (.cells #[.int .u8 T, .slice xa L xc] 48)) = w6 at *
                  refine wpAnyH_ready (rs := [2]) (by kernel_rfl) (by simp) ?_
                  refine (AllReadyH.cons (o := ⟨some 71, .call ⟨.builtin .append, #[.tmp 69, .tmp 70], #[22, 22]⟩, 22, "law.go:111", #[⟨0, .data⟩, ⟨1, .data⟩], none⟩) rfl (fun K hK => ?_) AllReadyH.nil)
                  obtain ⟨va, w7, rN, jN, kN⟩ := run_appJ JF.out (PJ.out _ (O4.out.at JF.out.bel)) LN1.out
                  refine Lib.wp_append_run_sl _ _ _ 22 rfl _ _ rfl rfl rN ?_
                  refine hK.out _ _ (XF.out.k48 kN) (fun hHeld3 => ?_)
                  clear hK K hHeld2
                  try simp only [Act.put, List.setIfInBounds_toArray, List.set_cons_zero, List.set_cons_succ]
                  replace JF : Hid (JS w4 w7 va ([] ++ jk)) := jN
                  replace XF : Hid (BoxW w7 gf T (.slice xa L xc)) := XF.out.k48 kN
                  replace GF : Hid (BoxW w7 w5.heap.size T (.slice xa L xc)) := GF.out.k48 kN
                  clear jN kN rN
                  refine wpAnyH_ready (rs := [4]) (by kernel_rfl) (by simp) ?_
                  refine (AllReadyH.cons (o := ⟨some 73, .call ⟨.builtin .append, #[.tmp 71, .tmp 72], #[22, 22]⟩, 22, "law.go:111", #[⟨2, .data⟩, ⟨3, .data⟩, ⟨2, .chain⟩], none⟩) rfl (fun K hK => ?_) AllReadyH.nil)
                  obtain ⟨vb, w8, rN, jN, kN⟩ := run_appJ JF.out (E4.out.below JF.out.bel) LN2.out
                  refine Lib.wp_append_run_sl _ _ _ 22 rfl _ _ rfl rfl rN ?_
                  refine hK.out _ _ (XF.out.k48 kN) (fun hHeld4 => ?_)
                  clear hK K hHeld3
                  try simp only [Act.put, List.setIfInBounds_toArray, List.set_cons_zero, List.set_cons_succ]
                  replace JF : Hid (JS w4 w8 vb (([] ++ jk) ++ encB T bd)) := jN
                  replace XF : Hid (BoxW w8 gf T (.slice xa L xc)) := XF.out.k48 kN
                  replace GF : Hid (BoxW w8 w5.heap.size T (.slice xa L xc)) := GF.out.k48 kN
                  clear jN kN rN
                  refine wpAnyH_ready (rs := [5]) (by kernel_rfl) (by simp) ?_
                  refine (AllReadyH.cons (o := ⟨some 74, .call ⟨.value (.func 48), #[.tmp 3, .tmp 73], #[78, 22]⟩, 79, "law.go:111", #[⟨4, .data⟩, ⟨4, .chain⟩], none⟩) rfl (fun K hK => ?_) AllReadyH.nil)
                  go_simp
                  refine (feed_one HL.out O4.out JF.out HT.out HBD.out HBL.out HBJ.out HJ4.out HJR.out HD.out).mono ?_
                  rintro e w9 ⟨uF, rfl, fN, gN⟩
                  refine hK.out _ _ (XF.out.grown gN (fun e => by injection e with e; have := NE.out; omega)) (fun hHeld5 => ?_)
                  clear hK K hHeld4
                  try simp only [Act.put, List.setIfInBounds_toArray, List.set_cons_zero, List.set_cons_succ]
                  have FE : Hid (FedS w w9 w1.heap.size ((D : Int) + (J : Int)) uF (T, bd)) := by have q := fN; rw [← HJN.out] at q; exact q
                  replace XF : Hid (BoxW w9 gf T (.slice xa L xc)) := XF.out.grown gN (fun e => by injection e with e; have := NE.out; omega)
                  replace GF : Hid (BoxW w9 w5.heap.size T (.slice xa L xc)) := GF.out.grown gN (fun e => by injection e with e; have := GN.out; omega)
                  clear fN gN JF
                  refine wpAnyH_ready (rs := [8]) (by kernel_rfl) (by simp) ?_
                  refine (AllReadyH.cons (o := ⟨some 77, .call ⟨.value (.func 50), #[.tmp 74, .tmp 76], #[79, 81]⟩, 4, "law.go:111", #[⟨5, .data⟩, ⟨7, .data⟩, ⟨5, .chain⟩], none⟩) rfl (fun K hK => ?_) AllReadyH.nil)
                  obtain ⟨B9, us9, f9⟩ := FE.out.2
                  go_simp
                  refine (same_one f9 GF.out (PW.out _ FE.out.1.bel) (by have := FE.out.1.bel.size; have := H2.out; omega)).mono ?_
                  rintro e w10 ⟨rfl, bN⟩
                  refine hK.out _ _ (XF.out.below bN) (fun hHeld6 => ?_)
                  clear hK K hHeld5
                  try simp only [Act.put, List.setIfInBounds_toArray, List.set_cons_zero, List.set_cons_succ]
                  have FO : Hid (OuterS w w10 w1.heap.size ((D : Int) + (J : Int))) := FE.out.1.below bN
                  replace XF : Hid (BoxW w10 gf T (.slice xa L xc)) := XF.out.below bN
                  clear bN f9 GF FE O4 E4
                  refine wpAnyH_take (i := 9) (oi := ⟨some 78, .unOp .not 4 (.tmp 77), 4, "law.go:111", #[⟨8, .data⟩], none⟩) (v := ?_) rfl (by kernel_rfl) (by kernel_rfl) (by kernel_rfl) (fun _ _ _ h => h) (Or.inl ⟨by rfl, ?_⟩) hHeld6 ?_
                  rotate_left 1
                  · (intro wq hSq; (try dsimp only at hSq); go_simp; first | done | with_reducible rfl)
                  try simp only [Act.put, List.setIfInBounds_toArray, List.set_cons_zero, List.set_cons_succ]
                  refine wpAnyH_take (i := 10) (oi := ⟨some 79, .move (.tmp 78), 4, "law.go:111", #[⟨9, .data⟩, ⟨8, .chain⟩], none⟩) (v := ?_) rfl (by kernel_rfl) (by kernel_rfl) (by kernel_rfl) (fun _ _ _ h => h) (Or.inl ⟨by rfl, ?_⟩) hHeld6 ?_
                  rotate_left 1
                  · (intro wq hSq; (try dsimp only at hSq); go_simp; first | done | with_reducible rfl)
                  try simp only [Act.put, List.setIfInBounds_toArray, List.set_cons_zero, List.set_cons_succ]
                  refine wpAnyH_take (i := 12) (oi := ⟨some 81, .move (.tmp 4), 3, "law.go:111", #[⟨10, .guard⟩], some (10, false)⟩) (v := ?_) rfl (by kernel_rfl) (by kernel_rfl) (by kernel_rfl) (fun _ _ _ h => h) (Or.inl ⟨by rfl, ?_⟩) hHeld6 ?_
                  rotate_left 1
                  · (intro wq hSq; (try dsimp only at hSq); go_simp; first | done | with_reducible rfl)
                  try simp only [Act.put, List.setIfInBounds_toArray, List.set_cons_zero, List.set_cons_succ]
                  refine wpAnyH_ready (rs := [11]) (by kernel_rfl) (by simp) ?_
                  refine (AllReadyH.cons (o := ⟨some 80, .call ⟨.value (.func 51), #[.tmp 3], #[78]⟩, 3, "law.go:111", #[⟨10, .chain⟩, ⟨10, .guard⟩], some (10, false)⟩) rfl (fun K hK => ?_) AllReadyH.nil)
                  go_simp
                  refine (dropped_any w1.heap.size _ _ _ FO.out.st).mono ?_
                  rintro e w19 ⟨rfl, rfl⟩
                  refine hK.out _ _ (XF.out) (fun hHeld7 => ?_)
                  clear hK K hHeld6
                  try simp only [Act.put, List.setIfInBounds_toArray, List.set_cons_zero, List.set_cons_succ]
                  refine wpAnyH_take (i := 13) (oi := ⟨some 82, .binOp .neq 3 (.tmp 80) (.tmp 81) 3, 4, "law.go:111", #[⟨11, .data⟩, ⟨12, .data⟩, ⟨10, .guard⟩], some (10, false)⟩) (v := ?_) rfl (by kernel_rfl) (by kernel_rfl) (by kernel_rfl) (fun _ _ _ h => h) (Or.inl ⟨by rfl, ?_⟩) hHeld7 ?_
                  rotate_left 1
                  · (intro wq hSq; (try dsimp only at hSq); go_simp; first | done | with_reducible rfl)
                  try simp only [Act.put, List.setIfInBounds_toArray, List.set_cons_zero, List.set_cons_succ]
                  refine wpAnyH_take (i := 14) (oi := ⟨some 83, .pick (.tmp 79) (.const (.bool true)) (.tmp 82), 4, "law.go:111", #[⟨10, .data⟩, ⟨13, .data⟩], none⟩) (v := ?_) rfl (by kernel_rfl) (by kernel_rfl) (by kernel_rfl) (fun _ _ _ h => h) (Or.inl ⟨by rfl, ?_⟩) hHeld7 ?_
                  rotate_left 1
                  · (intro wq hSq; (try dsimp only at hSq); go_simp; first | done | with_reducible rfl)
                  try simp only [Act.put, List.setIfInBounds_toArray, List.set_cons_zero, List.set_cons_succ]
                  refine wpAnyH_take (i := 15) (oi := ⟨some 84, .move (.tmp 83), 4, "law.go:111", #[⟨14, .data⟩, ⟨11, .chain⟩], none⟩) (v := ?_) rfl (by kernel_rfl) (by kernel_rfl) (by kernel_rfl) (fun _ _ _ h => h) (Or.inl ⟨by rfl, ?_⟩) hHeld7 ?_
                  rotate_left 1
                  · (intro wq hSq; (try dsimp only at hSq); go_simp; first | done | with_reducible rfl)
                  try simp only [Act.put, List.setIfInBounds_toArray, List.set_cons_zero, List.set_cons_succ]
                  refine wpAnyH_ready (rs := [16]) (by kernel_rfl) (by simp) ?_
                  refine (AllReadyH.cons (o := ⟨some 85, .call ⟨.value (.func 52), #[.tmp 3], #[78]⟩, 3, "law.go:111", #[⟨15, .chain⟩, ⟨15, .guard⟩], some (15, false)⟩) rfl (fun K hK => ?_) AllReadyH.nil)
                  have WT : Hid (Calls Tryd.prog 52 #[.pointer (some ⟨w1.heap.size, 0, none⟩)] w10 fun e w' => e = .returned (.int .i64 0) ∧ w10 = w') := waits_any w1.heap.size _ _ _ FO.out.st
                  go_simp
                  refine WT.out.mono ?_
                  rintro e w19 ⟨rfl, rfl⟩
                  refine hK.out _ _ (XF.out) (fun hHeld8 => ?_)
                  clear hK K hHeld7
                  try simp only [Act.put, List.setIfInBounds_toArray, List.set_cons_zero, List.set_cons_succ]
                  refine wpAnyH_take (i := 17) (oi := ⟨some 86, .binOp .neq 3 (.tmp 85) (.const (.int .i64 0)) 3, 4, "law.go:111", #[⟨16, .data⟩, ⟨15, .guard⟩], some (15, false)⟩) (v := ?_) rfl (by kernel_rfl) (by kernel_rfl) (by kernel_rfl) (fun _ _ _ h => h) (Or.inl ⟨by rfl, ?_⟩) hHeld8 ?_
                  rotate_left 1
                  · (intro wq hSq; (try dsimp only at hSq); go_simp; first | done | with_reducible rfl)
                  try simp only [Act.put, List.setIfInBounds_toArray, List.set_cons_zero, List.set_cons_succ]
                  refine wpAnyH_take (i := 18) (oi := ⟨some 87, .pick (.tmp 84) (.const (.bool true)) (.tmp 86), 4, "law.go:111", #[⟨15, .data⟩, ⟨17, .data⟩], none⟩) (v := ?_) rfl (by kernel_rfl) (by kernel_rfl) (by kernel_rfl) (fun _ _ _ h => h) (Or.inl ⟨by rfl, ?_⟩) hHeld8 ?_
                  rotate_left 1
                  · (intro wq hSq; (try dsimp only at hSq); go_simp; first | done | with_reducible rfl)
                  try simp only [Act.put, List.setIfInBounds_toArray, List.set_cons_zero, List.set_cons_succ]
                  refine wpAnyH_done (by kernel_rfl) ?_ _
                  refine NoPanic.normal ?_
                  go_wp2
                  go_roundw
                  case rel => exact ⟨k + 1, D + J, by have := HLT.out; omega, by go_num, by go_num, by have := HJ3.out; omega, by have q := FO.out; rw [show (D : Int) + (J : Int) = ((D + J : Nat) : Int) by omega] at q; exact q⟩
                  case measure => have := HLT.out; simp [intOf]; omega
              · go_simp
                refine hK.out _ _ (XF.out.below ((Below.refl _ _).alloc (Nat.le_refl _) _)) (fun hHeld1 => ?_)
                clear hK K hHeld
                try simp only [Act.put, List.setIfInBounds_toArray, List.set_cons_zero, List.set_cons_succ]
                have GF : Hid (BoxW (w4.alloc (.cells #[.int .u8 T, .slice xa L xc] 48)) w4.heap.size T (.slice xa L xc)) := heap_alloc_new _ _
                have GN : Hid (w1.heap.size < w4.heap.size) := by have q1 := O4.out.st.lt; have q2 := BF.out.size; unfold Hid; omega
                replace XF : Hid (BoxW (w4.alloc (.cells #[.int .u8 T, .slice xa L xc] 48)) gf T (.slice xa L xc)) := XF.out.below ((Below.refl _ _).alloc (Nat.le_refl _) _)
                replace BF : Hid (Below w4.heap.size w4 (w4.alloc (.cells #[.int .u8 T, .slice xa L xc] 48))) := BF.out.alloc BF.out.size _
                generalize (w4.alloc (.cells #[.int .u8 T, .slice xa L xc] 48)) = w5 at *
                refine wpAnyH_ready (rs := [0]) (by kernel_rfl) (by simp) ?_
                refine (AllReadyH.cons (o := ⟨some 69, .buildSlice 22 0 #[], 22, "law.go:111", #[], none⟩) rfl (fun K hK => ?_) AllReadyH.nil)
                go_simp
                refine hK.out _ _ (XF.out.below ((Below.refl _ _).alloc (Nat.le_refl _) _)) (fun hHeld2 => ?_)
                clear hK K hHeld1
                try simp only [Act.put, List.setIfInBounds_toArray, List.set_cons_zero, List.set_cons_succ]
                have JF : Hid (JS w4 (w5.alloc (.cells #[] 5)) (.slice (some ⟨w5.heap.size, 0, none⟩) 0 0) []) := JS.start BF.out
                replace XF : Hid (BoxW (w5.alloc (.cells #[] 5)) gf T (.slice xa L xc)) := XF.out.below ((Below.refl _ _).alloc (Nat.le_refl _) _)
                replace GF : Hid (BoxW (w5.alloc (.cells #[] 5)) w4.heap.size T (.slice xa L xc)) := GF.out.below ((Below.refl _ _).alloc (Nat.le_refl _) _)
                clear BF
                generalize (w5.alloc (.cells #[] 5)) = w6 at *
                refine wpAnyH_ready (rs := [2]) (by kernel_rfl) (by simp) ?_
                refine (AllReadyH.cons (o := ⟨some 71, .call ⟨.builtin .append, #[.tmp 69, .tmp 70], #[22, 22]⟩, 22, "law.go:111", #[⟨0, .data⟩, ⟨1, .data⟩], none⟩) rfl (fun K hK => ?_) AllReadyH.nil)
                obtain ⟨va, w7, rN, jN, kN⟩ := run_appJ JF.out (PJ.out _ (O4.out.at JF.out.bel)) LN1.out
                refine Lib.wp_append_run_sl _ _ _ 22 rfl _ _ rfl rfl rN ?_
                refine hK.out _ _ (XF.out.k48 kN) (fun hHeld3 => ?_)
                clear hK K hHeld2
                try simp only [Act.put, List.setIfInBounds_toArray, List.set_cons_zero, List.set_cons_succ]
                replace JF : Hid (JS w4 w7 va ([] ++ jk)) := jN
                replace XF : Hid (BoxW w7 gf T (.slice xa L xc)) := XF.out.k48 kN
                replace GF : Hid (BoxW w7 w4.heap.size T (.slice xa L xc)) := GF.out.k48 kN
                clear jN kN rN
                refine wpAnyH_ready (rs := [4]) (by kernel_rfl) (by simp) ?_
                refine (AllReadyH.cons (o := ⟨some 73, .call ⟨.builtin .append, #[.tmp 71, .tmp 72], #[22, 22]⟩, 22, "law.go:111", #[⟨2, .data⟩, ⟨3, .data⟩, ⟨2, .chain⟩], none⟩) rfl (fun K hK => ?_) AllReadyH.nil)
                obtain ⟨vb, w8, rN, jN, kN⟩ := run_appJ JF.out (E4.out.below JF.out.bel) LN2.out
                refine Lib.wp_append_run_sl _ _ _ 22 rfl _ _ rfl rfl rN ?_
                refine hK.out _ _ (XF.out.k48 kN) (fun hHeld4 => ?_)
                clear hK K hHeld3
                try simp only [Act.put, List.setIfInBounds_toArray, List.set_cons_zero, List.set_cons_succ]
                replace JF : Hid (JS w4 w8 vb (([] ++ jk) ++ encB T bd)) := jN
                replace XF : Hid (BoxW w8 gf T (.slice xa L xc)) := XF.out.k48 kN
                replace GF : Hid (BoxW w8 w4.heap.size T (.slice xa L xc)) := GF.out.k48 kN
                clear jN kN rN
                refine wpAnyH_ready (rs := [5]) (by kernel_rfl) (by simp) ?_
                refine (AllReadyH.cons (o := ⟨some 74, .call ⟨.value (.func 48), #[.tmp 3, .tmp 73], #[78, 22]⟩, 79, "law.go:111", #[⟨4, .data⟩, ⟨4, .chain⟩], none⟩) rfl (fun K hK => ?_) AllReadyH.nil)
                go_simp
                refine (feed_one HL.out O4.out JF.out HT.out HBD.out HBL.out HBJ.out HJ4.out HJR.out HD.out).mono ?_
                rintro e w9 ⟨uF, rfl, fN, gN⟩
                refine hK.out _ _ (XF.out.grown gN (fun e => by injection e with e; have := NE.out; omega)) (fun hHeld5 => ?_)
                clear hK K hHeld4
                try simp only [Act.put, List.setIfInBounds_toArray, List.set_cons_zero, List.set_cons_succ]
                have FE : Hid (FedS w w9 w1.heap.size ((D : Int) + (J : Int)) uF (T, bd)) := by have q := fN; rw [← HJN.out] at q; exact q
                replace XF : Hid (BoxW w9 gf T (.slice xa L xc)) := XF.out.grown gN (fun e => by injection e with e; have := NE.out; omega)
                replace GF : Hid (BoxW w9 w4.heap.size T (.slice xa L xc)) := GF.out.grown gN (fun e => by injection e with e; have := GN.out; omega)
                clear fN gN JF
                refine wpAnyH_ready (rs := [8]) (by kernel_rfl) (by simp) ?_
                refine (AllReadyH.cons (o := ⟨some 77, .call ⟨.value (.func 50), #[.tmp 74, .tmp 76], #[79, 81]⟩, 4, "law.go:111", #[⟨5, .data⟩, ⟨7, .data⟩, ⟨5, .chain⟩], none⟩) rfl (fun K hK => ?_) AllReadyH.nil)
                obtain ⟨B9, us9, f9⟩ := FE.out.2
                go_simp
                refine (same_one f9 GF.out (PW.out _ FE.out.1.bel) (by have := FE.out.1.bel.size; have := H2.out; omega)).mono ?_
                rintro e w10 ⟨rfl, bN⟩
                refine hK.out _ _ (XF.out.below bN) (fun hHeld6 => ?_)
                clear hK K hHeld5
                try simp only [Act.put, List.setIfInBounds_toArray, List.set_cons_zero, List.set_cons_succ]
                have FO : Hid (OuterS w w10 w1.heap.size ((D : Int) + (J : Int))) := FE.out.1.below bN
                replace XF : Hid (BoxW w10 gf T (.slice xa L xc)) := XF.out.below bN
                clear bN f9 GF FE O4 E4
                refine wpAnyH_take (i := 9) (oi := ⟨some 78, .unOp .not 4 (.tmp 77), 4, "law.go:111", #[⟨8, .data⟩], none⟩) (v := ?_) rfl (by kernel_rfl) (by kernel_rfl) (by kernel_rfl) (fun _ _ _ h => h) (Or.inl ⟨by rfl, ?_⟩) hHeld6 ?_
                rotate_left 1
                · (intro wq hSq; (try dsimp only at hSq); go_simp; first | done | with_reducible rfl)
                try simp only [Act.put, List.setIfInBounds_toArray, List.set_cons_zero, List.set_cons_succ]
                refine wpAnyH_take (i := 10) (oi := ⟨some 79, .move (.tmp 78), 4, "law.go:111", #[⟨9, .data⟩, ⟨8, .chain⟩], none⟩) (v := ?_) rfl (by kernel_rfl) (by kernel_rfl) (by kernel_rfl) (fun _ _ _ h => h) (Or.inl ⟨by rfl, ?_⟩) hHeld6 ?_
                rotate_left 1
                · (intro wq hSq; (try dsimp only at hSq); go_simp; first | done | with_reducible rfl)
                try simp only [Act.put, List.setIfInBounds_toArray, List.set_cons_zero, List.set_cons_succ]
                refine wpAnyH_take (i := 12) (oi := ⟨some 81, .move (.tmp 4), 3, "law.go:111", #[⟨10, .guard⟩], some (10, false)⟩) (v := ?_) rfl (by kernel_rfl) (by kernel_rfl) (by kernel_rfl) (fun _ _ _ h => h) (Or.inl ⟨by rfl, ?_⟩) hHeld6 ?_
                rotate_left 1
                · (intro wq hSq; (try dsimp only at hSq); go_simp; first | done | with_reducible rfl)
                try simp only [Act.put, List.setIfInBounds_toArray, List.set_cons_zero, List.set_cons_succ]
                refine wpAnyH_ready (rs := [11]) (by kernel_rfl) (by simp) ?_
                refine (AllReadyH.cons (o := ⟨some 80, .call ⟨.value (.func 51), #[.tmp 3], #[78]⟩, 3, "law.go:111", #[⟨10, .chain⟩, ⟨10, .guard⟩], some (10, false)⟩) rfl (fun K hK => ?_) AllReadyH.nil)
                go_simp
                refine (dropped_any w1.heap.size _ _ _ FO.out.st).mono ?_
                rintro e w19 ⟨rfl, rfl⟩
                refine hK.out _ _ (XF.out) (fun hHeld7 => ?_)
                clear hK K hHeld6
                try simp only [Act.put, List.setIfInBounds_toArray, List.set_cons_zero, List.set_cons_succ]
                refine wpAnyH_take (i := 13) (oi := ⟨some 82, .binOp .neq 3 (.tmp 80) (.tmp 81) 3, 4, "law.go:111", #[⟨11, .data⟩, ⟨12, .data⟩, ⟨10, .guard⟩], some (10, false)⟩) (v := ?_) rfl (by kernel_rfl) (by kernel_rfl) (by kernel_rfl) (fun _ _ _ h => h) (Or.inl ⟨by rfl, ?_⟩) hHeld7 ?_
                rotate_left 1
                · (intro wq hSq; (try dsimp only at hSq); go_simp; first | done | with_reducible rfl)
                try simp only [Act.put, List.setIfInBounds_toArray, List.set_cons_zero, List.set_cons_succ]
                refine wpAnyH_take (i := 14) (oi := ⟨some 83, .pick (.tmp 79) (.const (.bool true)) (.tmp 82), 4, "law.go:111", #[⟨10, .data⟩, ⟨13, .data⟩], none⟩) (v := ?_) rfl (by kernel_rfl) (by kernel_rfl) (by kernel_rfl) (fun _ _ _ h => h) (Or.inl ⟨by rfl, ?_⟩) hHeld7 ?_
                rotate_left 1
                · (intro wq hSq; (try dsimp only at hSq); go_simp; first | done | with_reducible rfl)
                try simp only [Act.put, List.setIfInBounds_toArray, List.set_cons_zero, List.set_cons_succ]
                refine wpAnyH_take (i := 15) (oi := ⟨some 84, .move (.tmp 83), 4, "law.go:111", #[⟨14, .data⟩, ⟨11, .chain⟩], none⟩) (v := ?_) rfl (by kernel_rfl) (by kernel_rfl) (by kernel_rfl) (fun _ _ _ h => h) (Or.inl ⟨by rfl, ?_⟩) hHeld7 ?_
                rotate_left 1
                · (intro wq hSq; (try dsimp only at hSq); go_simp; first | done | with_reducible rfl)
                try simp only [Act.put, List.setIfInBounds_toArray, List.set_cons_zero, List.set_cons_succ]
                refine wpAnyH_ready (rs := [16]) (by kernel_rfl) (by simp) ?_
                refine (AllReadyH.cons (o := ⟨some 85, .call ⟨.value (.func 52), #[.tmp 3], #[78]⟩, 3, "law.go:111", #[⟨15, .chain⟩, ⟨15, .guard⟩], some (15, false)⟩) rfl (fun K hK => ?_) AllReadyH.nil)
                have WT : Hid (Calls Tryd.prog 52 #[.pointer (some ⟨w1.heap.size, 0, none⟩)] w10 fun e w' => e = .returned (.int .i64 0) ∧ w10 = w') := waits_any w1.heap.size _ _ _ FO.out.st
                go_simp
                refine WT.out.mono ?_
                rintro e w19 ⟨rfl, rfl⟩
                refine hK.out _ _ (XF.out) (fun hHeld8 => ?_)
                clear hK K hHeld7
                try simp only [Act.put, List.setIfInBounds_toArray, List.set_cons_zero, List.set_cons_succ]
                refine wpAnyH_take (i := 17) (oi := ⟨some 86, .binOp .neq 3 (.tmp 85) (.const (.int .i64 0)) 3, 4, "law.go:111", #[⟨16, .data⟩, ⟨15, .guard⟩], some (15, false)⟩) (v := ?_) rfl (by kernel_rfl) (by kernel_rfl) (by kernel_rfl) (fun _ _ _ h => h) (Or.inl ⟨by rfl, ?_⟩) hHeld8 ?_
                rotate_left 1
                · (intro wq hSq; (try dsimp only at hSq); go_simp; first | done | with_reducible rfl)
                try simp only [Act.put, List.setIfInBounds_toArray, List.set_cons_zero, List.set_cons_succ]
                refine wpAnyH_take (i := 18) (oi := ⟨some 87, .pick (.tmp 84) (.const (.bool true)) (.tmp 86), 4, "law.go:111", #[⟨15, .data⟩, ⟨17, .data⟩], none⟩) (v := ?_) rfl (by kernel_rfl) (by kernel_rfl) (by kernel_rfl) (fun _ _ _ h => h) (Or.inl ⟨by rfl, ?_⟩) hHeld8 ?_
                rotate_left 1
                · (intro wq hSq; (try dsimp only at hSq); go_simp; first | done | with_reducible rfl)
                try simp only [Act.put, List.setIfInBounds_toArray, List.set_cons_zero, List.set_cons_succ]
                refine wpAnyH_done (by kernel_rfl) ?_ _
                refine NoPanic.normal ?_
                go_wp2
                go_roundw
                case rel => exact ⟨k + 1, D + J, by have := HLT.out; omega, by go_num, by go_num, by have := HJ3.out; omega, by have q := FO.out; rw [show (D : Int) + (J : Int) = ((D + J : Nat) : Int) by omega] at q; exact q⟩
                case measure => have := HLT.out; simp [intOf]; omega
      · have i1 : ¬ (k : Int) < (n : Int) := by omega
        have DR : Hid (Calls Tryd.prog 51 #[.pointer (some ⟨w1.heap.size, 0, none⟩)] wr fun e w' => e = .returned (.int .i64 D) ∧ wr = w') := dropped_any w1.heap.size _ _ wr S1.out.st
        go_wp2_with fail
        refine DR.out.mono ?_
        rintro e2 w7 ⟨rfl, rfl⟩
        go_wp2
        go_ret
        exact ⟨by first | rfl | simp, S1.out.bel⟩
end Go.Proofs.YtnpjknnalekdpaaDoor
