import Derived.Test.YtnpjknnalekdpaaDoorTv
import Derived.Test.YtnpjknnalekdpaaDoorTi
namespace Go.Proofs.YtnpjknnalekdpaaDoor
set_option linter.unusedSimpArgs false
set_option linter.unusedVariables false
open Go.RowKit
theorem cells_new {w : World} {A B : Addr} {x y : Value} {o : Obj} (h : w.cell? A = some x ∧ w.cell? B = some y) : (w.alloc o).cell? A = some x ∧ (w.alloc o).cell? B = some y :=
  ⟨by rw [World.cell?_alloc_some _ _ _ (by rw [h.1]; rfl)]; exact h.1, by rw [World.cell?_alloc_some _ _ _ (by rw [h.2]; rfl)]; exact h.2⟩
theorem allE_bytes : ∀ (l : List (Int × List Int)), (∀ f ∈ l, (0 < f.1 ∧ f.1 ≤ 255) ∧ f.2.length ≤ 1000 ∧ Bytes (encB f.1 f.2)) → Bytes (allE l)
  | [], _ => by intro x hx; cases hx
  | f :: l, h => by
    intro x hx
    unfold allE at hx
    rcases List.mem_append.1 hx with q | q
    · exact (h f (by simp)).2.2 x q
    · exact allE_bytes l (fun g hg => h g (by simp [hg])) x q
abbrev FeedJ (w : World) (g : Nat) (acc : List Int) (v4 : Value) (w' : World) : Prop := FeedS w g [] (feedR acc).2.2 (feedR acc).1 (feedR acc).2.1 v4 (.slice none 0 0) w'
theorem feedj_feed {w : World} (hL : Laid w) {g : Nat} {acc l : List Int} {v4 x : Value} {W : World} (h : FeedJ w g acc v4 W) (ha : Bytes acc) (hal : acc.length ≤ 9000) (hl : Bytes l) (hll : l.length ≤ 9000) (hp : PartAt W x l) :
    Calls Tryd.prog 48 #[.pointer (some ⟨g, 0, none⟩), x] W fun e w' => ∃ u, e = .returned u ∧ FeedS w g [] (feedR (acc ++ l)).2.2 (feedR acc).1 (feedR (acc ++ l)).2.1 v4 (.slice none 0 0) w' ∧ (∃ B us', g + 1 ≤ B ∧ FrO w' B u (feedR ((feedR acc).2.2 ++ l)).1 us' ∧ ∀ (i : Nat) x, us'[i]? = some x → ∀ b, x.ownBlock = some b → (Value.slice none 0 0).ownBlock ≠ some b) := by
  have q := feedR_len acc ha
  have h2 := hL.two
  refine (feed_any g (feedR acc).2.2 l (feedR acc).2.1 q.2 hl (by omega) (by omega) (by omega) x W (hL.below h.bel h2) (by have := h.lg; omega) h.st hp).mono fun e w' ⟨u, us, r1, r2, r3, r4⟩ => ?_
  have m := feedR_more acc l ha hl
  have s : SBox w' g (feedR (acc ++ l)).2.2 ((feedR (acc ++ l)).2.1 : Nat) := by
    rw [m]
    have e : (((feedR acc).2.1 + (feedR ((feedR acc).2.2 ++ l)).2.1 : Nat) : Int) = ((feedR acc).2.1 : Int) + (feedR ((feedR acc).2.2 ++ l)).2.1 := by omega
    show SBox w' g (feedR ((feedR acc).2.2 ++ l)).2.2 _
    rw [e]; exact r3
  exact ⟨u, r1, h.fed r4 s r2⟩
theorem part_sub {w : World} {b o n cp : Nat} {l : List Int} (hn : l.length = n) (h : PartAt w (.slice (some ⟨b, o, none⟩) n cp) l) (i e : Nat) (hi : i < e) (he : e ≤ n) :
    PartAt w (.slice (some ⟨b, o + i, none⟩) (e - i) (cp - i)) ((l.drop i).take (e - i)) := by
  obtain ⟨av, b1, o1, c1, h1, h2, h3, h4, h5, h6, h7⟩ := h
  injection h1 with h1 hx hy
  subst h1 hy
  obtain ⟨rfl, rfl⟩ : b = b1 ∧ o = o1 := by
    have := h4 (by omega); injection this with this; injection this with q1 q2; exact ⟨q1, q2⟩
  have r2 := range_subT h5 i (e - i)
  have hl : ((l.drop i).take (e - i)).length = e - i := by rw [List.length_take, List.length_drop]; omega
  exact ⟨_, b, o + i, cp - i, by rw [hl], by rw [hl]; omega, by omega, fun _ => rfl, r2, h6, fun h => by cases h⟩
/-- A box of two cells. -/
def BoxW (w : World) (g : Nat) (t : Int) (x : Value) : Prop := w.heap[g]? = some (.cells #[.int .u8 t, x] 48)
theorem BoxW.range {w : World} {g : Nat} {t : Int} {x : Value} (h : BoxW w g t x) : w.rangeAt g 0 [.int .u8 t, x] := row_range2 h
theorem BoxW.lt {w : World} {g : Nat} {t : Int} {x : Value} (h : BoxW w g t x) : g < w.heap.size := (Array.getElem?_eq_some_iff.1 h).1
theorem BoxW.below {w w' : World} {g : Nat} {t : Int} {x : Value} (h : BoxW w g t x) (b : Below w.heap.size w w') : BoxW w' g t x := (b.block g h.lt).trans h
theorem BoxW.k48 {w w' : World} {g : Nat} {t : Int} {x : Value} (h : BoxW w g t x) (k : ∀ (g : Nat) C m, w.heap[g]? = some (.cells C 48 m) → w'.heap[g]? = w.heap[g]?) : BoxW w' g t x := (k g _ _ h).trans h
theorem BoxW.grown {w w' : World} {g : Nat} {t : Int} {x : Value} {r : Option Nat} (h : BoxW w g t x) (k : w.grownBy w' r) (hr : r ≠ some g) : BoxW w' g t x := (k.block g h.lt (fun e => hr e.symm)).trans h
set_option maxHeartbeats 4000000 in
set_option maxRecDepth 100000 in
theorem streamFrames_walk (v : Value) (a : Int) (ha : 0 ≤ a ∧ a ≤ 255) (ps : List Pc) (w : World) (hL : Laid w) (hp : PiecesAt w v ps) : Calls Tryd.prog 15 #[v, .int .u8 a] w fun e w' => e = .returned (.bool true) ∧ Below w.heap.size w w' := by
  have h2 := hL.two
  have AW : Hid (∀ W, Below w.heap.size w W → Calls Tryd.prog 46 #[] W fun e w' => e = .returned (.bool true) ∧ Below w.heap.size w w') := fun W q =>
    (awake6_any W (hL.below q h2)).mono fun e w' ⟨r1, r2⟩ => ⟨r1, q.trans (r2.mono q.size)⟩
  have HB : Hid (∀ p ∈ ps, (0 ≤ p.1 ∧ p.1 ≤ 255) ∧ Bytes p.2.1 ∧ Bytes p.2.2) := hp.choose_spec.choose_spec.choose_spec.choose_spec.2.2.2.2.2
  obtain ⟨av, n, cp, rfl⟩ : ∃ av n cp, v = .slice av n cp := by obtain ⟨av, b, o, cp, h, _⟩ := hp; exact ⟨av, _, cp, h⟩
  obtain ⟨hn, b, o, hA, hC⟩ := hp.cells
  have HN : Hid (n = ps.length) := hn
  have HA : Hid (0 < n → av = some ⟨b, o, none⟩) := hA
  have HC : Hid _ := hC
  have HL : Hid (Laid w) := hL
  have B0 : Hid (Below w.heap.size w w) := Below.refl _ _
  have H2 : Hid (2 ≤ w.heap.size) := h2
  clear hL h2 hp hn hA hC
  go_enter Tryd.func15, Tryd.ntmps15
  go_wp2_with fail
  refine (AW.out _ B0.out).mono ?_
  rintro e w1 ⟨rfl, b1⟩
  have B1 : Hid (Below w.heap.size w w1) := b1
  clear b1
  by_cases h20 : (20 : Int) < (n : Int)
  · go_wp2_with fail
    refine (AW.out _ B1.out).mono ?_
    rintro e w3 ⟨rfl, b3⟩
    go_wp2
    go_ret
    exact ⟨rfl, b3⟩
  · have H20 : Hid (n ≤ 20) := by unfold Hid; omega
    have L0 : Hid (LoopS w w1 (.slice none 0 0) (.slice none 0 0) [] [] []) := ⟨B1.out, ⟨rfl, Or.inl ⟨rfl, rfl⟩⟩, WantS.nil _ _⟩
    go_wp2
    go_loopw [5, 6, 25] (fun s5 s6 i wr => ∃ k : Nat, k ≤ n ∧ i = .int .i64 k ∧ Hid (∃ us, LoopS w wr s5 s6 (allE ((ps.take k).map frP)) ((ps.take k).map frP) us ∧ (allE ((ps.take k).map frP)).length ≤ 310 * k ∧ ∀ f ∈ (ps.take k).map frP, (0 < f.1 ∧ f.1 ≤ 255) ∧ f.2.length ≤ 1000 ∧ Bytes (encB f.1 f.2))) (fun _ _ i _ => n - (intOf i).toNat)
    case atStart => exact ⟨0, by omega, rfl, [], L0.out, by simp [allE], by simp⟩
    case round =>
      clear L0
      obtain ⟨k, hk, rfl, S1⟩ := hrel
      by_cases hlt : k < n
      · obtain ⟨⟨t, bd, jk⟩, hpk⟩ : ∃ p, ps[k]? = some p := ⟨ps[k]'(by rw [← HN.out]; exact hlt), List.getElem?_eq_getElem (by rw [← HN.out]; exact hlt)⟩
        obtain rfl := HA.out (by omega)
        obtain ⟨x, y, hcy⟩ := HC.out k _ hpk
        have CY : Hid _ := hcy
        obtain ⟨us, s1, s2, s3⟩ := S1.out
        have hp3 := HB.out _ (List.mem_of_getElem? hpk)
        have h20' := H20.out
        have i1 : (k : Int) < (n : Int) := by omega
        have i0 : (0 : Int) ≤ (k : Int) := by omega
        have HLT : Hid (k < n) := hlt
        have q1 := CY.out _ s1.bel
        obtain ⟨c0, c1, _, p1, _⟩ := q1
        obtain ⟨xa, xb, xo, xc, hx, _⟩ := id p1
        subst hx
        obtain ⟨L, hLn⟩ : ∃ L, L = bd.length := ⟨_, rfl⟩
        have HLN : Hid (L = bd.length) := hLn
        dsimp only at c1
        rw [← hLn] at c1
        have HPK : Hid (ps[k]? = some (t, bd, jk)) := hpk
        have P1 : Hid (PartAt wr (.slice xa L xc) bd) := by rw [hLn]; exact p1
        clear hpk hlt p1 hcy hLn
        go_wp2_with fail
        refine wp_region_noPanic ?_
        refine wp_region_held_drew (S := fun w' => w'.cell? ⟨b, o + k * 3, none⟩ = some (.int .u8 t) ∧ w'.cell? ⟨b, o + k * 3 + 1, none⟩ = some (.slice xa L xc)) (by kernel_rfl) ((⟨c0, c1⟩ : wr.drew.cell? _ = _ ∧ wr.drew.cell? _ = _)) (fun hHeld => ?_)
        try simp only [Act.put, List.setIfInBounds_toArray, List.set_cons_zero, List.set_cons_succ]
        refine wpAnyH_take (i := 0) (oi := ⟨some 28, .move (.tmp 0), 85, "law.go:75", #[], none⟩) (v := ?_) rfl (by kernel_rfl) (by kernel_rfl) (by kernel_rfl) (fun _ _ _ h => h) (Or.inl ⟨by rfl, ?_⟩) hHeld ?_
        rotate_left 1
        · (intro wq hSq; obtain ⟨hq0, hq1⟩ := hSq; go_simp; first | done | with_reducible rfl)
        try simp only [Act.put, List.setIfInBounds_toArray, List.set_cons_zero, List.set_cons_succ]
        refine wpAnyH_take (i := 1) (oi := ⟨some 29, .move (.tmp 7), 3, "law.go:75", #[], none⟩) (v := ?_) rfl (by kernel_rfl) (by kernel_rfl) (by kernel_rfl) (fun _ _ _ h => h) (Or.inl ⟨by rfl, ?_⟩) hHeld ?_
        rotate_left 1
        · (intro wq hSq; obtain ⟨hq0, hq1⟩ := hSq; go_simp; first | done | with_reducible rfl)
        try simp only [Act.put, List.setIfInBounds_toArray, List.set_cons_zero, List.set_cons_succ]
        refine wpAnyH_take (i := 2) (oi := ⟨some 30, .indexAddr 85 (.tmp 28) (.tmp 29), 0, "law.go:75", #[⟨0, .data⟩, ⟨1, .data⟩], none⟩) (v := ?_) rfl (by kernel_rfl) (by kernel_rfl) (by kernel_rfl) (fun _ _ _ h => h) (Or.inl ⟨by rfl, ?_⟩) hHeld ?_
        rotate_left 1
        · (intro wq hSq; obtain ⟨hq0, hq1⟩ := hSq; go_simp; first | done | with_reducible rfl)
        try simp only [Act.put, List.setIfInBounds_toArray, List.set_cons_zero, List.set_cons_succ]
        refine wpAnyH_take (i := 3) (oi := ⟨some 31, .fieldAddr 87 (.tmp 30) 0, 0, "law.go:75", #[⟨2, .data⟩], none⟩) (v := ?_) rfl (by kernel_rfl) (by kernel_rfl) (by kernel_rfl) (fun _ _ _ h => h) (Or.inl ⟨by rfl, ?_⟩) hHeld ?_
        rotate_left 1
        · (intro wq hSq; obtain ⟨hq0, hq1⟩ := hSq; go_simp; first | done | with_reducible rfl)
        try simp only [Act.put, List.setIfInBounds_toArray, List.set_cons_zero, List.set_cons_succ]
        refine wpAnyH_take (i := 4) (oi := ⟨some 32, .load 5 (.tmp 31), 5, "law.go:75", #[⟨3, .data⟩], none⟩) (v := ?_) rfl (by kernel_rfl) (by kernel_rfl) (by kernel_rfl) (fun _ _ _ h => h) (Or.inl ⟨by rfl, ?_⟩) hHeld ?_
        rotate_left 1
        · (intro wq hSq; obtain ⟨hq0, hq1⟩ := hSq; go_simp; first | done | with_reducible rfl)
        try simp only [Act.put, List.setIfInBounds_toArray, List.set_cons_zero, List.set_cons_succ]
        refine wpAnyH_take (i := 5) (oi := ⟨some 33, .call ⟨.builtin .max, #[.tmp 32, .const (.int .u8 1)], #[5, 5]⟩, 5, "law.go:75", #[⟨4, .data⟩], none⟩) (v := ?_) rfl (by kernel_rfl) (by kernel_rfl) (by kernel_rfl) (fun _ _ _ h => h) (Or.inl ⟨by rfl, ?_⟩) hHeld ?_
        rotate_left 1
        · (intro wq hSq; obtain ⟨hq0, hq1⟩ := hSq; go_simp; first | done | with_reducible rfl)
        try simp only [Act.put, List.setIfInBounds_toArray, List.set_cons_zero, List.set_cons_succ]
        refine wpAnyH_take (i := 6) (oi := ⟨some 34, .move (.tmp 0), 85, "law.go:75", #[], none⟩) (v := ?_) rfl (by kernel_rfl) (by kernel_rfl) (by kernel_rfl) (fun _ _ _ h => h) (Or.inl ⟨by rfl, ?_⟩) hHeld ?_
        rotate_left 1
        · (intro wq hSq; obtain ⟨hq0, hq1⟩ := hSq; go_simp; first | done | with_reducible rfl)
        try simp only [Act.put, List.setIfInBounds_toArray, List.set_cons_zero, List.set_cons_succ]
        refine wpAnyH_take (i := 7) (oi := ⟨some 35, .move (.tmp 7), 3, "law.go:75", #[], none⟩) (v := ?_) rfl (by kernel_rfl) (by kernel_rfl) (by kernel_rfl) (fun _ _ _ h => h) (Or.inl ⟨by rfl, ?_⟩) hHeld ?_
        rotate_left 1
        · (intro wq hSq; obtain ⟨hq0, hq1⟩ := hSq; go_simp; first | done | with_reducible rfl)
        try simp only [Act.put, List.setIfInBounds_toArray, List.set_cons_zero, List.set_cons_succ]
        refine wpAnyH_take (i := 8) (oi := ⟨some 36, .indexAddr 85 (.tmp 34) (.tmp 35), 0, "law.go:75", #[⟨6, .data⟩, ⟨7, .data⟩], none⟩) (v := ?_) rfl (by kernel_rfl) (by kernel_rfl) (by kernel_rfl) (fun _ _ _ h => h) (Or.inl ⟨by rfl, ?_⟩) hHeld ?_
        rotate_left 1
        · (intro wq hSq; obtain ⟨hq0, hq1⟩ := hSq; go_simp; first | done | with_reducible rfl)
        try simp only [Act.put, List.setIfInBounds_toArray, List.set_cons_zero, List.set_cons_succ]
        refine wpAnyH_take (i := 9) (oi := ⟨some 37, .fieldAddr 87 (.tmp 36) 1, 0, "law.go:75", #[⟨8, .data⟩], none⟩) (v := ?_) rfl (by kernel_rfl) (by kernel_rfl) (by kernel_rfl) (fun _ _ _ h => h) (Or.inl ⟨by rfl, ?_⟩) hHeld ?_
        rotate_left 1
        · (intro wq hSq; obtain ⟨hq0, hq1⟩ := hSq; go_simp; first | done | with_reducible rfl)
        try simp only [Act.put, List.setIfInBounds_toArray, List.set_cons_zero, List.set_cons_succ]
        refine wpAnyH_take (i := 10) (oi := ⟨some 38, .load 22 (.tmp 37), 22, "law.go:75", #[⟨9, .data⟩], none⟩) (v := ?_) rfl (by kernel_rfl) (by kernel_rfl) (by kernel_rfl) (fun _ _ _ h => h) (Or.inl ⟨by rfl, ?_⟩) hHeld ?_
        rotate_left 1
        · (intro wq hSq; obtain ⟨hq0, hq1⟩ := hSq; go_simp; first | done | with_reducible rfl)
        try simp only [Act.put, List.setIfInBounds_toArray, List.set_cons_zero, List.set_cons_succ]
        refine wpAnyH_take (i := 11) (oi := ⟨some 39, .build 48 #[(0, .tmp 33), (1, .tmp 38)], 48, "law.go:75", #[⟨5, .data⟩, ⟨10, .data⟩], none⟩) (v := ?_) rfl (by kernel_rfl) (by kernel_rfl) (by kernel_rfl) (fun _ _ _ h => h) (Or.inl ⟨by rfl, ?_⟩) hHeld ?_
        rotate_left 1
        · (intro wq hSq; obtain ⟨hq0, hq1⟩ := hSq; go_simp; first | done | with_reducible rfl)
        try simp only [Act.put, List.setIfInBounds_toArray, List.set_cons_zero, List.set_cons_succ]
        refine wpAnyH_ready (rs := [12]) (by kernel_rfl) (by simp) ?_
        refine (AllReadyH.cons (o := ⟨some 8, .alloc 48, 0, "law.go:75", #[], none⟩) rfl (fun K hK => ?_) AllReadyH.nil)
        go_simp
        refine hK.out _ _ (cells_new (⟨c0, c1⟩ : wr.drew.cell? _ = _ ∧ wr.drew.cell? _ = _)) (fun hHeld1 => ?_)
        clear hK K hHeld
        try simp only [Act.put, List.setIfInBounds_toArray, List.set_cons_zero, List.set_cons_succ]
        refine wpAnyH_ready (rs := [13]) (by kernel_rfl) (by simp) ?_
        refine (AllReadyH.cons (o := ⟨none, .store 48 (.tmp 8) (.tmp 39), 0, "law.go:75", #[⟨12, .data⟩, ⟨11, .data⟩, ⟨0, .phase⟩, ⟨1, .phase⟩, ⟨2, .phase⟩, ⟨3, .phase⟩, ⟨4, .phase⟩, ⟨5, .phase⟩, ⟨6, .phase⟩, ⟨7, .phase⟩, ⟨8, .phase⟩, ⟨9, .phase⟩, ⟨10, .phase⟩, ⟨11, .phase⟩, ⟨12, .phase⟩], none⟩) rfl (fun K hK => ?_) AllReadyH.nil)
        go_simp
        refine hK.out _ _ (cells_new (⟨c0, c1⟩ : wr.drew.cell? _ = _ ∧ wr.drew.cell? _ = _)) (fun hHeld2 => ?_)
        clear hK K hHeld1
        try simp only [Act.put, List.setIfInBounds_toArray, List.set_cons_zero, List.set_cons_succ]
        refine wpAnyH_done (by kernel_rfl) ?_ _
        refine NoPanic.normal ?_
        skip
        have hg := heap_alloc_new wr (.cells #[.int .u8 (max t 1), .slice xa L xc] 48)
        have bb : Below wr.heap.size wr (wr.alloc (.cells #[.int .u8 (max t 1), .slice xa L xc] 48)).drew := ((Below.refl _ _).alloc (Nat.le_refl _) _).drew
        have hg : (wr.alloc (.cells #[.int .u8 (max t 1), .slice xa L xc] 48)).drew.heap[wr.heap.size]? = some (.cells #[.int .u8 (max t 1), .slice xa L xc] 48) := hg
        have hT : 0 < max t 1 ∧ max t 1 ≤ 255 := by have q : 0 ≤ t ∧ t ≤ 255 := hp3.1; omega
        have HF : Hid (frP (t, bd, jk) = (max t 1, bd)) := rfl
        generalize (wr.alloc (.cells #[.int .u8 (max t 1), .slice xa L xc] 48)).drew = w2 at *
        generalize max t 1 = T at *
        have LS2 : Hid (LoopS w w2 u5 u6 (allE ((ps.take k).map frP)) ((ps.take k).map frP) us) := s1.below bb
        have XB2 : Hid (BoxW w2 wr.heap.size T (.slice xa L xc)) := hg
        have NE : Hid (u6.ownBlock ≠ some wr.heap.size) := fun e => by
          obtain ⟨_, C, m, q⟩ := s1.want.low _ e
          have := (Array.getElem?_eq_some_iff.1 q).1
          omega
        have d0 := row_cell (j := 0) hg rfl
        have d1 := row_cell (j := 1) hg rfl
        have P2 : Hid (PartAt w2 (.slice xa L xc) bd) := P1.out.below bb
        have PW : Hid (PartAt w (.slice xa L xc) bd) := by
          have q := (CY.out w (Below.refl _ _)).2.2.2.1
          unfold Hid; rw [HLN.out]; exact q
        by_cases g300 : (300 : Int) < (L : Int)
        · clear s1 s2 s3 c0 c1 hg bb hT
          go_wp2
          go_ret
          exact ⟨rfl, LS2.out.bel⟩
        · have HT : Hid (0 < T ∧ T ≤ 255) := hT
          have HBD : Hid (Bytes bd) := hp3.2.1
          have HL3 : Hid (L ≤ 300) := by unfold Hid; omega
          have SZ : Hid (0 < w2.heap.size) := by have := LS2.out.bel.size; have := H2.out; unfold Hid; omega
          have ENC : Hid (Calls Tryd.prog 31 #[.agg #[.int .u8 T, .slice xa L xc]] w2 fun e w' => ∃ g9 c9, e = .returned (.tuple #[.slice (some ⟨g9, 0, none⟩) (L + 10) c9, .int .i64 0]) ∧ PartAt w' (.slice (some ⟨g9, 0, none⟩) (L + 10) c9) (encB T bd) ∧ Below w2.heap.size w2 w') :=
            (rencode_own T HT.out xa L xc bd HLN.out.symm (by have := HL3.out; omega) HBD.out w2 SZ.out P2.out).mono fun e w' ⟨u, r1, r2, r3⟩ => by
              have hl : (encB T bd).length = L + 10 := by rw [encB_length, HLN.out]
              have p := OwnB.partG r2 (by have := r3.size; have := SZ.out; omega)
              rcases r2.2 with ⟨q, q0⟩ | ⟨g0, cap, cur0, q1, _⟩
              · omega
              · subst q1
                rw [hl] at r1 p
                exact ⟨g0, cap, r1, p, r3⟩
          obtain ⟨acc, hacc⟩ : ∃ acc, acc = allE ((ps.take k).map frP) := ⟨_, rfl⟩
          obtain ⟨fs, hfs⟩ : ∃ fs, fs = (ps.take k).map frP := ⟨_, rfl⟩
          have tk : ps.take (k + 1) = ps.take k ++ [(t, bd, jk)] := by rw [List.take_add_one, HPK.out]; rfl
          have mp : (ps.take (k + 1)).map frP = fs ++ [(T, bd)] := by rw [tk, List.map_append, ← hfs, List.map_cons, List.map_nil, HF.out]
          rw [← hacc, ← hfs] at LS2
          rw [← hacc] at s2
          have hlE : (encB T bd).length = L + 10 := by rw [encB_length, HLN.out]
          have HE0 : Hid (L + 10 = (encB T bd).length) := hlE.symm
          have HE1 : Hid (0 < (encB T bd).length) := by unfold Hid; omega
          have NX : Hid (∀ v5 v6 W, LoopS w W v5 v6 (acc ++ encB T bd) (fs ++ [(T, bd)]) (us ++ [.slice xa L xc]) → Hid (∃ us, LoopS w W v5 v6 (allE ((ps.take (k + 1)).map frP)) ((ps.take (k + 1)).map frP) us ∧ (allE ((ps.take (k + 1)).map frP)).length ≤ 310 * (k + 1) ∧ ∀ f ∈ (ps.take (k + 1)).map frP, (0 < f.1 ∧ f.1 ≤ 255) ∧ f.2.length ≤ 1000 ∧ Bytes (encB f.1 f.2))) := fun v5 v6 W l => by
            have ea : allE ((ps.take (k + 1)).map frP) = acc ++ encB T bd := by rw [mp, allE_snoc, hfs, ← hacc]
            rw [ea, mp]
            refine ⟨_, l, ?_, fun f hf => ?_⟩
            · rw [List.length_append, hlE]; have := HL3.out; omega
            · rcases List.mem_append.1 hf with q | q
              · exact s3 f (by rw [← hfs]; exact q)
              · rw [List.mem_singleton.1 q]
                have := HL3.out; have := HLN.out
                exact ⟨HT.out, by show bd.length ≤ 1000; omega, encB_bytes T HT.out bd (by omega) HBD.out⟩
          have LN1 : Hid (acc.length + (encB T bd).length ≤ 140737488355328) := by unfold Hid; have := HL3.out; have := H20.out; omega
          have LN2 : Hid (fs.length ≤ 1000) := by unfold Hid; rw [hfs, List.length_map, List.length_take]; have := H20.out; omega
          clear s1 s2 s3 hg bb hT hp3 hacc hfs tk mp hlE
          go_wp2_with fail
          refine ENC.out.mono ?_
          rintro e w3 ⟨g9, c9, rfl, p9, b9⟩
          have L3 : Hid (LoopS w w3 u5 u6 acc fs us ∧ BoxW w3 wr.heap.size T (.slice xa L xc) ∧ PartAt w3 (.slice (some ⟨g9, 0, none⟩) (L + 10) c9) (encB T bd)) := ⟨LS2.out.below b9, XB2.out.below b9, p9⟩
          clear LS2 XB2 p9 b9 ENC c0 c1 d0 d1
          go_wp2_with fail
          refine wp_region_noPanic ?_
          refine wp_region_held_drew (S := fun w' => BoxW w' wr.heap.size T (.slice xa L xc)) (by kernel_rfl) (L3.out.2.1.below (Below.refl _ _).drew) (fun hHeld => ?_)
          try simp only [Act.put, List.setIfInBounds_toArray, List.set_cons_zero, List.set_cons_succ]
          refine wpAnyH_take (i := 0) (oi := ⟨some 49, .move (.tmp 5), 22, "law.go:80", #[], none⟩) (v := ?_) rfl (by kernel_rfl) (by kernel_rfl) (by kernel_rfl) (fun _ _ _ h => h) (Or.inl ⟨by rfl, ?_⟩) hHeld ?_
          rotate_left 1
          · (intro wq hSq; (try dsimp only at hSq); go_simp; first | done | with_reducible rfl)
          try simp only [Act.put, List.setIfInBounds_toArray, List.set_cons_zero, List.set_cons_succ]
          refine wpAnyH_take (i := 1) (oi := ⟨some 50, .move (.tmp 9), 22, "law.go:80", #[], none⟩) (v := ?_) rfl (by kernel_rfl) (by kernel_rfl) (by kernel_rfl) (fun _ _ _ h => h) (Or.inl ⟨by rfl, ?_⟩) hHeld ?_
          rotate_left 1
          · (intro wq hSq; (try dsimp only at hSq); go_simp; first | done | with_reducible rfl)
          try simp only [Act.put, List.setIfInBounds_toArray, List.set_cons_zero, List.set_cons_succ]
          refine wpAnyH_take (i := 3) (oi := ⟨some 52, .move (.tmp 6), 81, "law.go:80", #[], none⟩) (v := ?_) rfl (by kernel_rfl) (by kernel_rfl) (by kernel_rfl) (fun _ _ _ h => h) (Or.inl ⟨by rfl, ?_⟩) hHeld ?_
          rotate_left 1
          · (intro wq hSq; (try dsimp only at hSq); go_simp; first | done | with_reducible rfl)
          try simp only [Act.put, List.setIfInBounds_toArray, List.set_cons_zero, List.set_cons_succ]
          refine wpAnyH_take (i := 4) (oi := ⟨some 53, .load 48 (.tmp 8), 48, "law.go:80", #[], none⟩) (v := .agg (List.toArray (.int .u8 T :: .slice xa L xc :: []))) rfl (by kernel_rfl) (by kernel_rfl) (by kernel_rfl) (fun _ _ _ h => h) (yieldsIf_load_mid rfl 48 _ rfl wr.heap.size 0 rfl [.int .u8 T, .slice xa L xc] _ (fun wq hSq => BoxW.range hSq) Tryd.underlying48 rfl (by kernel_rfl)) hHeld ?_
          try simp only [Act.put, List.setIfInBounds_toArray, List.set_cons_zero, List.set_cons_succ]
          refine wpAnyH_ready (rs := [2, 5]) (by kernel_rfl) (by simp) ?_
          refine (AllReadyH.cons (o := ⟨some 51, .call ⟨.builtin .append, #[.tmp 49, .tmp 50], #[22, 22]⟩, 22, "law.go:80", #[⟨0, .data⟩, ⟨1, .data⟩], none⟩) rfl (fun K hK => ?_) (AllReadyH.cons (o := ⟨some 54, .buildSlice 81 1 #[(0, .tmp 53)], 81, "law.go:80", #[⟨4, .data⟩], none⟩) rfl (fun K hK => ?_) AllReadyH.nil))
          · obtain ⟨v5, w4, r4, l4, k4⟩ := run_all (L3.out.1.below (Below.refl _ _).drew) HE0.out (L3.out.2.2.below (Below.refl _ _).drew) HE1.out LN1.out
            refine Lib.wp_append_run_sl _ _ _ 22 rfl _ _ rfl rfl r4 ?_
            refine hK.out _ _ ((L3.out.2.1.below (Below.refl _ _).drew).k48 k4) (fun hHeld1 => ?_)
            clear hK K hHeld
            try simp only [Act.put, List.setIfInBounds_toArray, List.set_cons_zero, List.set_cons_succ]
            have L4 : Hid (LoopS w w4 v5 u6 (acc ++ encB T bd) fs us ∧ BoxW w4 wr.heap.size T (.slice xa L xc)) := ⟨l4, (L3.out.2.1.below (Below.refl _ _).drew).k48 k4⟩
            clear l4 k4 r4 L3
            refine wpAnyH_ready (rs := [5]) (by kernel_rfl) (by simp) ?_
            refine (AllReadyH.cons (o := ⟨some 54, .buildSlice 81 1 #[(0, .tmp 53)], 81, "law.go:80", #[⟨4, .data⟩], none⟩) rfl (fun K hK => ?_) AllReadyH.nil)
            go_simp
            refine hK.out _ _ (L4.out.2.below ((Below.refl _ _).alloc (Nat.le_refl _) _)) (fun hHeld2 => ?_)
            clear hK K hHeld1
            try simp only [Act.put, List.setIfInBounds_toArray, List.set_cons_zero, List.set_cons_succ]
            have L5 : Hid (LoopS w (w4.alloc (.cells #[.int .u8 T, .slice xa L xc] 48)) v5 u6 (acc ++ encB T bd) fs us ∧ BoxW (w4.alloc (.cells #[.int .u8 T, .slice xa L xc] 48)) wr.heap.size T (.slice xa L xc) ∧ BoxW (w4.alloc (.cells #[.int .u8 T, .slice xa L xc] 48)) w4.heap.size T (.slice xa L xc)) := ⟨L4.out.1.below ((Below.refl _ _).alloc (Nat.le_refl _) _), L4.out.2.below ((Below.refl _ _).alloc (Nat.le_refl _) _), heap_alloc_new _ _⟩
            clear L4
            refine wpAnyH_ready (rs := [6]) (by kernel_rfl) (by simp) ?_
            refine (AllReadyH.cons (o := ⟨some 55, .call ⟨.builtin .append, #[.tmp 52, .tmp 54], #[81, 81]⟩, 81, "law.go:80", #[⟨3, .data⟩, ⟨5, .data⟩, ⟨2, .chain⟩], none⟩) rfl (fun K hK => ?_) AllReadyH.nil)
            obtain ⟨v6, w5, r5, l5, g5⟩ := run_want L5.out.1 L5.out.2.2.range rfl PW.out LN2.out
            refine Lib.wp_append_run_sl _ _ _ 81 rfl _ _ rfl rfl r5 ?_
            refine hK.out _ _ (L5.out.2.1.grown g5 NE.out) (fun hHeld3 => ?_)
            clear hK K hHeld2
            try simp only [Act.put, List.setIfInBounds_toArray, List.set_cons_zero, List.set_cons_succ]
            have L6 : Hid (LoopS w w5 v5 v6 (acc ++ encB T bd) (fs ++ [(T, bd)]) (us ++ [.slice xa L xc])) := l5
            clear l5 g5 r5 L5
            refine wpAnyH_take (i := 7) (oi := ⟨some 5, .assign (.tmp 51), 22, "law.go:80", #[⟨2, .data⟩, ⟨6, .chain⟩, ⟨0, .phase⟩, ⟨1, .phase⟩, ⟨2, .phase⟩, ⟨3, .textOnly .lateStores⟩, ⟨4, .textOnly .lateStores⟩, ⟨5, .textOnly .lateStores⟩, ⟨6, .textOnly .lateStoresUnsure⟩], none⟩) (v := ?_) rfl (by kernel_rfl) (by kernel_rfl) (by kernel_rfl) (fun _ _ _ h => h) (Or.inl ⟨by rfl, ?_⟩) hHeld3 ?_
            rotate_left 1
            · (intro wq hSq; (try dsimp only at hSq); go_simp; first | done | with_reducible rfl)
            try simp only [Act.put, List.setIfInBounds_toArray, List.set_cons_zero, List.set_cons_succ]
            refine wpAnyH_take (i := 8) (oi := ⟨some 6, .assign (.tmp 55), 81, "law.go:80", #[⟨6, .data⟩, ⟨7, .chain⟩, ⟨0, .phase⟩, ⟨1, .phase⟩, ⟨2, .phase⟩, ⟨3, .phase⟩, ⟨4, .phase⟩, ⟨5, .phase⟩, ⟨6, .phase⟩, ⟨7, .phase⟩], none⟩) (v := ?_) rfl (by kernel_rfl) (by kernel_rfl) (by kernel_rfl) (fun _ _ _ h => h) (Or.inl ⟨by rfl, ?_⟩) hHeld3 ?_
            rotate_left 1
            · (intro wq hSq; (try dsimp only at hSq); go_simp; first | done | with_reducible rfl)
            try simp only [Act.put, List.setIfInBounds_toArray, List.set_cons_zero, List.set_cons_succ]
            refine wpAnyH_done (by kernel_rfl) ?_ _
            refine NoPanic.normal ?_
            go_wp2
            go_roundw
            case rel => exact ⟨k + 1, by have := HLT.out; omega, by go_num, NX.out _ _ _ L6.out⟩
            case measure => have := HLT.out; simp [intOf]; omega
          · go_simp
            refine hK.out _ _ (L3.out.2.1.below ((Below.refl _ _).drew.alloc (Nat.le_refl _) _)) (fun hHeld1 => ?_)
            clear hK K hHeld
            try simp only [Act.put, List.setIfInBounds_toArray, List.set_cons_zero, List.set_cons_succ]
            have L3b : Hid (LoopS w (w3.drew.alloc (.cells #[.int .u8 T, .slice xa L xc] 48)) u5 u6 acc fs us ∧ BoxW (w3.drew.alloc (.cells #[.int .u8 T, .slice xa L xc] 48)) wr.heap.size T (.slice xa L xc) ∧ PartAt (w3.drew.alloc (.cells #[.int .u8 T, .slice xa L xc] 48)) (.slice (some ⟨g9, 0, none⟩) (L + 10) c9) (encB T bd) ∧ BoxW (w3.drew.alloc (.cells #[.int .u8 T, .slice xa L xc] 48)) w3.heap.size T (.slice xa L xc)) := ⟨L3.out.1.below ((Below.refl _ _).drew.alloc (Nat.le_refl _) _), L3.out.2.1.below ((Below.refl _ _).drew.alloc (Nat.le_refl _) _), L3.out.2.2.below ((Below.refl _ _).drew.alloc (Nat.le_refl _) _), heap_alloc_new w3.drew _⟩
            clear L3
            refine wpAnyH_ready (rs := [2]) (by kernel_rfl) (by simp) ?_
            refine (AllReadyH.cons (o := ⟨some 51, .call ⟨.builtin .append, #[.tmp 49, .tmp 50], #[22, 22]⟩, 22, "law.go:80", #[⟨0, .data⟩, ⟨1, .data⟩], none⟩) rfl (fun K hK => ?_) AllReadyH.nil)
            obtain ⟨v5, w4, r4, l4, k4⟩ := run_all L3b.out.1 HE0.out L3b.out.2.2.1 HE1.out LN1.out
            refine Lib.wp_append_run_sl _ _ _ 22 rfl _ _ rfl rfl r4 ?_
            refine hK.out _ _ (L3b.out.2.1.k48 k4) (fun hHeld2 => ?_)
            clear hK K hHeld1
            try simp only [Act.put, List.setIfInBounds_toArray, List.set_cons_zero, List.set_cons_succ]
            have L5 : Hid (LoopS w w4 v5 u6 (acc ++ encB T bd) fs us ∧ BoxW w4 wr.heap.size T (.slice xa L xc) ∧ BoxW w4 w3.heap.size T (.slice xa L xc)) := ⟨l4, L3b.out.2.1.k48 k4, L3b.out.2.2.2.k48 k4⟩
            clear l4 k4 r4 L3b
            refine wpAnyH_ready (rs := [6]) (by kernel_rfl) (by simp) ?_
            refine (AllReadyH.cons (o := ⟨some 55, .call ⟨.builtin .append, #[.tmp 52, .tmp 54], #[81, 81]⟩, 81, "law.go:80", #[⟨3, .data⟩, ⟨5, .data⟩, ⟨2, .chain⟩], none⟩) rfl (fun K hK => ?_) AllReadyH.nil)
            obtain ⟨v6, w5, r5, l5, g5⟩ := run_want L5.out.1 L5.out.2.2.range rfl PW.out LN2.out
            refine Lib.wp_append_run_sl _ _ _ 81 rfl _ _ rfl rfl r5 ?_
            refine hK.out _ _ (L5.out.2.1.grown g5 NE.out) (fun hHeld3 => ?_)
            clear hK K hHeld2
            try simp only [Act.put, List.setIfInBounds_toArray, List.set_cons_zero, List.set_cons_succ]
            have L6 : Hid (LoopS w w5 v5 v6 (acc ++ encB T bd) (fs ++ [(T, bd)]) (us ++ [.slice xa L xc])) := l5
            clear l5 g5 r5 L5
            refine wpAnyH_take (i := 7) (oi := ⟨some 5, .assign (.tmp 51), 22, "law.go:80", #[⟨2, .data⟩, ⟨6, .chain⟩, ⟨0, .phase⟩, ⟨1, .phase⟩, ⟨2, .phase⟩, ⟨3, .textOnly .lateStores⟩, ⟨4, .textOnly .lateStores⟩, ⟨5, .textOnly .lateStores⟩, ⟨6, .textOnly .lateStoresUnsure⟩], none⟩) (v := ?_) rfl (by kernel_rfl) (by kernel_rfl) (by kernel_rfl) (fun _ _ _ h => h) (Or.inl ⟨by rfl, ?_⟩) hHeld3 ?_
            rotate_left 1
            · (intro wq hSq; (try dsimp only at hSq); go_simp; first | done | with_reducible rfl)
            try simp only [Act.put, List.setIfInBounds_toArray, List.set_cons_zero, List.set_cons_succ]
            refine wpAnyH_take (i := 8) (oi := ⟨some 6, .assign (.tmp 55), 81, "law.go:80", #[⟨6, .data⟩, ⟨7, .chain⟩, ⟨0, .phase⟩, ⟨1, .phase⟩, ⟨2, .phase⟩, ⟨3, .phase⟩, ⟨4, .phase⟩, ⟨5, .phase⟩, ⟨6, .phase⟩, ⟨7, .phase⟩], none⟩) (v := ?_) rfl (by kernel_rfl) (by kernel_rfl) (by kernel_rfl) (fun _ _ _ h => h) (Or.inl ⟨by rfl, ?_⟩) hHeld3 ?_
            rotate_left 1
            · (intro wq hSq; (try dsimp only at hSq); go_simp; first | done | with_reducible rfl)
            try simp only [Act.put, List.setIfInBounds_toArray, List.set_cons_zero, List.set_cons_succ]
            refine wpAnyH_done (by kernel_rfl) ?_ _
            refine NoPanic.normal ?_
            go_wp2
            go_roundw
            case rel => exact ⟨k + 1, by have := HLT.out; omega, by go_num, NX.out _ _ _ L6.out⟩
            case measure => have := HLT.out; simp [intOf]; omega
      · have i1 : ¬ (k : Int) < (n : Int) := by omega
        obtain ⟨wl, rfl⟩ : ∃ W, W = wr := ⟨_, rfl⟩
        obtain ⟨us, s1, s2, s3⟩ := S1.out
        have htk : ps.take k = ps := List.take_of_length_le (by have := HN.out; omega)
        rw [htk] at s1 s2 s3
        have hal : Bytes (allE (ps.map frP)) := allE_bytes _ s3
        have hfa := feed_all _ s3 hal
        obtain ⟨acc, hacc⟩ : ∃ acc, acc = allE (ps.map frP) := ⟨_, rfl⟩
        obtain ⟨fs, hfs⟩ : ∃ fs, fs = ps.map frP := ⟨_, rfl⟩
        rw [← hacc] at s1 s2 hal hfa
        rw [← hfs] at s1 hfa
        obtain ⟨av5, cp5, h5⟩ := own_form s1.all
        subst h5
        obtain ⟨M, hM⟩ : ∃ M, M = acc.length := ⟨_, rfl⟩
        have HM : Hid (M = acc.length) := hM
        rw [← hM] at s1 s2 ⊢
        have hM6 : M ≤ 6200 := by have := H20.out; omega
        have HFN : Hid (fs.length ≤ 1000000) := by unfold Hid; rw [hfs, List.length_map, ← HN.out]; have := H20.out; omega
        have PT0 : PartAt wl (.slice av5 M cp5) acc := s1.all.partG (by have := s1.bel.size; have := H2.out; omega)
        have CPM : M ≤ cp5 ∧ (0 < M → ∃ g5, av5 = some ⟨g5, 0, none⟩) := by
          rcases s1.all.2 with ⟨q, q0⟩ | ⟨g0, cap, cur0, q1, q2, q3, q4, q5, q6, q7⟩
          · injection q with q qq qc
            exact ⟨by omega, fun h => by omega⟩
          · obtain ⟨_, b0, o0, c0, e0, e1, _⟩ := id PT0
            injection e0 with e0 e2 e3
            injection q1 with q1 qq qc
            exact ⟨by omega, fun _ => ⟨g0, q1⟩⟩
        have hcpM := CPM.1
        have HCP : Hid (0 < M → ∃ g5, av5 = some ⟨g5, 0, none⟩) := CPM.2
        obtain ⟨m, hm, hm50⟩ : ∃ m : Nat, a.tmod 50 = (m : Int) ∧ m < 50 := by
          rw [Int.tmod_eq_emod_of_nonneg ha.1]
          have h1 := Int.emod_nonneg a (show (50 : Int) ≠ 0 by omega)
          have h3 := Int.emod_lt_of_pos a (show (0 : Int) < 50 by omega)
          exact ⟨(a % 50).toNat, by omega, by omega⟩
        have W1 : Hid (LoopS w wl (.slice av5 M cp5) u6 acc fs us) := s1
        have HAL : Hid (Bytes acc) := hal
        have HFA : Hid (feedR acc = (fs, 0, [])) := hfa
        have hLr : Hid (Laid wl) := HL.out.below s1.bel H2.out
        have PT : Hid (∀ W, Below wl.heap.size wl W → PartAt W (.slice av5 M cp5) acc) := fun W q => PT0.below q
        have S0 : Hid (FeedJ wl wl.heap.size (acc.take 0) (.slice none 0 0) (wl.alloc (.cells #[.string ⟨#[]⟩, .int .i64 0] 78))) :=
          ⟨(Below.refl _ _).alloc (Nat.le_refl _) _, Nat.le_refl _, heap_alloc_new _ _, ⟨[], FrO.nil _ _, fun i u h => by simp at h⟩, ⟨rfl, Or.inl ⟨rfl, rfl⟩⟩⟩
        have wm : IntKind.i64.wrap (1 + (m : Int)) = 1 + (m : Int) := wrapI _ (by omega) (by omega)
        clear s1 s2 s3 htk hal hfa hacc hfs S1 HC HB PT0 CPM hM hlt
        go_wp2
        go_loopw [12, 14] (fun s12 j wq => ∃ i : Nat, i ≤ M + 50 ∧ j = .int .i64 i ∧ Hid (FeedJ wl wl.heap.size (acc.take i) s12 wq)) (fun _ j _ => M - (intOf j).toNat)
        case atStart => exact ⟨0, by omega, rfl, S0.out⟩
        case round =>
          clear S0
          obtain ⟨i, hi, rfl, S1⟩ := hrel
          by_cases hlt : i < M
          · obtain ⟨g5, rfl⟩ := HCP.out (by omega)
            obtain ⟨e, he⟩ : ∃ e : Nat, e = min (i + (1 + m)) M := ⟨_, rfl⟩
            have j1 : (i : Int) < (M : Int) := by omega
            have j0 : (0 : Int) ≤ (i : Int) := by omega
            have j2 : i < e := by omega
            have j3 : e ≤ M := by omega
            have j4 : (i : Int) ≤ (e : Int) := by omega
            have j5 : (e : Int) ≤ (cp5 : Int) := by omega
            have j6 : ¬ cp5 = i := by omega
            have j7 : e ≤ cp5 := by omega
            have j8 : i ≤ e := by omega
            have hmin : min ((i : Int) + (1 + (m : Int))) (M : Int) = (e : Int) := by omega
            have wi : IntKind.i64.wrap ((i : Int) + (1 + (m : Int))) = (i : Int) + (1 + (m : Int)) := wrapI _ (by omega) (by omega)
            have HLT : Hid (i < M) := hlt
            have hei : e - i ≤ 1 + m := by omega
            have tk : (acc.drop i).take (1 + m) = (acc.drop i).take (e - i) := by
              rcases Nat.le_total (1 + m) (M - i) with q | q
              · rw [show e - i = 1 + m by omega]
              · rw [List.take_of_length_le (by rw [List.length_drop, ← HM.out]; omega), List.take_of_length_le (by rw [List.length_drop, ← HM.out]; omega)]
            have TK : Hid (acc.take (i + (1 + m)) = acc.take i ++ (acc.drop i).take (e - i)) := by unfold Hid; rw [List.take_add, tk]
            obtain ⟨l, hl⟩ : ∃ l, l = (acc.drop i).take (e - i) := ⟨_, rfl⟩
            have PS : Hid (∀ W, Below wl.heap.size wl W → PartAt W (.slice (some ⟨g5, 0 + i, none⟩) (e - i) (cp5 - i)) l) := fun W q => by rw [hl]; exact part_sub HM.out.symm (PT.out W q) i e j2 j3
            rw [Nat.zero_add] at PS
            have BL : Hid (Bytes l) := by rw [hl]; exact fun x hx => HAL.out x (List.mem_of_mem_drop (List.mem_of_mem_take hx))
            have BT : Hid (Bytes (acc.take i)) := fun x hx => HAL.out x (List.mem_of_mem_take hx)
            have NL : Hid (l.length ≤ 9000) := by unfold Hid; rw [hl, List.length_take, List.length_drop]; omega
            have NT : Hid ((acc.take i).length ≤ 9000) := by unfold Hid; rw [List.length_take]; omega
            rw [← hl] at TK
            obtain ⟨ac, hac⟩ : ∃ ac, ac = acc.take i := ⟨_, rfl⟩
            rw [← hac] at TK BT NT S1
            have FD : Hid (Calls Tryd.prog 48 #[.pointer (some ⟨wl.heap.size, 0, none⟩), .slice (some ⟨g5, i, none⟩) (e - i) (cp5 - i)] wr _) := feedj_feed hLr.out S1.out BT.out NT.out BL.out NL.out (PS.out _ S1.out.bel)
            have HG2 : Hid ((feedR ac).1.length + (feedR ((feedR ac).2.2 ++ l)).1.length ≤ 1000000) := by
              have q := feedR_count (ac ++ l)
              rw [feedR_more ac l BT.out BL.out, List.length_append, List.length_append] at q
              have := NL.out; have := NT.out
              unfold Hid; omega
            have GG : Hid ((feedR (ac ++ l)).1 = (feedR ac).1 ++ (feedR ((feedR ac).2.2 ++ l)).1) := by unfold Hid; rw [feedR_more ac l BT.out BL.out]
            clear hlt he hei tk hl hac S1
            go_wp2_with fail
            refine FD.out.mono ?_
            rintro e2 w2 ⟨u, rfl, s2, k2⟩
            have S2 : Hid (FeedS wl wl.heap.size [] (feedR (ac ++ l)).2.2 (feedR ac).1 (feedR (ac ++ l)).2.1 u12 (.slice none 0 0) w2) := s2
            have K2 : Hid (∃ B us', wl.heap.size + 1 ≤ B ∧ FrO w2 B u (feedR ((feedR ac).2.2 ++ l)).1 us' ∧ ∀ (i : Nat) x, us'[i]? = some x → ∀ b, x.ownBlock = some b → (Value.slice none 0 0).ownBlock ≠ some b) := k2
            clear s2 k2 FD
            go_wp2_with (first | (at_builtin; refine appendF rfl _ _ rfl rfl rfl S2.out K2.out HG2.out ?_; intro v12 w3 s3 z3 b3; have S3 : Hid (FeedJ wl wl.heap.size (ac ++ l) v12 w3) := (by have q := s3; rw [← GG.out] at q; exact q); clear s3 z3 b3 S2 K2))
            go_roundw
            case rel => exact ⟨i + (1 + m), by omega, by go_num, by rw [TK.out]; exact S3⟩
            case measure => have := HLT.out; simp [intOf]; omega
          · have j1 : ¬ (i : Int) < (M : Int) := by omega
            have htk : acc.take i = acc := List.take_of_length_le (by have := HM.out; omega)
            rw [htk] at S1
            have st := S1.out.st
            rw [HFA.out] at st
            have DR : Hid (∀ W, Below wr.heap.size wr W → Calls Tryd.prog 51 #[.pointer (some ⟨wl.heap.size, 0, none⟩)] W fun e w' => e = .returned (.int .i64 0) ∧ W = w') := fun W q => dropped_any wl.heap.size _ _ W (st.below q)
            have WT : Hid (∀ W, Below wr.heap.size wr W → Calls Tryd.prog 52 #[.pointer (some ⟨wl.heap.size, 0, none⟩)] W fun e w' => e = .returned (.int .i64 0) ∧ W = w') := fun W q => waits_any wl.heap.size _ _ W (st.below q)
            have SM : Hid (Calls Tryd.prog 50 #[u12, u6] wr fun e w' => e = .returned (.bool true) ∧ Below wr.heap.size wr w') := by
              obtain ⟨us', f1, _⟩ := S1.out.fr
              rw [HFA.out] at f1
              have wq := S1.out.bel
              refine samef_want f1 (W1.out.want.below wq) (W1.out.bel.trans (wq.mono W1.out.bel.size)) HFN.out (by have := wq.size; have := W1.out.bel.size; have := H2.out; omega)
            have BE : Hid (Below w.heap.size w wr) := W1.out.bel.trans (S1.out.bel.mono W1.out.bel.size)
            clear st S1 htk hlt
            go_wp2_with fail
            refine SM.out.mono ?_
            rintro e2 w6 ⟨rfl, b6⟩
            have B6 : Hid (Below wr.heap.size wr w6) := b6
            clear b6 SM
            go_wp2_with fail
            refine (DR.out _ B6.out).mono ?_
            rintro e2 w7 ⟨rfl, rfl⟩
            go_wp2_with fail
            refine (WT.out _ B6.out).mono ?_
            rintro e2 w7 ⟨rfl, rfl⟩
            go_wp2
            go_ret
            exact ⟨by first | rfl | simp, BE.out.trans (B6.out.mono BE.out.size)⟩
end Go.Proofs.YtnpjknnalekdpaaDoor
