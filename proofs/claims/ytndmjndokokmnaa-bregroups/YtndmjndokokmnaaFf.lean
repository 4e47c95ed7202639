import Derived.Test.YtndmjndokokmnaaFe
namespace Go.Proofs.Ytndmjndokokmnaa
set_option linter.unusedSimpArgs false
set_option linter.unusedVariables false
open Go.RowKit
open Go.Deep
structure GsOk (s : Gs) : Prop where
  len : s.e.length = 10
  b0 : 0 ≤ s.b
  b9 : s.b ≤ 9
theorem gs0_ok : GsOk gs0 := ⟨rfl, by decide, by decide⟩
theorem stepN_ok {h : Hd} {s s' : Gs} (e : stepN h s = some s') (k : GsOk s) : GsOk s' ∧ (h.k = 6 → 1 ≤ h.n ∧ h.n ≤ 9) := by
  unfold stepN at e
  split at e
  · split at e
    · rename_i h1 h2
      injection e with e; rw [← e]
      have := k.b0
      exact ⟨⟨k.len, by show 0 ≤ s.b + 1; omega, by show s.b + 1 ≤ 9; omega⟩, fun _ => ⟨by omega, h2.2⟩⟩
    · cases e
  · rename_i h1
    split at e
    · split at e
      · injection e with e; rw [← e]; exact ⟨k, fun q => absurd q h1⟩
      · cases e
    · injection e with e; rw [← e]; exact ⟨k, fun q => absurd q h1⟩
theorem endN_ok {h : Hd} {s : Gs} (k : GsOk s) : GsOk (endN h s) := by
  unfold endN
  split
  · exact ⟨by show (s.e.set _ true).length = 10; rw [List.length_set]; exact k.len, k.b0, k.b9⟩
  · exact k
theorem pass_ok : (∀ t, ∀ (m : Nat) (d : Int) (s : Gs) (q : Nat × Gs), passT t m d s = some q → GsOk s → GsOk q.2 ∧ q.1 ≤ 200) ∧ ∀ l, ∀ (m : Nat) (d : Int) (s : Gs) (q : Nat × Gs), passL l m d s = some q → m ≤ 200 → GsOk s → GsOk q.2 ∧ q.1 ≤ 200 := by
  refine T.both (p := fun t => ∀ (m : Nat) (d : Int) (s : Gs) (q : Nat × Gs), passT t m d s = some q → GsOk s → GsOk q.2 ∧ q.1 ≤ 200) (q := fun l => ∀ (m : Nat) (d : Int) (s : Gs) (q : Nat × Gs), passL l m d s = some q → m ≤ 200 → GsOk s → GsOk q.2 ∧ q.1 ≤ 200) (fun h l ih m d s q e k => ?_) (fun m d s q e hm k => ?_) (fun t r x y m d s q e hm k => ?_)
  · unfold passT at e
    rw [T.hd_mk, T.kids_mk] at e
    split at e
    · cases e
    · rename_i hn
      cases h1 : stepN h s with
      | none => rw [h1] at e; cases e
      | some s1 =>
        rw [h1] at e
        simp only [Option.bind_some] at e
        cases h2 : passL l (m + 1) (d + 1) s1 with
        | none => rw [h2] at e; cases e
        | some q2 =>
          rw [h2] at e
          injection e with e
          have := ih _ _ _ _ h2 (by omega) (stepN_ok h1 k).1
          rw [← e]
          exact ⟨endN_ok this.1, this.2⟩
  · rw [passL_nil] at e; injection e with e; rw [← e]; exact ⟨k, hm⟩
  · rw [passL_cons] at e
    cases h1 : passT t m d s with
    | none => rw [h1] at e; cases e
    | some q1 =>
      rw [h1] at e
      have := x _ _ _ _ h1 k
      exact y _ _ _ _ e this.2 this.1
def PassR (r : Option (Nat × Gs)) (ok : Bool) (m : Nat) (s : Gs) : Prop := if ok = true then r = some (m, s) else r = none
/-- What passes hands back. -/
def PassO (r : Option (Nat × Gs)) (w : World) (g : Nat) (e : Ending) (w' : World) : Prop := ∃ (ok : Bool) (m' : Nat) (s' : Gs), e = .returned (.bool ok) ∧ CBox w' g m' s' ∧ w.grownBy w' (some g) ∧ PassR r ok m' s'
theorem passT_no {t : T} {m : Nat} {d : Int} {s : Gs} (h : 200 < m + 1 ∨ 10 < d ∨ okH t.hd t.kids = false) : passT t m d s = none := by unfold passT; rw [if_pos h]
theorem passT_num {t : T} {m : Nat} {d : Int} {s : Gs} (h : stepN t.hd s = none) : passT t m d s = none := by unfold passT; rw [h]; split <;> rfl
theorem passT_go {t : T} {m : Nat} {d : Int} {s s1 : Gs} (h1 : ¬ 200 < m + 1) (h2 : ¬ 10 < d) (h3 : okH t.hd t.kids = true) (h : stepN t.hd s = some s1) : passT t m d s = (passL t.kids (m + 1) (d + 1) s1).bind fun q => some (q.1, endN t.hd q.2) := by
  unfold passT; rw [h, if_neg (by intro e; rcases e with e | e | e; exact h1 e; exact h2 e; rw [h3] at e; cases e)]; rfl
theorem CBox.set0i {w : World} {g m : Nat} {s : Gs} (h : CBox w g m s) : CBox (w.setCell ⟨g, 0, none⟩ (.int .i64 ((m : Int) + 1))) g (m + 1) s := h.set0 (m + 1)
theorem SV.grown {w w' : World} {g : Nat} {u : Value} {l : List T} (h : SV (fun b => b ≠ g) w u l) (k : w.grownBy w' (some g)) : SV (fun b => b ≠ g) w' u l :=
  h.keep k.size fun b h1 h2 => ⟨h1, k.block b h2 (fun e => h1 (by injection e))⟩
set_option maxHeartbeats 8000000 in
set_option maxRecDepth 100000 in
theorem passes_any (t : T) : ∀ (g m : Nat) (d : Int) (s : Gs) (w : World) (u : Value), CBox w g m s → GsOk s → m ≤ 200 → 0 ≤ d → d ≤ 11 → SV (fun b => b ≠ g) w u t.kids → Calls Try.prog 62 #[.pointer (some ⟨g, 0, none⟩), vN t.hd u, .int .i64 d] w (PassO (passT t m d s) w g) := by
  induction t using T.ind; rename_i h l ih; intro g m d s w u hc hok hm hd0 hd1 hu
  rw [T.kids_mk] at hu
  rw [T.hd_mk]
  have HSV : Hid (SV (fun b => b ≠ g) w u l) := hu
  obtain ⟨av, cp, b, o, rfl, h1, h2, h3, h4⟩ := hu
  obtain ⟨k, c, x0, x1, x2, x3, nn, lo, hi⟩ := h
  obtain ⟨n, hn⟩ : ∃ n, n = l.length := ⟨_, rfl⟩
  have HN : Hid (n = l.length) := hn
  have HL : Hid (LAt (fun b => b ≠ g) w b o l) := h4
  have HA : Hid (0 < n → av = some ⟨b, o, none⟩) := by rw [hn]; exact h3
  have IH : Hid (∀ t ∈ l, ∀ (g m : Nat) (d : Int) (s : Gs) (w : World) (u : Value), CBox w g m s → GsOk s → m ≤ 200 → 0 ≤ d → d ≤ 11 → SV (fun b => b ≠ g) w u t.kids → Calls Try.prog 62 #[.pointer (some ⟨g, 0, none⟩), vN t.hd u, .int .i64 d] w (PassO (passT t m d s) w g)) := ih
  rw [← hn] at h1 HSV ⊢
  clear hn h3 h4 ih
  have hz : (w.setCell ⟨g, 0, none⟩ (.int .i64 ((m : Int) + 1))).heap.size = w.heap.size := by simp [World.setCell]
  have X1 : BoxN 55 ((w.setCell ⟨g, 0, none⟩ (.int .i64 ((m : Int) + 1))).alloc (.cells #[.int .i64 k, .int .u8 (c : Int), .int .u64 (x0 : Int), .int .u64 x1, .int .u64 x2, .int .u64 x3, .int .i64 nn, .int .i64 lo, .int .i64 hi, .slice av n cp] 55)) w.heap.size ⟨k, c, x0, x1, x2, x3, nn, lo, hi⟩ (.slice av n cp) := by
    have q := BoxN.new 55 (w.setCell ⟨g, 0, none⟩ (.int .i64 ((m : Int) + 1))) ⟨k, c, x0, x1, x2, x3, nn, lo, hi⟩ (.slice av n cp)
    rw [hz] at q; exact q
  have HC0 : Hid (CBox ((w.setCell ⟨g, 0, none⟩ (.int .i64 ((m : Int) + 1))).alloc (.cells #[.int .i64 k, .int .u8 (c : Int), .int .u64 (x0 : Int), .int .u64 x1, .int .u64 x2, .int .u64 x3, .int .i64 nn, .int .i64 lo, .int .i64 hi, .slice av n cp] 55)).drew g (m + 1) s) := (hc.set0i.blk (w' := ((w.setCell ⟨g, 0, none⟩ (.int .i64 ((m : Int) + 1))).alloc (.cells #[.int .i64 k, .int .u8 (c : Int), .int .u64 (x0 : Int), .int .u64 x1, .int .u64 x2, .int .u64 x3, .int .i64 nn, .int .i64 lo, .int .i64 hi, .slice av n cp] 55))) (Below.heap_alloc _ _ _ (by rw [hz]; exact hc.lt))).blk rfl
  have hg0 : w.grownBy ((w.setCell ⟨g, 0, none⟩ (.int .i64 ((m : Int) + 1))).alloc (.cells #[.int .i64 k, .int .u8 (c : Int), .int .u64 (x0 : Int), .int .u64 x1, .int .u64 x2, .int .u64 x3, .int .i64 nn, .int .i64 lo, .int .i64 hi, .slice av n cp] 55)).drew (some g) := by
    have q := grown_set (grown_of_below (Below.refl w.heap.size w) (some g)) 0 (.int .i64 ((m : Int) + 1))
    have r := q.trans (grown_of_below ((Below.refl _ (w.setCell ⟨g, 0, none⟩ (.int .i64 ((m : Int) + 1)))).alloc (Nat.le_refl _) (.cells #[.int .i64 k, .int .u8 (c : Int), .int .u64 (x0 : Int), .int .u64 x1, .int .u64 x2, .int .u64 x3, .int .i64 nn, .int .i64 lo, .int .i64 hi, .slice av n cp] 55)) (some g))
    exact ⟨r.os, r.tape, r.output, r.size, r.block⟩
  have SS0 : Hid ((fun W => BoxN 55 W w.heap.size ⟨k, c, x0, x1, x2, x3, nn, lo, hi⟩ (.slice av n cp) ∧ w.grownBy W (some g)) ((w.setCell ⟨g, 0, none⟩ (.int .i64 ((m : Int) + 1))).alloc (.cells #[.int .i64 k, .int .u8 (c : Int), .int .u64 (x0 : Int), .int .u64 x1, .int .u64 x2, .int .u64 x3, .int .i64 nn, .int .i64 lo, .int .i64 hi, .slice av n cp] 55)).drew) := ⟨X1.blk rfl, hg0⟩
  have hlt : g < w.heap.size := hc.lt
  have hNg : Hid (w.heap.size ≠ g) := by unfold Hid; omega
  have c0 := hc.cell 0 _ rfl
  have f0 : w.frozen? ⟨g, 0, none⟩ = false := unfrozen hc
  have i200 : (m : Int) ≤ 200 := by omega
  have im0 : (0 : Int) ≤ (m : Int) := by omega
  have HOK : Hid (GsOk s) := hok
  clear hz X1 hg0 hok
  change Calls Try.prog 62 #[_, .agg #[.int .i64 k, .int .u8 (c : Int), .int .u64 (x0 : Int), .int .u64 x1, .int .u64 x2, .int .u64 x3, .int .i64 nn, .int .i64 lo, .int .i64 hi, .slice av n cp], _] w _
  by_cases q1 : 200 < m + 1
  · have PNO : Hid (passT (T.mk ⟨k, c, x0, x1, x2, x3, nn, lo, hi⟩ l) m d s = none) := passT_no (.inl q1)
    have j1 : (200 : Int) < (m : Int) + 1 := by omega
    have HC00 : Hid (CBox ((w.setCell ⟨g, 0, none⟩ (.int .i64 ((m : Int) + 1))).alloc (.cells #[.int .i64 k, .int .u8 (c : Int), .int .u64 (x0 : Int), .int .u64 x1, .int .u64 x2, .int .u64 x3, .int .i64 nn, .int .i64 lo, .int .i64 hi, .slice av n cp] 55)) g (m + 1) s) := HC0.out.blk rfl
    have HG00 : Hid (w.grownBy ((w.setCell ⟨g, 0, none⟩ (.int .i64 ((m : Int) + 1))).alloc (.cells #[.int .i64 k, .int .u8 (c : Int), .int .u64 (x0 : Int), .int .u64 x1, .int .u64 x2, .int .u64 x3, .int .i64 nn, .int .i64 lo, .int .i64 hi, .slice av n cp] 55)) (some g)) := ⟨SS0.out.2.os, SS0.out.2.tape, SS0.out.2.output, SS0.out.2.size, SS0.out.2.block⟩
    clear q1 hc
    go_enter Try.func62, Try.ntmps62
    go_wp2
    go_ret
    exact ⟨false, _, _, rfl, HC00.out, HG00.out, (if_neg (by simp) : PassR _ false _ _ = _).mpr PNO.out⟩
  · have j1 : ¬ (200 : Int) < (m : Int) + 1 := by omega
    by_cases q2 : 10 < d
    · have PNO : Hid (passT (T.mk ⟨k, c, x0, x1, x2, x3, nn, lo, hi⟩ l) m d s = none) := passT_no (.inr (.inl q2))
      have HC00 : Hid (CBox ((w.setCell ⟨g, 0, none⟩ (.int .i64 ((m : Int) + 1))).alloc (.cells #[.int .i64 k, .int .u8 (c : Int), .int .u64 (x0 : Int), .int .u64 x1, .int .u64 x2, .int .u64 x3, .int .i64 nn, .int .i64 lo, .int .i64 hi, .slice av n cp] 55)) g (m + 1) s) := HC0.out.blk rfl
      have HG00 : Hid (w.grownBy ((w.setCell ⟨g, 0, none⟩ (.int .i64 ((m : Int) + 1))).alloc (.cells #[.int .i64 k, .int .u8 (c : Int), .int .u64 (x0 : Int), .int .u64 x1, .int .u64 x2, .int .u64 x3, .int .i64 nn, .int .i64 lo, .int .i64 hi, .slice av n cp] 55)) (some g)) := ⟨SS0.out.2.os, SS0.out.2.tape, SS0.out.2.output, SS0.out.2.size, SS0.out.2.block⟩
      clear q1 hc
      go_enter Try.func62, Try.ntmps62
      go_wp2
      go_ret
      exact ⟨false, _, _, rfl, HC00.out, HG00.out, (if_neg (by simp) : PassR _ false _ _ = _).mpr PNO.out⟩
    · have C72 : Hid (∀ W, Calls Try.prog 84 #[vN ⟨k, c, x0, x1, x2, x3, nn, lo, hi⟩ (.slice av n cp)] W fun e w' => e = .returned (vN (needH ⟨k, c, x0, x1, x2, x3, nn, lo, hi⟩) (.slice none 0 0)) ∧ Below W.heap.size W w') := fun W => needed_any _ _ W
      have C63 : Hid (∀ W, Calls Try.prog 71 #[vN ⟨k, c, x0, x1, x2, x3, nn, lo, hi⟩ (.slice av n cp), vN (needH ⟨k, c, x0, x1, x2, x3, nn, lo, hi⟩) (.slice none 0 0)] W fun e w' => e = .returned (.bool (sameH ⟨k, c, x0, x1, x2, x3, nn, lo, hi⟩ (needH ⟨k, c, x0, x1, x2, x3, nn, lo, hi⟩))) ∧ Below W.heap.size W w') := fun W => alike_any _ _ _ _ W
      have C73 : Hid (∀ W, w.grownBy W (some g) → Calls Try.prog 85 #[vN ⟨k, c, x0, x1, x2, x3, nn, lo, hi⟩ (.slice av n cp)] W fun e w' => e = .returned (.bool (partsB k l)) ∧ Below W.heap.size W w') := fun W hW => parts_any ⟨k, c, x0, x1, x2, x3, nn, lo, hi⟩ l _ W (HSV.out.grown hW).any
      have C74 : Hid (∀ W, Calls Try.prog 86 #[vN ⟨k, c, x0, x1, x2, x3, nn, lo, hi⟩ (.slice av n cp)] W fun e w' => e = .returned (.bool (timesB ⟨k, c, x0, x1, x2, x3, nn, lo, hi⟩)) ∧ Below W.heap.size W w') := fun W => times_any _ _ W
      have C75 : Hid (∀ W, CBox W g (m + 1) s → Calls Try.prog 87 #[.pointer (some ⟨g, 0, none⟩), vN ⟨k, c, x0, x1, x2, x3, nn, lo, hi⟩ (.slice av n cp)] W fun e w' => e = .returned (.bool (stepN ⟨k, c, x0, x1, x2, x3, nn, lo, hi⟩ s).isSome) ∧ CBox w' g (m + 1) (stepS ⟨k, c, x0, x1, x2, x3, nn, lo, hi⟩ s) ∧ W.grownBy w' (some g)) := fun W hW => numbered_any g (m + 1) s ⟨k, c, x0, x1, x2, x3, nn, lo, hi⟩ _ W hW HOK.out.len HOK.out.b0 (by have := HOK.out.b9; omega)
      have HOKH : Hid (okH ⟨k, c, x0, x1, x2, x3, nn, lo, hi⟩ l = (sameH ⟨k, c, x0, x1, x2, x3, nn, lo, hi⟩ (needH ⟨k, c, x0, x1, x2, x3, nn, lo, hi⟩) && partsB k l && timesB ⟨k, c, x0, x1, x2, x3, nn, lo, hi⟩)) := rfl
      obtain ⟨NH, hNH⟩ : ∃ NH, NH = needH ⟨k, c, x0, x1, x2, x3, nn, lo, hi⟩ := ⟨_, rfl⟩
      rw [← hNH] at C72 C63 HOKH
      clear hNH hc
      cases hal : sameH ⟨k, c, x0, x1, x2, x3, nn, lo, hi⟩ NH with
      | false =>
        rw [hal] at C63
        have PNO : Hid (passT (T.mk ⟨k, c, x0, x1, x2, x3, nn, lo, hi⟩ l) m d s = none) := passT_no (.inr (.inr (by rw [T.hd_mk, T.kids_mk, HOKH.out, hal]; rfl)))
        clear hal
        go_enter Try.func62, Try.ntmps62
        go_wp2
        refine wp_region_noPanic ?_
        refine wp_region_held_drew (S := fun W => BoxN 55 W w.heap.size ⟨k, c, x0, x1, x2, x3, nn, lo, hi⟩ (.slice av n cp) ∧ w.grownBy W (some g)) (by kernel_rfl) (SS0.out) (fun hHeld => ?_)
        try simp only [Act.put, List.setIfInBounds_toArray, List.set_cons_zero, List.set_cons_succ]
        refine wpAnyH_take (i := 0) (oi := { dst := some 25, op := Go.Op.load 55 (Go.Operand.tmp 4), type := 55, pos := "tree.go:126", after := #[], guard := none }) (v := vN ⟨k, c, x0, x1, x2, x3, nn, lo, hi⟩ (.slice av n cp)) rfl (by kernel_rfl) (by kernel_rfl) (by kernel_rfl) (fun _ _ _ h => h) (yieldsIf_load_mid rfl 55 _ rfl w.heap.size 0 rfl (cN ⟨k, c, x0, x1, x2, x3, nn, lo, hi⟩ (.slice av n cp)) _ (fun wq hSq => hSq.1.range) Try.underlying55 rfl size55) hHeld ?_
        try simp only [Act.put, List.setIfInBounds_toArray, List.set_cons_zero, List.set_cons_succ]
        refine wpAnyH_take (i := 1) (oi := { dst := some 26, op := Go.Op.load 55 (Go.Operand.tmp 4), type := 55, pos := "tree.go:126", after := #[], guard := none }) (v := vN ⟨k, c, x0, x1, x2, x3, nn, lo, hi⟩ (.slice av n cp)) rfl (by kernel_rfl) (by kernel_rfl) (by kernel_rfl) (fun _ _ _ h => h) (yieldsIf_load_mid rfl 55 _ rfl w.heap.size 0 rfl (cN ⟨k, c, x0, x1, x2, x3, nn, lo, hi⟩ (.slice av n cp)) _ (fun wq hSq => hSq.1.range) Try.underlying55 rfl size55) hHeld ?_
        try simp only [Act.put, List.setIfInBounds_toArray, List.set_cons_zero, List.set_cons_succ]
        refine wpAnyH_ready (rs := [2]) (by kernel_rfl) (by simp) ?_
        refine AllReadyH.cons (o := { dst := some 27, op := Go.Op.call { callee := Go.Callee.value (Go.Operand.func 84), args := #[Go.Operand.tmp 26], argTypes := #[55] }, type := 55, pos := "tree.go:126", after := #[{ on := 1, ground := Go.Ground.data }], guard := none }) rfl (fun K hK => ?_) AllReadyH.nil
        go_simp
        refine (C72.out _).mono ?_
        rintro e w1 ⟨rfl, b1⟩
        have HC1 : Hid (CBox w1 g (m + 1) s) := HC0.out.blk (b1.block g (by have := HC0.out.lt; omega))
        have SS1 : Hid ((fun W => BoxN 55 W w.heap.size ⟨k, c, x0, x1, x2, x3, nn, lo, hi⟩ (.slice av n cp) ∧ w.grownBy W (some g)) w1) := ⟨SS0.out.1.below b1 SS0.out.1.lt, SS0.out.2.trans (grown_of_below b1 (some g))⟩
        clear b1
        refine hK.out _ _ (SS1.out) (fun hHeld1 => ?_)
        clear hK K hHeld
        try simp only [Act.put, List.setIfInBounds_toArray, List.set_cons_zero, List.set_cons_succ]
        refine wpAnyH_ready (rs := [3]) (by kernel_rfl) (by simp) ?_
        refine AllReadyH.cons (o := { dst := some 28, op := Go.Op.call { callee := Go.Callee.value (Go.Operand.func 71), args := #[Go.Operand.tmp 25, Go.Operand.tmp 27], argTypes := #[55, 55] }, type := 4, pos := "tree.go:126", after := #[{ on := 0, ground := Go.Ground.data }, { on := 2, ground := Go.Ground.data }, { on := 2, ground := Go.Ground.chain }], guard := none }) rfl (fun K hK => ?_) AllReadyH.nil
        go_simp
        refine (C63.out _).mono ?_
        rintro e w2 ⟨rfl, b2⟩
        have HC2 : Hid (CBox w2 g (m + 1) s) := HC1.out.blk (b2.block g (by have := HC1.out.lt; omega))
        have SS2 : Hid ((fun W => BoxN 55 W w.heap.size ⟨k, c, x0, x1, x2, x3, nn, lo, hi⟩ (.slice av n cp) ∧ w.grownBy W (some g)) w2) := ⟨SS1.out.1.below b2 SS1.out.1.lt, SS1.out.2.trans (grown_of_below b2 (some g))⟩
        clear b2
        refine hK.out _ _ (SS2.out) (fun hHeld2 => ?_)
        clear hK K hHeld1
        try simp only [Act.put, List.setIfInBounds_toArray, List.set_cons_zero, List.set_cons_succ]
        refine wpAnyH_take (i := 4) (oi := { dst := some 29, op := Go.Op.unOp Go.UnOp.not 4 (Go.Operand.tmp 28), type := 4, pos := "tree.go:126", after := #[{ on := 3, ground := Go.Ground.data }], guard := none }) (v := .bool true) rfl (by kernel_rfl) (by kernel_rfl) (by kernel_rfl) (fun _ _ _ h => h) (Or.inl ⟨by rfl, ?_⟩) hHeld2 ?_
        · (intro wq hSq; (try dsimp only at hSq); go_simp; first | done | with_reducible rfl)
        try simp only [Act.put, List.setIfInBounds_toArray, List.set_cons_zero, List.set_cons_succ]
        refine wpAnyH_take (i := 5) (oi := { dst := some 30, op := Go.Op.move (Go.Operand.tmp 29), type := 4, pos := "tree.go:126", after := #[{ on := 4, ground := Go.Ground.data }, { on := 3, ground := Go.Ground.chain }], guard := none }) (v := ?_) rfl (by kernel_rfl) (by kernel_rfl) (by kernel_rfl) (fun _ _ _ h => h) (Or.inl ⟨by rfl, ?_⟩) hHeld2 ?_
        rotate_left 1
        · (intro wq hSq; (try dsimp only at hSq); go_simp; first | done | with_reducible rfl)
        try simp only [Act.put, List.setIfInBounds_toArray, List.set_cons_zero, List.set_cons_succ]
        refine wpAnyH_take (i := 6) (oi := { dst := some 31, op := Go.Op.load 55 (Go.Operand.tmp 4), type := 55, pos := "tree.go:126", after := #[{ on := 5, ground := Go.Ground.guard }], guard := some (5, false) }) (v := undef) rfl (by kernel_rfl) (by kernel_rfl) (by kernel_rfl) (fun _ _ _ h => h) (Or.inr ⟨by rfl, rfl⟩) hHeld2 ?_
        try simp only [Act.put, List.setIfInBounds_toArray, List.set_cons_zero, List.set_cons_succ]
        refine wpAnyH_take (i := 7) (oi := { dst := some 32, op := Go.Op.call { callee := Go.Callee.value (Go.Operand.func 85), args := #[Go.Operand.tmp 31], argTypes := #[55] }, type := 4, pos := "tree.go:126", after := #[{ on := 6, ground := Go.Ground.data }, { on := 5, ground := Go.Ground.chain }, { on := 5, ground := Go.Ground.guard }], guard := some (5, false) }) (v := undef) rfl (by kernel_rfl) (by kernel_rfl) (by kernel_rfl) (fun _ _ _ h => h) (Or.inr ⟨by rfl, rfl⟩) hHeld2 ?_
        try simp only [Act.put, List.setIfInBounds_toArray, List.set_cons_zero, List.set_cons_succ]
        refine wpAnyH_take (i := 8) (oi := { dst := some 33, op := Go.Op.unOp Go.UnOp.not 4 (Go.Operand.tmp 32), type := 4, pos := "tree.go:126", after := #[{ on := 7, ground := Go.Ground.data }, { on := 5, ground := Go.Ground.guard }], guard := some (5, false) }) (v := undef) rfl (by kernel_rfl) (by kernel_rfl) (by kernel_rfl) (fun _ _ _ h => h) (Or.inr ⟨by rfl, rfl⟩) hHeld2 ?_
        try simp only [Act.put, List.setIfInBounds_toArray, List.set_cons_zero, List.set_cons_succ]
        refine wpAnyH_take (i := 9) (oi := { dst := some 34, op := Go.Op.pick (Go.Operand.tmp 30) (Go.Operand.const (Go.Value.bool true)) (Go.Operand.tmp 33), type := 4, pos := "tree.go:126", after := #[{ on := 5, ground := Go.Ground.data }, { on := 8, ground := Go.Ground.data }], guard := none }) (v := .bool true) rfl (by kernel_rfl) (by kernel_rfl) (by kernel_rfl) (fun _ _ _ h => h) (Or.inl ⟨by rfl, ?_⟩) hHeld2 ?_
        · (intro wq hSq; (try dsimp only at hSq); go_simp; first | done | with_reducible rfl)
        try simp only [Act.put, List.setIfInBounds_toArray, List.set_cons_zero, List.set_cons_succ]
        refine wpAnyH_take (i := 10) (oi := { dst := some 35, op := Go.Op.move (Go.Operand.tmp 34), type := 4, pos := "tree.go:126", after := #[{ on := 9, ground := Go.Ground.data }, { on := 7, ground := Go.Ground.chain }], guard := none }) (v := ?_) rfl (by kernel_rfl) (by kernel_rfl) (by kernel_rfl) (fun _ _ _ h => h) (Or.inl ⟨by rfl, ?_⟩) hHeld2 ?_
        rotate_left 1
        · (intro wq hSq; (try dsimp only at hSq); go_simp; first | done | with_reducible rfl)
        try simp only [Act.put, List.setIfInBounds_toArray, List.set_cons_zero, List.set_cons_succ]
        refine wpAnyH_take (i := 11) (oi := { dst := some 36, op := Go.Op.load 55 (Go.Operand.tmp 4), type := 55, pos := "tree.go:126", after := #[{ on := 10, ground := Go.Ground.guard }], guard := some (10, false) }) (v := undef) rfl (by kernel_rfl) (by kernel_rfl) (by kernel_rfl) (fun _ _ _ h => h) (Or.inr ⟨by rfl, rfl⟩) hHeld2 ?_
        try simp only [Act.put, List.setIfInBounds_toArray, List.set_cons_zero, List.set_cons_succ]
        refine wpAnyH_take (i := 12) (oi := { dst := some 37, op := Go.Op.call { callee := Go.Callee.value (Go.Operand.func 86), args := #[Go.Operand.tmp 36], argTypes := #[55] }, type := 4, pos := "tree.go:126", after := #[{ on := 11, ground := Go.Ground.data }, { on := 10, ground := Go.Ground.chain }, { on := 10, ground := Go.Ground.guard }], guard := some (10, false) }) (v := undef) rfl (by kernel_rfl) (by kernel_rfl) (by kernel_rfl) (fun _ _ _ h => h) (Or.inr ⟨by rfl, rfl⟩) hHeld2 ?_
        try simp only [Act.put, List.setIfInBounds_toArray, List.set_cons_zero, List.set_cons_succ]
        refine wpAnyH_take (i := 13) (oi := { dst := some 38, op := Go.Op.unOp Go.UnOp.not 4 (Go.Operand.tmp 37), type := 4, pos := "tree.go:126", after := #[{ on := 12, ground := Go.Ground.data }, { on := 10, ground := Go.Ground.guard }], guard := some (10, false) }) (v := undef) rfl (by kernel_rfl) (by kernel_rfl) (by kernel_rfl) (fun _ _ _ h => h) (Or.inr ⟨by rfl, rfl⟩) hHeld2 ?_
        try simp only [Act.put, List.setIfInBounds_toArray, List.set_cons_zero, List.set_cons_succ]
        refine wpAnyH_take (i := 14) (oi := { dst := some 39, op := Go.Op.pick (Go.Operand.tmp 35) (Go.Operand.const (Go.Value.bool true)) (Go.Operand.tmp 38), type := 4, pos := "tree.go:126", after := #[{ on := 10, ground := Go.Ground.data }, { on := 13, ground := Go.Ground.data }], guard := none }) (v := .bool true) rfl (by kernel_rfl) (by kernel_rfl) (by kernel_rfl) (fun _ _ _ h => h) (Or.inl ⟨by rfl, ?_⟩) hHeld2 ?_
        · (intro wq hSq; (try dsimp only at hSq); go_simp; first | done | with_reducible rfl)
        try simp only [Act.put, List.setIfInBounds_toArray, List.set_cons_zero, List.set_cons_succ]
        refine wpAnyH_take (i := 15) (oi := { dst := some 40, op := Go.Op.move (Go.Operand.tmp 39), type := 4, pos := "tree.go:126", after := #[{ on := 14, ground := Go.Ground.data }, { on := 12, ground := Go.Ground.chain }], guard := none }) (v := ?_) rfl (by kernel_rfl) (by kernel_rfl) (by kernel_rfl) (fun _ _ _ h => h) (Or.inl ⟨by rfl, ?_⟩) hHeld2 ?_
        rotate_left 1
        · (intro wq hSq; (try dsimp only at hSq); go_simp; first | done | with_reducible rfl)
        try simp only [Act.put, List.setIfInBounds_toArray, List.set_cons_zero, List.set_cons_succ]
        refine wpAnyH_take (i := 16) (oi := { dst := some 41, op := Go.Op.move (Go.Operand.tmp 0), type := 115, pos := "tree.go:126", after := #[{ on := 15, ground := Go.Ground.guard }], guard := some (15, false) }) (v := undef) rfl (by kernel_rfl) (by kernel_rfl) (by kernel_rfl) (fun _ _ _ h => h) (Or.inr ⟨by rfl, rfl⟩) hHeld2 ?_
        try simp only [Act.put, List.setIfInBounds_toArray, List.set_cons_zero, List.set_cons_succ]
        refine wpAnyH_take (i := 17) (oi := { dst := some 42, op := Go.Op.load 55 (Go.Operand.tmp 4), type := 55, pos := "tree.go:126", after := #[{ on := 15, ground := Go.Ground.guard }], guard := some (15, false) }) (v := undef) rfl (by kernel_rfl) (by kernel_rfl) (by kernel_rfl) (fun _ _ _ h => h) (Or.inr ⟨by rfl, rfl⟩) hHeld2 ?_
        try simp only [Act.put, List.setIfInBounds_toArray, List.set_cons_zero, List.set_cons_succ]
        refine wpAnyH_take (i := 18) (oi := { dst := some 43, op := Go.Op.call { callee := Go.Callee.value (Go.Operand.func 87), args := #[Go.Operand.tmp 41, Go.Operand.tmp 42], argTypes := #[115, 55] }, type := 4, pos := "tree.go:126", after := #[{ on := 16, ground := Go.Ground.data }, { on := 17, ground := Go.Ground.data }, { on := 15, ground := Go.Ground.chain }, { on := 15, ground := Go.Ground.guard }], guard := some (15, false) }) (v := undef) rfl (by kernel_rfl) (by kernel_rfl) (by kernel_rfl) (fun _ _ _ h => h) (Or.inr ⟨by rfl, rfl⟩) hHeld2 ?_
        try simp only [Act.put, List.setIfInBounds_toArray, List.set_cons_zero, List.set_cons_succ]
        refine wpAnyH_take (i := 19) (oi := { dst := some 44, op := Go.Op.unOp Go.UnOp.not 4 (Go.Operand.tmp 43), type := 4, pos := "tree.go:126", after := #[{ on := 18, ground := Go.Ground.data }, { on := 15, ground := Go.Ground.guard }], guard := some (15, false) }) (v := undef) rfl (by kernel_rfl) (by kernel_rfl) (by kernel_rfl) (fun _ _ _ h => h) (Or.inr ⟨by rfl, rfl⟩) hHeld2 ?_
        try simp only [Act.put, List.setIfInBounds_toArray, List.set_cons_zero, List.set_cons_succ]
        refine wpAnyH_take (i := 20) (oi := { dst := some 45, op := Go.Op.pick (Go.Operand.tmp 40) (Go.Operand.const (Go.Value.bool true)) (Go.Operand.tmp 44), type := 4, pos := "tree.go:126", after := #[{ on := 15, ground := Go.Ground.data }, { on := 19, ground := Go.Ground.data }], guard := none }) (v := .bool true) rfl (by kernel_rfl) (by kernel_rfl) (by kernel_rfl) (fun _ _ _ h => h) (Or.inl ⟨by rfl, ?_⟩) hHeld2 ?_
        · (intro wq hSq; (try dsimp only at hSq); go_simp; first | done | with_reducible rfl)
        try simp only [Act.put, List.setIfInBounds_toArray, List.set_cons_zero, List.set_cons_succ]
        refine wpAnyH_done (by kernel_rfl) ?_ _
        refine NoPanic.normal ?_
        go_wp2
        go_ret
        exact ⟨false, _, _, rfl, HC2.out, SS2.out.2, (if_neg (by simp) : PassR _ false _ _ = _).mpr PNO.out⟩
      | true =>
        rw [hal] at C63
        cases hpa : partsB k l with
        | false =>
          rw [hpa] at C73
          have PNO : Hid (passT (T.mk ⟨k, c, x0, x1, x2, x3, nn, lo, hi⟩ l) m d s = none) := passT_no (.inr (.inr (by rw [T.hd_mk, T.kids_mk, HOKH.out, hal, hpa]; rfl)))
          clear hal hpa
          go_enter Try.func62, Try.ntmps62
          go_wp2
          refine wp_region_noPanic ?_
          refine wp_region_held_drew (S := fun W => BoxN 55 W w.heap.size ⟨k, c, x0, x1, x2, x3, nn, lo, hi⟩ (.slice av n cp) ∧ w.grownBy W (some g)) (by kernel_rfl) (SS0.out) (fun hHeld => ?_)
          try simp only [Act.put, List.setIfInBounds_toArray, List.set_cons_zero, List.set_cons_succ]
          refine wpAnyH_take (i := 0) (oi := { dst := some 25, op := Go.Op.load 55 (Go.Operand.tmp 4), type := 55, pos := "tree.go:126", after := #[], guard := none }) (v := vN ⟨k, c, x0, x1, x2, x3, nn, lo, hi⟩ (.slice av n cp)) rfl (by kernel_rfl) (by kernel_rfl) (by kernel_rfl) (fun _ _ _ h => h) (yieldsIf_load_mid rfl 55 _ rfl w.heap.size 0 rfl (cN ⟨k, c, x0, x1, x2, x3, nn, lo, hi⟩ (.slice av n cp)) _ (fun wq hSq => hSq.1.range) Try.underlying55 rfl size55) hHeld ?_
          try simp only [Act.put, List.setIfInBounds_toArray, List.set_cons_zero, List.set_cons_succ]
          refine wpAnyH_take (i := 1) (oi := { dst := some 26, op := Go.Op.load 55 (Go.Operand.tmp 4), type := 55, pos := "tree.go:126", after := #[], guard := none }) (v := vN ⟨k, c, x0, x1, x2, x3, nn, lo, hi⟩ (.slice av n cp)) rfl (by kernel_rfl) (by kernel_rfl) (by kernel_rfl) (fun _ _ _ h => h) (yieldsIf_load_mid rfl 55 _ rfl w.heap.size 0 rfl (cN ⟨k, c, x0, x1, x2, x3, nn, lo, hi⟩ (.slice av n cp)) _ (fun wq hSq => hSq.1.range) Try.underlying55 rfl size55) hHeld ?_
          try simp only [Act.put, List.setIfInBounds_toArray, List.set_cons_zero, List.set_cons_succ]
          refine wpAnyH_ready (rs := [2]) (by kernel_rfl) (by simp) ?_
          refine AllReadyH.cons (o := { dst := some 27, op := Go.Op.call { callee := Go.Callee.value (Go.Operand.func 84), args := #[Go.Operand.tmp 26], argTypes := #[55] }, type := 55, pos := "tree.go:126", after := #[{ on := 1, ground := Go.Ground.data }], guard := none }) rfl (fun K hK => ?_) AllReadyH.nil
          go_simp
          refine (C72.out _).mono ?_
          rintro e w1 ⟨rfl, b1⟩
          have HC1 : Hid (CBox w1 g (m + 1) s) := HC0.out.blk (b1.block g (by have := HC0.out.lt; omega))
          have SS1 : Hid ((fun W => BoxN 55 W w.heap.size ⟨k, c, x0, x1, x2, x3, nn, lo, hi⟩ (.slice av n cp) ∧ w.grownBy W (some g)) w1) := ⟨SS0.out.1.below b1 SS0.out.1.lt, SS0.out.2.trans (grown_of_below b1 (some g))⟩
          clear b1
          refine hK.out _ _ (SS1.out) (fun hHeld1 => ?_)
          clear hK K hHeld
          try simp only [Act.put, List.setIfInBounds_toArray, List.set_cons_zero, List.set_cons_succ]
          refine wpAnyH_ready (rs := [3]) (by kernel_rfl) (by simp) ?_
          refine AllReadyH.cons (o := { dst := some 28, op := Go.Op.call { callee := Go.Callee.value (Go.Operand.func 71), args := #[Go.Operand.tmp 25, Go.Operand.tmp 27], argTypes := #[55, 55] }, type := 4, pos := "tree.go:126", after := #[{ on := 0, ground := Go.Ground.data }, { on := 2, ground := Go.Ground.data }, { on := 2, ground := Go.Ground.chain }], guard := none }) rfl (fun K hK => ?_) AllReadyH.nil
          go_simp
          refine (C63.out _).mono ?_
          rintro e w2 ⟨rfl, b2⟩
          have HC2 : Hid (CBox w2 g (m + 1) s) := HC1.out.blk (b2.block g (by have := HC1.out.lt; omega))
          have SS2 : Hid ((fun W => BoxN 55 W w.heap.size ⟨k, c, x0, x1, x2, x3, nn, lo, hi⟩ (.slice av n cp) ∧ w.grownBy W (some g)) w2) := ⟨SS1.out.1.below b2 SS1.out.1.lt, SS1.out.2.trans (grown_of_below b2 (some g))⟩
          clear b2
          refine hK.out _ _ (SS2.out) (fun hHeld2 => ?_)
          clear hK K hHeld1
          try simp only [Act.put, List.setIfInBounds_toArray, List.set_cons_zero, List.set_cons_succ]
          refine wpAnyH_take (i := 4) (oi := { dst := some 29, op := Go.Op.unOp Go.UnOp.not 4 (Go.Operand.tmp 28), type := 4, pos := "tree.go:126", after := #[{ on := 3, ground := Go.Ground.data }], guard := none }) (v := .bool false) rfl (by kernel_rfl) (by kernel_rfl) (by kernel_rfl) (fun _ _ _ h => h) (Or.inl ⟨by rfl, ?_⟩) hHeld2 ?_
          · (intro wq hSq; (try dsimp only at hSq); go_simp; first | done | with_reducible rfl)
          try simp only [Act.put, List.setIfInBounds_toArray, List.set_cons_zero, List.set_cons_succ]
          refine wpAnyH_take (i := 5) (oi := { dst := some 30, op := Go.Op.move (Go.Operand.tmp 29), type := 4, pos := "tree.go:126", after := #[{ on := 4, ground := Go.Ground.data }, { on := 3, ground := Go.Ground.chain }], guard := none }) (v := ?_) rfl (by kernel_rfl) (by kernel_rfl) (by kernel_rfl) (fun _ _ _ h => h) (Or.inl ⟨by rfl, ?_⟩) hHeld2 ?_
          rotate_left 1
          · (intro wq hSq; (try dsimp only at hSq); go_simp; first | done | with_reducible rfl)
          try simp only [Act.put, List.setIfInBounds_toArray, List.set_cons_zero, List.set_cons_succ]
          refine wpAnyH_take (i := 6) (oi := { dst := some 31, op := Go.Op.load 55 (Go.Operand.tmp 4), type := 55, pos := "tree.go:126", after := #[{ on := 5, ground := Go.Ground.guard }], guard := some (5, false) }) (v := vN ⟨k, c, x0, x1, x2, x3, nn, lo, hi⟩ (.slice av n cp)) rfl (by kernel_rfl) (by kernel_rfl) (by kernel_rfl) (fun _ _ _ h => h) (yieldsIf_load_mid rfl 55 _ rfl w.heap.size 0 rfl (cN ⟨k, c, x0, x1, x2, x3, nn, lo, hi⟩ (.slice av n cp)) _ (fun wq hSq => hSq.1.range) Try.underlying55 rfl size55) hHeld2 ?_
          try simp only [Act.put, List.setIfInBounds_toArray, List.set_cons_zero, List.set_cons_succ]
          refine wpAnyH_ready (rs := [7]) (by kernel_rfl) (by simp) ?_
          refine AllReadyH.cons (o := { dst := some 32, op := Go.Op.call { callee := Go.Callee.value (Go.Operand.func 85), args := #[Go.Operand.tmp 31], argTypes := #[55] }, type := 4, pos := "tree.go:126", after := #[{ on := 6, ground := Go.Ground.data }, { on := 5, ground := Go.Ground.chain }, { on := 5, ground := Go.Ground.guard }], guard := some (5, false) }) rfl (fun K hK => ?_) AllReadyH.nil
          go_simp
          refine (C73.out _ SS2.out.2).mono ?_
          rintro e w3 ⟨rfl, b3⟩
          have HC3 : Hid (CBox w3 g (m + 1) s) := HC2.out.blk (b3.block g (by have := HC2.out.lt; omega))
          have SS3 : Hid ((fun W => BoxN 55 W w.heap.size ⟨k, c, x0, x1, x2, x3, nn, lo, hi⟩ (.slice av n cp) ∧ w.grownBy W (some g)) w3) := ⟨SS2.out.1.below b3 SS2.out.1.lt, SS2.out.2.trans (grown_of_below b3 (some g))⟩
          clear b3
          refine hK.out _ _ (SS3.out) (fun hHeld3 => ?_)
          clear hK K hHeld2
          try simp only [Act.put, List.setIfInBounds_toArray, List.set_cons_zero, List.set_cons_succ]
          refine wpAnyH_take (i := 8) (oi := { dst := some 33, op := Go.Op.unOp Go.UnOp.not 4 (Go.Operand.tmp 32), type := 4, pos := "tree.go:126", after := #[{ on := 7, ground := Go.Ground.data }, { on := 5, ground := Go.Ground.guard }], guard := some (5, false) }) (v := .bool true) rfl (by kernel_rfl) (by kernel_rfl) (by kernel_rfl) (fun _ _ _ h => h) (Or.inl ⟨by rfl, ?_⟩) hHeld3 ?_
          · (intro wq hSq; (try dsimp only at hSq); go_simp; first | done | with_reducible rfl)
          try simp only [Act.put, List.setIfInBounds_toArray, List.set_cons_zero, List.set_cons_succ]
          refine wpAnyH_take (i := 9) (oi := { dst := some 34, op := Go.Op.pick (Go.Operand.tmp 30) (Go.Operand.const (Go.Value.bool true)) (Go.Operand.tmp 33), type := 4, pos := "tree.go:126", after := #[{ on := 5, ground := Go.Ground.data }, { on := 8, ground := Go.Ground.data }], guard := none }) (v := .bool true) rfl (by kernel_rfl) (by kernel_rfl) (by kernel_rfl) (fun _ _ _ h => h) (Or.inl ⟨by rfl, ?_⟩) hHeld3 ?_
          · (intro wq hSq; (try dsimp only at hSq); go_simp; first | done | with_reducible rfl)
          try simp only [Act.put, List.setIfInBounds_toArray, List.set_cons_zero, List.set_cons_succ]
          refine wpAnyH_take (i := 10) (oi := { dst := some 35, op := Go.Op.move (Go.Operand.tmp 34), type := 4, pos := "tree.go:126", after := #[{ on := 9, ground := Go.Ground.data }, { on := 7, ground := Go.Ground.chain }], guard := none }) (v := ?_) rfl (by kernel_rfl) (by kernel_rfl) (by kernel_rfl) (fun _ _ _ h => h) (Or.inl ⟨by rfl, ?_⟩) hHeld3 ?_
          rotate_left 1
          · (intro wq hSq; (try dsimp only at hSq); go_simp; first | done | with_reducible rfl)
          try simp only [Act.put, List.setIfInBounds_toArray, List.set_cons_zero, List.set_cons_succ]
          refine wpAnyH_take (i := 11) (oi := { dst := some 36, op := Go.Op.load 55 (Go.Operand.tmp 4), type := 55, pos := "tree.go:126", after := #[{ on := 10, ground := Go.Ground.guard }], guard := some (10, false) }) (v := undef) rfl (by kernel_rfl) (by kernel_rfl) (by kernel_rfl) (fun _ _ _ h => h) (Or.inr ⟨by rfl, rfl⟩) hHeld3 ?_
          try simp only [Act.put, List.setIfInBounds_toArray, List.set_cons_zero, List.set_cons_succ]
          refine wpAnyH_take (i := 12) (oi := { dst := some 37, op := Go.Op.call { callee := Go.Callee.value (Go.Operand.func 86), args := #[Go.Operand.tmp 36], argTypes := #[55] }, type := 4, pos := "tree.go:126", after := #[{ on := 11, ground := Go.Ground.data }, { on := 10, ground := Go.Ground.chain }, { on := 10, ground := Go.Ground.guard }], guard := some (10, false) }) (v := undef) rfl (by kernel_rfl) (by kernel_rfl) (by kernel_rfl) (fun _ _ _ h => h) (Or.inr ⟨by rfl, rfl⟩) hHeld3 ?_
          try simp only [Act.put, List.setIfInBounds_toArray, List.set_cons_zero, List.set_cons_succ]
          refine wpAnyH_take (i := 13) (oi := { dst := some 38, op := Go.Op.unOp Go.UnOp.not 4 (Go.Operand.tmp 37), type := 4, pos := "tree.go:126", after := #[{ on := 12, ground := Go.Ground.data }, { on := 10, ground := Go.Ground.guard }], guard := some (10, false) }) (v := undef) rfl (by kernel_rfl) (by kernel_rfl) (by kernel_rfl) (fun _ _ _ h => h) (Or.inr ⟨by rfl, rfl⟩) hHeld3 ?_
          try simp only [Act.put, List.setIfInBounds_toArray, List.set_cons_zero, List.set_cons_succ]
          refine wpAnyH_take (i := 14) (oi := { dst := some 39, op := Go.Op.pick (Go.Operand.tmp 35) (Go.Operand.const (Go.Value.bool true)) (Go.Operand.tmp 38), type := 4, pos := "tree.go:126", after := #[{ on := 10, ground := Go.Ground.data }, { on := 13, ground := Go.Ground.data }], guard := none }) (v := .bool true) rfl (by kernel_rfl) (by kernel_rfl) (by kernel_rfl) (fun _ _ _ h => h) (Or.inl ⟨by rfl, ?_⟩) hHeld3 ?_
          · (intro wq hSq; (try dsimp only at hSq); go_simp; first | done | with_reducible rfl)
          try simp only [Act.put, List.setIfInBounds_toArray, List.set_cons_zero, List.set_cons_succ]
          refine wpAnyH_take (i := 15) (oi := { dst := some 40, op := Go.Op.move (Go.Operand.tmp 39), type := 4, pos := "tree.go:126", after := #[{ on := 14, ground := Go.Ground.data }, { on := 12, ground := Go.Ground.chain }], guard := none }) (v := ?_) rfl (by kernel_rfl) (by kernel_rfl) (by kernel_rfl) (fun _ _ _ h => h) (Or.inl ⟨by rfl, ?_⟩) hHeld3 ?_
          rotate_left 1
          · (intro wq hSq; (try dsimp only at hSq); go_simp; first | done | with_reducible rfl)
          try simp only [Act.put, List.setIfInBounds_toArray, List.set_cons_zero, List.set_cons_succ]
          refine wpAnyH_take (i := 16) (oi := { dst := some 41, op := Go.Op.move (Go.Operand.tmp 0), type := 115, pos := "tree.go:126", after := #[{ on := 15, ground := Go.Ground.guard }], guard := some (15, false) }) (v := undef) rfl (by kernel_rfl) (by kernel_rfl) (by kernel_rfl) (fun _ _ _ h => h) (Or.inr ⟨by rfl, rfl⟩) hHeld3 ?_
          try simp only [Act.put, List.setIfInBounds_toArray, List.set_cons_zero, List.set_cons_succ]
          refine wpAnyH_take (i := 17) (oi := { dst := some 42, op := Go.Op.load 55 (Go.Operand.tmp 4), type := 55, pos := "tree.go:126", after := #[{ on := 15, ground := Go.Ground.guard }], guard := some (15, false) }) (v := undef) rfl (by kernel_rfl) (by kernel_rfl) (by kernel_rfl) (fun _ _ _ h => h) (Or.inr ⟨by rfl, rfl⟩) hHeld3 ?_
          try simp only [Act.put, List.setIfInBounds_toArray, List.set_cons_zero, List.set_cons_succ]
          refine wpAnyH_take (i := 18) (oi := { dst := some 43, op := Go.Op.call { callee := Go.Callee.value (Go.Operand.func 87), args := #[Go.Operand.tmp 41, Go.Operand.tmp 42], argTypes := #[115, 55] }, type := 4, pos := "tree.go:126", after := #[{ on := 16, ground := Go.Ground.data }, { on := 17, ground := Go.Ground.data }, { on := 15, ground := Go.Ground.chain }, { on := 15, ground := Go.Ground.guard }], guard := some (15, false) }) (v := undef) rfl (by kernel_rfl) (by kernel_rfl) (by kernel_rfl) (fun _ _ _ h => h) (Or.inr ⟨by rfl, rfl⟩) hHeld3 ?_
          try simp only [Act.put, List.setIfInBounds_toArray, List.set_cons_zero, List.set_cons_succ]
          refine wpAnyH_take (i := 19) (oi := { dst := some 44, op := Go.Op.unOp Go.UnOp.not 4 (Go.Operand.tmp 43), type := 4, pos := "tree.go:126", after := #[{ on := 18, ground := Go.Ground.data }, { on := 15, ground := Go.Ground.guard }], guard := some (15, false) }) (v := undef) rfl (by kernel_rfl) (by kernel_rfl) (by kernel_rfl) (fun _ _ _ h => h) (Or.inr ⟨by rfl, rfl⟩) hHeld3 ?_
          try simp only [Act.put, List.setIfInBounds_toArray, List.set_cons_zero, List.set_cons_succ]
          refine wpAnyH_take (i := 20) (oi := { dst := some 45, op := Go.Op.pick (Go.Operand.tmp 40) (Go.Operand.const (Go.Value.bool true)) (Go.Operand.tmp 44), type := 4, pos := "tree.go:126", after := #[{ on := 15, ground := Go.Ground.data }, { on := 19, ground := Go.Ground.data }], guard := none }) (v := .bool true) rfl (by kernel_rfl) (by kernel_rfl) (by kernel_rfl) (fun _ _ _ h => h) (Or.inl ⟨by rfl, ?_⟩) hHeld3 ?_
          · (intro wq hSq; (try dsimp only at hSq); go_simp; first | done | with_reducible rfl)
          try simp only [Act.put, List.setIfInBounds_toArray, List.set_cons_zero, List.set_cons_succ]
          refine wpAnyH_done (by kernel_rfl) ?_ _
          refine NoPanic.normal ?_
          go_wp2
          go_ret
          exact ⟨false, _, _, rfl, HC3.out, SS3.out.2, (if_neg (by simp) : PassR _ false _ _ = _).mpr PNO.out⟩
        | true =>
          rw [hpa] at C73
          cases hti : timesB ⟨k, c, x0, x1, x2, x3, nn, lo, hi⟩ with
          | false =>
            rw [hti] at C74
            have PNO : Hid (passT (T.mk ⟨k, c, x0, x1, x2, x3, nn, lo, hi⟩ l) m d s = none) := passT_no (.inr (.inr (by rw [T.hd_mk, T.kids_mk, HOKH.out, hal, hpa, hti]; rfl)))
            clear hal hpa hti
            go_enter Try.func62, Try.ntmps62
            go_wp2
            refine wp_region_noPanic ?_
            refine wp_region_held_drew (S := fun W => BoxN 55 W w.heap.size ⟨k, c, x0, x1, x2, x3, nn, lo, hi⟩ (.slice av n cp) ∧ w.grownBy W (some g)) (by kernel_rfl) (SS0.out) (fun hHeld => ?_)
            try simp only [Act.put, List.setIfInBounds_toArray, List.set_cons_zero, List.set_cons_succ]
            refine wpAnyH_take (i := 0) (oi := { dst := some 25, op := Go.Op.load 55 (Go.Operand.tmp 4), type := 55, pos := "tree.go:126", after := #[], guard := none }) (v := vN ⟨k, c, x0, x1, x2, x3, nn, lo, hi⟩ (.slice av n cp)) rfl (by kernel_rfl) (by kernel_rfl) (by kernel_rfl) (fun _ _ _ h => h) (yieldsIf_load_mid rfl 55 _ rfl w.heap.size 0 rfl (cN ⟨k, c, x0, x1, x2, x3, nn, lo, hi⟩ (.slice av n cp)) _ (fun wq hSq => hSq.1.range) Try.underlying55 rfl size55) hHeld ?_
            try simp only [Act.put, List.setIfInBounds_toArray, List.set_cons_zero, List.set_cons_succ]
            refine wpAnyH_take (i := 1) (oi := { dst := some 26, op := Go.Op.load 55 (Go.Operand.tmp 4), type := 55, pos := "tree.go:126", after := #[], guard := none }) (v := vN ⟨k, c, x0, x1, x2, x3, nn, lo, hi⟩ (.slice av n cp)) rfl (by kernel_rfl) (by kernel_rfl) (by kernel_rfl) (fun _ _ _ h => h) (yieldsIf_load_mid rfl 55 _ rfl w.heap.size 0 rfl (cN ⟨k, c, x0, x1, x2, x3, nn, lo, hi⟩ (.slice av n cp)) _ (fun wq hSq => hSq.1.range) Try.underlying55 rfl size55) hHeld ?_
            try simp only [Act.put, List.setIfInBounds_toArray, List.set_cons_zero, List.set_cons_succ]
            refine wpAnyH_ready (rs := [2]) (by kernel_rfl) (by simp) ?_
            refine AllReadyH.cons (o := { dst := some 27, op := Go.Op.call { callee := Go.Callee.value (Go.Operand.func 84), args := #[Go.Operand.tmp 26], argTypes := #[55] }, type := 55, pos := "tree.go:126", after := #[{ on := 1, ground := Go.Ground.data }], guard := none }) rfl (fun K hK => ?_) AllReadyH.nil
            go_simp
            refine (C72.out _).mono ?_
            rintro e w1 ⟨rfl, b1⟩
            have HC1 : Hid (CBox w1 g (m + 1) s) := HC0.out.blk (b1.block g (by have := HC0.out.lt; omega))
            have SS1 : Hid ((fun W => BoxN 55 W w.heap.size ⟨k, c, x0, x1, x2, x3, nn, lo, hi⟩ (.slice av n cp) ∧ w.grownBy W (some g)) w1) := ⟨SS0.out.1.below b1 SS0.out.1.lt, SS0.out.2.trans (grown_of_below b1 (some g))⟩
            clear b1
            refine hK.out _ _ (SS1.out) (fun hHeld1 => ?_)
            clear hK K hHeld
            try simp only [Act.put, List.setIfInBounds_toArray, List.set_cons_zero, List.set_cons_succ]
            refine wpAnyH_ready (rs := [3]) (by kernel_rfl) (by simp) ?_
            refine AllReadyH.cons (o := { dst := some 28, op := Go.Op.call { callee := Go.Callee.value (Go.Operand.func 71), args := #[Go.Operand.tmp 25, Go.Operand.tmp 27], argTypes := #[55, 55] }, type := 4, pos := "tree.go:126", after := #[{ on := 0, ground := Go.Ground.data }, { on := 2, ground := Go.Ground.data }, { on := 2, ground := Go.Ground.chain }], guard := none }) rfl (fun K hK => ?_) AllReadyH.nil
            go_simp
            refine (C63.out _).mono ?_
            rintro e w2 ⟨rfl, b2⟩
            have HC2 : Hid (CBox w2 g (m + 1) s) := HC1.out.blk (b2.block g (by have := HC1.out.lt; omega))
            have SS2 : Hid ((fun W => BoxN 55 W w.heap.size ⟨k, c, x0, x1, x2, x3, nn, lo, hi⟩ (.slice av n cp) ∧ w.grownBy W (some g)) w2) := ⟨SS1.out.1.below b2 SS1.out.1.lt, SS1.out.2.trans (grown_of_below b2 (some g))⟩
            clear b2
            refine hK.out _ _ (SS2.out) (fun hHeld2 => ?_)
            clear hK K hHeld1
            try simp only [Act.put, List.setIfInBounds_toArray, List.set_cons_zero, List.set_cons_succ]
            refine wpAnyH_take (i := 4) (oi := { dst := some 29, op := Go.Op.unOp Go.UnOp.not 4 (Go.Operand.tmp 28), type := 4, pos := "tree.go:126", after := #[{ on := 3, ground := Go.Ground.data }], guard := none }) (v := .bool false) rfl (by kernel_rfl) (by kernel_rfl) (by kernel_rfl) (fun _ _ _ h => h) (Or.inl ⟨by rfl, ?_⟩) hHeld2 ?_
            · (intro wq hSq; (try dsimp only at hSq); go_simp; first | done | with_reducible rfl)
            try simp only [Act.put, List.setIfInBounds_toArray, List.set_cons_zero, List.set_cons_succ]
            refine wpAnyH_take (i := 5) (oi := { dst := some 30, op := Go.Op.move (Go.Operand.tmp 29), type := 4, pos := "tree.go:126", after := #[{ on := 4, ground := Go.Ground.data }, { on := 3, ground := Go.Ground.chain }], guard := none }) (v := ?_) rfl (by kernel_rfl) (by kernel_rfl) (by kernel_rfl) (fun _ _ _ h => h) (Or.inl ⟨by rfl, ?_⟩) hHeld2 ?_
            rotate_left 1
            · (intro wq hSq; (try dsimp only at hSq); go_simp; first | done | with_reducible rfl)
            try simp only [Act.put, List.setIfInBounds_toArray, List.set_cons_zero, List.set_cons_succ]
            refine wpAnyH_take (i := 6) (oi := { dst := some 31, op := Go.Op.load 55 (Go.Operand.tmp 4), type := 55, pos := "tree.go:126", after := #[{ on := 5, ground := Go.Ground.guard }], guard := some (5, false) }) (v := vN ⟨k, c, x0, x1, x2, x3, nn, lo, hi⟩ (.slice av n cp)) rfl (by kernel_rfl) (by kernel_rfl) (by kernel_rfl) (fun _ _ _ h => h) (yieldsIf_load_mid rfl 55 _ rfl w.heap.size 0 rfl (cN ⟨k, c, x0, x1, x2, x3, nn, lo, hi⟩ (.slice av n cp)) _ (fun wq hSq => hSq.1.range) Try.underlying55 rfl size55) hHeld2 ?_
            try simp only [Act.put, List.setIfInBounds_toArray, List.set_cons_zero, List.set_cons_succ]
            refine wpAnyH_ready (rs := [7]) (by kernel_rfl) (by simp) ?_
            refine AllReadyH.cons (o := { dst := some 32, op := Go.Op.call { callee := Go.Callee.value (Go.Operand.func 85), args := #[Go.Operand.tmp 31], argTypes := #[55] }, type := 4, pos := "tree.go:126", after := #[{ on := 6, ground := Go.Ground.data }, { on := 5, ground := Go.Ground.chain }, { on := 5, ground := Go.Ground.guard }], guard := some (5, false) }) rfl (fun K hK => ?_) AllReadyH.nil
            go_simp
            refine (C73.out _ SS2.out.2).mono ?_
            rintro e w3 ⟨rfl, b3⟩
            have HC3 : Hid (CBox w3 g (m + 1) s) := HC2.out.blk (b3.block g (by have := HC2.out.lt; omega))
            have SS3 : Hid ((fun W => BoxN 55 W w.heap.size ⟨k, c, x0, x1, x2, x3, nn, lo, hi⟩ (.slice av n cp) ∧ w.grownBy W (some g)) w3) := ⟨SS2.out.1.below b3 SS2.out.1.lt, SS2.out.2.trans (grown_of_below b3 (some g))⟩
            clear b3
            refine hK.out _ _ (SS3.out) (fun hHeld3 => ?_)
            clear hK K hHeld2
            try simp only [Act.put, List.setIfInBounds_toArray, List.set_cons_zero, List.set_cons_succ]
            refine wpAnyH_take (i := 8) (oi := { dst := some 33, op := Go.Op.unOp Go.UnOp.not 4 (Go.Operand.tmp 32), type := 4, pos := "tree.go:126", after := #[{ on := 7, ground := Go.Ground.data }, { on := 5, ground := Go.Ground.guard }], guard := some (5, false) }) (v := .bool false) rfl (by kernel_rfl) (by kernel_rfl) (by kernel_rfl) (fun _ _ _ h => h) (Or.inl ⟨by rfl, ?_⟩) hHeld3 ?_
            · (intro wq hSq; (try dsimp only at hSq); go_simp; first | done | with_reducible rfl)
            try simp only [Act.put, List.setIfInBounds_toArray, List.set_cons_zero, List.set_cons_succ]
            refine wpAnyH_take (i := 9) (oi := { dst := some 34, op := Go.Op.pick (Go.Operand.tmp 30) (Go.Operand.const (Go.Value.bool true)) (Go.Operand.tmp 33), type := 4, pos := "tree.go:126", after := #[{ on := 5, ground := Go.Ground.data }, { on := 8, ground := Go.Ground.data }], guard := none }) (v := .bool false) rfl (by kernel_rfl) (by kernel_rfl) (by kernel_rfl) (fun _ _ _ h => h) (Or.inl ⟨by rfl, ?_⟩) hHeld3 ?_
            · (intro wq hSq; (try dsimp only at hSq); go_simp; first | done | with_reducible rfl)
            try simp only [Act.put, List.setIfInBounds_toArray, List.set_cons_zero, List.set_cons_succ]
            refine wpAnyH_take (i := 10) (oi := { dst := some 35, op := Go.Op.move (Go.Operand.tmp 34), type := 4, pos := "tree.go:126", after := #[{ on := 9, ground := Go.Ground.data }, { on := 7, ground := Go.Ground.chain }], guard := none }) (v := ?_) rfl (by kernel_rfl) (by kernel_rfl) (by kernel_rfl) (fun _ _ _ h => h) (Or.inl ⟨by rfl, ?_⟩) hHeld3 ?_
            rotate_left 1
            · (intro wq hSq; (try dsimp only at hSq); go_simp; first | done | with_reducible rfl)
            try simp only [Act.put, List.setIfInBounds_toArray, List.set_cons_zero, List.set_cons_succ]
            refine wpAnyH_take (i := 11) (oi := { dst := some 36, op := Go.Op.load 55 (Go.Operand.tmp 4), type := 55, pos := "tree.go:126", after := #[{ on := 10, ground := Go.Ground.guard }], guard := some (10, false) }) (v := vN ⟨k, c, x0, x1, x2, x3, nn, lo, hi⟩ (.slice av n cp)) rfl (by kernel_rfl) (by kernel_rfl) (by kernel_rfl) (fun _ _ _ h => h) (yieldsIf_load_mid rfl 55 _ rfl w.heap.size 0 rfl (cN ⟨k, c, x0, x1, x2, x3, nn, lo, hi⟩ (.slice av n cp)) _ (fun wq hSq => hSq.1.range) Try.underlying55 rfl size55) hHeld3 ?_
            try simp only [Act.put, List.setIfInBounds_toArray, List.set_cons_zero, List.set_cons_succ]
            refine wpAnyH_ready (rs := [12]) (by kernel_rfl) (by simp) ?_
            refine AllReadyH.cons (o := { dst := some 37, op := Go.Op.call { callee := Go.Callee.value (Go.Operand.func 86), args := #[Go.Operand.tmp 36], argTypes := #[55] }, type := 4, pos := "tree.go:126", after := #[{ on := 11, ground := Go.Ground.data }, { on := 10, ground := Go.Ground.chain }, { on := 10, ground := Go.Ground.guard }], guard := some (10, false) }) rfl (fun K hK => ?_) AllReadyH.nil
            go_simp
            refine (C74.out _).mono ?_
            rintro e w4 ⟨rfl, b4⟩
            have HC4 : Hid (CBox w4 g (m + 1) s) := HC3.out.blk (b4.block g (by have := HC3.out.lt; omega))
            have SS4 : Hid ((fun W => BoxN 55 W w.heap.size ⟨k, c, x0, x1, x2, x3, nn, lo, hi⟩ (.slice av n cp) ∧ w.grownBy W (some g)) w4) := ⟨SS3.out.1.below b4 SS3.out.1.lt, SS3.out.2.trans (grown_of_below b4 (some g))⟩
            clear b4
            refine hK.out _ _ (SS4.out) (fun hHeld4 => ?_)
            clear hK K hHeld3
            try simp only [Act.put, List.setIfInBounds_toArray, List.set_cons_zero, List.set_cons_succ]
            refine wpAnyH_take (i := 13) (oi := { dst := some 38, op := Go.Op.unOp Go.UnOp.not 4 (Go.Operand.tmp 37), type := 4, pos := "tree.go:126", after := #[{ on := 12, ground := Go.Ground.data }, { on := 10, ground := Go.Ground.guard }], guard := some (10, false) }) (v := .bool true) rfl (by kernel_rfl) (by kernel_rfl) (by kernel_rfl) (fun _ _ _ h => h) (Or.inl ⟨by rfl, ?_⟩) hHeld4 ?_
            · (intro wq hSq; (try dsimp only at hSq); go_simp; first | done | with_reducible rfl)
            try simp only [Act.put, List.setIfInBounds_toArray, List.set_cons_zero, List.set_cons_succ]
            refine wpAnyH_take (i := 14) (oi := { dst := some 39, op := Go.Op.pick (Go.Operand.tmp 35) (Go.Operand.const (Go.Value.bool true)) (Go.Operand.tmp 38), type := 4, pos := "tree.go:126", after := #[{ on := 10, ground := Go.Ground.data }, { on := 13, ground := Go.Ground.data }], guard := none }) (v := .bool true) rfl (by kernel_rfl) (by kernel_rfl) (by kernel_rfl) (fun _ _ _ h => h) (Or.inl ⟨by rfl, ?_⟩) hHeld4 ?_
            · (intro wq hSq; (try dsimp only at hSq); go_simp; first | done | with_reducible rfl)
            try simp only [Act.put, List.setIfInBounds_toArray, List.set_cons_zero, List.set_cons_succ]
            refine wpAnyH_take (i := 15) (oi := { dst := some 40, op := Go.Op.move (Go.Operand.tmp 39), type := 4, pos := "tree.go:126", after := #[{ on := 14, ground := Go.Ground.data }, { on := 12, ground := Go.Ground.chain }], guard := none }) (v := ?_) rfl (by kernel_rfl) (by kernel_rfl) (by kernel_rfl) (fun _ _ _ h => h) (Or.inl ⟨by rfl, ?_⟩) hHeld4 ?_
            rotate_left 1
            · (intro wq hSq; (try dsimp only at hSq); go_simp; first | done | with_reducible rfl)
            try simp only [Act.put, List.setIfInBounds_toArray, List.set_cons_zero, List.set_cons_succ]
            refine wpAnyH_take (i := 16) (oi := { dst := some 41, op := Go.Op.move (Go.Operand.tmp 0), type := 115, pos := "tree.go:126", after := #[{ on := 15, ground := Go.Ground.guard }], guard := some (15, false) }) (v := undef) rfl (by kernel_rfl) (by kernel_rfl) (by kernel_rfl) (fun _ _ _ h => h) (Or.inr ⟨by rfl, rfl⟩) hHeld4 ?_
            try simp only [Act.put, List.setIfInBounds_toArray, List.set_cons_zero, List.set_cons_succ]
            refine wpAnyH_take (i := 17) (oi := { dst := some 42, op := Go.Op.load 55 (Go.Operand.tmp 4), type := 55, pos := "tree.go:126", after := #[{ on := 15, ground := Go.Ground.guard }], guard := some (15, false) }) (v := undef) rfl (by kernel_rfl) (by kernel_rfl) (by kernel_rfl) (fun _ _ _ h => h) (Or.inr ⟨by rfl, rfl⟩) hHeld4 ?_
            try simp only [Act.put, List.setIfInBounds_toArray, List.set_cons_zero, List.set_cons_succ]
            refine wpAnyH_take (i := 18) (oi := { dst := some 43, op := Go.Op.call { callee := Go.Callee.value (Go.Operand.func 87), args := #[Go.Operand.tmp 41, Go.Operand.tmp 42], argTypes := #[115, 55] }, type := 4, pos := "tree.go:126", after := #[{ on := 16, ground := Go.Ground.data }, { on := 17, ground := Go.Ground.data }, { on := 15, ground := Go.Ground.chain }, { on := 15, ground := Go.Ground.guard }], guard := some (15, false) }) (v := undef) rfl (by kernel_rfl) (by kernel_rfl) (by kernel_rfl) (fun _ _ _ h => h) (Or.inr ⟨by rfl, rfl⟩) hHeld4 ?_
            try simp only [Act.put, List.setIfInBounds_toArray, List.set_cons_zero, List.set_cons_succ]
            refine wpAnyH_take (i := 19) (oi := { dst := some 44, op := Go.Op.unOp Go.UnOp.not 4 (Go.Operand.tmp 43), type := 4, pos := "tree.go:126", after := #[{ on := 18, ground := Go.Ground.data }, { on := 15, ground := Go.Ground.guard }], guard := some (15, false) }) (v := undef) rfl (by kernel_rfl) (by kernel_rfl) (by kernel_rfl) (fun _ _ _ h => h) (Or.inr ⟨by rfl, rfl⟩) hHeld4 ?_
            try simp only [Act.put, List.setIfInBounds_toArray, List.set_cons_zero, List.set_cons_succ]
            refine wpAnyH_take (i := 20) (oi := { dst := some 45, op := Go.Op.pick (Go.Operand.tmp 40) (Go.Operand.const (Go.Value.bool true)) (Go.Operand.tmp 44), type := 4, pos := "tree.go:126", after := #[{ on := 15, ground := Go.Ground.data }, { on := 19, ground := Go.Ground.data }], guard := none }) (v := .bool true) rfl (by kernel_rfl) (by kernel_rfl) (by kernel_rfl) (fun _ _ _ h => h) (Or.inl ⟨by rfl, ?_⟩) hHeld4 ?_
            · (intro wq hSq; (try dsimp only at hSq); go_simp; first | done | with_reducible rfl)
            try simp only [Act.put, List.setIfInBounds_toArray, List.set_cons_zero, List.set_cons_succ]
            refine wpAnyH_done (by kernel_rfl) ?_ _
            refine NoPanic.normal ?_
            go_wp2
            go_ret
            exact ⟨false, _, _, rfl, HC4.out, SS4.out.2, (if_neg (by simp) : PassR _ false _ _ = _).mpr PNO.out⟩
          | true =>
            rw [hti] at C74
            cases hst : stepN ⟨k, c, x0, x1, x2, x3, nn, lo, hi⟩ s with
            | none =>
              rw [hst] at C75
              have PNO : Hid (passT (T.mk ⟨k, c, x0, x1, x2, x3, nn, lo, hi⟩ l) m d s = none) := passT_num (by rw [T.hd_mk]; exact hst)
              clear hal hpa hti hst
              go_enter Try.func62, Try.ntmps62
              go_wp2
              refine wp_region_noPanic ?_
              refine wp_region_held_drew (S := fun W => BoxN 55 W w.heap.size ⟨k, c, x0, x1, x2, x3, nn, lo, hi⟩ (.slice av n cp) ∧ w.grownBy W (some g)) (by kernel_rfl) (SS0.out) (fun hHeld => ?_)
              try simp only [Act.put, List.setIfInBounds_toArray, List.set_cons_zero, List.set_cons_succ]
              refine wpAnyH_take (i := 0) (oi := { dst := some 25, op := Go.Op.load 55 (Go.Operand.tmp 4), type := 55, pos := "tree.go:126", after := #[], guard := none }) (v := vN ⟨k, c, x0, x1, x2, x3, nn, lo, hi⟩ (.slice av n cp)) rfl (by kernel_rfl) (by kernel_rfl) (by kernel_rfl) (fun _ _ _ h => h) (yieldsIf_load_mid rfl 55 _ rfl w.heap.size 0 rfl (cN ⟨k, c, x0, x1, x2, x3, nn, lo, hi⟩ (.slice av n cp)) _ (fun wq hSq => hSq.1.range) Try.underlying55 rfl size55) hHeld ?_
              try simp only [Act.put, List.setIfInBounds_toArray, List.set_cons_zero, List.set_cons_succ]
              refine wpAnyH_take (i := 1) (oi := { dst := some 26, op := Go.Op.load 55 (Go.Operand.tmp 4), type := 55, pos := "tree.go:126", after := #[], guard := none }) (v := vN ⟨k, c, x0, x1, x2, x3, nn, lo, hi⟩ (.slice av n cp)) rfl (by kernel_rfl) (by kernel_rfl) (by kernel_rfl) (fun _ _ _ h => h) (yieldsIf_load_mid rfl 55 _ rfl w.heap.size 0 rfl (cN ⟨k, c, x0, x1, x2, x3, nn, lo, hi⟩ (.slice av n cp)) _ (fun wq hSq => hSq.1.range) Try.underlying55 rfl size55) hHeld ?_
              try simp only [Act.put, List.setIfInBounds_toArray, List.set_cons_zero, List.set_cons_succ]
              refine wpAnyH_ready (rs := [2]) (by kernel_rfl) (by simp) ?_
              refine AllReadyH.cons (o := { dst := some 27, op := Go.Op.call { callee := Go.Callee.value (Go.Operand.func 84), args := #[Go.Operand.tmp 26], argTypes := #[55] }, type := 55, pos := "tree.go:126", after := #[{ on := 1, ground := Go.Ground.data }], guard := none }) rfl (fun K hK => ?_) AllReadyH.nil
              go_simp
              refine (C72.out _).mono ?_
              rintro e w1 ⟨rfl, b1⟩
              have HC1 : Hid (CBox w1 g (m + 1) s) := HC0.out.blk (b1.block g (by have := HC0.out.lt; omega))
              have SS1 : Hid ((fun W => BoxN 55 W w.heap.size ⟨k, c, x0, x1, x2, x3, nn, lo, hi⟩ (.slice av n cp) ∧ w.grownBy W (some g)) w1) := ⟨SS0.out.1.below b1 SS0.out.1.lt, SS0.out.2.trans (grown_of_below b1 (some g))⟩
              clear b1
              refine hK.out _ _ (SS1.out) (fun hHeld1 => ?_)
              clear hK K hHeld
              try simp only [Act.put, List.setIfInBounds_toArray, List.set_cons_zero, List.set_cons_succ]
              refine wpAnyH_ready (rs := [3]) (by kernel_rfl) (by simp) ?_
              refine AllReadyH.cons (o := { dst := some 28, op := Go.Op.call { callee := Go.Callee.value (Go.Operand.func 71), args := #[Go.Operand.tmp 25, Go.Operand.tmp 27], argTypes := #[55, 55] }, type := 4, pos := "tree.go:126", after := #[{ on := 0, ground := Go.Ground.data }, { on := 2, ground := Go.Ground.data }, { on := 2, ground := Go.Ground.chain }], guard := none }) rfl (fun K hK => ?_) AllReadyH.nil
              go_simp
              refine (C63.out _).mono ?_
              rintro e w2 ⟨rfl, b2⟩
              have HC2 : Hid (CBox w2 g (m + 1) s) := HC1.out.blk (b2.block g (by have := HC1.out.lt; omega))
              have SS2 : Hid ((fun W => BoxN 55 W w.heap.size ⟨k, c, x0, x1, x2, x3, nn, lo, hi⟩ (.slice av n cp) ∧ w.grownBy W (some g)) w2) := ⟨SS1.out.1.below b2 SS1.out.1.lt, SS1.out.2.trans (grown_of_below b2 (some g))⟩
              clear b2
              refine hK.out _ _ (SS2.out) (fun hHeld2 => ?_)
              clear hK K hHeld1
              try simp only [Act.put, List.setIfInBounds_toArray, List.set_cons_zero, List.set_cons_succ]
              refine wpAnyH_take (i := 4) (oi := { dst := some 29, op := Go.Op.unOp Go.UnOp.not 4 (Go.Operand.tmp 28), type := 4, pos := "tree.go:126", after := #[{ on := 3, ground := Go.Ground.data }], guard := none }) (v := .bool false) rfl (by kernel_rfl) (by kernel_rfl) (by kernel_rfl) (fun _ _ _ h => h) (Or.inl ⟨by rfl, ?_⟩) hHeld2 ?_
              · (intro wq hSq; (try dsimp only at hSq); go_simp; first | done | with_reducible rfl)
              try simp only [Act.put, List.setIfInBounds_toArray, List.set_cons_zero, List.set_cons_succ]
              refine wpAnyH_take (i := 5) (oi := { dst := some 30, op := Go.Op.move (Go.Operand.tmp 29), type := 4, pos := "tree.go:126", after := #[{ on := 4, ground := Go.Ground.data }, { on := 3, ground := Go.Ground.chain }], guard := none }) (v := ?_) rfl (by kernel_rfl) (by kernel_rfl) (by kernel_rfl) (fun _ _ _ h => h) (Or.inl ⟨by rfl, ?_⟩) hHeld2 ?_
              rotate_left 1
              · (intro wq hSq; (try dsimp only at hSq); go_simp; first | done | with_reducible rfl)
              try simp only [Act.put, List.setIfInBounds_toArray, List.set_cons_zero, List.set_cons_succ]
              refine wpAnyH_take (i := 6) (oi := { dst := some 31, op := Go.Op.load 55 (Go.Operand.tmp 4), type := 55, pos := "tree.go:126", after := #[{ on := 5, ground := Go.Ground.guard }], guard := some (5, false) }) (v := vN ⟨k, c, x0, x1, x2, x3, nn, lo, hi⟩ (.slice av n cp)) rfl (by kernel_rfl) (by kernel_rfl) (by kernel_rfl) (fun _ _ _ h => h) (yieldsIf_load_mid rfl 55 _ rfl w.heap.size 0 rfl (cN ⟨k, c, x0, x1, x2, x3, nn, lo, hi⟩ (.slice av n cp)) _ (fun wq hSq => hSq.1.range) Try.underlying55 rfl size55) hHeld2 ?_
              try simp only [Act.put, List.setIfInBounds_toArray, List.set_cons_zero, List.set_cons_succ]
              refine wpAnyH_ready (rs := [7]) (by kernel_rfl) (by simp) ?_
              refine AllReadyH.cons (o := { dst := some 32, op := Go.Op.call { callee := Go.Callee.value (Go.Operand.func 85), args := #[Go.Operand.tmp 31], argTypes := #[55] }, type := 4, pos := "tree.go:126", after := #[{ on := 6, ground := Go.Ground.data }, { on := 5, ground := Go.Ground.chain }, { on := 5, ground := Go.Ground.guard }], guard := some (5, false) }) rfl (fun K hK => ?_) AllReadyH.nil
              go_simp
              refine (C73.out _ SS2.out.2).mono ?_
              rintro e w3 ⟨rfl, b3⟩
              have HC3 : Hid (CBox w3 g (m + 1) s) := HC2.out.blk (b3.block g (by have := HC2.out.lt; omega))
              have SS3 : Hid ((fun W => BoxN 55 W w.heap.size ⟨k, c, x0, x1, x2, x3, nn, lo, hi⟩ (.slice av n cp) ∧ w.grownBy W (some g)) w3) := ⟨SS2.out.1.below b3 SS2.out.1.lt, SS2.out.2.trans (grown_of_below b3 (some g))⟩
              clear b3
              refine hK.out _ _ (SS3.out) (fun hHeld3 => ?_)
              clear hK K hHeld2
              try simp only [Act.put, List.setIfInBounds_toArray, List.set_cons_zero, List.set_cons_succ]
              refine wpAnyH_take (i := 8) (oi := { dst := some 33, op := Go.Op.unOp Go.UnOp.not 4 (Go.Operand.tmp 32), type := 4, pos := "tree.go:126", after := #[{ on := 7, ground := Go.Ground.data }, { on := 5, ground := Go.Ground.guard }], guard := some (5, false) }) (v := .bool false) rfl (by kernel_rfl) (by kernel_rfl) (by kernel_rfl) (fun _ _ _ h => h) (Or.inl ⟨by rfl, ?_⟩) hHeld3 ?_
              · (intro wq hSq; (try dsimp only at hSq); go_simp; first | done | with_reducible rfl)
              try simp only [Act.put, List.setIfInBounds_toArray, List.set_cons_zero, List.set_cons_succ]
              refine wpAnyH_take (i := 9) (oi := { dst := some 34, op := Go.Op.pick (Go.Operand.tmp 30) (Go.Operand.const (Go.Value.bool true)) (Go.Operand.tmp 33), type := 4, pos := "tree.go:126", after := #[{ on := 5, ground := Go.Ground.data }, { on := 8, ground := Go.Ground.data }], guard := none }) (v := .bool false) rfl (by kernel_rfl) (by kernel_rfl) (by kernel_rfl) (fun _ _ _ h => h) (Or.inl ⟨by rfl, ?_⟩) hHeld3 ?_
              · (intro wq hSq; (try dsimp only at hSq); go_simp; first | done | with_reducible rfl)
              try simp only [Act.put, List.setIfInBounds_toArray, List.set_cons_zero, List.set_cons_succ]
              refine wpAnyH_take (i := 10) (oi := { dst := some 35, op := Go.Op.move (Go.Operand.tmp 34), type := 4, pos := "tree.go:126", after := #[{ on := 9, ground := Go.Ground.data }, { on := 7, ground := Go.Ground.chain }], guard := none }) (v := ?_) rfl (by kernel_rfl) (by kernel_rfl) (by kernel_rfl) (fun _ _ _ h => h) (Or.inl ⟨by rfl, ?_⟩) hHeld3 ?_
              rotate_left 1
              · (intro wq hSq; (try dsimp only at hSq); go_simp; first | done | with_reducible rfl)
              try simp only [Act.put, List.setIfInBounds_toArray, List.set_cons_zero, List.set_cons_succ]
              refine wpAnyH_take (i := 11) (oi := { dst := some 36, op := Go.Op.load 55 (Go.Operand.tmp 4), type := 55, pos := "tree.go:126", after := #[{ on := 10, ground := Go.Ground.guard }], guard := some (10, false) }) (v := vN ⟨k, c, x0, x1, x2, x3, nn, lo, hi⟩ (.slice av n cp)) rfl (by kernel_rfl) (by kernel_rfl) (by kernel_rfl) (fun _ _ _ h => h) (yieldsIf_load_mid rfl 55 _ rfl w.heap.size 0 rfl (cN ⟨k, c, x0, x1, x2, x3, nn, lo, hi⟩ (.slice av n cp)) _ (fun wq hSq => hSq.1.range) Try.underlying55 rfl size55) hHeld3 ?_
              try simp only [Act.put, List.setIfInBounds_toArray, List.set_cons_zero, List.set_cons_succ]
              refine wpAnyH_ready (rs := [12]) (by kernel_rfl) (by simp) ?_
              refine AllReadyH.cons (o := { dst := some 37, op := Go.Op.call { callee := Go.Callee.value (Go.Operand.func 86), args := #[Go.Operand.tmp 36], argTypes := #[55] }, type := 4, pos := "tree.go:126", after := #[{ on := 11, ground := Go.Ground.data }, { on := 10, ground := Go.Ground.chain }, { on := 10, ground := Go.Ground.guard }], guard := some (10, false) }) rfl (fun K hK => ?_) AllReadyH.nil
              go_simp
              refine (C74.out _).mono ?_
              rintro e w4 ⟨rfl, b4⟩
              have HC4 : Hid (CBox w4 g (m + 1) s) := HC3.out.blk (b4.block g (by have := HC3.out.lt; omega))
              have SS4 : Hid ((fun W => BoxN 55 W w.heap.size ⟨k, c, x0, x1, x2, x3, nn, lo, hi⟩ (.slice av n cp) ∧ w.grownBy W (some g)) w4) := ⟨SS3.out.1.below b4 SS3.out.1.lt, SS3.out.2.trans (grown_of_below b4 (some g))⟩
              clear b4
              refine hK.out _ _ (SS4.out) (fun hHeld4 => ?_)
              clear hK K hHeld3
              try simp only [Act.put, List.setIfInBounds_toArray, List.set_cons_zero, List.set_cons_succ]
              refine wpAnyH_take (i := 13) (oi := { dst := some 38, op := Go.Op.unOp Go.UnOp.not 4 (Go.Operand.tmp 37), type := 4, pos := "tree.go:126", after := #[{ on := 12, ground := Go.Ground.data }, { on := 10, ground := Go.Ground.guard }], guard := some (10, false) }) (v := .bool false) rfl (by kernel_rfl) (by kernel_rfl) (by kernel_rfl) (fun _ _ _ h => h) (Or.inl ⟨by rfl, ?_⟩) hHeld4 ?_
              · (intro wq hSq; (try dsimp only at hSq); go_simp; first | done | with_reducible rfl)
              try simp only [Act.put, List.setIfInBounds_toArray, List.set_cons_zero, List.set_cons_succ]
              refine wpAnyH_take (i := 14) (oi := { dst := some 39, op := Go.Op.pick (Go.Operand.tmp 35) (Go.Operand.const (Go.Value.bool true)) (Go.Operand.tmp 38), type := 4, pos := "tree.go:126", after := #[{ on := 10, ground := Go.Ground.data }, { on := 13, ground := Go.Ground.data }], guard := none }) (v := .bool false) rfl (by kernel_rfl) (by kernel_rfl) (by kernel_rfl) (fun _ _ _ h => h) (Or.inl ⟨by rfl, ?_⟩) hHeld4 ?_
              · (intro wq hSq; (try dsimp only at hSq); go_simp; first | done | with_reducible rfl)
              try simp only [Act.put, List.setIfInBounds_toArray, List.set_cons_zero, List.set_cons_succ]
              refine wpAnyH_take (i := 15) (oi := { dst := some 40, op := Go.Op.move (Go.Operand.tmp 39), type := 4, pos := "tree.go:126", after := #[{ on := 14, ground := Go.Ground.data }, { on := 12, ground := Go.Ground.chain }], guard := none }) (v := ?_) rfl (by kernel_rfl) (by kernel_rfl) (by kernel_rfl) (fun _ _ _ h => h) (Or.inl ⟨by rfl, ?_⟩) hHeld4 ?_
              rotate_left 1
              · (intro wq hSq; (try dsimp only at hSq); go_simp; first | done | with_reducible rfl)
              try simp only [Act.put, List.setIfInBounds_toArray, List.set_cons_zero, List.set_cons_succ]
              refine wpAnyH_take (i := 16) (oi := { dst := some 41, op := Go.Op.move (Go.Operand.tmp 0), type := 115, pos := "tree.go:126", after := #[{ on := 15, ground := Go.Ground.guard }], guard := some (15, false) }) (v := ?_) rfl (by kernel_rfl) (by kernel_rfl) (by kernel_rfl) (fun _ _ _ h => h) (Or.inl ⟨by rfl, ?_⟩) hHeld4 ?_
              rotate_left 1
              · (intro wq hSq; (try dsimp only at hSq); go_simp; first | done | with_reducible rfl)
              try simp only [Act.put, List.setIfInBounds_toArray, List.set_cons_zero, List.set_cons_succ]
              refine wpAnyH_take (i := 17) (oi := { dst := some 42, op := Go.Op.load 55 (Go.Operand.tmp 4), type := 55, pos := "tree.go:126", after := #[{ on := 15, ground := Go.Ground.guard }], guard := some (15, false) }) (v := vN ⟨k, c, x0, x1, x2, x3, nn, lo, hi⟩ (.slice av n cp)) rfl (by kernel_rfl) (by kernel_rfl) (by kernel_rfl) (fun _ _ _ h => h) (yieldsIf_load_mid rfl 55 _ rfl w.heap.size 0 rfl (cN ⟨k, c, x0, x1, x2, x3, nn, lo, hi⟩ (.slice av n cp)) _ (fun wq hSq => hSq.1.range) Try.underlying55 rfl size55) hHeld4 ?_
              try simp only [Act.put, List.setIfInBounds_toArray, List.set_cons_zero, List.set_cons_succ]
              refine wpAnyH_ready (rs := [18]) (by kernel_rfl) (by simp) ?_
              refine AllReadyH.cons (o := { dst := some 43, op := Go.Op.call { callee := Go.Callee.value (Go.Operand.func 87), args := #[Go.Operand.tmp 41, Go.Operand.tmp 42], argTypes := #[115, 55] }, type := 4, pos := "tree.go:126", after := #[{ on := 16, ground := Go.Ground.data }, { on := 17, ground := Go.Ground.data }, { on := 15, ground := Go.Ground.chain }, { on := 15, ground := Go.Ground.guard }], guard := some (15, false) }) rfl (fun K hK => ?_) AllReadyH.nil
              go_simp
              refine (C75.out _ HC4.out).mono ?_
              rintro e w5 ⟨rfl, c5, g5⟩
              have HC5 : Hid (CBox w5 g (m + 1) (stepS ⟨k, c, x0, x1, x2, x3, nn, lo, hi⟩ s)) := c5
              have SS5 : Hid ((fun W => BoxN 55 W w.heap.size ⟨k, c, x0, x1, x2, x3, nn, lo, hi⟩ (.slice av n cp) ∧ w.grownBy W (some g)) w5) := ⟨SS4.out.1.blk (g5.block _ SS4.out.1.lt (fun e => hNg.out (by injection e))), SS4.out.2.trans g5⟩
              clear c5 g5
              refine hK.out _ _ (SS5.out) (fun hHeld5 => ?_)
              clear hK K hHeld4
              try simp only [Act.put, List.setIfInBounds_toArray, List.set_cons_zero, List.set_cons_succ]
              refine wpAnyH_take (i := 19) (oi := { dst := some 44, op := Go.Op.unOp Go.UnOp.not 4 (Go.Operand.tmp 43), type := 4, pos := "tree.go:126", after := #[{ on := 18, ground := Go.Ground.data }, { on := 15, ground := Go.Ground.guard }], guard := some (15, false) }) (v := .bool true) rfl (by kernel_rfl) (by kernel_rfl) (by kernel_rfl) (fun _ _ _ h => h) (Or.inl ⟨by rfl, ?_⟩) hHeld5 ?_
              · (intro wq hSq; (try dsimp only at hSq); go_simp; first | done | with_reducible rfl)
              try simp only [Act.put, List.setIfInBounds_toArray, List.set_cons_zero, List.set_cons_succ]
              refine wpAnyH_take (i := 20) (oi := { dst := some 45, op := Go.Op.pick (Go.Operand.tmp 40) (Go.Operand.const (Go.Value.bool true)) (Go.Operand.tmp 44), type := 4, pos := "tree.go:126", after := #[{ on := 15, ground := Go.Ground.data }, { on := 19, ground := Go.Ground.data }], guard := none }) (v := .bool true) rfl (by kernel_rfl) (by kernel_rfl) (by kernel_rfl) (fun _ _ _ h => h) (Or.inl ⟨by rfl, ?_⟩) hHeld5 ?_
              · (intro wq hSq; (try dsimp only at hSq); go_simp; first | done | with_reducible rfl)
              try simp only [Act.put, List.setIfInBounds_toArray, List.set_cons_zero, List.set_cons_succ]
              refine wpAnyH_done (by kernel_rfl) ?_ _
              refine NoPanic.normal ?_
              go_wp2
              go_ret
              exact ⟨false, _, _, rfl, HC5.out, SS5.out.2, (if_neg (by simp) : PassR _ false _ _ = _).mpr PNO.out⟩
            | some s1 =>
              have hs1 := stepN_some hst
              have PGO : Hid (passT (T.mk ⟨k, c, x0, x1, x2, x3, nn, lo, hi⟩ l) m d s = (passL l (m + 1) (d + 1) s1).bind fun q => some (q.1, endN ⟨k, c, x0, x1, x2, x3, nn, lo, hi⟩ q.2)) := by
                have q := passT_go (t := T.mk ⟨k, c, x0, x1, x2, x3, nn, lo, hi⟩ l) (m := m) (d := d) (s := s) (s1 := s1) q1 q2 (by rw [T.hd_mk, T.kids_mk, HOKH.out, hal, hpa, hti]; rfl) (by rw [T.hd_mk]; exact hst)
                rw [T.hd_mk, T.kids_mk] at q; exact q
              have HOK1 : Hid (GsOk s1 ∧ (k = 6 → 1 ≤ nn ∧ nn ≤ 9)) := stepN_ok hst HOK.out
              rw [hst] at C75
              rw [← hs1] at C75
              have hstep : stepS ⟨k, c, x0, x1, x2, x3, nn, lo, hi⟩ s = s1 := hs1.symm
              obtain ⟨R, hR⟩ : ∃ R, R = passL l (m + 1) (d + 1) s1 := ⟨_, rfl⟩
              have HR0 : Hid (passL l (m + 1) (d + 1) s1 = R) := hR.symm
              rw [← hR] at PGO
              clear hal hpa hti hst hs1 hR
              go_enter Try.func62, Try.ntmps62
              go_wp2
              refine wp_region_noPanic ?_
              refine wp_region_held_drew (S := fun W => BoxN 55 W w.heap.size ⟨k, c, x0, x1, x2, x3, nn, lo, hi⟩ (.slice av n cp) ∧ w.grownBy W (some g)) (by kernel_rfl) (SS0.out) (fun hHeld => ?_)
              try simp only [Act.put, List.setIfInBounds_toArray, List.set_cons_zero, List.set_cons_succ]
              refine wpAnyH_take (i := 0) (oi := { dst := some 25, op := Go.Op.load 55 (Go.Operand.tmp 4), type := 55, pos := "tree.go:126", after := #[], guard := none }) (v := vN ⟨k, c, x0, x1, x2, x3, nn, lo, hi⟩ (.slice av n cp)) rfl (by kernel_rfl) (by kernel_rfl) (by kernel_rfl) (fun _ _ _ h => h) (yieldsIf_load_mid rfl 55 _ rfl w.heap.size 0 rfl (cN ⟨k, c, x0, x1, x2, x3, nn, lo, hi⟩ (.slice av n cp)) _ (fun wq hSq => hSq.1.range) Try.underlying55 rfl size55) hHeld ?_
              try simp only [Act.put, List.setIfInBounds_toArray, List.set_cons_zero, List.set_cons_succ]
              refine wpAnyH_take (i := 1) (oi := { dst := some 26, op := Go.Op.load 55 (Go.Operand.tmp 4), type := 55, pos := "tree.go:126", after := #[], guard := none }) (v := vN ⟨k, c, x0, x1, x2, x3, nn, lo, hi⟩ (.slice av n cp)) rfl (by kernel_rfl) (by kernel_rfl) (by kernel_rfl) (fun _ _ _ h => h) (yieldsIf_load_mid rfl 55 _ rfl w.heap.size 0 rfl (cN ⟨k, c, x0, x1, x2, x3, nn, lo, hi⟩ (.slice av n cp)) _ (fun wq hSq => hSq.1.range) Try.underlying55 rfl size55) hHeld ?_
              try simp only [Act.put, List.setIfInBounds_toArray, List.set_cons_zero, List.set_cons_succ]
              refine wpAnyH_ready (rs := [2]) (by kernel_rfl) (by simp) ?_
              refine AllReadyH.cons (o := { dst := some 27, op := Go.Op.call { callee := Go.Callee.value (Go.Operand.func 84), args := #[Go.Operand.tmp 26], argTypes := #[55] }, type := 55, pos := "tree.go:126", after := #[{ on := 1, ground := Go.Ground.data }], guard := none }) rfl (fun K hK => ?_) AllReadyH.nil
              go_simp
              refine (C72.out _).mono ?_
              rintro e w1 ⟨rfl, b1⟩
              have HC1 : Hid (CBox w1 g (m + 1) s) := HC0.out.blk (b1.block g (by have := HC0.out.lt; omega))
              have SS1 : Hid ((fun W => BoxN 55 W w.heap.size ⟨k, c, x0, x1, x2, x3, nn, lo, hi⟩ (.slice av n cp) ∧ w.grownBy W (some g)) w1) := ⟨SS0.out.1.below b1 SS0.out.1.lt, SS0.out.2.trans (grown_of_below b1 (some g))⟩
              clear b1
              refine hK.out _ _ (SS1.out) (fun hHeld1 => ?_)
              clear hK K hHeld
              try simp only [Act.put, List.setIfInBounds_toArray, List.set_cons_zero, List.set_cons_succ]
              refine wpAnyH_ready (rs := [3]) (by kernel_rfl) (by simp) ?_
              refine AllReadyH.cons (o := { dst := some 28, op := Go.Op.call { callee := Go.Callee.value (Go.Operand.func 71), args := #[Go.Operand.tmp 25, Go.Operand.tmp 27], argTypes := #[55, 55] }, type := 4, pos := "tree.go:126", after := #[{ on := 0, ground := Go.Ground.data }, { on := 2, ground := Go.Ground.data }, { on := 2, ground := Go.Ground.chain }], guard := none }) rfl (fun K hK => ?_) AllReadyH.nil
              go_simp
              refine (C63.out _).mono ?_
              rintro e w2 ⟨rfl, b2⟩
              have HC2 : Hid (CBox w2 g (m + 1) s) := HC1.out.blk (b2.block g (by have := HC1.out.lt; omega))
              have SS2 : Hid ((fun W => BoxN 55 W w.heap.size ⟨k, c, x0, x1, x2, x3, nn, lo, hi⟩ (.slice av n cp) ∧ w.grownBy W (some g)) w2) := ⟨SS1.out.1.below b2 SS1.out.1.lt, SS1.out.2.trans (grown_of_below b2 (some g))⟩
              clear b2
              refine hK.out _ _ (SS2.out) (fun hHeld2 => ?_)
              clear hK K hHeld1
              try simp only [Act.put, List.setIfInBounds_toArray, List.set_cons_zero, List.set_cons_succ]
              refine wpAnyH_take (i := 4) (oi := { dst := some 29, op := Go.Op.unOp Go.UnOp.not 4 (Go.Operand.tmp 28), type := 4, pos := "tree.go:126", after := #[{ on := 3, ground := Go.Ground.data }], guard := none }) (v := .bool false) rfl (by kernel_rfl) (by kernel_rfl) (by kernel_rfl) (fun _ _ _ h => h) (Or.inl ⟨by rfl, ?_⟩) hHeld2 ?_
              · (intro wq hSq; (try dsimp only at hSq); go_simp; first | done | with_reducible rfl)
              try simp only [Act.put, List.setIfInBounds_toArray, List.set_cons_zero, List.set_cons_succ]
              refine wpAnyH_take (i := 5) (oi := { dst := some 30, op := Go.Op.move (Go.Operand.tmp 29), type := 4, pos := "tree.go:126", after := #[{ on := 4, ground := Go.Ground.data }, { on := 3, ground := Go.Ground.chain }], guard := none }) (v := ?_) rfl (by kernel_rfl) (by kernel_rfl) (by kernel_rfl) (fun _ _ _ h => h) (Or.inl ⟨by rfl, ?_⟩) hHeld2 ?_
              rotate_left 1
              · (intro wq hSq; (try dsimp only at hSq); go_simp; first | done | with_reducible rfl)
              try simp only [Act.put, List.setIfInBounds_toArray, List.set_cons_zero, List.set_cons_succ]
              refine wpAnyH_take (i := 6) (oi := { dst := some 31, op := Go.Op.load 55 (Go.Operand.tmp 4), type := 55, pos := "tree.go:126", after := #[{ on := 5, ground := Go.Ground.guard }], guard := some (5, false) }) (v := vN ⟨k, c, x0, x1, x2, x3, nn, lo, hi⟩ (.slice av n cp)) rfl (by kernel_rfl) (by kernel_rfl) (by kernel_rfl) (fun _ _ _ h => h) (yieldsIf_load_mid rfl 55 _ rfl w.heap.size 0 rfl (cN ⟨k, c, x0, x1, x2, x3, nn, lo, hi⟩ (.slice av n cp)) _ (fun wq hSq => hSq.1.range) Try.underlying55 rfl size55) hHeld2 ?_
              try simp only [Act.put, List.setIfInBounds_toArray, List.set_cons_zero, List.set_cons_succ]
              refine wpAnyH_ready (rs := [7]) (by kernel_rfl) (by simp) ?_
              refine AllReadyH.cons (o := { dst := some 32, op := Go.Op.call { callee := Go.Callee.value (Go.Operand.func 85), args := #[Go.Operand.tmp 31], argTypes := #[55] }, type := 4, pos := "tree.go:126", after := #[{ on := 6, ground := Go.Ground.data }, { on := 5, ground := Go.Ground.chain }, { on := 5, ground := Go.Ground.guard }], guard := some (5, false) }) rfl (fun K hK => ?_) AllReadyH.nil
              go_simp
              refine (C73.out _ SS2.out.2).mono ?_
              rintro e w3 ⟨rfl, b3⟩
              have HC3 : Hid (CBox w3 g (m + 1) s) := HC2.out.blk (b3.block g (by have := HC2.out.lt; omega))
              have SS3 : Hid ((fun W => BoxN 55 W w.heap.size ⟨k, c, x0, x1, x2, x3, nn, lo, hi⟩ (.slice av n cp) ∧ w.grownBy W (some g)) w3) := ⟨SS2.out.1.below b3 SS2.out.1.lt, SS2.out.2.trans (grown_of_below b3 (some g))⟩
              clear b3
              refine hK.out _ _ (SS3.out) (fun hHeld3 => ?_)
              clear hK K hHeld2
              try simp only [Act.put, List.setIfInBounds_toArray, List.set_cons_zero, List.set_cons_succ]
              refine wpAnyH_take (i := 8) (oi := { dst := some 33, op := Go.Op.unOp Go.UnOp.not 4 (Go.Operand.tmp 32), type := 4, pos := "tree.go:126", after := #[{ on := 7, ground := Go.Ground.data }, { on := 5, ground := Go.Ground.guard }], guard := some (5, false) }) (v := .bool false) rfl (by kernel_rfl) (by kernel_rfl) (by kernel_rfl) (fun _ _ _ h => h) (Or.inl ⟨by rfl, ?_⟩) hHeld3 ?_
              · (intro wq hSq; (try dsimp only at hSq); go_simp; first | done | with_reducible rfl)
              try simp only [Act.put, List.setIfInBounds_toArray, List.set_cons_zero, List.set_cons_succ]
              refine wpAnyH_take (i := 9) (oi := { dst := some 34, op := Go.Op.pick (Go.Operand.tmp 30) (Go.Operand.const (Go.Value.bool true)) (Go.Operand.tmp 33), type := 4, pos := "tree.go:126", after := #[{ on := 5, ground := Go.Ground.data }, { on := 8, ground := Go.Ground.data }], guard := none }) (v := .bool false) rfl (by kernel_rfl) (by kernel_rfl) (by kernel_rfl) (fun _ _ _ h => h) (Or.inl ⟨by rfl, ?_⟩) hHeld3 ?_
              · (intro wq hSq; (try dsimp only at hSq); go_simp; first | done | with_reducible rfl)
              try simp only [Act.put, List.setIfInBounds_toArray, List.set_cons_zero, List.set_cons_succ]
              refine wpAnyH_take (i := 10) (oi := { dst := some 35, op := Go.Op.move (Go.Operand.tmp 34), type := 4, pos := "tree.go:126", after := #[{ on := 9, ground := Go.Ground.data }, { on := 7, ground := Go.Ground.chain }], guard := none }) (v := ?_) rfl (by kernel_rfl) (by kernel_rfl) (by kernel_rfl) (fun _ _ _ h => h) (Or.inl ⟨by rfl, ?_⟩) hHeld3 ?_
              rotate_left 1
              · (intro wq hSq; (try dsimp only at hSq); go_simp; first | done | with_reducible rfl)
              try simp only [Act.put, List.setIfInBounds_toArray, List.set_cons_zero, List.set_cons_succ]
              refine wpAnyH_take (i := 11) (oi := { dst := some 36, op := Go.Op.load 55 (Go.Operand.tmp 4), type := 55, pos := "tree.go:126", after := #[{ on := 10, ground := Go.Ground.guard }], guard := some (10, false) }) (v := vN ⟨k, c, x0, x1, x2, x3, nn, lo, hi⟩ (.slice av n cp)) rfl (by kernel_rfl) (by kernel_rfl) (by kernel_rfl) (fun _ _ _ h => h) (yieldsIf_load_mid rfl 55 _ rfl w.heap.size 0 rfl (cN ⟨k, c, x0, x1, x2, x3, nn, lo, hi⟩ (.slice av n cp)) _ (fun wq hSq => hSq.1.range) Try.underlying55 rfl size55) hHeld3 ?_
              try simp only [Act.put, List.setIfInBounds_toArray, List.set_cons_zero, List.set_cons_succ]
              refine wpAnyH_ready (rs := [12]) (by kernel_rfl) (by simp) ?_
              refine AllReadyH.cons (o := { dst := some 37, op := Go.Op.call { callee := Go.Callee.value (Go.Operand.func 86), args := #[Go.Operand.tmp 36], argTypes := #[55] }, type := 4, pos := "tree.go:126", after := #[{ on := 11, ground := Go.Ground.data }, { on := 10, ground := Go.Ground.chain }, { on := 10, ground := Go.Ground.guard }], guard := some (10, false) }) rfl (fun K hK => ?_) AllReadyH.nil
              go_simp
              refine (C74.out _).mono ?_
              rintro e w4 ⟨rfl, b4⟩
              have HC4 : Hid (CBox w4 g (m + 1) s) := HC3.out.blk (b4.block g (by have := HC3.out.lt; omega))
              have SS4 : Hid ((fun W => BoxN 55 W w.heap.size ⟨k, c, x0, x1, x2, x3, nn, lo, hi⟩ (.slice av n cp) ∧ w.grownBy W (some g)) w4) := ⟨SS3.out.1.below b4 SS3.out.1.lt, SS3.out.2.trans (grown_of_below b4 (some g))⟩
              clear b4
              refine hK.out _ _ (SS4.out) (fun hHeld4 => ?_)
              clear hK K hHeld3
              try simp only [Act.put, List.setIfInBounds_toArray, List.set_cons_zero, List.set_cons_succ]
              refine wpAnyH_take (i := 13) (oi := { dst := some 38, op := Go.Op.unOp Go.UnOp.not 4 (Go.Operand.tmp 37), type := 4, pos := "tree.go:126", after := #[{ on := 12, ground := Go.Ground.data }, { on := 10, ground := Go.Ground.guard }], guard := some (10, false) }) (v := .bool false) rfl (by kernel_rfl) (by kernel_rfl) (by kernel_rfl) (fun _ _ _ h => h) (Or.inl ⟨by rfl, ?_⟩) hHeld4 ?_
              · (intro wq hSq; (try dsimp only at hSq); go_simp; first | done | with_reducible rfl)
              try simp only [Act.put, List.setIfInBounds_toArray, List.set_cons_zero, List.set_cons_succ]
              refine wpAnyH_take (i := 14) (oi := { dst := some 39, op := Go.Op.pick (Go.Operand.tmp 35) (Go.Operand.const (Go.Value.bool true)) (Go.Operand.tmp 38), type := 4, pos := "tree.go:126", after := #[{ on := 10, ground := Go.Ground.data }, { on := 13, ground := Go.Ground.data }], guard := none }) (v := .bool false) rfl (by kernel_rfl) (by kernel_rfl) (by kernel_rfl) (fun _ _ _ h => h) (Or.inl ⟨by rfl, ?_⟩) hHeld4 ?_
              · (intro wq hSq; (try dsimp only at hSq); go_simp; first | done | with_reducible rfl)
              try simp only [Act.put, List.setIfInBounds_toArray, List.set_cons_zero, List.set_cons_succ]
              refine wpAnyH_take (i := 15) (oi := { dst := some 40, op := Go.Op.move (Go.Operand.tmp 39), type := 4, pos := "tree.go:126", after := #[{ on := 14, ground := Go.Ground.data }, { on := 12, ground := Go.Ground.chain }], guard := none }) (v := ?_) rfl (by kernel_rfl) (by kernel_rfl) (by kernel_rfl) (fun _ _ _ h => h) (Or.inl ⟨by rfl, ?_⟩) hHeld4 ?_
              rotate_left 1
              · (intro wq hSq; (try dsimp only at hSq); go_simp; first | done | with_reducible rfl)
              try simp only [Act.put, List.setIfInBounds_toArray, List.set_cons_zero, List.set_cons_succ]
              refine wpAnyH_take (i := 16) (oi := { dst := some 41, op := Go.Op.move (Go.Operand.tmp 0), type := 115, pos := "tree.go:126", after := #[{ on := 15, ground := Go.Ground.guard }], guard := some (15, false) }) (v := ?_) rfl (by kernel_rfl) (by kernel_rfl) (by kernel_rfl) (fun _ _ _ h => h) (Or.inl ⟨by rfl, ?_⟩) hHeld4 ?_
              rotate_left 1
              · (intro wq hSq; (try dsimp only at hSq); go_simp; first | done | with_reducible rfl)
              try simp only [Act.put, List.setIfInBounds_toArray, List.set_cons_zero, List.set_cons_succ]
              refine wpAnyH_take (i := 17) (oi := { dst := some 42, op := Go.Op.load 55 (Go.Operand.tmp 4), type := 55, pos := "tree.go:126", after := #[{ on := 15, ground := Go.Ground.guard }], guard := some (15, false) }) (v := vN ⟨k, c, x0, x1, x2, x3, nn, lo, hi⟩ (.slice av n cp)) rfl (by kernel_rfl) (by kernel_rfl) (by kernel_rfl) (fun _ _ _ h => h) (yieldsIf_load_mid rfl 55 _ rfl w.heap.size 0 rfl (cN ⟨k, c, x0, x1, x2, x3, nn, lo, hi⟩ (.slice av n cp)) _ (fun wq hSq => hSq.1.range) Try.underlying55 rfl size55) hHeld4 ?_
              try simp only [Act.put, List.setIfInBounds_toArray, List.set_cons_zero, List.set_cons_succ]
              refine wpAnyH_ready (rs := [18]) (by kernel_rfl) (by simp) ?_
              refine AllReadyH.cons (o := { dst := some 43, op := Go.Op.call { callee := Go.Callee.value (Go.Operand.func 87), args := #[Go.Operand.tmp 41, Go.Operand.tmp 42], argTypes := #[115, 55] }, type := 4, pos := "tree.go:126", after := #[{ on := 16, ground := Go.Ground.data }, { on := 17, ground := Go.Ground.data }, { on := 15, ground := Go.Ground.chain }, { on := 15, ground := Go.Ground.guard }], guard := some (15, false) }) rfl (fun K hK => ?_) AllReadyH.nil
              go_simp
              refine (C75.out _ HC4.out).mono ?_
              rintro e w5 ⟨rfl, c5, g5⟩
              have HC5 : Hid (CBox w5 g (m + 1) s1) := c5
              have SS5 : Hid ((fun W => BoxN 55 W w.heap.size ⟨k, c, x0, x1, x2, x3, nn, lo, hi⟩ (.slice av n cp) ∧ w.grownBy W (some g)) w5) := ⟨SS4.out.1.blk (g5.block _ SS4.out.1.lt (fun e => hNg.out (by injection e))), SS4.out.2.trans g5⟩
              clear c5 g5
              refine hK.out _ _ (SS5.out) (fun hHeld5 => ?_)
              clear hK K hHeld4
              try simp only [Act.put, List.setIfInBounds_toArray, List.set_cons_zero, List.set_cons_succ]
              refine wpAnyH_take (i := 19) (oi := { dst := some 44, op := Go.Op.unOp Go.UnOp.not 4 (Go.Operand.tmp 43), type := 4, pos := "tree.go:126", after := #[{ on := 18, ground := Go.Ground.data }, { on := 15, ground := Go.Ground.guard }], guard := some (15, false) }) (v := .bool false) rfl (by kernel_rfl) (by kernel_rfl) (by kernel_rfl) (fun _ _ _ h => h) (Or.inl ⟨by rfl, ?_⟩) hHeld5 ?_
              · (intro wq hSq; (try dsimp only at hSq); go_simp; first | done | with_reducible rfl)
              try simp only [Act.put, List.setIfInBounds_toArray, List.set_cons_zero, List.set_cons_succ]
              refine wpAnyH_take (i := 20) (oi := { dst := some 45, op := Go.Op.pick (Go.Operand.tmp 40) (Go.Operand.const (Go.Value.bool true)) (Go.Operand.tmp 44), type := 4, pos := "tree.go:126", after := #[{ on := 15, ground := Go.Ground.data }, { on := 19, ground := Go.Ground.data }], guard := none }) (v := .bool false) rfl (by kernel_rfl) (by kernel_rfl) (by kernel_rfl) (fun _ _ _ h => h) (Or.inl ⟨by rfl, ?_⟩) hHeld5 ?_
              · (intro wq hSq; (try dsimp only at hSq); go_simp; first | done | with_reducible rfl)
              try simp only [Act.put, List.setIfInBounds_toArray, List.set_cons_zero, List.set_cons_succ]
              refine wpAnyH_done (by kernel_rfl) ?_ _
              refine NoPanic.normal ?_
              have HX5 := SS5.out.1.cell 9 _ rfl
              have hz5 : w.heap.size < w5.heap.size := SS5.out.1.lt
              go_wp2
              go_loopw [49] (fun i wr => ∃ (j mj : Nat) (sj : Gs), j ≤ n ∧ i = .int .i64 j ∧ Hid (passL (l.drop j) mj (d + 1) sj = R) ∧ Hid (CBox wr g mj sj) ∧ Hid (BoxN 55 wr w.heap.size ⟨k, c, x0, x1, x2, x3, nn, lo, hi⟩ (.slice av n cp)) ∧ Hid (w.grownBy wr (some g)) ∧ mj ≤ 200 ∧ Hid (GsOk sj)) (fun i _ => n - (intOf i).toNat)
              case atStart => exact ⟨0, m + 1, s1, by omega, rfl, HR0.out, HC5.out, SS5.out.1, SS5.out.2, by omega, HOK1.out.1⟩
              case round =>
                obtain ⟨j, mj, sj, hj, rfl, HF, HCj, HBj, HGj, hmj, HOj⟩ := hrel
                by_cases hltj : j < n
                · obtain rfl := HA.out (by omega)
                  obtain ⟨t, ht⟩ : ∃ t, l[j]? = some t := ⟨l[j]'(by rw [← HN.out]; exact hltj), List.getElem?_eq_getElem (by rw [← HN.out]; exact hltj)⟩
                  have hjl : j < l.length := by rw [← HN.out]; exact hltj
                  have hdrop : l.drop j = t :: l.drop (j + 1) := by
                    rw [List.drop_eq_getElem_cons hjl]
                    rw [List.getElem?_eq_getElem hjl] at ht
                    injection ht with ht; rw [ht]
                  have HF1 : Hid (((passT t mj (d + 1) sj).bind fun q => passL (l.drop (j + 1)) q.1 (d + 1) q.2) = R) := by
                    have := HF.out; rw [hdrop, passL_cons] at this; exact this
                  have hmem := List.mem_of_getElem? ht
                  have hat := HL.out.get ht
                  have hIH := IH.out t hmem
                  have hPO := pass_ok.1 t mj (d + 1) sj
                  obtain ⟨h', l', rfl⟩ := t.out
                  rw [T.hd_mk, T.kids_mk] at hIH
                  obtain ⟨u', r1, r2, r3, r4⟩ := hat.out
                  have HR : Hid (wr.rangeAt b (o + j * 10) (cN h' u')) := range_block r1 (HGj.out.block b r3 (fun e => r2 (by injection e)))
                  have hbl : Below wr.heap.size wr (wr.alloc (.cells (cN h' u').toArray 55)) := (Below.refl _ _).alloc (Nat.le_refl _) _
                  have HC6 : Hid (CBox (wr.alloc (.cells (cN h' u').toArray 55)) g mj sj) := HCj.out.blk (hbl.block g HCj.out.lt)
                  have HB6 : Hid (BoxN 55 (wr.alloc (.cells (cN h' u').toArray 55)) w.heap.size ⟨k, c, x0, x1, x2, x3, nn, lo, hi⟩ (.slice (some ⟨b, o, none⟩) n cp)) := HBj.out.below hbl HBj.out.lt
                  have HG6 : Hid (w.grownBy (wr.alloc (.cells (cN h' u').toArray 55)) (some g)) := HGj.out.trans (grown_of_below hbl (some g))
                  have HX6 : Hid ((wr.alloc (.cells (cN h' u').toArray 55)).rangeAt wr.heap.size 0 (cN h' u')) := (BoxN.new 55 wr h' u').range
                  have CALL : Hid (Calls Try.prog 62 #[.pointer (some ⟨g, 0, none⟩), vN h' u', .int .i64 (d + 1)] (wr.alloc (.cells (cN h' u').toArray 55)) (PassO (passT (T.mk h' l') mj (d + 1) sj) (wr.alloc (.cells (cN h' u').toArray 55)) g)) :=
                    hIH g mj (d + 1) sj _ u' HC6.out HOj.out hmj (by omega) (by omega) (r4.grown HG6.out)
                  have HPO : Hid (∀ q, passT (T.mk h' l') mj (d + 1) sj = some q → GsOk q.2 ∧ q.1 ≤ 200) := fun q e => hPO q e HOj.out
                  have HBG : Hid ((w.heap.size : Nat) < (wr.alloc (.cells (cN h' u').toArray 55)).heap.size) := HB6.out.lt
                  obtain ⟨av', cp', b', o', hu', _⟩ := id r4
                  subst hu'
                  obtain ⟨RT, hRT⟩ : ∃ RT, RT = passT (T.mk h' l') mj (d + 1) sj := ⟨_, rfl⟩
                  rw [← hRT] at CALL HPO HF1
                  have i1 : (j : Int) < (n : Int) := by omega
                  have i0 : (0 : Int) ≤ (j : Int) := by omega
                  have HLT : Hid (j < n) := hltj
                  have hcb := HBj.out.cell 9 _ rfl
                  clear hRT hmem hat hIH hPO hdrop hjl r1 r2 r3 r4 ht hltj HF hbl hcb
                  go_wp2_with (first | (refine loadN55 rfl _ rfl b (o + j * 10) rfl h' _ HR.out ?_) | (refine storeN55 rfl _ _ rfl rfl h' av' l'.length cp' rfl ?_) | (refine loadN55 rfl _ rfl wr.heap.size 0 rfl h' _ HX6.out ?_) | (go_at_call 62; refine CALL.out.mono ?_; rintro e w7 ⟨ok, m7, s7, rfl, c7, g7, p7⟩; have HC7 : Hid (CBox w7 g m7 s7) := c7; have HG7 : Hid (w.grownBy w7 (some g)) := HG6.out.trans g7; have HB7 : Hid (BoxN 55 w7 w.heap.size ⟨k, c, x0, x1, x2, x3, nn, lo, hi⟩ (.slice (some ⟨b, o, none⟩) n cp)) := HB6.out.blk (g7.block _ HBG.out (fun e => hNg.out (by injection e))); have HP7 : Hid (PassR RT ok m7 s7) := p7; clear c7 g7 p7; cases ok))
                  · have PNO : Hid (passT (T.mk ⟨k, c, x0, x1, x2, x3, nn, lo, hi⟩ l) m d s = none) := by
                      have e1 : RT = none := HP7.out
                      have e2 := HF1.out
                      rw [e1] at e2
                      unfold Hid; rw [PGO.out, ← e2]; rfl
                    go_wp2
                    go_ret
                    exact ⟨false, _, _, rfl, HC7.out, HG7.out, (if_neg (by simp) : PassR _ false _ _ = _).mpr PNO.out⟩
                  · have e1 : RT = some (m7, s7) := HP7.out
                    have HF2 : Hid (passL (l.drop (j + 1)) m7 (d + 1) s7 = R) := by
                      have e2 := HF1.out
                      rw [e1] at e2; exact e2
                    have HO7 : Hid (GsOk s7) := (HPO.out _ e1).1
                    have hm7 : m7 ≤ 200 := (HPO.out _ e1).2
                    clear e1 HF1 HPO HP7
                    go_wp2
                    go_roundw
                    case rel => exact ⟨j + 1, m7, s7, by have := HLT.out; omega, by go_num, HF2.out, HC7.out, HB7.out, HG7.out, hm7, HO7.out⟩
                    case measure => have := HLT.out; simp [intOf]; omega
                · have i1 : ¬ (j : Int) < (n : Int) := by omega
                  have HE : Hid (passT (T.mk ⟨k, c, x0, x1, x2, x3, nn, lo, hi⟩ l) m d s = some (mj, endN ⟨k, c, x0, x1, x2, x3, nn, lo, hi⟩ sj)) := by
                    have := HF.out
                    rw [List.drop_eq_nil_of_le (by rw [← HN.out]; omega), passL_nil] at this
                    unfold Hid; rw [PGO.out, ← this]; rfl
                  have hcb0 := HBj.out.cell 0 _ rfl
                  clear hltj HF
                  by_cases hk : k = 6
                  · subst hk
                    have hnb := HOK1.out.2 rfl
                    have HS13 : Hid (wr.drew.cell? ⟨w.heap.size, 6, none⟩ = some (.int .i64 nn)) := (HBj.out.blk (w' := wr.drew) rfl).cell 6 _ rfl
                    have HC13 : Hid (wr.drew.cell? ⟨g, 2 + nn.toNat, none⟩ = some (.bool (sj.e.getD nn.toNat false))) := (HCj.out.blk (w' := wr.drew) rfl).cell _ _ (by
                      rw [show 2 + nn.toNat = nn.toNat + 1 + 1 by omega]
                      show (sj.e.map Value.bool)[nn.toNat]? = _
                      have := HOj.out.len
                      rw [List.getElem?_map, List.getD_eq_getElem?_getD, List.getElem?_eq_getElem (by omega)]; rfl)
                    have HF13 : Hid (wr.drew.frozen? ⟨g, 2 + nn.toNat, none⟩ = false) := unfrozen (HCj.out.blk (w' := wr.drew) rfl)
                    have HC14 : Hid (CBox (wr.setCell ⟨g, 2 + nn.toNat, none⟩ (.bool true)).drew g mj (endN ⟨6, c, x0, x1, x2, x3, nn, lo, hi⟩ sj)) := by
                      have q := (HCj.out.setE nn.toNat true).blk (w' := (wr.setCell ⟨g, 2 + nn.toNat, none⟩ (.bool true)).drew) rfl
                      exact q
                    have HG14 : Hid (w.grownBy (wr.setCell ⟨g, 2 + nn.toNat, none⟩ (.bool true)).drew (some g)) := by
                      have q := grown_set HGj.out (2 + nn.toNat) (.bool true)
                      exact ⟨q.os, q.tape, q.output, q.size, q.block⟩
                    have HS14 : Hid ((wr.setCell ⟨g, 2 + nn.toNat, none⟩ (.bool true)).drew.cell? ⟨w.heap.size, 6, none⟩ = some (.int .i64 nn)) := (HBj.out.blk (w' := (wr.setCell ⟨g, 2 + nn.toNat, none⟩ (.bool true)).drew) (Below.heap_setCell _ _ _ _ hNg.out)).cell 6 _ rfl
                    have j1 : (0 : Int) ≤ nn := by omega
                    have j2 : nn < 10 := by omega
                    go_wp2
                    refine wp_region_noPanic ?_
                    refine wp_region_held_drew (S := fun W => W.cell? ⟨w.heap.size, 6, none⟩ = some (.int .i64 nn)) (by kernel_rfl) (HS13.out) (fun hHeld => ?_)
                    try simp only [Act.put, List.setIfInBounds_toArray, List.set_cons_zero, List.set_cons_succ]
                    refine wpAnyH_take (i := 0) (oi := { dst := some 63, op := Go.Op.move (Go.Operand.tmp 0), type := 115, pos := "tree.go:135", after := #[], guard := none }) (v := ?_) rfl (by kernel_rfl) (by kernel_rfl) (by kernel_rfl) (fun _ _ _ h => h) (Or.inl ⟨by rfl, ?_⟩) hHeld ?_
                    rotate_left 1
                    · (intro wq hSq; (try dsimp only at hSq); go_simp; first | done | with_reducible rfl)
                    try simp only [Act.put, List.setIfInBounds_toArray, List.set_cons_zero, List.set_cons_succ]
                    refine wpAnyH_take (i := 1) (oi := { dst := some 64, op := Go.Op.fieldAddr 55 (Go.Operand.tmp 4) 3, type := 0, pos := "tree.go:135", after := #[], guard := none }) (v := ?_) rfl (by kernel_rfl) (by kernel_rfl) (by kernel_rfl) (fun _ _ _ h => h) (Or.inl ⟨by rfl, ?_⟩) hHeld ?_
                    rotate_left 1
                    · (intro wq hSq; (try dsimp only at hSq); go_simp; first | done | with_reducible rfl)
                    try simp only [Act.put, List.setIfInBounds_toArray, List.set_cons_zero, List.set_cons_succ]
                    refine wpAnyH_take (i := 2) (oi := { dst := some 65, op := Go.Op.load 3 (Go.Operand.tmp 64), type := 3, pos := "tree.go:135", after := #[{ on := 1, ground := Go.Ground.data }], guard := none }) (v := ?_) rfl (by kernel_rfl) (by kernel_rfl) (by kernel_rfl) (fun _ _ _ h => h) (Or.inl ⟨by rfl, ?_⟩) hHeld ?_
                    rotate_left 1
                    · (intro wq hSq; (try dsimp only at hSq); have c := hSq; go_simp; first | done | with_reducible rfl)
                    try simp only [Act.put, List.setIfInBounds_toArray, List.set_cons_zero, List.set_cons_succ]
                    refine wpAnyH_take (i := 3) (oi := { dst := some 66, op := Go.Op.nilCheck (Go.Operand.tmp 63), type := 0, pos := "tree.go:135", after := #[{ on := 0, ground := Go.Ground.data }], guard := none }) (v := ?_) rfl (by kernel_rfl) (by kernel_rfl) (by kernel_rfl) (fun _ _ _ h => h) (Or.inl ⟨by rfl, ?_⟩) hHeld ?_
                    rotate_left 1
                    · (intro wq hSq; (try dsimp only at hSq); go_simp; first | done | with_reducible rfl)
                    try simp only [Act.put, List.setIfInBounds_toArray, List.set_cons_zero, List.set_cons_succ]
                    refine wpAnyH_take (i := 4) (oi := { dst := some 67, op := Go.Op.fieldAddr 84 (Go.Operand.tmp 66) 2, type := 0, pos := "tree.go:135", after := #[{ on := 3, ground := Go.Ground.data }], guard := none }) (v := ?_) rfl (by kernel_rfl) (by kernel_rfl) (by kernel_rfl) (fun _ _ _ h => h) (Or.inl ⟨by rfl, ?_⟩) hHeld ?_
                    rotate_left 1
                    · (intro wq hSq; (try dsimp only at hSq); go_simp; first | done | with_reducible rfl)
                    try simp only [Act.put, List.setIfInBounds_toArray, List.set_cons_zero, List.set_cons_succ]
                    refine wpAnyH_take (i := 5) (oi := { dst := some 68, op := Go.Op.indexAddr 82 (Go.Operand.tmp 67) (Go.Operand.tmp 65), type := 0, pos := "tree.go:135", after := #[{ on := 4, ground := Go.Ground.data }, { on := 2, ground := Go.Ground.data }, { on := 0, ground := Go.Ground.phase }, { on := 1, ground := Go.Ground.phase }, { on := 2, ground := Go.Ground.phase }], guard := none }) (v := ?_) rfl (by kernel_rfl) (by kernel_rfl) (by kernel_rfl) (fun _ _ _ h => h) (Or.inl ⟨by rfl, ?_⟩) hHeld ?_
                    rotate_left 1
                    · (intro wq hSq; (try dsimp only at hSq); go_simp; first | done | with_reducible rfl)
                    try simp only [Act.put, List.setIfInBounds_toArray, List.set_cons_zero, List.set_cons_succ]
                    refine wpAnyH_ready (rs := [6]) (by kernel_rfl) (by simp) ?_
                    refine AllReadyH.cons (o := { dst := none, op := Go.Op.store 4 (Go.Operand.tmp 68) (Go.Operand.const (Go.Value.bool true)), type := 0, pos := "tree.go:135", after := #[{ on := 5, ground := Go.Ground.data }, { on := 0, ground := Go.Ground.phase }, { on := 1, ground := Go.Ground.phase }, { on := 2, ground := Go.Ground.phase }], guard := none }) rfl (fun K hK => ?_) AllReadyH.nil
                    have c7 := HC13.out
                    have f7 := HF13.out
                    go_simp
                    refine hK.out _ _ (HS14.out) (fun hHeld1 => ?_)
                    clear hK K hHeld
                    try simp only [Act.put, List.setIfInBounds_toArray, List.set_cons_zero, List.set_cons_succ]
                    refine wpAnyH_done (by kernel_rfl) ?_ _
                    refine NoPanic.normal ?_
                    go_wp2
                    go_ret
                    exact ⟨true, _, _, rfl, HC14.out, HG14.out, (if_pos rfl : PassR _ true _ _ = _).mpr HE.out⟩
                  · have hkb : (k == 6) = false := by simpa using hk
                    have HE2 : Hid (endN ⟨k, c, x0, x1, x2, x3, nn, lo, hi⟩ sj = sj) := by unfold Hid endN; rw [if_neg hk]
                    go_wp2
                    go_ret
                    exact ⟨true, mj, sj, rfl, HCj.out, HGj.out, (if_pos rfl : PassR _ true _ _ = _).mpr (by rw [HE.out, HE2.out])⟩
end Go.Proofs.Ytndmjndokokmnaa
