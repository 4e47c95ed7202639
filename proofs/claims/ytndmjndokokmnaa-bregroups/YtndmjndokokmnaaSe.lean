import Derived.Test.YtndmjndokokmnaaSd
import Derived.Test.YtndmjndokokmnaaSc
import Derived.Test.YtndmjndokokmnaaDm
namespace Go.Proofs.Ytndmjndokokmnaa
set_option linter.unusedSimpArgs false
set_option linter.unusedVariables false
open Go.RowKit
open Go.Deep
/-- The groups' numbers are small. -/
def smallB : BT P7 → Bool
  | .nil => true
  | .node _ _ p l r => (decide (p.k = 6 → 0 ≤ p.n ∧ p.n ≤ 9) && smallB l) && smallB r
def smallT (t : T) : Bool := decide (t.hd.k = 6 → 0 ≤ t.hd.n ∧ t.hd.n ≤ 9) && smallB t.kf
def smallL (l : List T) : Bool := smallB (lf l)
theorem smallT_mk (h : Hd) (l : List T) : smallT (.mk h l) = (decide (h.k = 6 → 0 ≤ h.n ∧ h.n ≤ 9) && smallL l) := rfl
theorem smallL_nil : smallL [] = true := rfl
theorem smallL_cons (t : T) (r : List T) : smallL (t :: r) = (smallT t && smallL r) := rfl
theorem small_mem {l : List T} {t : T} (h : t ∈ l) (hl : smallL l = true) : smallT t = true := by
  induction l with
  | nil => cases h
  | cons x r ih =>
    rw [smallL_cons, Bool.and_eq_true] at hl
    rcases List.mem_cons.1 h with rfl | q
    · exact hl.1
    · exact ih q hl.2
theorem form_small : (∀ t, ∀ s s', 0 ≤ s.b → formT t s = some s' → smallT t = true) ∧ ∀ l, ∀ s s', 0 ≤ s.b → formL l s = some s' → smallL l = true := by
  refine T.both (p := fun t => ∀ s s', 0 ≤ s.b → formT t s = some s' → smallT t = true) (q := fun l => ∀ s s', 0 ≤ s.b → formL l s = some s' → smallL l = true) (fun h l q s s' h0 hf => ?_) (fun s s' h0 hf => rfl) (fun t r a b s s' h0 hf => ?_)
  · unfold formT at hf
    rw [T.hd_mk, T.kids_mk] at hf
    split at hf
    · cases hf
    · obtain ⟨s1, e1, hf1⟩ := Option.bind_eq_some_iff.1 hf
      obtain ⟨s2, e2, hf2⟩ := Option.bind_eq_some_iff.1 hf1
      rw [smallT_mk, Bool.and_eq_true]
      unfold stepN at e1
      by_cases h6 : h.k = 6
      · rw [if_pos h6] at e1
        split at e1
        · rename_i hn
          injection e1 with e1
          subst e1
          exact ⟨decide_eq_true fun _ => ⟨by omega, hn.2⟩, q _ _ (by show 0 ≤ s.b + 1; omega) e2⟩
        · cases e1
      · rw [if_neg h6] at e1
        have e3 : s1 = s := by
          split at e1
          · split at e1
            · injection e1 with e1; exact e1.symm
            · cases e1
          · injection e1 with e1; exact e1.symm
        exact ⟨decide_eq_true fun q => absurd q h6, q _ _ (by rw [e3]; exact h0) e2⟩
  · rw [formL_cons] at hf
    obtain ⟨s1, e1, hf1⟩ := Option.bind_eq_some_iff.1 hf
    have := form_count.1 _ _ _ e1
    rw [smallL_cons, a _ _ h0 e1, b _ _ (by omega) hf1]; rfl
theorem BoxN.set6 {E : TypeId} {w : World} {g : Nat} {h : Hd} {u : Value} (k : BoxN E w g h u) (m : Int) : BoxN E (w.setCell ⟨g, 6, none⟩ (.int .i64 m)) g ⟨h.k, h.c, h.x0, h.x1, h.x2, h.x3, m, h.lo, h.hi⟩ u := by
  unfold BoxN at k ⊢
  rw [heap_setCell_same w g 6 _ E _ k, List.setIfInBounds_toArray]; rfl
theorem size_set0x (w : World) (p : Addr) (v : Value) : (w.setCell p v).heap.size = w.heap.size := by simp [World.setCell]
/-- The memory of higher in its loop. -/
structure ThX (w wr : World) (hd hx : Hd) (u v : Value) (ls : List T) : Prop where
  b0 : BoxN 55 wr w.heap.size hd u
  b1 : BoxN 55 wr (w.heap.size + 1) hd0 (.slice none 0 0)
  b2 : BoxN 55 wr (w.heap.size + 1 + 1) hx v
  own : OwnT 55 (fun b => w.heap.size + 1 + 1 + 1 ≤ b) (w.heap.size + 1 + 1 + 1) wr v ls
  bel : Below w.heap.size w wr
  sz : w.heap.size + 1 + 1 + 1 ≤ wr.heap.size
theorem three_zero (w : World) (hd : Hd) (u : Value) : BoxN 55 (((w.alloc (.cells (cN hd u).toArray 55)).alloc (.cells (cN hd0 (.slice none 0 0)).toArray 55)).alloc (.cells (cN hd0 (.slice none 0 0)).toArray 55)) w.heap.size hd u ∧ BoxN 55 (((w.alloc (.cells (cN hd u).toArray 55)).alloc (.cells (cN hd0 (.slice none 0 0)).toArray 55)).alloc (.cells (cN hd0 (.slice none 0 0)).toArray 55)) (w.heap.size + 1) hd0 (.slice none 0 0) ∧ BoxN 55 (((w.alloc (.cells (cN hd u).toArray 55)).alloc (.cells (cN hd0 (.slice none 0 0)).toArray 55)).alloc (.cells (cN hd0 (.slice none 0 0)).toArray 55)) (w.heap.size + 1 + 1) hd0 (.slice none 0 0) ∧ Below w.heap.size w (((w.alloc (.cells (cN hd u).toArray 55)).alloc (.cells (cN hd0 (.slice none 0 0)).toArray 55)).alloc (.cells (cN hd0 (.slice none 0 0)).toArray 55)) ∧ (((w.alloc (.cells (cN hd u).toArray 55)).alloc (.cells (cN hd0 (.slice none 0 0)).toArray 55)).alloc (.cells (cN hd0 (.slice none 0 0)).toArray 55)).heap.size = w.heap.size + 1 + 1 + 1 := by
  have s1 : (w.alloc (.cells (cN hd u).toArray 55)).heap.size = w.heap.size + 1 := by simp
  have s2 : ((w.alloc (.cells (cN hd u).toArray 55)).alloc (.cells (cN hd0 (.slice none 0 0)).toArray 55)).heap.size = w.heap.size + 1 + 1 := by simp
  have k1 := BoxN.new 55 (w.alloc (.cells (cN hd u).toArray 55)) hd0 (.slice none 0 0)
  have k2 := BoxN.new 55 ((w.alloc (.cells (cN hd u).toArray 55)).alloc (.cells (cN hd0 (.slice none 0 0)).toArray 55)) hd0 (.slice none 0 0)
  rw [s1] at k1
  rw [s2] at k2
  refine ⟨?_, ?_, k2, (((Below.refl _ _).alloc (Nat.le_refl _) _).alloc (by simp) _).alloc (by simp; omega) _, by simp⟩
  · exact ((BoxN.new 55 w hd u).blk (Below.heap_alloc _ _ _ (by simp))).blk (Below.heap_alloc _ _ _ (by simp; omega))
  · exact k1.blk (Below.heap_alloc _ _ _ (by simp))
theorem ThX.begin (w : World) (hd : Hd) (u : Value) : BoxN 55 ((((w.alloc (.cells (cN hd u).toArray 55)).alloc (.cells (cN hd0 (.slice none 0 0)).toArray 55)).alloc (.cells (cN hd0 (.slice none 0 0)).toArray 55)).setRow (w.heap.size + 1 + 1) (cN hd u).toArray) w.heap.size hd u ∧ BoxN 55 ((((w.alloc (.cells (cN hd u).toArray 55)).alloc (.cells (cN hd0 (.slice none 0 0)).toArray 55)).alloc (.cells (cN hd0 (.slice none 0 0)).toArray 55)).setRow (w.heap.size + 1 + 1) (cN hd u).toArray) (w.heap.size + 1) hd0 (.slice none 0 0) ∧ BoxN 55 ((((w.alloc (.cells (cN hd u).toArray 55)).alloc (.cells (cN hd0 (.slice none 0 0)).toArray 55)).alloc (.cells (cN hd0 (.slice none 0 0)).toArray 55)).setRow (w.heap.size + 1 + 1) (cN hd u).toArray) (w.heap.size + 1 + 1) hd u ∧ Below w.heap.size w ((((w.alloc (.cells (cN hd u).toArray 55)).alloc (.cells (cN hd0 (.slice none 0 0)).toArray 55)).alloc (.cells (cN hd0 (.slice none 0 0)).toArray 55)).setRow (w.heap.size + 1 + 1) (cN hd u).toArray) ∧ ((((w.alloc (.cells (cN hd u).toArray 55)).alloc (.cells (cN hd0 (.slice none 0 0)).toArray 55)).alloc (.cells (cN hd0 (.slice none 0 0)).toArray 55)).setRow (w.heap.size + 1 + 1) (cN hd u).toArray).heap.size = w.heap.size + 1 + 1 + 1 := by
  obtain ⟨a, b, c, d, e⟩ := three_zero w hd u
  exact ⟨a.blk (setRow_other _ _ _ _ (by omega)), b.blk (setRow_other _ _ _ _ (by omega)), c.row hd u, below_row d (by omega) _, by rw [← e]; simp [World.setRow]⟩
theorem two_boxes' (w : World) (h g : Hd) (u v : Value) : BoxN 55 ((w.alloc (.cells (cN h u).toArray 55)).alloc (.cells (cN g v).toArray 55)) w.heap.size h u ∧ True := ⟨(BoxN.new 55 w h u).blk (Below.heap_alloc _ _ _ (by simp)), trivial⟩
def RdX (N : Nat) (hd hx : Hd) (u v : Value) (b i : Nat) (h' : Hd) (u' : Value) (W : World) : Prop := BoxN 55 W N hd u ∧ BoxN 55 W (N + 1 + 1) hx v ∧ W.rangeAt b i (cN h' u')
theorem RdX.step {N : Nat} {hd hx : Hd} {u v : Value} {b i : Nat} {h' : Hd} {u' : Value} {W W' : World} (h : RdX N hd hx u v b i h' u' W) (k : ∀ g, g = N ∨ g = N + 1 + 1 ∨ g = b → W'.heap[g]? = W.heap[g]?) : RdX N hd hx u v b i h' u' W' :=
  ⟨h.1.blk (k _ (.inl rfl)), h.2.1.blk (k _ (.inr (.inl rfl))), range_block h.2.2 (k _ (.inr (.inr rfl)))⟩
theorem ThX.next {w wr w6 w7 : World} {hd hx : Hd} {u v v7 : Value} {ls ms : List T} (h : ThX w wr hd hx u v ls) (b6 : Below wr.heap.size wr w6) (O : Obj) (O7 : OwnT 55 (fun b => w.heap.size + 1 + 1 + 1 ≤ b) (w.heap.size + 1 + 1 + 1) w7 v7 ms) (g7 : (w6.alloc O).grownBy w7 v.ownBlock) :
    ThX w (w7.setCell ⟨w.heap.size + 1 + 1, 9, none⟩ v7) hd hx u v7 ms := by
  have hz := h.sz
  have h6 := b6.size
  have hs6 : (w6.alloc O).heap.size = w6.heap.size + 1 := by simp
  have hlow : ∀ g, v.ownBlock = some g → w.heap.size + 1 + 1 + 1 ≤ g := fun g hg => (h.own.low g hg).1
  have far : ∀ g, g < w.heap.size + 1 + 1 + 1 → w7.heap[g]? = wr.heap[g]? := fun g hg => by
    rw [g7.block g (by omega) (fun e => by have := hlow g e.symm; omega), Below.heap_alloc _ _ _ (by omega), b6.block g (by omega)]
  have far2 : ∀ g, g ≠ w.heap.size + 1 + 1 → (w7.setCell ⟨w.heap.size + 1 + 1, 9, none⟩ v7).heap[g]? = w7.heap[g]? := fun g hg => Below.heap_setCell _ _ _ _ hg
  have hsz : w7.heap.size = (w7.setCell ⟨w.heap.size + 1 + 1, 9, none⟩ v7).heap.size := by simp [World.setCell]
  refine ⟨(h.b0.blk (far _ (by omega))).blk (far2 _ (by omega)), (h.b1.blk (far _ (by omega))).blk (far2 _ (by omega)), (h.b2.blk (far _ (by omega))).set9 v7, O7.keep (by omega) fun b hb _ => far2 b (by rcases hb with hb | hb <;> omega), ?_, by have := g7.size; omega⟩
  have a1 : Below w.heap.size w w6 := h.bel.trans (b6.mono h.bel.size)
  have a2 : Below w.heap.size w (w6.alloc O) := a1.alloc a1.size _
  have a3 : Below w.heap.size w w7 := a2.grown g7 a2.size (fun k hk => by have := hlow k hk; omega)
  exact a3.setCell (by show w.heap.size ≤ w.heap.size + 1 + 1; omega) _
theorem ThX.read {w wr w6 w7 : World} {hd hx : Hd} {u v : Value} {ls : List T} {b i : Nat} {h' : Hd} {u' : Value} (h : ThX w wr hd hx u v ls) (b6 : Below wr.heap.size wr w6) (O : Obj) (g7 : (w6.alloc O).grownBy w7 v.ownBlock) (hb : b < w.heap.size) (k : RdX w.heap.size hd hx u v b i h' u' w6) :
    RdX w.heap.size hd hx u v b i h' u' w7 := by
  have hz := h.sz
  have h6 := b6.size
  have hs6 : (w6.alloc O).heap.size = w6.heap.size + 1 := by simp
  refine k.step fun g hg => ?_
  have hlt : g < w.heap.size + 1 + 1 + 1 := by omega
  rw [g7.block g (by omega) (fun e => by have := (h.own.low g e.symm).1; omega), Below.heap_alloc _ _ _ (by omega)]
set_option maxHeartbeats 2000000 in
set_option maxRecDepth 100000 in
theorem higher_six (hd : Hd) (l : List T) (ih : ∀ t ∈ l, ∀ (w : World) (u : Value), SV AnyB w u t.kids → countT t ≤ 1000000 → smallT t = true → Calls Try.prog 55 #[vN t.hd u] w fun e w' => ∃ u', e = .returned (vN (hiH t.hd) u') ∧ SV (fun b => w.heap.size ≤ b) w' u' (t.kids.map hiT) ∧ Below w.heap.size w w') (w : World) (u : Value) (hu : SV AnyB w u l) (hc : 1 + countL l ≤ 1000000) (hs : smallL l = true) (h6 : hd.k = 6) (hn0 : 0 ≤ hd.n ∧ hd.n ≤ 9) : Calls Try.prog 55 #[vN hd u] w fun e w' => ∃ u', e = .returned (vN (hiH hd) u') ∧ SV (fun b => w.heap.size ≤ b) w' u' (l.map hiT) ∧ Below w.heap.size w w' := by
  obtain ⟨av, cp, b, o, rfl, h1, h2, h3, h4⟩ := hu
  have HH : Hid (hiH hd = ⟨hd.k, hd.c, hd.x0, hd.x1, hd.x2, hd.x3, hd.n + 1, hd.lo, hd.hi⟩) := by unfold Hid hiH; rw [if_pos h6]
  rw [HH.out]
  obtain ⟨k, c, x0, x1, x2, x3, nn, lo, hi⟩ := hd
  simp only at h6 hn0 ⊢
  have e6 : (k == 6) = true := by simpa using h6
  obtain ⟨n, hn⟩ : ∃ n, n = l.length := ⟨_, rfl⟩
  have HN : Hid (n = l.length) := hn
  have HL : Hid (LAt AnyB w b o l) := h4
  have HA : Hid (0 < n → av = some ⟨b, o, none⟩) := by rw [hn]; exact h3
  have HC : Hid (1 + countL l ≤ 1000000) := hc
  have HSM : Hid (smallL l = true) := hs
  have IH : Hid (∀ t ∈ l, ∀ (w : World) (u : Value), SV AnyB w u t.kids → countT t ≤ 1000000 → smallT t = true → Calls Try.prog 55 #[vN t.hd u] w fun e w' => ∃ u', e = .returned (vN (hiH t.hd) u') ∧ SV (fun b => w.heap.size ≤ b) w' u' (t.kids.map hiT) ∧ Below w.heap.size w w') := ih
  rw [← hn] at h1 ⊢
  obtain ⟨U, hU⟩ : ∃ U, U = Value.slice av n cp := ⟨_, rfl⟩
  have HU : Hid (U = Value.slice av n cp) := hU
  have OU : Hid (U.oneCell' = true) := by rw [hU]; rfl
  obtain ⟨x3', y3', z3', b3', s3'⟩ := ThX.begin w ⟨k, c, x0, x1, x2, x3, nn, lo, hi⟩ U
  have Z2 : Hid (BoxN 55 (((w.alloc (.cells (cN ⟨k, c, x0, x1, x2, x3, nn, lo, hi⟩ U).toArray 55)).alloc (.cells (cN hd0 (.slice none 0 0)).toArray 55)).alloc (.cells (cN hd0 (.slice none 0 0)).toArray 55)) (w.heap.size + 1 + 1) hd0 (.slice none 0 0)) := (three_zero w ⟨k, c, x0, x1, x2, x3, nn, lo, hi⟩ U).2.2.1
  have X1 : Hid (BoxN 55 ((w.alloc (.cells (cN ⟨k, c, x0, x1, x2, x3, nn, lo, hi⟩ U).toArray 55)).alloc (.cells (cN hd0 (.slice none 0 0)).toArray 55)) w.heap.size ⟨k, c, x0, x1, x2, x3, nn, lo, hi⟩ U) := (two_boxes' w ⟨k, c, x0, x1, x2, x3, nn, lo, hi⟩ hd0 U (.slice none 0 0)).1
  have H3 : Hid (∃ W, W = (((w.alloc (.cells #[.int .i64 k, .int .u8 (c : Int), .int .u64 (x0 : Int), .int .u64 x1, .int .u64 x2, .int .u64 x3, .int .i64 nn, .int .i64 lo, .int .i64 hi, U] 55)).alloc (.cells #[.int .i64 0, .int .u8 0, .int .u64 0, .int .u64 0, .int .u64 0, .int .u64 0, .int .i64 0, .int .i64 0, .int .i64 0, .slice none 0 0] 55)).alloc (.cells #[.int .i64 0, .int .u8 0, .int .u64 0, .int .u64 0, .int .u64 0, .int .u64 0, .int .i64 0, .int .i64 0, .int .i64 0, .slice none 0 0] 55)).setRow (w.heap.size + 1 + 1) (cN ⟨k, c, x0, x1, x2, x3, nn, lo, hi⟩ U).toArray ∧ BoxN 55 W w.heap.size ⟨k, c, x0, x1, x2, x3, nn, lo, hi⟩ U ∧ BoxN 55 W (w.heap.size + 1) hd0 (.slice none 0 0) ∧ BoxN 55 W (w.heap.size + 1 + 1) ⟨k, c, x0, x1, x2, x3, nn, lo, hi⟩ U ∧ Below w.heap.size w W ∧ W.heap.size = w.heap.size + 1 + 1 + 1) := ⟨_, rfl, x3', y3', z3', b3', s3'⟩
  rw [← hU]
  clear hn h3 h4 hc ih hs h6 HH x3' y3' z3' b3' s3' hU
  change Calls Try.prog 55 #[.agg #[.int .i64 k, .int .u8 (c : Int), .int .u64 (x0 : Int), .int .u64 x1, .int .u64 x2, .int .u64 x3, .int .i64 nn, .int .i64 lo, .int .i64 hi, U]] w _
  go_enter Try.func55, Try.ntmps55
  go_wp2_with (first | (refine loadN55 rfl _ rfl w.heap.size 0 rfl ⟨k, c, x0, x1, x2, x3, nn, lo, hi⟩ _ X1.out.range ?_) | (refine storeB55 rfl _ _ rfl (w.heap.size + 1 + 1) rfl ⟨k, c, x0, x1, x2, x3, nn, lo, hi⟩ U OU.out rfl hd0 _ Z2.out ?_; obtain ⟨w3, hw3, p3, q3, z3, b3, s3⟩ := H3.out; rw [← hw3]; clear hw3 H3 X1 Z2; rw [HU.out] at p3 z3 ⊢; clear OU HU; have c6 := z3.cell 6 _ rfl; have c0 := p3.cell 0 _ rfl; have d6 := p3.cell 6 _ rfl; have d9 := p3.cell 9 _ rfl; have c9 := z3.cell 9 _ rfl; have f9 : w3.frozen? ⟨w.heap.size + 1 + 1, 9, none⟩ = false := unfrozen z3; have f6 : w3.frozen? ⟨w.heap.size + 1 + 1, 6, none⟩ = false := unfrozen z3; have TW0 : Hid (ThX w ((w3.setCell ⟨w.heap.size + 1 + 1, 9, none⟩ (.slice none 0 0)).setCell ⟨w.heap.size + 1 + 1, 6, none⟩ (.int .i64 (nn + 1))) ⟨k, c, x0, x1, x2, x3, nn, lo, hi⟩ ⟨k, c, x0, x1, x2, x3, nn + 1, lo, hi⟩ (.slice av n cp) (.slice none 0 0) []) := ⟨((p3).blk (Below.heap_setCell _ _ _ _ (by show w.heap.size ≠ w.heap.size + 1 + 1; omega))).blk (Below.heap_setCell _ _ _ _ (by show w.heap.size ≠ w.heap.size + 1 + 1; omega)), ((q3).blk (Below.heap_setCell _ _ _ _ (by show w.heap.size + 1 ≠ w.heap.size + 1 + 1; omega))).blk (Below.heap_setCell _ _ _ _ (by show w.heap.size + 1 ≠ w.heap.size + 1 + 1; omega)), (z3.set9 (.slice none 0 0)).set6 (nn + 1), OwnT.nil _ _ _ _, (b3.setCell (p := ⟨w.heap.size + 1 + 1, 9, none⟩) (by show w.heap.size ≤ w.heap.size + 1 + 1; omega) _).setCell (p := ⟨w.heap.size + 1 + 1, 6, none⟩) (by show w.heap.size ≤ w.heap.size + 1 + 1; omega) _, by simp only [size_set0x]; omega⟩; clear p3 q3 z3 b3 s3))
  go_loopw [17] (fun i wr => ∃ (j : Nat) (va : Option Addr) (vl vc : Nat), j ≤ n ∧ i = .int .i64 j ∧ Hid (ThX w wr ⟨k, c, x0, x1, x2, x3, nn, lo, hi⟩ ⟨k, c, x0, x1, x2, x3, nn + 1, lo, hi⟩ (.slice av n cp) (.slice va vl vc) ((l.take j).map hiT))) (fun i _ => n - (intOf i).toNat)
  case atStart => exact ⟨0, none, 0, 0, by omega, rfl, TW0.out⟩
  case round =>
    obtain ⟨j, va, vl, vc, hj, rfl, TW⟩ := hrel
    by_cases hlt : j < n
    · obtain rfl := HA.out (by omega)
      obtain ⟨t, ht⟩ : ∃ t, l[j]? = some t := ⟨l[j]'(by rw [← HN.out]; exact hlt), List.getElem?_eq_getElem (by rw [← HN.out]; exact hlt)⟩
      have hmem := List.mem_of_getElem? ht
      have hat := HL.out.get ht
      have hct : countT t ≤ 1000000 := by have := count_mem hmem; have := HC.out; omega
      have hIH := IH.out t hmem
      have hsm := small_mem hmem HSM.out
      have HTK := take_snocT l j t ht
      obtain ⟨h', l', rfl⟩ := t.out
      rw [T.hd_mk, T.kids_mk] at hIH
      have HTK : Hid ((l.take (j + 1)).map hiT = (l.take j).map hiT ++ [T.mk (hiH h') (l'.map hiT)]) := by unfold Hid; rw [HTK, List.map_append, List.map_cons, List.map_nil, hiT_mk]
      obtain ⟨u', r1, _, r3, r4⟩ := hat.out
      have hbw := TW.out.bel
      have hsw := TW.out.sz
      have HTL : Hid (((l.take j).map hiT).length ≤ 1000000) := by have := len_le_countL l; have := HC.out; unfold Hid; rw [List.length_map, List.length_take]; omega
      have HBL : Hid (b < w.heap.size) := r3
      have CALL : Hid (Calls Try.prog 55 #[vN h' u'] wr.drew fun e w' => ∃ u6, e = .returned (vN (hiH h') u6) ∧ SV (fun b => wr.heap.size ≤ b) w' u6 (l'.map hiT) ∧ Below wr.drew.heap.size wr.drew w') := hIH wr.drew u' ((r4.below hbw).below ((Below.refl _ _).drew)) hct hsm
      obtain ⟨av', cp', b', o', hu', _⟩ := id r4
      subst hu'
      have RDL : Hid (∀ g, g = w.heap.size ∨ g = w.heap.size + 1 + 1 ∨ g = b → g < wr.heap.size) := fun g hg => by omega
      have RD0 : Hid (RdX w.heap.size ⟨k, c, x0, x1, x2, x3, nn, lo, hi⟩ ⟨k, c, x0, x1, x2, x3, nn + 1, lo, hi⟩ (.slice (some ⟨b, o, none⟩) n cp) (.slice va vl vc) b (o + j * 10) h' (.slice av' l'.length cp') wr.drew) := ⟨TW.out.b0.blk rfl, TW.out.b2.blk rfl, range_block (range_block r1 (hbw.block b r3)) rfl⟩
      have i1 : (j : Int) < (n : Int) := by omega
      have i0 : (0 : Int) ≤ (j : Int) := by omega
      have HLT : Hid (j < n) := hlt
      clear hmem hat hIH r1 r3 r4 ht hlt hct hbw hsw hsm
      go_wp2
      refine wp_region_noPanic ?_
      refine wp_region_M (m := 11) (S := RdX w.heap.size ⟨k, c, x0, x1, x2, x3, nn, lo, hi⟩ ⟨k, c, x0, x1, x2, x3, nn + 1, lo, hi⟩ (.slice (some ⟨b, o, none⟩) n cp) (.slice va vl vc) b (o + j * 10) h' (.slice av' l'.length cp')) (by kernel_rfl) (RD0.out) (fun hHeld => ?_)
      try simp only [Act.put, List.setIfInBounds_toArray, List.set_cons_zero, List.set_cons_succ]
      refine wpAnyM_take (i := 0) (oi := { dst := some 20, op := Go.Op.fieldAddr 55 (Go.Operand.tmp 3) 6, type := 0, pos := "law.go:76", after := #[], guard := none }) (v := ?_) rfl (by kernel_rfl) (by kernel_rfl) (by kernel_rfl) (by kernel_rfl) rfl (fun _ _ _ h => h) (Or.inl ⟨by rfl, ?_⟩) hHeld ?_
      rotate_left 1
      · (intro wq hSq; (try dsimp only at hSq); go_simp; first | done | with_reducible rfl)
      try simp only [Act.put, List.setIfInBounds_toArray, List.set_cons_zero, List.set_cons_succ]
      refine wpAnyM_take (i := 1) (oi := { dst := some 21, op := Go.Op.load 53 (Go.Operand.tmp 20), type := 53, pos := "law.go:76", after := #[{ on := 0, ground := Go.Ground.data }], guard := none }) (v := ?_) rfl (by kernel_rfl) (by kernel_rfl) (by kernel_rfl) (by kernel_rfl) rfl (fun _ _ _ h => h) (Or.inl ⟨by rfl, ?_⟩) hHeld ?_
      rotate_left 1
      · (intro wq hSq; (try dsimp only at hSq); have c := hSq.2.1.cell 9 _ rfl; go_simp; first | done | with_reducible rfl)
      try simp only [Act.put, List.setIfInBounds_toArray, List.set_cons_zero, List.set_cons_succ]
      refine wpAnyM_take (i := 2) (oi := { dst := some 22, op := Go.Op.fieldAddr 55 (Go.Operand.tmp 1) 6, type := 0, pos := "law.go:76", after := #[], guard := none }) (v := ?_) rfl (by kernel_rfl) (by kernel_rfl) (by kernel_rfl) (by kernel_rfl) rfl (fun _ _ _ h => h) (Or.inl ⟨by rfl, ?_⟩) hHeld ?_
      rotate_left 1
      · (intro wq hSq; (try dsimp only at hSq); go_simp; first | done | with_reducible rfl)
      try simp only [Act.put, List.setIfInBounds_toArray, List.set_cons_zero, List.set_cons_succ]
      refine wpAnyM_take (i := 3) (oi := { dst := some 23, op := Go.Op.load 53 (Go.Operand.tmp 22), type := 53, pos := "law.go:76", after := #[{ on := 2, ground := Go.Ground.data }], guard := none }) (v := ?_) rfl (by kernel_rfl) (by kernel_rfl) (by kernel_rfl) (by kernel_rfl) rfl (fun _ _ _ h => h) (Or.inl ⟨by rfl, ?_⟩) hHeld ?_
      rotate_left 1
      · (intro wq hSq; (try dsimp only at hSq); have c := hSq.1.cell 9 _ rfl; go_simp; first | done | with_reducible rfl)
      try simp only [Act.put, List.setIfInBounds_toArray, List.set_cons_zero, List.set_cons_succ]
      refine wpAnyM_take (i := 4) (oi := { dst := some 24, op := Go.Op.move (Go.Operand.tmp 4), type := 3, pos := "law.go:76", after := #[], guard := none }) (v := ?_) rfl (by kernel_rfl) (by kernel_rfl) (by kernel_rfl) (by kernel_rfl) rfl (fun _ _ _ h => h) (Or.inl ⟨by rfl, ?_⟩) hHeld ?_
      rotate_left 1
      · (intro wq hSq; (try dsimp only at hSq); go_simp; first | done | with_reducible rfl)
      try simp only [Act.put, List.setIfInBounds_toArray, List.set_cons_zero, List.set_cons_succ]
      refine wpAnyM_take (i := 5) (oi := { dst := some 25, op := Go.Op.indexAddr 53 (Go.Operand.tmp 23) (Go.Operand.tmp 24), type := 0, pos := "law.go:76", after := #[{ on := 3, ground := Go.Ground.data }, { on := 4, ground := Go.Ground.data }], guard := none }) (v := ?_) rfl (by kernel_rfl) (by kernel_rfl) (by kernel_rfl) (by kernel_rfl) rfl (fun _ _ _ h => h) (Or.inl ⟨by rfl, ?_⟩) hHeld ?_
      rotate_left 1
      · (intro wq hSq; (try dsimp only at hSq); go_simp; first | done | with_reducible rfl)
      try simp only [Act.put, List.setIfInBounds_toArray, List.set_cons_zero, List.set_cons_succ]
      refine wpAnyM_take (i := 6) (oi := { dst := some 26, op := Go.Op.load 55 (Go.Operand.tmp 25), type := 55, pos := "law.go:76", after := #[{ on := 5, ground := Go.Ground.data }], guard := none }) (v := vN h' (.slice av' l'.length cp')) rfl (by kernel_rfl) (by kernel_rfl) (by kernel_rfl) (by kernel_rfl) rfl (fun _ _ _ h => h) (yieldsIf_load_mid rfl 55 _ rfl b (o + j * 10) rfl (cN h' (.slice av' l'.length cp')) _ (fun wq hSq => hSq.2.2) Try.underlying55 rfl size55) hHeld ?_
      try simp only [Act.put, List.setIfInBounds_toArray, List.set_cons_zero, List.set_cons_succ]
      refine wpAnyM_one (i := 7) (o := { dst := some 27, op := Go.Op.call { callee := Go.Callee.value (Go.Operand.func 55), args := #[Go.Operand.tmp 26], argTypes := #[55] }, type := 55, pos := "law.go:76", after := #[{ on := 6, ground := Go.Ground.data }], guard := none }) (by kernel_rfl) rfl (fun K hK => ?_)
      go_simp
      refine CALL.out.mono ?_
      rintro e w6 ⟨u6, rfl, s6, b6⟩
      have B6 : Hid (Below wr.heap.size wr w6) := (((Below.refl _ _).drew).trans b6)
      have RD6 : Hid (RdX w.heap.size ⟨k, c, x0, x1, x2, x3, nn, lo, hi⟩ ⟨k, c, x0, x1, x2, x3, nn + 1, lo, hi⟩ (.slice (some ⟨b, o, none⟩) n cp) (.slice va vl vc) b (o + j * 10) h' (.slice av' l'.length cp') w6) := (by assumption : RdX w.heap.size ⟨k, c, x0, x1, x2, x3, nn, lo, hi⟩ ⟨k, c, x0, x1, x2, x3, nn + 1, lo, hi⟩ (.slice (some ⟨b, o, none⟩) n cp) (.slice va vl vc) b (o + j * 10) h' (.slice av' l'.length cp') wr.drew).step fun g hg => b6.block g (RDL.out g hg)
      have SV6 : Hid (SV (fun x => (w.heap.size + 1 + 1 + 1 ≤ x) ∧ some x ≠ (Value.slice va vl vc).ownBlock) w6 u6 (T.mk (hiH h') (l'.map hiT)).kids) := by
        unfold Hid; rw [T.kids_mk]
        exact s6.weak fun x hx _ => ⟨Nat.le_trans TW.out.sz hx, fun q => by have := (TW.out.own.low x q.symm).2; have hx2 : wr.heap.size ≤ x := hx; omega⟩
      have O6 : Hid (OwnT 55 (fun b => w.heap.size + 1 + 1 + 1 ≤ b) (w.heap.size + 1 + 1 + 1) w6 (.slice va vl vc) ((l.take j).map hiT)) := TW.out.own.below B6.out
      refine hK.out _ _ (fun _ => RD6.out) (fun hHeldQ => ?_)
      have hHeld1 := hHeldQ rfl
      clear hK K hHeldQ hHeld
      try simp only [Act.put, List.setIfInBounds_toArray, List.set_cons_zero, List.set_cons_succ]
      clear s6 b6
      refine wpAnyM_one (i := 8) (o := { dst := some 28, op := Go.Op.buildSlice 53 1 #[(0, Go.Operand.tmp 27)], type := 53, pos := "law.go:76", after := #[{ on := 7, ground := Go.Ground.data }], guard := none }) (by kernel_rfl) rfl (fun K hK => ?_)
      refine step_build55 rfl _ rfl (hiH h') u6 (by rfl) ?_
      refine hK.out _ _ (fun _ => RD6.out.step fun g hg => Below.heap_alloc _ _ _ (Nat.lt_of_lt_of_le (RDL.out g hg) B6.out.size)) (fun hHeldQ => ?_)
      have hHeld2 := hHeldQ rfl
      clear hK K hHeldQ hHeld1
      try simp only [Act.put, List.setIfInBounds_toArray, List.set_cons_zero, List.set_cons_succ]
      refine wpAnyM_one (i := 9) (o := { dst := some 29, op := Go.Op.call { callee := Go.Callee.builtin Go.Builtin.append, args := #[Go.Operand.tmp 21, Go.Operand.tmp 28], argTypes := #[53, 53] }, type := 53, pos := "law.go:76", after := #[{ on := 1, ground := Go.Ground.data }, { on := 8, ground := Go.Ground.data }, { on := 7, ground := Go.Ground.chain }], guard := none }) (by kernel_rfl) rfl (fun K hK => ?_)
      refine step_snoc55 rfl _ _ rfl (fun b => w.heap.size + 1 + 1 + 1 ≤ b) (w.heap.size + 1 + 1 + 1) (.slice va vl vc) ((l.take j).map hiT) (by rfl) O6.out (T.mk (hiH h') (l'.map hiT)) u6 SV6.out (by rfl) HTL.out (Nat.le_trans TW.out.sz B6.out.size) ?_
      intro v7 w7 O7 g7
      have RD7 : Hid (RdX w.heap.size ⟨k, c, x0, x1, x2, x3, nn, lo, hi⟩ ⟨k, c, x0, x1, x2, x3, nn + 1, lo, hi⟩ (.slice (some ⟨b, o, none⟩) n cp) (.slice va vl vc) b (o + j * 10) h' (.slice av' l'.length cp') w7) := TW.out.read B6.out _ g7 HBL.out RD6.out
      have TW7 := TW.out.next B6.out _ O7 g7
      obtain ⟨va7, vc7, e7⟩ := O7.form
      subst e7
      obtain ⟨vl7, hvl7⟩ : ∃ vl7, vl7 = ((l.take j).map hiT ++ [T.mk (hiH h') (l'.map hiT)]).length := ⟨_, rfl⟩
      rw [← hvl7] at TW7 ⊢
      have TW7 : Hid (ThX w _ ⟨k, c, x0, x1, x2, x3, nn, lo, hi⟩ ⟨k, c, x0, x1, x2, x3, nn + 1, lo, hi⟩ (.slice (some ⟨b, o, none⟩) n cp) (.slice va7 vl7 vc7) _) := TW7
      refine hK.out _ _ (fun _ => RD7.out) (fun hHeldQ => ?_)
      have hHeld3 := hHeldQ rfl
      clear hK K hHeldQ hHeld2
      try simp only [Act.put, List.setIfInBounds_toArray, List.set_cons_zero, List.set_cons_succ]
      clear O7 g7 hvl7 O6 SV6 CALL
      refine wpAnyM_take (i := 10) (oi := { dst := some 30, op := Go.Op.fieldAddr 55 (Go.Operand.tmp 3) 6, type := 0, pos := "law.go:76", after := #[{ on := 0, ground := Go.Ground.phase }, { on := 1, ground := Go.Ground.phase }, { on := 2, ground := Go.Ground.phase }, { on := 3, ground := Go.Ground.phase }, { on := 4, ground := Go.Ground.phase }, { on := 5, ground := Go.Ground.phase }, { on := 6, ground := Go.Ground.phase }, { on := 7, ground := Go.Ground.phase }, { on := 8, ground := Go.Ground.phase }, { on := 9, ground := Go.Ground.phase }], guard := none }) (v := ?_) rfl (by kernel_rfl) (by kernel_rfl) (by kernel_rfl) (by kernel_rfl) rfl (fun _ _ _ h => h) (Or.inl ⟨by rfl, ?_⟩) hHeld3 ?_
      rotate_left 1
      · (intro wq hSq; (try dsimp only at hSq); go_simp; first | done | with_reducible rfl)
      try simp only [Act.put, List.setIfInBounds_toArray, List.set_cons_zero, List.set_cons_succ]
      refine wpAnyM_one (i := 11) (o := { dst := none, op := Go.Op.store 53 (Go.Operand.tmp 30) (Go.Operand.tmp 29), type := 0, pos := "law.go:76", after := #[{ on := 10, ground := Go.Ground.data }, { on := 9, ground := Go.Ground.data }, { on := 9, ground := Go.Ground.chain }, { on := 0, ground := Go.Ground.phase }, { on := 1, ground := Go.Ground.phase }, { on := 2, ground := Go.Ground.phase }, { on := 3, ground := Go.Ground.phase }, { on := 4, ground := Go.Ground.phase }, { on := 5, ground := Go.Ground.phase }, { on := 6, ground := Go.Ground.phase }, { on := 7, ground := Go.Ground.phase }, { on := 8, ground := Go.Ground.phase }, { on := 9, ground := Go.Ground.phase }], guard := none }) (by kernel_rfl) rfl (fun K hK => ?_)
      have c7 := RD7.out.2.1.cell 9 _ rfl
      have f7 : w7.frozen? ⟨w.heap.size + 1 + 1, 9, none⟩ = false := unfrozen RD7.out.2.1
      go_simp
      refine hK.out _ _ (fun h => by cases h) (fun _ => ?_)
      clear hK K hHeld3
      try simp only [Act.put, List.setIfInBounds_toArray, List.set_cons_zero, List.set_cons_succ]
      refine wpAnyM_done (by kernel_rfl) ?_ _
      refine NoPanic.normal ?_
      go_wp2
      go_roundw
      case rel => exact ⟨j + 1, va7, vl7, vc7, by have := HLT.out; omega, by go_num, by rw [HTK.out]; exact TW7.out⟩
      case measure => have := HLT.out; simp [intOf]; omega
    · have i1 : ¬ (j : Int) < (n : Int) := by omega
      have TWE : Hid (ThX w wr ⟨k, c, x0, x1, x2, x3, nn, lo, hi⟩ ⟨k, c, x0, x1, x2, x3, nn + 1, lo, hi⟩ (.slice av n cp) (.slice va vl vc) (l.map hiT)) := by
        have q := TW.out
        rw [List.take_of_length_le (by rw [← HN.out]; omega)] at q
        exact q
      have HR : Hid (wr.rangeAt (w.heap.size + 1 + 1) 0 (cN ⟨k, c, x0, x1, x2, x3, nn + 1, lo, hi⟩ (.slice va vl vc))) := TW.out.b2.range
      clear hlt
      go_wp2_with (first | (refine loadN55 rfl _ rfl (w.heap.size + 1 + 1) 0 rfl ⟨k, c, x0, x1, x2, x3, nn + 1, lo, hi⟩ _ HR.out ?_) | (refine storeB55 rfl _ _ rfl (w.heap.size + 1) rfl ⟨k, c, x0, x1, x2, x3, nn + 1, lo, hi⟩ _ rfl rfl hd0 _ TWE.out.b1 ?_))
      exact bodyPost_ret (v := vN ⟨k, c, x0, x1, x2, x3, nn + 1, lo, hi⟩ (.slice va vl vc)) (res55 2 Try.results55 _ _ (w.heap.size + 1) _ _ rfl (TWE.out.b1.row _ _)) rfl ⟨_, rfl, (TWE.out.own.sv.weak (S' := fun b => w.heap.size + 1 + 1 + 1 ≤ b) (fun x hx _ => by rcases hx with hx | hx <;> exact hx)).keep (by simp [World.setRow]) (fun x hx _ => ⟨Nat.le_trans (by omega) hx, setRow_other _ _ _ _ (by omega)⟩), below_row TWE.out.bel (by omega) _⟩
set_option maxHeartbeats 2000000 in
set_option maxRecDepth 100000 in
theorem higher_other (hd : Hd) (l : List T) (ih : ∀ t ∈ l, ∀ (w : World) (u : Value), SV AnyB w u t.kids → countT t ≤ 1000000 → smallT t = true → Calls Try.prog 55 #[vN t.hd u] w fun e w' => ∃ u', e = .returned (vN (hiH t.hd) u') ∧ SV (fun b => w.heap.size ≤ b) w' u' (t.kids.map hiT) ∧ Below w.heap.size w w') (w : World) (u : Value) (hu : SV AnyB w u l) (hc : 1 + countL l ≤ 1000000) (hs : smallL l = true) (h6 : hd.k ≠ 6) : Calls Try.prog 55 #[vN hd u] w fun e w' => ∃ u', e = .returned (vN (hiH hd) u') ∧ SV (fun b => w.heap.size ≤ b) w' u' (l.map hiT) ∧ Below w.heap.size w w' := by
  obtain ⟨av, cp, b, o, rfl, h1, h2, h3, h4⟩ := hu
  have HH : Hid (hiH hd = ⟨hd.k, hd.c, hd.x0, hd.x1, hd.x2, hd.x3, hd.n, hd.lo, hd.hi⟩) := by unfold Hid hiH; rw [if_neg h6]
  rw [HH.out]
  obtain ⟨k, c, x0, x1, x2, x3, nn, lo, hi⟩ := hd
  simp only at h6 ⊢
  have e6 : (k == 6) = false := by simpa using h6
  obtain ⟨n, hn⟩ : ∃ n, n = l.length := ⟨_, rfl⟩
  have HN : Hid (n = l.length) := hn
  have HL : Hid (LAt AnyB w b o l) := h4
  have HA : Hid (0 < n → av = some ⟨b, o, none⟩) := by rw [hn]; exact h3
  have HC : Hid (1 + countL l ≤ 1000000) := hc
  have HSM : Hid (smallL l = true) := hs
  have IH : Hid (∀ t ∈ l, ∀ (w : World) (u : Value), SV AnyB w u t.kids → countT t ≤ 1000000 → smallT t = true → Calls Try.prog 55 #[vN t.hd u] w fun e w' => ∃ u', e = .returned (vN (hiH t.hd) u') ∧ SV (fun b => w.heap.size ≤ b) w' u' (t.kids.map hiT) ∧ Below w.heap.size w w') := ih
  rw [← hn] at h1 ⊢
  obtain ⟨U, hU⟩ : ∃ U, U = Value.slice av n cp := ⟨_, rfl⟩
  have HU : Hid (U = Value.slice av n cp) := hU
  have OU : Hid (U.oneCell' = true) := by rw [hU]; rfl
  obtain ⟨x3', y3', z3', b3', s3'⟩ := ThX.begin w ⟨k, c, x0, x1, x2, x3, nn, lo, hi⟩ U
  have Z2 : Hid (BoxN 55 (((w.alloc (.cells (cN ⟨k, c, x0, x1, x2, x3, nn, lo, hi⟩ U).toArray 55)).alloc (.cells (cN hd0 (.slice none 0 0)).toArray 55)).alloc (.cells (cN hd0 (.slice none 0 0)).toArray 55)) (w.heap.size + 1 + 1) hd0 (.slice none 0 0)) := (three_zero w ⟨k, c, x0, x1, x2, x3, nn, lo, hi⟩ U).2.2.1
  have X1 : Hid (BoxN 55 ((w.alloc (.cells (cN ⟨k, c, x0, x1, x2, x3, nn, lo, hi⟩ U).toArray 55)).alloc (.cells (cN hd0 (.slice none 0 0)).toArray 55)) w.heap.size ⟨k, c, x0, x1, x2, x3, nn, lo, hi⟩ U) := (two_boxes' w ⟨k, c, x0, x1, x2, x3, nn, lo, hi⟩ hd0 U (.slice none 0 0)).1
  have H3 : Hid (∃ W, W = (((w.alloc (.cells #[.int .i64 k, .int .u8 (c : Int), .int .u64 (x0 : Int), .int .u64 x1, .int .u64 x2, .int .u64 x3, .int .i64 nn, .int .i64 lo, .int .i64 hi, U] 55)).alloc (.cells #[.int .i64 0, .int .u8 0, .int .u64 0, .int .u64 0, .int .u64 0, .int .u64 0, .int .i64 0, .int .i64 0, .int .i64 0, .slice none 0 0] 55)).alloc (.cells #[.int .i64 0, .int .u8 0, .int .u64 0, .int .u64 0, .int .u64 0, .int .u64 0, .int .i64 0, .int .i64 0, .int .i64 0, .slice none 0 0] 55)).setRow (w.heap.size + 1 + 1) (cN ⟨k, c, x0, x1, x2, x3, nn, lo, hi⟩ U).toArray ∧ BoxN 55 W w.heap.size ⟨k, c, x0, x1, x2, x3, nn, lo, hi⟩ U ∧ BoxN 55 W (w.heap.size + 1) hd0 (.slice none 0 0) ∧ BoxN 55 W (w.heap.size + 1 + 1) ⟨k, c, x0, x1, x2, x3, nn, lo, hi⟩ U ∧ Below w.heap.size w W ∧ W.heap.size = w.heap.size + 1 + 1 + 1) := ⟨_, rfl, x3', y3', z3', b3', s3'⟩
  rw [← hU]
  clear hn h3 h4 hc ih hs h6 HH x3' y3' z3' b3' s3' hU
  change Calls Try.prog 55 #[.agg #[.int .i64 k, .int .u8 (c : Int), .int .u64 (x0 : Int), .int .u64 x1, .int .u64 x2, .int .u64 x3, .int .i64 nn, .int .i64 lo, .int .i64 hi, U]] w _
  go_enter Try.func55, Try.ntmps55
  go_wp2_with (first | (refine loadN55 rfl _ rfl w.heap.size 0 rfl ⟨k, c, x0, x1, x2, x3, nn, lo, hi⟩ _ X1.out.range ?_) | (refine storeB55 rfl _ _ rfl (w.heap.size + 1 + 1) rfl ⟨k, c, x0, x1, x2, x3, nn, lo, hi⟩ U OU.out rfl hd0 _ Z2.out ?_; obtain ⟨w3, hw3, p3, q3, z3, b3, s3⟩ := H3.out; rw [← hw3]; clear hw3 H3 X1 Z2; rw [HU.out] at p3 z3 ⊢; clear OU HU; have c6 := z3.cell 6 _ rfl; have c0 := p3.cell 0 _ rfl; have d6 := p3.cell 6 _ rfl; have d9 := p3.cell 9 _ rfl; have c9 := z3.cell 9 _ rfl; have f9 : w3.frozen? ⟨w.heap.size + 1 + 1, 9, none⟩ = false := unfrozen z3; have f6 : w3.frozen? ⟨w.heap.size + 1 + 1, 6, none⟩ = false := unfrozen z3; have TW0 : Hid (ThX w (w3.setCell ⟨w.heap.size + 1 + 1, 9, none⟩ (.slice none 0 0)) ⟨k, c, x0, x1, x2, x3, nn, lo, hi⟩ ⟨k, c, x0, x1, x2, x3, nn, lo, hi⟩ (.slice av n cp) (.slice none 0 0) []) := ⟨(p3).blk (Below.heap_setCell _ _ _ _ (by show w.heap.size ≠ w.heap.size + 1 + 1; omega)), (q3).blk (Below.heap_setCell _ _ _ _ (by show w.heap.size + 1 ≠ w.heap.size + 1 + 1; omega)), z3.set9 (.slice none 0 0), OwnT.nil _ _ _ _, b3.setCell (p := ⟨w.heap.size + 1 + 1, 9, none⟩) (by show w.heap.size ≤ w.heap.size + 1 + 1; omega) _, by simp only [size_set0x]; omega⟩; clear p3 q3 z3 b3 s3))
  go_loopw [17] (fun i wr => ∃ (j : Nat) (va : Option Addr) (vl vc : Nat), j ≤ n ∧ i = .int .i64 j ∧ Hid (ThX w wr ⟨k, c, x0, x1, x2, x3, nn, lo, hi⟩ ⟨k, c, x0, x1, x2, x3, nn, lo, hi⟩ (.slice av n cp) (.slice va vl vc) ((l.take j).map hiT))) (fun i _ => n - (intOf i).toNat)
  case atStart => exact ⟨0, none, 0, 0, by omega, rfl, TW0.out⟩
  case round =>
    obtain ⟨j, va, vl, vc, hj, rfl, TW⟩ := hrel
    by_cases hlt : j < n
    · obtain rfl := HA.out (by omega)
      obtain ⟨t, ht⟩ : ∃ t, l[j]? = some t := ⟨l[j]'(by rw [← HN.out]; exact hlt), List.getElem?_eq_getElem (by rw [← HN.out]; exact hlt)⟩
      have hmem := List.mem_of_getElem? ht
      have hat := HL.out.get ht
      have hct : countT t ≤ 1000000 := by have := count_mem hmem; have := HC.out; omega
      have hIH := IH.out t hmem
      have hsm := small_mem hmem HSM.out
      have HTK := take_snocT l j t ht
      obtain ⟨h', l', rfl⟩ := t.out
      rw [T.hd_mk, T.kids_mk] at hIH
      have HTK : Hid ((l.take (j + 1)).map hiT = (l.take j).map hiT ++ [T.mk (hiH h') (l'.map hiT)]) := by unfold Hid; rw [HTK, List.map_append, List.map_cons, List.map_nil, hiT_mk]
      obtain ⟨u', r1, _, r3, r4⟩ := hat.out
      have hbw := TW.out.bel
      have hsw := TW.out.sz
      have HTL : Hid (((l.take j).map hiT).length ≤ 1000000) := by have := len_le_countL l; have := HC.out; unfold Hid; rw [List.length_map, List.length_take]; omega
      have HBL : Hid (b < w.heap.size) := r3
      have CALL : Hid (Calls Try.prog 55 #[vN h' u'] wr.drew fun e w' => ∃ u6, e = .returned (vN (hiH h') u6) ∧ SV (fun b => wr.heap.size ≤ b) w' u6 (l'.map hiT) ∧ Below wr.drew.heap.size wr.drew w') := hIH wr.drew u' ((r4.below hbw).below ((Below.refl _ _).drew)) hct hsm
      obtain ⟨av', cp', b', o', hu', _⟩ := id r4
      subst hu'
      have RDL : Hid (∀ g, g = w.heap.size ∨ g = w.heap.size + 1 + 1 ∨ g = b → g < wr.heap.size) := fun g hg => by omega
      have RD0 : Hid (RdX w.heap.size ⟨k, c, x0, x1, x2, x3, nn, lo, hi⟩ ⟨k, c, x0, x1, x2, x3, nn, lo, hi⟩ (.slice (some ⟨b, o, none⟩) n cp) (.slice va vl vc) b (o + j * 10) h' (.slice av' l'.length cp') wr.drew) := ⟨TW.out.b0.blk rfl, TW.out.b2.blk rfl, range_block (range_block r1 (hbw.block b r3)) rfl⟩
      have i1 : (j : Int) < (n : Int) := by omega
      have i0 : (0 : Int) ≤ (j : Int) := by omega
      have HLT : Hid (j < n) := hlt
      clear hmem hat hIH r1 r3 r4 ht hlt hct hbw hsw hsm
      go_wp2
      refine wp_region_noPanic ?_
      refine wp_region_M (m := 11) (S := RdX w.heap.size ⟨k, c, x0, x1, x2, x3, nn, lo, hi⟩ ⟨k, c, x0, x1, x2, x3, nn, lo, hi⟩ (.slice (some ⟨b, o, none⟩) n cp) (.slice va vl vc) b (o + j * 10) h' (.slice av' l'.length cp')) (by kernel_rfl) (RD0.out) (fun hHeld => ?_)
      try simp only [Act.put, List.setIfInBounds_toArray, List.set_cons_zero, List.set_cons_succ]
      refine wpAnyM_take (i := 0) (oi := { dst := some 20, op := Go.Op.fieldAddr 55 (Go.Operand.tmp 3) 6, type := 0, pos := "law.go:76", after := #[], guard := none }) (v := ?_) rfl (by kernel_rfl) (by kernel_rfl) (by kernel_rfl) (by kernel_rfl) rfl (fun _ _ _ h => h) (Or.inl ⟨by rfl, ?_⟩) hHeld ?_
      rotate_left 1
      · (intro wq hSq; (try dsimp only at hSq); go_simp; first | done | with_reducible rfl)
      try simp only [Act.put, List.setIfInBounds_toArray, List.set_cons_zero, List.set_cons_succ]
      refine wpAnyM_take (i := 1) (oi := { dst := some 21, op := Go.Op.load 53 (Go.Operand.tmp 20), type := 53, pos := "law.go:76", after := #[{ on := 0, ground := Go.Ground.data }], guard := none }) (v := ?_) rfl (by kernel_rfl) (by kernel_rfl) (by kernel_rfl) (by kernel_rfl) rfl (fun _ _ _ h => h) (Or.inl ⟨by rfl, ?_⟩) hHeld ?_
      rotate_left 1
      · (intro wq hSq; (try dsimp only at hSq); have c := hSq.2.1.cell 9 _ rfl; go_simp; first | done | with_reducible rfl)
      try simp only [Act.put, List.setIfInBounds_toArray, List.set_cons_zero, List.set_cons_succ]
      refine wpAnyM_take (i := 2) (oi := { dst := some 22, op := Go.Op.fieldAddr 55 (Go.Operand.tmp 1) 6, type := 0, pos := "law.go:76", after := #[], guard := none }) (v := ?_) rfl (by kernel_rfl) (by kernel_rfl) (by kernel_rfl) (by kernel_rfl) rfl (fun _ _ _ h => h) (Or.inl ⟨by rfl, ?_⟩) hHeld ?_
      rotate_left 1
      · (intro wq hSq; (try dsimp only at hSq); go_simp; first | done | with_reducible rfl)
      try simp only [Act.put, List.setIfInBounds_toArray, List.set_cons_zero, List.set_cons_succ]
      refine wpAnyM_take (i := 3) (oi := { dst := some 23, op := Go.Op.load 53 (Go.Operand.tmp 22), type := 53, pos := "law.go:76", after := #[{ on := 2, ground := Go.Ground.data }], guard := none }) (v := ?_) rfl (by kernel_rfl) (by kernel_rfl) (by kernel_rfl) (by kernel_rfl) rfl (fun _ _ _ h => h) (Or.inl ⟨by rfl, ?_⟩) hHeld ?_
      rotate_left 1
      · (intro wq hSq; (try dsimp only at hSq); have c := hSq.1.cell 9 _ rfl; go_simp; first | done | with_reducible rfl)
      try simp only [Act.put, List.setIfInBounds_toArray, List.set_cons_zero, List.set_cons_succ]
      refine wpAnyM_take (i := 4) (oi := { dst := some 24, op := Go.Op.move (Go.Operand.tmp 4), type := 3, pos := "law.go:76", after := #[], guard := none }) (v := ?_) rfl (by kernel_rfl) (by kernel_rfl) (by kernel_rfl) (by kernel_rfl) rfl (fun _ _ _ h => h) (Or.inl ⟨by rfl, ?_⟩) hHeld ?_
      rotate_left 1
      · (intro wq hSq; (try dsimp only at hSq); go_simp; first | done | with_reducible rfl)
      try simp only [Act.put, List.setIfInBounds_toArray, List.set_cons_zero, List.set_cons_succ]
      refine wpAnyM_take (i := 5) (oi := { dst := some 25, op := Go.Op.indexAddr 53 (Go.Operand.tmp 23) (Go.Operand.tmp 24), type := 0, pos := "law.go:76", after := #[{ on := 3, ground := Go.Ground.data }, { on := 4, ground := Go.Ground.data }], guard := none }) (v := ?_) rfl (by kernel_rfl) (by kernel_rfl) (by kernel_rfl) (by kernel_rfl) rfl (fun _ _ _ h => h) (Or.inl ⟨by rfl, ?_⟩) hHeld ?_
      rotate_left 1
      · (intro wq hSq; (try dsimp only at hSq); go_simp; first | done | with_reducible rfl)
      try simp only [Act.put, List.setIfInBounds_toArray, List.set_cons_zero, List.set_cons_succ]
      refine wpAnyM_take (i := 6) (oi := { dst := some 26, op := Go.Op.load 55 (Go.Operand.tmp 25), type := 55, pos := "law.go:76", after := #[{ on := 5, ground := Go.Ground.data }], guard := none }) (v := vN h' (.slice av' l'.length cp')) rfl (by kernel_rfl) (by kernel_rfl) (by kernel_rfl) (by kernel_rfl) rfl (fun _ _ _ h => h) (yieldsIf_load_mid rfl 55 _ rfl b (o + j * 10) rfl (cN h' (.slice av' l'.length cp')) _ (fun wq hSq => hSq.2.2) Try.underlying55 rfl size55) hHeld ?_
      try simp only [Act.put, List.setIfInBounds_toArray, List.set_cons_zero, List.set_cons_succ]
      refine wpAnyM_one (i := 7) (o := { dst := some 27, op := Go.Op.call { callee := Go.Callee.value (Go.Operand.func 55), args := #[Go.Operand.tmp 26], argTypes := #[55] }, type := 55, pos := "law.go:76", after := #[{ on := 6, ground := Go.Ground.data }], guard := none }) (by kernel_rfl) rfl (fun K hK => ?_)
      go_simp
      refine CALL.out.mono ?_
      rintro e w6 ⟨u6, rfl, s6, b6⟩
      have B6 : Hid (Below wr.heap.size wr w6) := (((Below.refl _ _).drew).trans b6)
      have RD6 : Hid (RdX w.heap.size ⟨k, c, x0, x1, x2, x3, nn, lo, hi⟩ ⟨k, c, x0, x1, x2, x3, nn, lo, hi⟩ (.slice (some ⟨b, o, none⟩) n cp) (.slice va vl vc) b (o + j * 10) h' (.slice av' l'.length cp') w6) := (by assumption : RdX w.heap.size ⟨k, c, x0, x1, x2, x3, nn, lo, hi⟩ ⟨k, c, x0, x1, x2, x3, nn, lo, hi⟩ (.slice (some ⟨b, o, none⟩) n cp) (.slice va vl vc) b (o + j * 10) h' (.slice av' l'.length cp') wr.drew).step fun g hg => b6.block g (RDL.out g hg)
      have SV6 : Hid (SV (fun x => (w.heap.size + 1 + 1 + 1 ≤ x) ∧ some x ≠ (Value.slice va vl vc).ownBlock) w6 u6 (T.mk (hiH h') (l'.map hiT)).kids) := by
        unfold Hid; rw [T.kids_mk]
        exact s6.weak fun x hx _ => ⟨Nat.le_trans TW.out.sz hx, fun q => by have := (TW.out.own.low x q.symm).2; have hx2 : wr.heap.size ≤ x := hx; omega⟩
      have O6 : Hid (OwnT 55 (fun b => w.heap.size + 1 + 1 + 1 ≤ b) (w.heap.size + 1 + 1 + 1) w6 (.slice va vl vc) ((l.take j).map hiT)) := TW.out.own.below B6.out
      refine hK.out _ _ (fun _ => RD6.out) (fun hHeldQ => ?_)
      have hHeld1 := hHeldQ rfl
      clear hK K hHeldQ hHeld
      try simp only [Act.put, List.setIfInBounds_toArray, List.set_cons_zero, List.set_cons_succ]
      clear s6 b6
      refine wpAnyM_one (i := 8) (o := { dst := some 28, op := Go.Op.buildSlice 53 1 #[(0, Go.Operand.tmp 27)], type := 53, pos := "law.go:76", after := #[{ on := 7, ground := Go.Ground.data }], guard := none }) (by kernel_rfl) rfl (fun K hK => ?_)
      refine step_build55 rfl _ rfl (hiH h') u6 (by rfl) ?_
      refine hK.out _ _ (fun _ => RD6.out.step fun g hg => Below.heap_alloc _ _ _ (Nat.lt_of_lt_of_le (RDL.out g hg) B6.out.size)) (fun hHeldQ => ?_)
      have hHeld2 := hHeldQ rfl
      clear hK K hHeldQ hHeld1
      try simp only [Act.put, List.setIfInBounds_toArray, List.set_cons_zero, List.set_cons_succ]
      refine wpAnyM_one (i := 9) (o := { dst := some 29, op := Go.Op.call { callee := Go.Callee.builtin Go.Builtin.append, args := #[Go.Operand.tmp 21, Go.Operand.tmp 28], argTypes := #[53, 53] }, type := 53, pos := "law.go:76", after := #[{ on := 1, ground := Go.Ground.data }, { on := 8, ground := Go.Ground.data }, { on := 7, ground := Go.Ground.chain }], guard := none }) (by kernel_rfl) rfl (fun K hK => ?_)
      refine step_snoc55 rfl _ _ rfl (fun b => w.heap.size + 1 + 1 + 1 ≤ b) (w.heap.size + 1 + 1 + 1) (.slice va vl vc) ((l.take j).map hiT) (by rfl) O6.out (T.mk (hiH h') (l'.map hiT)) u6 SV6.out (by rfl) HTL.out (Nat.le_trans TW.out.sz B6.out.size) ?_
      intro v7 w7 O7 g7
      have RD7 : Hid (RdX w.heap.size ⟨k, c, x0, x1, x2, x3, nn, lo, hi⟩ ⟨k, c, x0, x1, x2, x3, nn, lo, hi⟩ (.slice (some ⟨b, o, none⟩) n cp) (.slice va vl vc) b (o + j * 10) h' (.slice av' l'.length cp') w7) := TW.out.read B6.out _ g7 HBL.out RD6.out
      have TW7 := TW.out.next B6.out _ O7 g7
      obtain ⟨va7, vc7, e7⟩ := O7.form
      subst e7
      obtain ⟨vl7, hvl7⟩ : ∃ vl7, vl7 = ((l.take j).map hiT ++ [T.mk (hiH h') (l'.map hiT)]).length := ⟨_, rfl⟩
      rw [← hvl7] at TW7 ⊢
      have TW7 : Hid (ThX w _ ⟨k, c, x0, x1, x2, x3, nn, lo, hi⟩ ⟨k, c, x0, x1, x2, x3, nn, lo, hi⟩ (.slice (some ⟨b, o, none⟩) n cp) (.slice va7 vl7 vc7) _) := TW7
      refine hK.out _ _ (fun _ => RD7.out) (fun hHeldQ => ?_)
      have hHeld3 := hHeldQ rfl
      clear hK K hHeldQ hHeld2
      try simp only [Act.put, List.setIfInBounds_toArray, List.set_cons_zero, List.set_cons_succ]
      clear O7 g7 hvl7 O6 SV6 CALL
      refine wpAnyM_take (i := 10) (oi := { dst := some 30, op := Go.Op.fieldAddr 55 (Go.Operand.tmp 3) 6, type := 0, pos := "law.go:76", after := #[{ on := 0, ground := Go.Ground.phase }, { on := 1, ground := Go.Ground.phase }, { on := 2, ground := Go.Ground.phase }, { on := 3, ground := Go.Ground.phase }, { on := 4, ground := Go.Ground.phase }, { on := 5, ground := Go.Ground.phase }, { on := 6, ground := Go.Ground.phase }, { on := 7, ground := Go.Ground.phase }, { on := 8, ground := Go.Ground.phase }, { on := 9, ground := Go.Ground.phase }], guard := none }) (v := ?_) rfl (by kernel_rfl) (by kernel_rfl) (by kernel_rfl) (by kernel_rfl) rfl (fun _ _ _ h => h) (Or.inl ⟨by rfl, ?_⟩) hHeld3 ?_
      rotate_left 1
      · (intro wq hSq; (try dsimp only at hSq); go_simp; first | done | with_reducible rfl)
      try simp only [Act.put, List.setIfInBounds_toArray, List.set_cons_zero, List.set_cons_succ]
      refine wpAnyM_one (i := 11) (o := { dst := none, op := Go.Op.store 53 (Go.Operand.tmp 30) (Go.Operand.tmp 29), type := 0, pos := "law.go:76", after := #[{ on := 10, ground := Go.Ground.data }, { on := 9, ground := Go.Ground.data }, { on := 9, ground := Go.Ground.chain }, { on := 0, ground := Go.Ground.phase }, { on := 1, ground := Go.Ground.phase }, { on := 2, ground := Go.Ground.phase }, { on := 3, ground := Go.Ground.phase }, { on := 4, ground := Go.Ground.phase }, { on := 5, ground := Go.Ground.phase }, { on := 6, ground := Go.Ground.phase }, { on := 7, ground := Go.Ground.phase }, { on := 8, ground := Go.Ground.phase }, { on := 9, ground := Go.Ground.phase }], guard := none }) (by kernel_rfl) rfl (fun K hK => ?_)
      have c7 := RD7.out.2.1.cell 9 _ rfl
      have f7 : w7.frozen? ⟨w.heap.size + 1 + 1, 9, none⟩ = false := unfrozen RD7.out.2.1
      go_simp
      refine hK.out _ _ (fun h => by cases h) (fun _ => ?_)
      clear hK K hHeld3
      try simp only [Act.put, List.setIfInBounds_toArray, List.set_cons_zero, List.set_cons_succ]
      refine wpAnyM_done (by kernel_rfl) ?_ _
      refine NoPanic.normal ?_
      go_wp2
      go_roundw
      case rel => exact ⟨j + 1, va7, vl7, vc7, by have := HLT.out; omega, by go_num, by rw [HTK.out]; exact TW7.out⟩
      case measure => have := HLT.out; simp [intOf]; omega
    · have i1 : ¬ (j : Int) < (n : Int) := by omega
      have TWE : Hid (ThX w wr ⟨k, c, x0, x1, x2, x3, nn, lo, hi⟩ ⟨k, c, x0, x1, x2, x3, nn, lo, hi⟩ (.slice av n cp) (.slice va vl vc) (l.map hiT)) := by
        have q := TW.out
        rw [List.take_of_length_le (by rw [← HN.out]; omega)] at q
        exact q
      have HR : Hid (wr.rangeAt (w.heap.size + 1 + 1) 0 (cN ⟨k, c, x0, x1, x2, x3, nn, lo, hi⟩ (.slice va vl vc))) := TW.out.b2.range
      clear hlt
      go_wp2_with (first | (refine loadN55 rfl _ rfl (w.heap.size + 1 + 1) 0 rfl ⟨k, c, x0, x1, x2, x3, nn, lo, hi⟩ _ HR.out ?_) | (refine storeB55 rfl _ _ rfl (w.heap.size + 1) rfl ⟨k, c, x0, x1, x2, x3, nn, lo, hi⟩ _ rfl rfl hd0 _ TWE.out.b1 ?_))
      exact bodyPost_ret (v := vN ⟨k, c, x0, x1, x2, x3, nn, lo, hi⟩ (.slice va vl vc)) (res55 2 Try.results55 _ _ (w.heap.size + 1) _ _ rfl (TWE.out.b1.row _ _)) rfl ⟨_, rfl, (TWE.out.own.sv.weak (S' := fun b => w.heap.size + 1 + 1 + 1 ≤ b) (fun x hx _ => by rcases hx with hx | hx <;> exact hx)).keep (by simp [World.setRow]) (fun x hx _ => ⟨Nat.le_trans (by omega) hx, setRow_other _ _ _ _ (by omega)⟩), below_row TWE.out.bel (by omega) _⟩
theorem higher_any (t : T) : ∀ (w : World) (u : Value), SV AnyB w u t.kids → countT t ≤ 1000000 → smallT t = true → Calls Try.prog 55 #[vN t.hd u] w fun e w' => ∃ u', e = .returned (vN (hiH t.hd) u') ∧ SV (fun b => w.heap.size ≤ b) w' u' (t.kids.map hiT) ∧ Below w.heap.size w w' := by
  induction t using T.ind; rename_i hd l ih; intro w u hu hc hs
  rw [T.kids_mk] at hu
  rw [T.hd_mk, T.kids_mk]
  rw [smallT_mk, Bool.and_eq_true] at hs
  by_cases h6 : hd.k = 6
  · exact higher_six hd l ih w u hu hc hs.2 h6 (of_decide_eq_true hs.1 h6)
  · exact higher_other hd l ih w u hu hc hs.2 h6
end Go.Proofs.Ytndmjndokokmnaa
