import Derived.Test.YtndmjndokokmnaaKa
namespace Go.Proofs.Ytndmjndokokmnaa
set_option linter.unusedSimpArgs false
set_option linter.unusedVariables false
open Go.RowKit
open Go.Deep
theorem two_boxes (E : TypeId) (w : World) (h g : Hd) (u v : Value) : BoxN E ((w.alloc (.cells (cN h u).toArray E)).alloc (.cells (cN g v).toArray E)) w.heap.size h u ∧ BoxN E ((w.alloc (.cells (cN h u).toArray E)).alloc (.cells (cN g v).toArray E)) (w.heap.size + 1) g v ∧ Below w.heap.size w ((w.alloc (.cells (cN h u).toArray E)).alloc (.cells (cN g v).toArray E)) ∧ ((w.alloc (.cells (cN h u).toArray E)).alloc (.cells (cN g v).toArray E)).heap.size = w.heap.size + 1 + 1 := by
  have hz1 : (w.alloc (.cells (cN h u).toArray E)).heap.size = w.heap.size + 1 := by simp
  refine ⟨(BoxN.new E w h u).blk (Below.heap_alloc _ _ _ (by simp)), ?_, ((Below.refl _ _).alloc (Nat.le_refl _) _).alloc (by rw [hz1]; omega) _, by simp⟩
  have := BoxN.new E (w.alloc (.cells (cN h u).toArray E)) g v
  rw [hz1] at this; exact this
set_option maxHeartbeats 1000000 in
set_option maxRecDepth 100000 in
theorem copyOf_any (t : T) : CopyP t := by
  induction t using T.ind; rename_i hd l ih; intro w u hu hc
  rw [T.kids_mk] at hu ⊢
  rw [T.hd_mk]
  have hcl : countL l ≤ 1000000 := by have : 1 + countL l ≤ 1000000 := hc; omega
  obtain ⟨x1, y1, bb, sz⟩ := two_boxes 55 w hd hd0 u (.slice none 0 0)
  have COP : Hid (∀ W, Below w.heap.size w W → Calls Try.prog 89 #[u] W fun e w' => ∃ u', e = .returned u' ∧ SV (fun b => W.heap.size ≤ b) w' u' l ∧ Below W.heap.size W w') := fun W hW => copies_of l ih hcl W u (hu.below hW)
  have X1 : Hid (BoxN 55 ((w.alloc (.cells (cN hd u).toArray 55)).alloc (.cells (cN hd0 (.slice none 0 0)).toArray 55)) w.heap.size hd u) := x1
  have Y1 : Hid (BoxN 55 ((w.alloc (.cells (cN hd u).toArray 55)).alloc (.cells (cN hd0 (.slice none 0 0)).toArray 55)) (w.heap.size + 1) hd0 (.slice none 0 0)) := y1
  have B1 : Hid (Below w.heap.size w ((w.alloc (.cells (cN hd u).toArray 55)).alloc (.cells (cN hd0 (.slice none 0 0)).toArray 55))) := bb
  have Z1 : Hid (((w.alloc (.cells (cN hd u).toArray 55)).alloc (.cells (cN hd0 (.slice none 0 0)).toArray 55)).heap.size = w.heap.size + 1 + 1) := sz
  have a9 := X1.out.cell 9 _ rfl
  clear x1 y1 bb sz hu hc hcl ih
  obtain ⟨k, c, x0, x1, x2, x3, nn, lo, hi⟩ := hd
  change Calls Try.prog 90 #[.agg #[.int .i64 k, .int .u8 (c : Int), .int .u64 (x0 : Int), .int .u64 x1, .int .u64 x2, .int .u64 x3, .int .i64 nn, .int .i64 lo, .int .i64 hi, u]] w _
  go_enter Try.func90, Try.ntmps90
  go_wp2_with (first | (go_at_call 89; refine (COP.out _ B1.out).mono ?_; rintro e w3 ⟨u3, rfl, s3, b3⟩; obtain ⟨av3, cp3, bb3, oo3, hu3, hr3⟩ := id s3; clear hr3; subst hu3; have X3 := X1.out.below b3 X1.out.lt; have Y3 := Y1.out.below b3 Y1.out.lt; have B3 : Hid (Below w.heap.size w w3) := B1.out.trans (b3.mono B1.out.size); have S3 : Hid (SV (fun b => w.heap.size + 1 + 1 ≤ b) w3 (.slice av3 l.length cp3) l) := (by have q := s3; rw [Z1.out] at q; exact q); have O3 : Hid ((Value.slice av3 l.length cp3).oneCell' = true) := s3.one; have c9 := X3.cell 9 _ rfl; have f9 : w3.frozen? ⟨w.heap.size, 9, none⟩ = false := unfrozen X3; have X4 : Hid (BoxN 55 (w3.setCell ⟨w.heap.size, 9, none⟩ (.slice av3 l.length cp3)) w.heap.size ⟨k, c, x0, x1, x2, x3, nn, lo, hi⟩ (.slice av3 l.length cp3)) := X3.set9 (.slice av3 l.length cp3); have Y4 : Hid (BoxN 55 (w3.setCell ⟨w.heap.size, 9, none⟩ (.slice av3 l.length cp3)) (w.heap.size + 1) hd0 (.slice none 0 0)) := Y3.blk (Below.heap_setCell _ _ _ _ (by show w.heap.size + 1 ≠ w.heap.size; omega)); have X3 : Hid True := trivial; have Y3 : Hid True := trivial; clear s3 b3) | (refine loadN55 rfl _ rfl w.heap.size 0 rfl ⟨k, c, x0, x1, x2, x3, nn, lo, hi⟩ _ X4.out.range ?_) | (refine storeB55 rfl _ _ rfl (w.heap.size + 1) rfl ⟨k, c, x0, x1, x2, x3, nn, lo, hi⟩ _ O3.out rfl hd0 _ Y4.out ?_))
  have hz : (w3.setCell ⟨w.heap.size, 9, none⟩ (.slice av3 l.length cp3)).heap.size = w3.heap.size := by simp [World.setCell]
  have B4 : Below w.heap.size w ((w3.setCell ⟨w.heap.size, 9, none⟩ (.slice av3 l.length cp3)).setRow (w.heap.size + 1) (cN ⟨k, c, x0, x1, x2, x3, nn, lo, hi⟩ (.slice av3 l.length cp3)).toArray) := below_row (B3.out.setCell (p := ⟨w.heap.size, 9, none⟩) (Nat.le_refl _) (.slice av3 l.length cp3)) (by omega) _
  have S4 : SV (fun b => w.heap.size ≤ b) ((w3.setCell ⟨w.heap.size, 9, none⟩ (.slice av3 l.length cp3)).setRow (w.heap.size + 1) (cN ⟨k, c, x0, x1, x2, x3, nn, lo, hi⟩ (.slice av3 l.length cp3)).toArray) (.slice av3 l.length cp3) l := S3.out.keep (by simp [World.setRow, World.setCell]) fun b q1 _ => ⟨by omega, by rw [setRow_other _ _ _ _ (by omega), Below.heap_setCell _ _ _ _ (by show b ≠ w.heap.size; omega)]⟩
  exact bodyPost_ret (v := vN ⟨k, c, x0, x1, x2, x3, nn, lo, hi⟩ (.slice av3 l.length cp3)) (res55 2 Try.results90 _ _ (w.heap.size + 1) _ _ rfl (Y4.out.row _ _)) rfl ⟨_, rfl, S4, B4⟩
/-- What copies answers. -/
theorem copies_any (l : List T) (hc : countL l ≤ 1000000) (w : World) (u : Value) (hu : SV AnyB w u l) : Calls Try.prog 89 #[u] w fun e w' => ∃ u', e = .returned u' ∧ SV (fun b => w.heap.size ≤ b) w' u' l ∧ Below w.heap.size w w' := copies_of l (fun t _ => copyOf_any t) hc w u hu
end Go.Proofs.Ytndmjndokokmnaa
