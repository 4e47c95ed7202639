import Derived.Test.YtndmjndokokmnaaRe
namespace Go.Proofs.Ytndmjndokokmnaa
set_option linter.unusedSimpArgs false
set_option linter.unusedVariables false
open Go.RowKit
open Go.Deep
/-- The pattern's function answers as grp says, of texts shorter than n. -/
def PatC (grp : Nat → List UInt8 → Except (List UInt8) (T × Nat × List UInt8)) (n : Nat) : Prop := ∀ (g k : Nat) (l : List UInt8) (w : World), RG w g l k → l.length < n → l.length ≤ 900000 → MaxL w → 0 < g → k ≤ 9 →
  Calls Try.prog 73 #[.pointer (some ⟨g, 0, none⟩)] w (TreO (fun b => w.heap.size ≤ b) (grp k l) w g)
set_option maxHeartbeats 2000000 in
set_option maxRecDepth 100000 in
theorem group_nine (g : Nat) (l : List UInt8) (w : World) (hr : RG w g l 9) : Calls Try.prog 130 #[.pointer (some ⟨g, 0, none⟩)] w (TreO (fun b => w.heap.size ≤ b) (.error l) w g) := by
  have HR : Hid (RG w g l 9) := hr
  obtain ⟨s, hc, hs, hc1, hf, hf1, hg⟩ := hr
  have Y0 : Hid (BoxN 55 (w.alloc (.cells (cN hd0 (.slice none 0 0)).toArray 55)) w.heap.size hd0 (.slice none 0 0)) := BoxN.new 55 w hd0 (.slice none 0 0)
  have B0 : Hid (Below w.heap.size w (w.alloc (.cells (cN hd0 (.slice none 0 0)).toArray 55))) := (Below.refl _ _).alloc (Nat.le_refl _) _
  have hc1 : w.cell? ⟨g, 1, none⟩ = some (.int .i64 9) := hc1
  go_enter Try.func130, Try.ntmps130
  go_wp2_with (refine storeB55 rfl _ _ rfl w.heap.size rfl hd0 (.slice none 0 0) rfl rfl hd0 _ Y0.out ?_)
  exact bodyPost_ret (v := .tuple #[vN hd0 (.slice none 0 0), .bool false]) (res55b 2 3 Try.results130 _ _ w.heap.size _ _ _ rfl rfl (BoxN.row Y0.out _ _)) rfl ⟨9, rfl, (HR.out.alloc _).row _ _ (by omega), grown_row (grown_below B0.out _) (Nat.le_refl _) _⟩
set_option maxHeartbeats 4000000 in
set_option maxRecDepth 100000 in
theorem group_some {grp : Nat → List UInt8 → Except (List UInt8) (T × Nat × List UInt8)} {n : Nat} (hG : PatC grp n) (g k : Nat) (l t' : List UInt8) (hlt : l = 92 :: 40 :: t') (w : World) (hr : RG w g l k) (hn : l.length ≤ n) (hl : l.length ≤ 900000) (hM : MaxL w) (hg0 : 0 < g) (hk : k < 9) :
    Calls Try.prog 130 #[.pointer (some ⟨g, 0, none⟩)] w (TreO (fun b => w.heap.size ≤ b) (match grp (k + 1) t' with
      | .error r => .error r
      | .ok (m, k', r) => if pre [92, 41] r then .ok (.mk (hGroup ((k + 1 : Nat) : Int)) [m], k', r.drop 2) else .error r) w g) := by
  have HR : Hid (RG w g l k) := hr
  obtain ⟨s, hc, hs, hc1, hf, hf1, hg⟩ := hr
  have hne : ((k : Int) == 9) = false := by rw [beq_eq_false_iff_ne]; omega
  have hk1 : ((k + 1 : Nat) : Int) = (k : Int) + 1 := by omega
  have hk2 : (k : Int) + 1 ≤ 9 := by omega
  have hz0 : (w.setCell ⟨g, 1, none⟩ (.int .i64 ((k : Int) + 1))).heap.size = w.heap.size := size_set0 _ _ _
  have R1 : Hid (RG ((w.setCell ⟨g, 1, none⟩ (.int .i64 ((k : Int) + 1))).alloc (.cells (cN hd0 (.slice none 0 0)).toArray 55)) g l (k + 1)) := by
    have := (HR.out.put (k + 1)).alloc (.cells (cN hd0 (.slice none 0 0)).toArray 55)
    rw [hk1] at this; exact this
  have Y1 : Hid (BoxN 55 ((w.setCell ⟨g, 1, none⟩ (.int .i64 ((k : Int) + 1))).alloc (.cells (cN hd0 (.slice none 0 0)).toArray 55)) w.heap.size hd0 (.slice none 0 0)) := by
    have := BoxN.new 55 (w.setCell ⟨g, 1, none⟩ (.int .i64 ((k : Int) + 1))) hd0 (.slice none 0 0)
    rw [hz0] at this; exact this
  have G1 : Hid (w.grownBy ((w.setCell ⟨g, 1, none⟩ (.int .i64 ((k : Int) + 1))).alloc (.cells (cN hd0 (.slice none 0 0)).toArray 55)) (some g)) := grown_more (grown_cell w g 1 _) _
  have Z1 : Hid (((w.setCell ⟨g, 1, none⟩ (.int .i64 ((k : Int) + 1))).alloc (.cells (cN hd0 (.slice none 0 0)).toArray 55)).heap.size = w.heap.size + 1) := by unfold Hid; rw [← hz0]; simp
  have HM : Hid (MaxL w) := hM
  have SK : Hid (∀ W, RG W g l (k + 1) → Calls Try.prog 91 #[.pointer (some ⟨g, 0, none⟩), .string ⟨#[92, 40]⟩] W fun e w' => e = .returned (.bool true) ∧ RG w' g t' (k + 1) ∧ W.grownBy w' (some g)) := fun W hW => skip91 g (k + 1) l ⟨#[92, 40]⟩ true (by rw [hlt]; simp [pre, List.isPrefixOf]) t' (by rw [hlt]; rfl) W hW
  have PT : Hid (∀ W, RG W g t' (k + 1) → MaxL W → Calls Try.prog 73 #[.pointer (some ⟨g, 0, none⟩)] W (TreO (fun b => W.heap.size ≤ b) (grp (k + 1) t') W g)) := fun W h1 h2 => hG g (k + 1) t' W h1 (by rw [hlt] at hn; simp at hn; omega) (by rw [hlt] at hl; simp at hl; omega) h2 hg0 (by omega)
  clear hz0 hM hlt hl hn hs
  generalize grp (k + 1) t' = R at *
  go_enter Try.func130, Try.ntmps130
  go_wp2_with fail
  refine (SK.out _ R1.out).mono ?_
  rintro e w2 ⟨rfl, r2, g2⟩
  have R2 : Hid (RG w2 g t' (k + 1)) := r2
  have G2 : Hid (w.grownBy w2 (some g)) := grown_trans G1.out g2
  have Y2 : Hid (BoxN 55 w2 w.heap.size hd0 (.slice none 0 0)) := Y1.out.blk (g2.block _ (by rw [Z1.out]; omega) (by intro q; injection q with q; omega))
  have M2 : Hid (MaxL w2) := HM.out.grown G2.out hg0
  have hz2 : w.heap.size < w2.heap.size := by have := g2.size; rw [Z1.out] at this; omega
  clear r2 g2 SK R1 Y1 G1 Z1 HM hc hc1 hf hf1
  go_wp2_with fail
  refine (PT.out _ R2.out M2.out).mono ?_
  rintro e w3 h3
  cases R with
  | error r =>
    obtain ⟨k', rfl, r3, g3⟩ := h3
    have R4 : Hid (RG (w3.alloc (.cells (cN (Hd.of 0) (.slice none 0 0)).toArray 55)) g r k') := r3.alloc _
    have y3 : BoxN 55 w3 w.heap.size hd0 (.slice none 0 0) := Y2.out.blk (g3.block _ hz2 (by intro q; injection q with q; omega))
    have Y4 : Hid (BoxN 55 (w3.alloc (.cells (cN (Hd.of 0) (.slice none 0 0)).toArray 55)) w.heap.size hd0 (.slice none 0 0)) := y3.blk (Below.heap_alloc _ _ _ y3.lt)
    have G4 : Hid (w.grownBy (w3.alloc (.cells (cN (Hd.of 0) (.slice none 0 0)).toArray 55)) (some g)) := grown_more (grown_trans G2.out g3) _
    clear r3 y3 g3 Y2 M2 G2 R2 PT
    go_wp2_with (first | (refine storeN55 rfl _ _ rfl rfl (Hd.of 0) none 0 0 rfl ?_) | (refine storeB55 rfl _ _ rfl w.heap.size rfl hd0 (.slice none 0 0) rfl rfl hd0 _ Y4.out ?_))
    exact bodyPost_ret (v := .tuple #[vN hd0 (.slice none 0 0), .bool false]) (res55b 2 3 Try.results130 _ _ w.heap.size _ _ _ rfl rfl (BoxN.row Y4.out _ _)) rfl ⟨k', rfl, R4.out.row _ _ (by omega), grown_row G4.out (Nat.le_refl _) _⟩
  | ok x =>
    obtain ⟨m, k', r⟩ := x
    obtain ⟨u, rfl, s3, r3, g3⟩ := h3
    obtain ⟨h', l', rfl⟩ := m.out
    rw [T.kids_mk] at s3
    rw [T.hd_mk]
    have S3 : Hid (SV (fun b => w2.heap.size ≤ b) w3 u l') := s3
    obtain ⟨av, cp, b, o, rfl, _⟩ := s3
    have hz3 : w2.heap.size ≤ w3.heap.size := g3.size
    have R4 : Hid (RG (w3.alloc (.cells (cN h' (.slice av l'.length cp)).toArray 55)) g r k') := r3.alloc _
    have y3 : BoxN 55 w3 w.heap.size hd0 (.slice none 0 0) := Y2.out.blk (g3.block _ hz2 (by intro q; injection q with q; omega))
    have Y4 : Hid (BoxN 55 (w3.alloc (.cells (cN h' (.slice av l'.length cp)).toArray 55)) w.heap.size hd0 (.slice none 0 0)) := y3.blk (Below.heap_alloc _ _ _ y3.lt)
    have N4 : Hid (BoxN 55 (w3.alloc (.cells (cN h' (.slice av l'.length cp)).toArray 55)) w3.heap.size h' (.slice av l'.length cp)) := BoxN.new _ _ _ _
    have G4 : Hid (w.grownBy (w3.alloc (.cells (cN h' (.slice av l'.length cp)).toArray 55)) (some g)) := grown_more (grown_trans G2.out g3) _
    have S4 : Hid (SV (fun b => w2.heap.size ≤ b ∧ b < w3.heap.size) (w3.alloc (.cells (cN h' (.slice av l'.length cp)).toArray 55)) (.slice av l'.length cp) l') := (S3.out.weak (S' := fun b => w2.heap.size ≤ b ∧ b < w3.heap.size) fun b q1 q2 => ⟨q1, q2⟩).below ((Below.refl _ _).alloc (Nat.le_refl _) _)
    have Z4 : Hid ((w3.alloc (.cells (cN h' (.slice av l'.length cp)).toArray 55)).heap.size = w3.heap.size + 1) := by unfold Hid; simp
    clear r3 y3 g3 Y2 M2 G2 R2 PT S3
    cases hp : pre [92, 41] r with
    | false =>
      have SK : Hid (∀ W, RG W g r k' → Calls Try.prog 91 #[.pointer (some ⟨g, 0, none⟩), .string ⟨#[92, 41]⟩] W fun e w' => e = .returned (.bool false) ∧ RG w' g r k' ∧ W.grownBy w' (some g)) := fun W hW => skip91 g k' r ⟨#[92, 41]⟩ false hp r rfl W hW
      go_wp2_with (first | (refine storeN55 rfl _ _ rfl rfl h' av l'.length cp rfl ?_) | (go_at_call 91; refine (SK.out _ R4.out).mono ?_; rintro e w5 ⟨rfl, r5, g5⟩; have R5 : Hid (RG w5 g r k') := r5; have Y5 : Hid (BoxN 55 w5 w.heap.size hd0 (.slice none 0 0)) := Y4.out.blk (g5.block _ (by rw [Z4.out]; omega) (by intro q; injection q with q; omega)); have G5 : Hid (w.grownBy w5 (some g)) := grown_trans G4.out g5; clear r5 g5) | (refine storeB55 rfl _ _ rfl w.heap.size rfl hd0 (.slice none 0 0) rfl rfl hd0 _ Y5.out ?_))
      exact bodyPost_ret (v := .tuple #[vN hd0 (.slice none 0 0), .bool false]) (res55b 2 3 Try.results130 _ _ w.heap.size _ _ _ rfl rfl (BoxN.row Y5.out _ _)) rfl (by (try simp only [Bool.false_eq_true, if_false]); exact ⟨k', rfl, R5.out.row _ _ (by omega), grown_row G5.out (Nat.le_refl _) _⟩)
    | true =>
      have SK : Hid (∀ W, RG W g r k' → Calls Try.prog 91 #[.pointer (some ⟨g, 0, none⟩), .string ⟨#[92, 41]⟩] W fun e w' => e = .returned (.bool true) ∧ RG w' g (r.drop 2) k' ∧ W.grownBy w' (some g)) := fun W hW => skip91 g k' r ⟨#[92, 41]⟩ true hp (r.drop 2) rfl W hW
      go_wp2_with (first | (refine storeN55 rfl _ _ rfl rfl h' av l'.length cp rfl ?_) | (go_at_call 91; refine (SK.out _ R4.out).mono ?_; rintro e w5 ⟨rfl, r5, g5⟩; have Y5 : BoxN 55 w5 w.heap.size hd0 (.slice none 0 0) := Y4.out.blk (g5.block _ (by rw [Z4.out]; omega) (by intro q; injection q with q; omega)); have N5 : Hid (BoxN 55 w5 w3.heap.size h' (.slice av l'.length cp)) := N4.out.blk (g5.block _ (by rw [Z4.out]; omega) (by intro q; injection q with q; omega)); have S5 : Hid (SV (fun b => w2.heap.size ≤ b ∧ b < w3.heap.size) w5 (.slice av l'.length cp) l') := S4.out.keep g5.size (fun b q1 q2 => ⟨q1, g5.block _ q2 (by intro q; injection q with q; omega)⟩); have R6 : Hid (RG (w5.alloc (.cells (cN h' (.slice av l'.length cp)).toArray 55)) g (r.drop 2) k') := r5.alloc _; have Y6 : Hid (BoxN 55 (w5.alloc (.cells (cN h' (.slice av l'.length cp)).toArray 55)) w.heap.size hd0 (.slice none 0 0)) := Y5.blk (Below.heap_alloc _ _ _ Y5.lt); have G6 : Hid (w.grownBy (w5.alloc (.cells (cN h' (.slice av l'.length cp)).toArray 55)) (some g)) := grown_more (grown_trans G4.out g5) _; have hz5 : w3.heap.size < w5.heap.size := (by have := g5.size; rw [Z4.out] at this; omega); clear r5 g5 Y5) | (refine loadN55 rfl _ rfl w3.heap.size 0 rfl h' _ N5.out.range ?_) | (refine build55 rfl _ rfl h' (.slice av l'.length cp) rfl ?_) | (refine storeB55 rfl _ _ rfl w.heap.size rfl (hGroup ((k : Int) + 1)) (.slice (some ⟨w5.heap.size, 0, none⟩) 1 1) rfl rfl hd0 _ Y6.out ?_))
      have N7 : BoxN 55 ((w5.alloc (.cells (cN h' (.slice av l'.length cp)).toArray 55)).setRow w.heap.size (cN (hGroup ((k : Int) + 1)) (.slice (some ⟨w5.heap.size, 0, none⟩) 1 1)).toArray) w5.heap.size h' (.slice av l'.length cp) := (BoxN.new 55 w5 h' (.slice av l'.length cp)).blk (setRow_other _ _ _ _ (by omega))
      exact bodyPost_ret (v := .tuple #[vN (hGroup ((k : Int) + 1)) (.slice (some ⟨w5.heap.size, 0, none⟩) 1 1), .bool true]) (res55b 2 3 Try.results130 _ _ w.heap.size _ _ _ rfl rfl (BoxN.row Y6.out _ _)) rfl (by
        try simp only [if_true]
        refine ⟨_, rfl, ?_, R6.out.row _ _ (by omega), grown_row G6.out (Nat.le_refl _) _⟩
        rw [T.kids_mk]
        refine SV_one N7 (by omega) ?_
        exact S5.out.keep (by simp [World.setRow]) fun b q1 q2 => ⟨by omega, by rw [setRow_other _ _ _ _ (by omega), Below.heap_alloc _ _ _ (by omega)]⟩)
theorem group_any {grp : Nat → List UInt8 → Except (List UInt8) (T × Nat × List UInt8)} {n : Nat} (hG : PatC grp n) (g k : Nat) (l t' : List UInt8) (hlt : l = 92 :: 40 :: t') (w : World) (hr : RG w g l k) (hn : l.length ≤ n) (hl : l.length ≤ 900000) (hM : MaxL w) (hg0 : 0 < g) (hk : k ≤ 9) :
    Calls Try.prog 130 #[.pointer (some ⟨g, 0, none⟩)] w (TreO (fun b => w.heap.size ≤ b) (pairP grp k l (40 :: t')) w g) := by
  unfold pairP
  simp only [if_true]
  by_cases h : k = 9
  · rw [if_pos h]; subst h; exact group_nine g l w hr
  · rw [if_neg h]; exact group_some hG g k l t' hlt w hr hn hl hM hg0 (by omega)
end Go.Proofs.Ytndmjndokokmnaa
