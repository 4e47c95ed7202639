import Derived.Test.YtndmjndokokmnaaRi
namespace Go.Proofs.Ytndmjndokokmnaa
set_option linter.unusedSimpArgs false
set_option linter.unusedVariables false
open Go.RowKit
open Go.Deep
theorem sub_of7 {Q : Except (List UInt8) (T × Nat × List UInt8)} {w W w7 : World} {g z : Nat} {e : Ending} (h : TreO (fun b => (w.heap.size < b ∧ b < z) ∨ W.heap.size ≤ b) Q W g e w7) (hG : w.grownBy W (some g)) (hY : BoxN 55 W w.heap.size hd0 (.slice none 0 0)) (hg : g < w.heap.size) : ∃ h' u ok, e = .returned (.tuple #[vN h' u, .bool ok]) ∧ Sub Q w g h' u ok w7 := by
  have hlt := hY.lt
  cases Q with
  | error r =>
    obtain ⟨k', rfl, h1, h2⟩ := h
    exact ⟨_, _, _, rfl, ⟨rfl, rfl, rfl, k', h1⟩, grown_trans hG h2, rfl, hY.blk (h2.block _ hlt (by intro q; injection q with q; omega))⟩
  | ok x =>
    obtain ⟨t, k', r⟩ := x
    obtain ⟨u, rfl, h0, h1, h2⟩ := h
    exact ⟨_, _, _, rfl, ⟨rfl, rfl, h0.weak fun b q _ => (by omega), h1⟩, grown_trans hG h2, h0.one, hY.blk (h2.block _ hlt (by intro q; injection q with q; omega))⟩
set_option maxHeartbeats 4000000 in
set_option maxRecDepth 100000 in
theorem rep_any {grp : Nat → List UInt8 → Except (List UInt8) (T × Nat × List UInt8)} {n : Nat} (hG : PatC grp n) (hF : ∀ g l, l.length < n → FineP g l (grp g l)) (g k : Nat) (l : List UInt8) (first : Bool) (hl0 : l ≠ []) (w : World) (hr : RG w g l k) (hn : l.length ≤ n) (hl : l.length ≤ 900000) (hM : MaxL w) (hg0 : 0 < g) (hk : k ≤ 9) :
    Calls Try.prog 93 #[.pointer (some ⟨g, 0, none⟩), .bool first] w (TreO (fun b => w.heap.size ≤ b) (repP grp first k l) w g) := by
  have hg := hr.lt
  have HM : Hid (MaxL w) := hM
  have AT : Hid (Calls Try.prog 105 #[.pointer (some ⟨g, 0, none⟩), .bool first] (w.alloc (.cells (cN hd0 (.slice none 0 0)).toArray 55)) fun e w' => ∃ h' u ok, e = .returned (.tuple #[vN h' u, .bool ok]) ∧ Sub (atomP grp first k l) w g h' u ok w') := (atom_any hG g k l first hl0 _ (hr.alloc _) hn hl (hM.alloc _) hg0 hk).mono fun e w' q => sub_of hr.lt q
  have HFA : Hid (Fine k l (atomP grp first k l)) := atom_fine hF hn
  obtain ⟨R, hR⟩ : ∃ R, R = repP grp first k l := ⟨_, rfl⟩
  rw [← hR]
  have HRR : Hid (R = match atomP grp first k l with
    | .error r => .error r
    | .ok (a, g', r) =>
      if pre [42] r then .ok (tRep 0 (-1) a, g', r.drop 1)
      else if pre [92, 123] r then (match countP (r.drop 2) with
        | none => .error r
        | some (m, k, r') => .ok (tRep (m : Int) k a, g', r'))
      else .ok (a, g', r)) := hR
  have HL : Hid (l.length ≤ 900000) := hl
  clear hR hG hF hr hM hl0 hn hl
  generalize atomP grp first k l = A at *
  cases A with
  | error r =>
    have HE : Hid (R = .error r) := HRR
    clear HRR HFA
    go_enter Try.func93, Try.ntmps93
    go_wp2_with fail
    refine AT.out.mono ?_
    rintro e w2 ⟨h', u, ok, rfl, sb⟩
    obtain ⟨⟨rfl, rfl, rfl, k', r2⟩, g2, _, y2⟩ := sb
    have R4 : Hid (RG (w2.alloc (.cells (cN (Hd.of 0) (.slice none 0 0)).toArray 55)) g r k') := r2.alloc _
    have Y4 : Hid (BoxN 55 (w2.alloc (.cells (cN (Hd.of 0) (.slice none 0 0)).toArray 55)) w.heap.size hd0 (.slice none 0 0)) := y2.blk (Below.heap_alloc _ _ _ y2.lt)
    have G4 : Hid (w.grownBy (w2.alloc (.cells (cN (Hd.of 0) (.slice none 0 0)).toArray 55)) (some g)) := grown_more g2 _
    clear r2 g2 y2 AT
    go_wp2_with (first | (refine storeN55 rfl _ _ rfl rfl (Hd.of 0) none 0 0 rfl ?_) | (refine storeB55 rfl _ _ rfl w.heap.size rfl hd0 (.slice none 0 0) rfl rfl hd0 _ Y4.out ?_))
    exact bodyPost_ret (v := .tuple #[vN hd0 (.slice none 0 0), .bool false]) (res55b 4 5 Try.results93 _ _ w.heap.size _ _ _ rfl rfl (BoxN.row Y4.out _ _)) rfl (by rw [HE.out]; exact ⟨k', rfl, R4.out.row _ _ (by omega), grown_row G4.out (Nat.le_refl _) _⟩)
  | ok x =>
    obtain ⟨a, k', r⟩ := x
    obtain ⟨hh, ll, rfl⟩ := a.out
    obtain ⟨f1, f2, f3, f4, f5⟩ := HFA.out
    go_enter Try.func93, Try.ntmps93
    go_wp2_with fail
    refine AT.out.mono ?_
    rintro e w2 ⟨h', u, ok, rfl, sb⟩
    obtain ⟨⟨q0, q2, s2, r2⟩, g2, o2, y2⟩ := sb
    have q1 : hh = h' := q0.symm
    clear q0
    subst q1
    subst q2
    rw [T.kids_mk] at s2
    have S2 : SV (fun b => w.heap.size < b ∧ b < w2.heap.size) w2 u ll := s2.weak fun b q1 q2 => ⟨q1, q2⟩
    obtain ⟨av, cp, b, o, rfl, _⟩ := s2
    have hz2 : w.heap.size < w2.heap.size := y2.lt
    have R4 : Hid (RG (w2.alloc (.cells (cN hh (.slice av ll.length cp)).toArray 55)) g r k') := r2.alloc _
    have Y4 : Hid (BoxN 55 (w2.alloc (.cells (cN hh (.slice av ll.length cp)).toArray 55)) w.heap.size hd0 (.slice none 0 0)) := y2.blk (Below.heap_alloc _ _ _ y2.lt)
    have N4 : Hid (BoxN 55 (w2.alloc (.cells (cN hh (.slice av ll.length cp)).toArray 55)) w2.heap.size hh (.slice av ll.length cp)) := BoxN.new _ _ _ _
    have G4 : Hid (w.grownBy (w2.alloc (.cells (cN hh (.slice av ll.length cp)).toArray 55)) (some g)) := grown_more g2 _
    have S4 : Hid (SV (fun b => w.heap.size < b ∧ b < w2.heap.size) (w2.alloc (.cells (cN hh (.slice av ll.length cp)).toArray 55)) (.slice av ll.length cp) ll) := S2.below ((Below.refl _ _).alloc (Nat.le_refl _) _)
    have Z4 : Hid ((w2.alloc (.cells (cN hh (.slice av ll.length cp)).toArray 55)).heap.size = w2.heap.size + 1) := by unfold Hid; simp
    have HRL : Hid (r.length ≤ 900000) := by have := HL.out; unfold Hid; omega
    clear r2 g2 y2 S2 AT o2 HFA f1 f2 f3 f4 f5
    cases hp : pre [42] r with
    | true =>
      have HE : Hid (R = .ok (tRep 0 (-1) (.mk hh ll), k', r.drop 1)) := by have := HRR.out; simp only [hp, if_true] at this; exact this
      have SK : Hid (∀ W, RG W g r k' → Calls Try.prog 91 #[.pointer (some ⟨g, 0, none⟩), .string ⟨#[42]⟩] W fun e w' => e = .returned (.bool true) ∧ RG w' g (r.drop 1) k' ∧ W.grownBy w' (some g)) := fun W hW => skip91 g k' r ⟨#[42]⟩ true hp (r.drop 1) rfl W hW
      clear hp HRR
      go_wp2_with (first | (refine storeN55 rfl _ _ rfl rfl hh av ll.length cp rfl ?_) | (go_at_call 91; refine (SK.out _ R4.out).mono ?_; rintro e w5 ⟨rfl, r5, g5⟩; have Y5 : BoxN 55 w5 w.heap.size hd0 (.slice none 0 0) := Y4.out.blk (g5.block _ (by rw [Z4.out]; omega) (by intro q; injection q with q; omega)); have N5 : Hid (BoxN 55 w5 w2.heap.size hh (.slice av ll.length cp)) := N4.out.blk (g5.block _ (by rw [Z4.out]; omega) (by intro q; injection q with q; omega)); have S5 : Hid (SV (fun b => w.heap.size < b ∧ b < w2.heap.size) w5 (.slice av ll.length cp) ll) := S4.out.keep g5.size (fun b q1 q2 => ⟨q1, g5.block _ q2 (by intro q; injection q with q; omega)⟩); have R5 : Hid (RG w5 g (r.drop 1) k') := r5; have G5 : Hid (w.grownBy w5 (some g)) := grown_trans G4.out g5; have hz5 : w2.heap.size < w5.heap.size := (by have := g5.size; rw [Z4.out] at this; omega); have RP : Hid (Calls Try.prog 106 #[.int .i64 0, .int .i64 (-1), vN hh (.slice av ll.length cp)] w5 fun e w' => ∃ u', e = .returned (vN (hRep 0 (-1)) u') ∧ SV (fun x => w.heap.size < x) w' u' [.mk hh ll] ∧ Below w5.heap.size w5 w') := (repeat_any (fun b => w.heap.size < b ∧ b < w2.heap.size) 0 (-1) hh ll w5 _ S5.out).mono (fun e w' ⟨u', q1, q2, q3⟩ => ⟨u', q1, q2.weak (fun b q _ => by omega), q3⟩); have YY5 : Hid (BoxN 55 w5 w.heap.size hd0 (.slice none 0 0)) := Y5; clear r5 g5 Y5) | (refine loadN55 rfl _ rfl w2.heap.size 0 rfl hh _ N5.out.range ?_) | (go_at_call 106; refine RP.out.mono ?_; rintro e w6 ⟨u6, rfl, s6, b6⟩; have S6 : Hid (SV (fun x => w.heap.size < x) w6 u6 [.mk hh ll]) := s6; have O6 : Hid (u6.oneCell' = true) := s6.one; have Y6 : Hid (BoxN 55 w6 w.heap.size hd0 (.slice none 0 0)) := YY5.out.below b6 YY5.out.lt; have R6 : Hid (RG w6 g (r.drop 1) k') := R5.out.below b6 R5.out.lt; have G6 : Hid (w.grownBy w6 (some g)) := grown_trans G5.out (grown_below b6 _); clear s6 b6) | (refine storeB55 rfl _ _ rfl w.heap.size rfl (hRep 0 (-1)) u6 O6.out rfl hd0 _ Y6.out ?_))
      exact bodyPost_ret (v := .tuple #[vN (hRep 0 (-1)) u6, .bool true]) (res55b 4 5 Try.results93 _ _ w.heap.size _ _ _ rfl rfl (BoxN.row Y6.out _ _)) rfl (by
        rw [HE.out]
        exact ⟨u6, rfl, S6.out.keep (by simp [World.setRow]) fun b q _ => ⟨by omega, setRow_other _ _ _ _ (by omega)⟩, R6.out.row _ _ (by omega), grown_row G6.out (Nat.le_refl _) _⟩)
    | false =>
      have SK : Hid (∀ W, RG W g r k' → Calls Try.prog 91 #[.pointer (some ⟨g, 0, none⟩), .string ⟨#[42]⟩] W fun e w' => e = .returned (.bool false) ∧ RG w' g r k' ∧ W.grownBy w' (some g)) := fun W hW => skip91 g k' r ⟨#[42]⟩ false hp r rfl W hW
      cases hp2 : pre [92, 123] r with
      | false =>
        have HE : Hid (R = .ok (.mk hh ll, k', r)) := by have := HRR.out; simp only [hp, hp2, if_false, Bool.false_eq_true] at this; exact this
        have BG : Hid (∀ W, RG W g r k' → Calls Try.prog 92 #[.pointer (some ⟨g, 0, none⟩), .string ⟨#[92, 123]⟩] W fun e w' => e = .returned (.bool false) ∧ W = w') := fun W hW => begins92 g k' r ⟨#[92, 123]⟩ false hp2 W hW
        clear hp hp2 HRR
        go_wp2_with (first | (refine storeN55 rfl _ _ rfl rfl hh av ll.length cp rfl ?_) | (go_at_call 91; refine (SK.out _ R4.out).mono ?_; rintro e w5 ⟨rfl, r5, g5⟩; have Y5 : Hid (BoxN 55 w5 w.heap.size hd0 (.slice none 0 0)) := Y4.out.blk (g5.block _ (by rw [Z4.out]; omega) (by intro q; injection q with q; omega)); have N5 : Hid (BoxN 55 w5 w2.heap.size hh (.slice av ll.length cp)) := N4.out.blk (g5.block _ (by rw [Z4.out]; omega) (by intro q; injection q with q; omega)); have S5 : Hid (SV (fun b => w.heap.size < b ∧ b < w2.heap.size) w5 (.slice av ll.length cp) ll) := S4.out.keep g5.size (fun b q1 q2 => ⟨q1, g5.block _ q2 (by intro q; injection q with q; omega)⟩); have R5 : Hid (RG w5 g r k') := r5; have G5 : Hid (w.grownBy w5 (some g)) := grown_trans G4.out g5; clear r5 g5) | (go_at_call 92; refine (BG.out _ R5.out).mono ?_; rintro e w6 ⟨rfl, rfl⟩) | (refine loadN55 rfl _ rfl w2.heap.size 0 rfl hh _ N5.out.range ?_) | (refine storeB55 rfl _ _ rfl w.heap.size rfl hh (.slice av ll.length cp) rfl rfl hd0 _ Y5.out ?_))
        exact bodyPost_ret (v := .tuple #[vN hh (.slice av ll.length cp), .bool true]) (res55b 4 5 Try.results93 _ _ w.heap.size _ _ _ rfl rfl (BoxN.row Y5.out _ _)) rfl (by
          rw [HE.out]
          refine ⟨_, rfl, ?_, R5.out.row _ _ (by omega), grown_row G5.out (Nat.le_refl _) _⟩
          rw [T.kids_mk]
          exact S5.out.keep (by simp [World.setRow]) fun b q _ => ⟨by omega, setRow_other _ _ _ _ (by omega)⟩)
      | true =>
        obtain ⟨Q, hQ⟩ : ∃ Q : Except (List UInt8) (T × Nat × List UInt8), Q = (match countP (r.drop 2) with
          | none => .error r
          | some (m, q, r') => .ok (tRep (m : Int) q (.mk hh ll), k', r')) := ⟨_, rfl⟩
        have HE : Hid (R = Q) := by have := HRR.out; simp only [hp, hp2, if_false, if_true, Bool.false_eq_true] at this; rw [hQ]; exact this
        have BG : Hid (∀ W, RG W g r k' → Calls Try.prog 92 #[.pointer (some ⟨g, 0, none⟩), .string ⟨#[92, 123]⟩] W fun e w' => e = .returned (.bool true) ∧ W = w') := fun W hW => begins92 g k' r ⟨#[92, 123]⟩ true hp2 W hW
        have CO : Hid (∀ W, RG W g r k' → MaxL W → SV (fun b => w.heap.size < b ∧ b < w2.heap.size) W (.slice av ll.length cp) ll → Calls Try.prog 107 #[.pointer (some ⟨g, 0, none⟩), vN hh (.slice av ll.length cp)] W (TreO (fun b => (w.heap.size < b ∧ b < w2.heap.size) ∨ W.heap.size ≤ b) Q W g)) := fun W h1 h2 h3 => by
          rw [hQ]
          exact counted_any _ g k' r hh ll W _ h1 (pre_len hp2) (by have := HRL.out; omega) h2 hg0 h3 (fun b q => by omega)
        clear hp hp2 HRR hQ
        go_wp2_with (first | (refine storeN55 rfl _ _ rfl rfl hh av ll.length cp rfl ?_) | (go_at_call 91; refine (SK.out _ R4.out).mono ?_; rintro e w5 ⟨rfl, r5, g5⟩; have Y5 : Hid (BoxN 55 w5 w.heap.size hd0 (.slice none 0 0)) := Y4.out.blk (g5.block _ (by rw [Z4.out]; omega) (by intro q; injection q with q; omega)); have N5 : Hid (BoxN 55 w5 w2.heap.size hh (.slice av ll.length cp)) := N4.out.blk (g5.block _ (by rw [Z4.out]; omega) (by intro q; injection q with q; omega)); have S5 : Hid (SV (fun b => w.heap.size < b ∧ b < w2.heap.size) w5 (.slice av ll.length cp) ll) := S4.out.keep g5.size (fun b q1 q2 => ⟨q1, g5.block _ q2 (by intro q; injection q with q; omega)⟩); have R5 : Hid (RG w5 g r k') := r5; have G5 : Hid (w.grownBy w5 (some g)) := grown_trans G4.out g5; have M5 : Hid (MaxL w5) := HM.out.grown G5.out hg0; have hz5 : w2.heap.size < w5.heap.size := (by have := g5.size; rw [Z4.out] at this; omega); clear r5 g5) | (go_at_call 92; refine (BG.out _ R5.out).mono ?_; rintro e w6 ⟨rfl, rfl⟩) | (refine loadN55 rfl _ rfl w2.heap.size 0 rfl hh _ N5.out.range ?_) | (go_at_call 107; refine (CO.out _ R5.out M5.out S5.out).mono ?_; rintro e w7 h7; have HSB : ∃ h' u ok, e = .returned (.tuple #[vN h' u, .bool ok]) ∧ Sub Q w g h' u ok w7 := sub_of7 h7 G5.out Y5.out hg; obtain ⟨h', u7, ok, rfl, sb⟩ := HSB; have SB : Hid (Sub Q w g h' u7 ok w7) := sb; clear h7 sb) | (refine storeB55 rfl _ _ rfl w.heap.size rfl h' u7 SB.out.one rfl hd0 _ SB.out.box ?_))
        exact bodyPost_ret (v := .tuple #[vN h' u7, .bool ok]) (res55b 4 5 Try.results93 _ _ w.heap.size _ _ _ rfl rfl (BoxN.row SB.out.box _ _)) rfl (by rw [HE.out]; exact SB.out.fin hg)
end Go.Proofs.Ytndmjndokokmnaa
