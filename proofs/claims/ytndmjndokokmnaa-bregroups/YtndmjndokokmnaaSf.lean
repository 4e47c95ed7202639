import Derived.Test.YtndmjndokokmnaaSe
import Derived.Test.YtndmjndokokmnaaRl
import Derived.Test.YtndmjndokokmnaaTc
import Derived.Test.YtndmjndokokmnaaTe
import Derived.Test.YtndmjndokokmnaaTf
import Derived.Test.YtndmjndokokmnaaEb
namespace Go.Proofs.Ytndmjndokokmnaa
set_option linter.unusedSimpArgs false
set_option linter.unusedVariables false
open Go.RowKit
open Go.Deep
theorem parse_ab : (parseB (some 200) [97, 42]).1.hd.k = 10 ∧ (parseB (some 200) [97, 42]).2.2 = 0 := by decide +kernel
set_option maxHeartbeats 1000000 in
set_option maxRecDepth 100000 in
theorem awake_bre (w : World) (hM : MaxL w) : Calls Try.prog 51 #[] w fun e w' => e = .returned (.bool true) ∧ Below w.heap.size w w' := by
  have q := parse_bre ⟨#[97, 42]⟩ (by decide) w hM
  have hq := parse_ab
  change Calls Try.prog 52 _ w (ParR (parseB (some 200) [97, 42]) w) at q
  generalize parseB (some 200) [97, 42] = p at *
  obtain ⟨t, at_, e0⟩ := p
  obtain ⟨hd, l, rfl⟩ := t.out
  obtain ⟨h10, h0⟩ := hq
  simp only [T.hd_mk] at h10 h0
  subst h0
  obtain ⟨k, c, x0, x1, x2, x3, nn, lo, hi⟩ := hd
  simp only at h10
  subst h10
  have PA : Hid (Calls Try.prog 52 #[.string ⟨#[97, 42]⟩] w fun e w' => ∃ av n cp, e = .returned (.tuple #[vN ⟨10, c, x0, x1, x2, x3, nn, lo, hi⟩ (.slice av n cp), .int .i64 at_, .int .i64 0]) ∧ Below w.heap.size w w') := q.mono fun e w' ⟨u, q1, q2, q3⟩ => by
    obtain ⟨av, cp, b, o, rfl, _⟩ := q2
    exact ⟨_, _, _, q1, q3⟩
  clear q hM
  go_enter Try.func51, Try.ntmps51
  go_wp2_with fail
  refine PA.out.mono ?_
  rintro e w2 ⟨av, n, cp, rfl, b2⟩
  have B2 : Hid (Below w.heap.size w w2) := b2
  have N3 : Hid (BoxN 55 (w2.alloc (.cells (cN ⟨10, c, x0, x1, x2, x3, nn, lo, hi⟩ (.slice av n cp)).toArray 55)) w2.heap.size ⟨10, c, x0, x1, x2, x3, nn, lo, hi⟩ (.slice av n cp)) := BoxN.new _ _ _ _
  have c0 := N3.out.cell 0 _ rfl
  have B3 : Hid (Below w.heap.size w (w2.alloc (.cells (cN ⟨10, c, x0, x1, x2, x3, nn, lo, hi⟩ (.slice av n cp)).toArray 55))) := B2.out.alloc B2.out.size _
  clear b2 PA
  go_wp2_with (refine storeN55 rfl _ _ rfl rfl ⟨10, c, x0, x1, x2, x3, nn, lo, hi⟩ av n cp rfl ?_)
  go_ret
  exact ⟨rfl, B3.out⟩
set_option maxHeartbeats 4000000 in
set_option maxRecDepth 100000 in
theorem groups_bad (s : ByteArray) (hl : s.size ≤ 500) (w : World) (hM : MaxL w) (p : Int) (hp : parseB (some 200) s.data.toList = (tNone, p, 10)) : Calls Try.prog 15 #[.string s] w fun e w' => e = .returned (.bool true) ∧ Below w.heap.size w w' := by
  have i500 : ¬ (500 : Int) < s.size := by omega
  have AW : Hid (Calls Try.prog 51 #[] w fun e w' => e = .returned (.bool true) ∧ Below w.heap.size w w') := awake_bre w hM
  have HM : Hid (MaxL w) := hM
  have PS : Hid (∀ W, MaxL W → Calls Try.prog 52 #[.string s] W fun e w' => ∃ av n cp, e = .returned (.tuple #[vN (Hd.of 0) (.slice av n cp), .int .i64 p, .int .i64 10]) ∧ Below W.heap.size W w') := fun W hW => (parse_bre s (by omega) W hW).mono fun e w' ⟨u, q1, q2, q3⟩ => by
    obtain ⟨av, cp, b, o, rfl, _⟩ := q2
    rw [hp] at q1
    exact ⟨_, _, _, q1, q3⟩
  clear hp hM hl
  go_enter Try.func15, Try.ntmps15
  go_wp2_with fail
  refine AW.out.mono ?_
  rintro e w1 ⟨rfl, b1⟩
  have B1 : Hid (Below w.heap.size w w1) := b1
  have M1 : Hid (MaxL w1) := HM.out.below2 b1
  clear b1 AW HM
  go_wp2_with fail
  refine (PS.out _ M1.out).mono ?_
  rintro e w2 ⟨av, n, cp, rfl, b2⟩
  have B2 : Hid (Below w.heap.size w w2) := B1.out.trans (b2.mono B1.out.size)
  have N3 : Hid (BoxN 55 (w2.alloc (.cells (cN (Hd.of 0) (.slice av n cp)).toArray 55)) w2.heap.size (Hd.of 0) (.slice av n cp)) := BoxN.new _ _ _ _
  have c0 : (w2.alloc (.cells (cN (Hd.of 0) (.slice av n cp)).toArray 55)).cell? ⟨w2.heap.size, 0, none⟩ = some (.int .i64 0) := N3.out.cell 0 _ rfl
  have B3 : Hid (Below w.heap.size w (w2.alloc (.cells (cN (Hd.of 0) (.slice av n cp)).toArray 55))) := B2.out.alloc B2.out.size _
  clear b2 PS M1
  go_wp2_with (refine storeN55 rfl _ _ rfl rfl (Hd.of 0) av n cp rfl ?_)
  go_ret
  exact ⟨rfl, B3.out⟩
set_option maxHeartbeats 4000000 in
set_option maxRecDepth 100000 in
theorem groups_over1 (s : ByteArray) (hl : s.size ≤ 500) (w : World) (hM : MaxL w) (hh : Hd) (ll : List T) (hp : parseB (some 200) s.data.toList = (.mk hh ll, 0, 0)) (hc : countT (.mk hh ll) ≤ 1000000) (gT dT cT : Nat) (bT : Bool) (hgT : groupsT (.mk hh ll) = gT) (hbT : backT (.mk hh ll) = bT) (hdT : deepT (.mk hh ll) = dT) (hcT : countT (.mk hh ll) = cT) (h8 : 8 < gT) : Calls Try.prog 15 #[.string s] w fun e w' => e = .returned (.bool true) ∧ Below w.heap.size w w' := by
  have i500 : ¬ (500 : Int) < s.size := by omega
  have AW : Hid (Calls Try.prog 51 #[] w fun e w' => e = .returned (.bool true) ∧ Below w.heap.size w w') := awake_bre w hM
  have HM : Hid (MaxL w) := hM
  have PS : Hid (∀ W, MaxL W → Calls Try.prog 52 #[.string s] W fun e w' => ∃ u, e = .returned (.tuple #[vN hh u, .int .i64 0, .int .i64 0]) ∧ SV AnyB w' u ll ∧ Below W.heap.size W w') := fun W hW => (parse_bre s (by omega) W hW).mono fun e w' ⟨u, q1, q2, q3⟩ => by
    rw [hp] at q1 q2
    rw [T.hd_mk] at q1
    rw [T.kids_mk] at q2
    exact ⟨_, q1, q2.any, q3⟩
  have GR : Hid (∀ (W : World) (u : Value), SV AnyB W u ll → Calls Try.prog 40 #[vN hh u] W fun e w' => e = .returned (.int .i64 (gT : Int)) ∧ Below W.heap.size W w') := fun W u h => by
    have q := groups_any (.mk hh ll) W u (by rw [T.kids_mk]; exact h) hc; rw [T.hd_mk, hgT] at q; exact q
  have BK : Hid (∀ (W : World) (u : Value), SV AnyB W u ll → Calls Try.prog 54 #[vN hh u] W fun e w' => e = .returned (.bool bT) ∧ Below W.heap.size W w') := fun W u h => by
    have q := backs_any (.mk hh ll) W u (by rw [T.kids_mk]; exact h) hc; rw [T.hd_mk, hbT] at q; exact q
  have DP : Hid (∀ (W : World) (u : Value), SV AnyB W u ll → Calls Try.prog 38 #[vN hh u] W fun e w' => e = .returned (.int .i64 (dT : Int)) ∧ Below W.heap.size W w') := fun W u h => by
    have q := deep_any (.mk hh ll) W u (by rw [T.kids_mk]; exact h) hc; rw [T.hd_mk, hdT] at q; exact q
  have CN : Hid (∀ (W : World) (u : Value), SV AnyB W u ll → Calls Try.prog 36 #[vN hh u] W fun e w' => e = .returned (.int .i64 (cT : Int)) ∧ Below W.heap.size W w') := fun W u h => by
    have q := count_any (.mk hh ll) W u (by rw [T.kids_mk]; exact h) hc; rw [T.hd_mk, hcT] at q; exact q
  clear hp hc hgT hbT hdT hcT hM hl
  have j8 : (8 : Int) < (gT : Int) := by omega
  have d8 : decide ((8 : Int) < (gT : Int)) = true := decide_eq_true j8
  go_enter Try.func15, Try.ntmps15
  go_wp2_with fail
  refine AW.out.mono ?_
  rintro e w1 ⟨rfl, b1⟩
  have B1 : Hid (Below w.heap.size w w1) := b1
  have M1 : Hid (MaxL w1) := HM.out.below2 b1
  clear b1 AW HM
  go_wp2_with fail
  refine (PS.out _ M1.out).mono ?_
  rintro e w2 ⟨u, rfl, s2, b2⟩
  have B2 : Hid (Below w.heap.size w w2) := B1.out.trans (b2.mono B1.out.size)
  have M2 : Hid (MaxL w2) := M1.out.below2 b2
  obtain ⟨av, cp, b, o, hu, hrest⟩ := id s2
  clear hrest
  subst hu
  have N3 : Hid (BoxN 55 (w2.alloc (.cells (cN hh (.slice av ll.length cp)).toArray 55)) w2.heap.size hh (.slice av ll.length cp)) := BoxN.new _ _ _ _
  have B3 : Hid (Below w.heap.size w (w2.alloc (.cells (cN hh (.slice av ll.length cp)).toArray 55))) := B2.out.alloc B2.out.size _
  have M3 : Hid (MaxL (w2.alloc (.cells (cN hh (.slice av ll.length cp)).toArray 55))) := M2.out.alloc _
  have S3 : Hid (SV AnyB (w2.alloc (.cells (cN hh (.slice av ll.length cp)).toArray 55)) (.slice av ll.length cp) ll) := s2.below ((Below.refl _ _).alloc (Nat.le_refl _) _)
  clear b2 s2 PS M1
  go_wp2_with (first | (refine storeN55 rfl _ _ rfl rfl hh av ll.length cp rfl ?_) | (refine loadN55g rfl _ rfl w2.heap.size 0 rfl hh _ N3.out.range ?_) | (go_at_call 40; refine (GR.out _ _ S3.out).mono ?_; rintro e w10 ⟨rfl, b10⟩; have N10 : Hid (BoxN 55 w10 w2.heap.size hh (.slice av ll.length cp)) := N3.out.below b10 N3.out.lt; have B10 : Hid (Below w.heap.size w w10) := B3.out.trans (b10.mono B3.out.size); have M10 : Hid (MaxL w10) := M3.out.below2 b10; have S10 : Hid (SV AnyB w10 (.slice av ll.length cp) ll) := S3.out.below b10; clear b10) | ((try simp only [d8]); refine loadN55g rfl _ rfl w2.heap.size 0 rfl hh _ N10.out.range ?_) )
  go_ret
  exact ⟨by first | rfl | simp, B10.out⟩
set_option maxHeartbeats 4000000 in
set_option maxRecDepth 100000 in
theorem groups_over2 (s : ByteArray) (hl : s.size ≤ 500) (w : World) (hM : MaxL w) (hh : Hd) (ll : List T) (hp : parseB (some 200) s.data.toList = (.mk hh ll, 0, 0)) (hc : countT (.mk hh ll) ≤ 1000000) (gT dT cT : Nat) (bT : Bool) (hgT : groupsT (.mk hh ll) = gT) (hbT : backT (.mk hh ll) = bT) (hdT : deepT (.mk hh ll) = dT) (hcT : countT (.mk hh ll) = cT) (h8 : ¬ 8 < gT) (hb : bT = true) : Calls Try.prog 15 #[.string s] w fun e w' => e = .returned (.bool true) ∧ Below w.heap.size w w' := by
  have i500 : ¬ (500 : Int) < s.size := by omega
  have AW : Hid (Calls Try.prog 51 #[] w fun e w' => e = .returned (.bool true) ∧ Below w.heap.size w w') := awake_bre w hM
  have HM : Hid (MaxL w) := hM
  have PS : Hid (∀ W, MaxL W → Calls Try.prog 52 #[.string s] W fun e w' => ∃ u, e = .returned (.tuple #[vN hh u, .int .i64 0, .int .i64 0]) ∧ SV AnyB w' u ll ∧ Below W.heap.size W w') := fun W hW => (parse_bre s (by omega) W hW).mono fun e w' ⟨u, q1, q2, q3⟩ => by
    rw [hp] at q1 q2
    rw [T.hd_mk] at q1
    rw [T.kids_mk] at q2
    exact ⟨_, q1, q2.any, q3⟩
  have GR : Hid (∀ (W : World) (u : Value), SV AnyB W u ll → Calls Try.prog 40 #[vN hh u] W fun e w' => e = .returned (.int .i64 (gT : Int)) ∧ Below W.heap.size W w') := fun W u h => by
    have q := groups_any (.mk hh ll) W u (by rw [T.kids_mk]; exact h) hc; rw [T.hd_mk, hgT] at q; exact q
  have BK : Hid (∀ (W : World) (u : Value), SV AnyB W u ll → Calls Try.prog 54 #[vN hh u] W fun e w' => e = .returned (.bool bT) ∧ Below W.heap.size W w') := fun W u h => by
    have q := backs_any (.mk hh ll) W u (by rw [T.kids_mk]; exact h) hc; rw [T.hd_mk, hbT] at q; exact q
  have DP : Hid (∀ (W : World) (u : Value), SV AnyB W u ll → Calls Try.prog 38 #[vN hh u] W fun e w' => e = .returned (.int .i64 (dT : Int)) ∧ Below W.heap.size W w') := fun W u h => by
    have q := deep_any (.mk hh ll) W u (by rw [T.kids_mk]; exact h) hc; rw [T.hd_mk, hdT] at q; exact q
  have CN : Hid (∀ (W : World) (u : Value), SV AnyB W u ll → Calls Try.prog 36 #[vN hh u] W fun e w' => e = .returned (.int .i64 (cT : Int)) ∧ Below W.heap.size W w') := fun W u h => by
    have q := count_any (.mk hh ll) W u (by rw [T.kids_mk]; exact h) hc; rw [T.hd_mk, hcT] at q; exact q
  clear hp hc hgT hbT hdT hcT hM hl
  have j8 : ¬ (8 : Int) < (gT : Int) := by omega
  have d8 : decide ((8 : Int) < (gT : Int)) = false := decide_eq_false j8
  subst hb
  go_enter Try.func15, Try.ntmps15
  go_wp2_with fail
  refine AW.out.mono ?_
  rintro e w1 ⟨rfl, b1⟩
  have B1 : Hid (Below w.heap.size w w1) := b1
  have M1 : Hid (MaxL w1) := HM.out.below2 b1
  clear b1 AW HM
  go_wp2_with fail
  refine (PS.out _ M1.out).mono ?_
  rintro e w2 ⟨u, rfl, s2, b2⟩
  have B2 : Hid (Below w.heap.size w w2) := B1.out.trans (b2.mono B1.out.size)
  have M2 : Hid (MaxL w2) := M1.out.below2 b2
  obtain ⟨av, cp, b, o, hu, hrest⟩ := id s2
  clear hrest
  subst hu
  have N3 : Hid (BoxN 55 (w2.alloc (.cells (cN hh (.slice av ll.length cp)).toArray 55)) w2.heap.size hh (.slice av ll.length cp)) := BoxN.new _ _ _ _
  have B3 : Hid (Below w.heap.size w (w2.alloc (.cells (cN hh (.slice av ll.length cp)).toArray 55))) := B2.out.alloc B2.out.size _
  have M3 : Hid (MaxL (w2.alloc (.cells (cN hh (.slice av ll.length cp)).toArray 55))) := M2.out.alloc _
  have S3 : Hid (SV AnyB (w2.alloc (.cells (cN hh (.slice av ll.length cp)).toArray 55)) (.slice av ll.length cp) ll) := s2.below ((Below.refl _ _).alloc (Nat.le_refl _) _)
  clear b2 s2 PS M1
  go_wp2_with (first | (refine storeN55 rfl _ _ rfl rfl hh av ll.length cp rfl ?_) | (refine loadN55g rfl _ rfl w2.heap.size 0 rfl hh _ N3.out.range ?_) | (go_at_call 40; refine (GR.out _ _ S3.out).mono ?_; rintro e w10 ⟨rfl, b10⟩; have N10 : Hid (BoxN 55 w10 w2.heap.size hh (.slice av ll.length cp)) := N3.out.below b10 N3.out.lt; have B10 : Hid (Below w.heap.size w w10) := B3.out.trans (b10.mono B3.out.size); have M10 : Hid (MaxL w10) := M3.out.below2 b10; have S10 : Hid (SV AnyB w10 (.slice av ll.length cp) ll) := S3.out.below b10; clear b10) | ((try simp only [d8]); refine loadN55g rfl _ rfl w2.heap.size 0 rfl hh _ N10.out.range ?_) | (go_at_call 54; refine (BK.out _ _ S10.out).mono ?_; rintro e w11 ⟨rfl, b11⟩; have N11 : Hid (BoxN 55 w11 w2.heap.size hh (.slice av ll.length cp)) := N10.out.below b11 N10.out.lt; have B11 : Hid (Below w.heap.size w w11) := B10.out.trans (b11.mono B10.out.size); have M11 : Hid (MaxL w11) := M10.out.below2 b11; have S11 : Hid (SV AnyB w11 (.slice av ll.length cp) ll) := S10.out.below b11; clear b11) | ((try simp only [d8]); refine loadN55g rfl _ rfl w2.heap.size 0 rfl hh _ N11.out.range ?_) )
  go_ret
  exact ⟨by first | rfl | simp, B11.out⟩
set_option maxHeartbeats 4000000 in
set_option maxRecDepth 100000 in
theorem groups_over3 (s : ByteArray) (hl : s.size ≤ 500) (w : World) (hM : MaxL w) (hh : Hd) (ll : List T) (hp : parseB (some 200) s.data.toList = (.mk hh ll, 0, 0)) (hc : countT (.mk hh ll) ≤ 1000000) (gT dT cT : Nat) (bT : Bool) (hgT : groupsT (.mk hh ll) = gT) (hbT : backT (.mk hh ll) = bT) (hdT : deepT (.mk hh ll) = dT) (hcT : countT (.mk hh ll) = cT) (h8 : ¬ 8 < gT) (hb : bT = false) (h9 : 9 < dT) : Calls Try.prog 15 #[.string s] w fun e w' => e = .returned (.bool true) ∧ Below w.heap.size w w' := by
  have i500 : ¬ (500 : Int) < s.size := by omega
  have AW : Hid (Calls Try.prog 51 #[] w fun e w' => e = .returned (.bool true) ∧ Below w.heap.size w w') := awake_bre w hM
  have HM : Hid (MaxL w) := hM
  have PS : Hid (∀ W, MaxL W → Calls Try.prog 52 #[.string s] W fun e w' => ∃ u, e = .returned (.tuple #[vN hh u, .int .i64 0, .int .i64 0]) ∧ SV AnyB w' u ll ∧ Below W.heap.size W w') := fun W hW => (parse_bre s (by omega) W hW).mono fun e w' ⟨u, q1, q2, q3⟩ => by
    rw [hp] at q1 q2
    rw [T.hd_mk] at q1
    rw [T.kids_mk] at q2
    exact ⟨_, q1, q2.any, q3⟩
  have GR : Hid (∀ (W : World) (u : Value), SV AnyB W u ll → Calls Try.prog 40 #[vN hh u] W fun e w' => e = .returned (.int .i64 (gT : Int)) ∧ Below W.heap.size W w') := fun W u h => by
    have q := groups_any (.mk hh ll) W u (by rw [T.kids_mk]; exact h) hc; rw [T.hd_mk, hgT] at q; exact q
  have BK : Hid (∀ (W : World) (u : Value), SV AnyB W u ll → Calls Try.prog 54 #[vN hh u] W fun e w' => e = .returned (.bool bT) ∧ Below W.heap.size W w') := fun W u h => by
    have q := backs_any (.mk hh ll) W u (by rw [T.kids_mk]; exact h) hc; rw [T.hd_mk, hbT] at q; exact q
  have DP : Hid (∀ (W : World) (u : Value), SV AnyB W u ll → Calls Try.prog 38 #[vN hh u] W fun e w' => e = .returned (.int .i64 (dT : Int)) ∧ Below W.heap.size W w') := fun W u h => by
    have q := deep_any (.mk hh ll) W u (by rw [T.kids_mk]; exact h) hc; rw [T.hd_mk, hdT] at q; exact q
  have CN : Hid (∀ (W : World) (u : Value), SV AnyB W u ll → Calls Try.prog 36 #[vN hh u] W fun e w' => e = .returned (.int .i64 (cT : Int)) ∧ Below W.heap.size W w') := fun W u h => by
    have q := count_any (.mk hh ll) W u (by rw [T.kids_mk]; exact h) hc; rw [T.hd_mk, hcT] at q; exact q
  clear hp hc hgT hbT hdT hcT hM hl
  have j8 : ¬ (8 : Int) < (gT : Int) := by omega
  have d8 : decide ((8 : Int) < (gT : Int)) = false := decide_eq_false j8
  subst hb
  have j9 : (9 : Int) < (dT : Int) := by omega
  go_enter Try.func15, Try.ntmps15
  go_wp2_with fail
  refine AW.out.mono ?_
  rintro e w1 ⟨rfl, b1⟩
  have B1 : Hid (Below w.heap.size w w1) := b1
  have M1 : Hid (MaxL w1) := HM.out.below2 b1
  clear b1 AW HM
  go_wp2_with fail
  refine (PS.out _ M1.out).mono ?_
  rintro e w2 ⟨u, rfl, s2, b2⟩
  have B2 : Hid (Below w.heap.size w w2) := B1.out.trans (b2.mono B1.out.size)
  have M2 : Hid (MaxL w2) := M1.out.below2 b2
  obtain ⟨av, cp, b, o, hu, hrest⟩ := id s2
  clear hrest
  subst hu
  have N3 : Hid (BoxN 55 (w2.alloc (.cells (cN hh (.slice av ll.length cp)).toArray 55)) w2.heap.size hh (.slice av ll.length cp)) := BoxN.new _ _ _ _
  have B3 : Hid (Below w.heap.size w (w2.alloc (.cells (cN hh (.slice av ll.length cp)).toArray 55))) := B2.out.alloc B2.out.size _
  have M3 : Hid (MaxL (w2.alloc (.cells (cN hh (.slice av ll.length cp)).toArray 55))) := M2.out.alloc _
  have S3 : Hid (SV AnyB (w2.alloc (.cells (cN hh (.slice av ll.length cp)).toArray 55)) (.slice av ll.length cp) ll) := s2.below ((Below.refl _ _).alloc (Nat.le_refl _) _)
  clear b2 s2 PS M1
  go_wp2_with (first | (refine storeN55 rfl _ _ rfl rfl hh av ll.length cp rfl ?_) | (refine loadN55g rfl _ rfl w2.heap.size 0 rfl hh _ N3.out.range ?_) | (go_at_call 40; refine (GR.out _ _ S3.out).mono ?_; rintro e w10 ⟨rfl, b10⟩; have N10 : Hid (BoxN 55 w10 w2.heap.size hh (.slice av ll.length cp)) := N3.out.below b10 N3.out.lt; have B10 : Hid (Below w.heap.size w w10) := B3.out.trans (b10.mono B3.out.size); have M10 : Hid (MaxL w10) := M3.out.below2 b10; have S10 : Hid (SV AnyB w10 (.slice av ll.length cp) ll) := S3.out.below b10; clear b10) | ((try simp only [d8]); refine loadN55g rfl _ rfl w2.heap.size 0 rfl hh _ N10.out.range ?_) | (go_at_call 54; refine (BK.out _ _ S10.out).mono ?_; rintro e w11 ⟨rfl, b11⟩; have N11 : Hid (BoxN 55 w11 w2.heap.size hh (.slice av ll.length cp)) := N10.out.below b11 N10.out.lt; have B11 : Hid (Below w.heap.size w w11) := B10.out.trans (b11.mono B10.out.size); have M11 : Hid (MaxL w11) := M10.out.below2 b11; have S11 : Hid (SV AnyB w11 (.slice av ll.length cp) ll) := S10.out.below b11; clear b11) | ((try simp only [d8]); refine loadN55g rfl _ rfl w2.heap.size 0 rfl hh _ N11.out.range ?_) | (go_at_call 38; refine (DP.out _ _ S11.out).mono ?_; rintro e w12 ⟨rfl, b12⟩; have N12 : Hid (BoxN 55 w12 w2.heap.size hh (.slice av ll.length cp)) := N11.out.below b12 N11.out.lt; have B12 : Hid (Below w.heap.size w w12) := B11.out.trans (b12.mono B11.out.size); have M12 : Hid (MaxL w12) := M11.out.below2 b12; have S12 : Hid (SV AnyB w12 (.slice av ll.length cp) ll) := S11.out.below b12; clear b12) | ((try simp only [d8]); refine loadN55g rfl _ rfl w2.heap.size 0 rfl hh _ N12.out.range ?_) )
  go_ret
  exact ⟨by first | rfl | simp, B12.out⟩
set_option maxHeartbeats 4000000 in
set_option maxRecDepth 100000 in
theorem groups_over4 (s : ByteArray) (hl : s.size ≤ 500) (w : World) (hM : MaxL w) (hh : Hd) (ll : List T) (hp : parseB (some 200) s.data.toList = (.mk hh ll, 0, 0)) (hc : countT (.mk hh ll) ≤ 1000000) (gT dT cT : Nat) (bT : Bool) (hgT : groupsT (.mk hh ll) = gT) (hbT : backT (.mk hh ll) = bT) (hdT : deepT (.mk hh ll) = dT) (hcT : countT (.mk hh ll) = cT) (h8 : ¬ 8 < gT) (hb : bT = false) (h9 : ¬ 9 < dT) (h199 : 199 < cT) : Calls Try.prog 15 #[.string s] w fun e w' => e = .returned (.bool true) ∧ Below w.heap.size w w' := by
  have i500 : ¬ (500 : Int) < s.size := by omega
  have AW : Hid (Calls Try.prog 51 #[] w fun e w' => e = .returned (.bool true) ∧ Below w.heap.size w w') := awake_bre w hM
  have HM : Hid (MaxL w) := hM
  have PS : Hid (∀ W, MaxL W → Calls Try.prog 52 #[.string s] W fun e w' => ∃ u, e = .returned (.tuple #[vN hh u, .int .i64 0, .int .i64 0]) ∧ SV AnyB w' u ll ∧ Below W.heap.size W w') := fun W hW => (parse_bre s (by omega) W hW).mono fun e w' ⟨u, q1, q2, q3⟩ => by
    rw [hp] at q1 q2
    rw [T.hd_mk] at q1
    rw [T.kids_mk] at q2
    exact ⟨_, q1, q2.any, q3⟩
  have GR : Hid (∀ (W : World) (u : Value), SV AnyB W u ll → Calls Try.prog 40 #[vN hh u] W fun e w' => e = .returned (.int .i64 (gT : Int)) ∧ Below W.heap.size W w') := fun W u h => by
    have q := groups_any (.mk hh ll) W u (by rw [T.kids_mk]; exact h) hc; rw [T.hd_mk, hgT] at q; exact q
  have BK : Hid (∀ (W : World) (u : Value), SV AnyB W u ll → Calls Try.prog 54 #[vN hh u] W fun e w' => e = .returned (.bool bT) ∧ Below W.heap.size W w') := fun W u h => by
    have q := backs_any (.mk hh ll) W u (by rw [T.kids_mk]; exact h) hc; rw [T.hd_mk, hbT] at q; exact q
  have DP : Hid (∀ (W : World) (u : Value), SV AnyB W u ll → Calls Try.prog 38 #[vN hh u] W fun e w' => e = .returned (.int .i64 (dT : Int)) ∧ Below W.heap.size W w') := fun W u h => by
    have q := deep_any (.mk hh ll) W u (by rw [T.kids_mk]; exact h) hc; rw [T.hd_mk, hdT] at q; exact q
  have CN : Hid (∀ (W : World) (u : Value), SV AnyB W u ll → Calls Try.prog 36 #[vN hh u] W fun e w' => e = .returned (.int .i64 (cT : Int)) ∧ Below W.heap.size W w') := fun W u h => by
    have q := count_any (.mk hh ll) W u (by rw [T.kids_mk]; exact h) hc; rw [T.hd_mk, hcT] at q; exact q
  clear hp hc hgT hbT hdT hcT hM hl
  have j8 : ¬ (8 : Int) < (gT : Int) := by omega
  have d8 : decide ((8 : Int) < (gT : Int)) = false := decide_eq_false j8
  subst hb
  have j9 : ¬ (9 : Int) < (dT : Int) := by omega
  have d9 : decide ((9 : Int) < (dT : Int)) = false := decide_eq_false j9
  have j199 : (199 : Int) < (cT : Int) := by omega
  go_enter Try.func15, Try.ntmps15
  go_wp2_with fail
  refine AW.out.mono ?_
  rintro e w1 ⟨rfl, b1⟩
  have B1 : Hid (Below w.heap.size w w1) := b1
  have M1 : Hid (MaxL w1) := HM.out.below2 b1
  clear b1 AW HM
  go_wp2_with fail
  refine (PS.out _ M1.out).mono ?_
  rintro e w2 ⟨u, rfl, s2, b2⟩
  have B2 : Hid (Below w.heap.size w w2) := B1.out.trans (b2.mono B1.out.size)
  have M2 : Hid (MaxL w2) := M1.out.below2 b2
  obtain ⟨av, cp, b, o, hu, hrest⟩ := id s2
  clear hrest
  subst hu
  have N3 : Hid (BoxN 55 (w2.alloc (.cells (cN hh (.slice av ll.length cp)).toArray 55)) w2.heap.size hh (.slice av ll.length cp)) := BoxN.new _ _ _ _
  have B3 : Hid (Below w.heap.size w (w2.alloc (.cells (cN hh (.slice av ll.length cp)).toArray 55))) := B2.out.alloc B2.out.size _
  have M3 : Hid (MaxL (w2.alloc (.cells (cN hh (.slice av ll.length cp)).toArray 55))) := M2.out.alloc _
  have S3 : Hid (SV AnyB (w2.alloc (.cells (cN hh (.slice av ll.length cp)).toArray 55)) (.slice av ll.length cp) ll) := s2.below ((Below.refl _ _).alloc (Nat.le_refl _) _)
  clear b2 s2 PS M1
  go_wp2_with (first | (refine storeN55 rfl _ _ rfl rfl hh av ll.length cp rfl ?_) | (refine loadN55g rfl _ rfl w2.heap.size 0 rfl hh _ N3.out.range ?_) | (go_at_call 40; refine (GR.out _ _ S3.out).mono ?_; rintro e w10 ⟨rfl, b10⟩; have N10 : Hid (BoxN 55 w10 w2.heap.size hh (.slice av ll.length cp)) := N3.out.below b10 N3.out.lt; have B10 : Hid (Below w.heap.size w w10) := B3.out.trans (b10.mono B3.out.size); have M10 : Hid (MaxL w10) := M3.out.below2 b10; have S10 : Hid (SV AnyB w10 (.slice av ll.length cp) ll) := S3.out.below b10; clear b10) | ((try simp only [d8, d9]); refine loadN55g rfl _ rfl w2.heap.size 0 rfl hh _ N10.out.range ?_) | (go_at_call 54; refine (BK.out _ _ S10.out).mono ?_; rintro e w11 ⟨rfl, b11⟩; have N11 : Hid (BoxN 55 w11 w2.heap.size hh (.slice av ll.length cp)) := N10.out.below b11 N10.out.lt; have B11 : Hid (Below w.heap.size w w11) := B10.out.trans (b11.mono B10.out.size); have M11 : Hid (MaxL w11) := M10.out.below2 b11; have S11 : Hid (SV AnyB w11 (.slice av ll.length cp) ll) := S10.out.below b11; clear b11) | ((try simp only [d8, d9]); refine loadN55g rfl _ rfl w2.heap.size 0 rfl hh _ N11.out.range ?_) | (go_at_call 38; refine (DP.out _ _ S11.out).mono ?_; rintro e w12 ⟨rfl, b12⟩; have N12 : Hid (BoxN 55 w12 w2.heap.size hh (.slice av ll.length cp)) := N11.out.below b12 N11.out.lt; have B12 : Hid (Below w.heap.size w w12) := B11.out.trans (b12.mono B11.out.size); have M12 : Hid (MaxL w12) := M11.out.below2 b12; have S12 : Hid (SV AnyB w12 (.slice av ll.length cp) ll) := S11.out.below b12; clear b12) | ((try simp only [d8, d9]); refine loadN55g rfl _ rfl w2.heap.size 0 rfl hh _ N12.out.range ?_) | (go_at_call 36; refine (CN.out _ _ S12.out).mono ?_; rintro e w13 ⟨rfl, b13⟩; have N13 : Hid (BoxN 55 w13 w2.heap.size hh (.slice av ll.length cp)) := N12.out.below b13 N12.out.lt; have B13 : Hid (Below w.heap.size w w13) := B12.out.trans (b13.mono B12.out.size); have M13 : Hid (MaxL w13) := M12.out.below2 b13; have S13 : Hid (SV AnyB w13 (.slice av ll.length cp) ll) := S12.out.below b13; clear b13) | ((try simp only [d8, d9]); refine loadN55g rfl _ rfl w2.heap.size 0 rfl hh _ N13.out.range ?_) )
  go_ret
  exact ⟨by first | rfl | simp, B13.out⟩
set_option maxHeartbeats 4000000 in
set_option maxRecDepth 100000 in
theorem groups_full (s : ByteArray) (hl : s.size ≤ 500) (w : World) (hM : MaxL w) (hh : Hd) (ll : List T) (hp : parseB (some 200) s.data.toList = (.mk hh ll, 0, 0)) (hc : countT (.mk hh ll) ≤ 1000000) (gT dT cT : Nat) (bT : Bool) (hgT : groupsT (.mk hh ll) = gT) (hbT : backT (.mk hh ll) = bT) (hdT : deepT (.mk hh ll) = dT) (hcT : countT (.mk hh ll) = cT) (h8 : ¬ 8 < gT) (hb : bT = false) (h9 : ¬ 9 < dT) (h199 : ¬ 199 < cT) (hsm : smallT (.mk hh ll) = true) (hp2 : parseB (some 200) (92 :: 40 :: (s.data.toList ++ endE)) = (.mk (hGroup 1) [hiT (.mk hh ll)], 0, 0)) : Calls Try.prog 15 #[.string s] w fun e w' => e = .returned (.bool true) ∧ Below w.heap.size w w' := by
  have i500 : ¬ (500 : Int) < s.size := by omega
  have AW : Hid (Calls Try.prog 51 #[] w fun e w' => e = .returned (.bool true) ∧ Below w.heap.size w w') := awake_bre w hM
  have HM : Hid (MaxL w) := hM
  have PS : Hid (∀ W, MaxL W → Calls Try.prog 52 #[.string s] W fun e w' => ∃ u, e = .returned (.tuple #[vN hh u, .int .i64 0, .int .i64 0]) ∧ SV AnyB w' u ll ∧ Below W.heap.size W w') := fun W hW => (parse_bre s (by omega) W hW).mono fun e w' ⟨u, q1, q2, q3⟩ => by
    rw [hp] at q1 q2
    rw [T.hd_mk] at q1
    rw [T.kids_mk] at q2
    exact ⟨_, q1, q2.any, q3⟩
  have GR : Hid (∀ (W : World) (u : Value), SV AnyB W u ll → Calls Try.prog 40 #[vN hh u] W fun e w' => e = .returned (.int .i64 (gT : Int)) ∧ Below W.heap.size W w') := fun W u h => by
    have q := groups_any (.mk hh ll) W u (by rw [T.kids_mk]; exact h) hc; rw [T.hd_mk, hgT] at q; exact q
  have BK : Hid (∀ (W : World) (u : Value), SV AnyB W u ll → Calls Try.prog 54 #[vN hh u] W fun e w' => e = .returned (.bool bT) ∧ Below W.heap.size W w') := fun W u h => by
    have q := backs_any (.mk hh ll) W u (by rw [T.kids_mk]; exact h) hc; rw [T.hd_mk, hbT] at q; exact q
  have DP : Hid (∀ (W : World) (u : Value), SV AnyB W u ll → Calls Try.prog 38 #[vN hh u] W fun e w' => e = .returned (.int .i64 (dT : Int)) ∧ Below W.heap.size W w') := fun W u h => by
    have q := deep_any (.mk hh ll) W u (by rw [T.kids_mk]; exact h) hc; rw [T.hd_mk, hdT] at q; exact q
  have CN : Hid (∀ (W : World) (u : Value), SV AnyB W u ll → Calls Try.prog 36 #[vN hh u] W fun e w' => e = .returned (.int .i64 (cT : Int)) ∧ Below W.heap.size W w') := fun W u h => by
    have q := count_any (.mk hh ll) W u (by rw [T.kids_mk]; exact h) hc; rw [T.hd_mk, hcT] at q; exact q
  have PS2 : Hid (∀ (x : ByteArray) (W : World), x.data.toList = 92 :: 40 :: (s.data.toList ++ endE) → MaxL W → Calls Try.prog 52 #[.string x] W fun e w' => ∃ u, e = .returned (.tuple #[vN (hGroup 1) u, .int .i64 0, .int .i64 0]) ∧ SV AnyB w' u [T.mk (hiH hh) (ll.map hiT)] ∧ Below W.heap.size W w') := fun x W hx hW => (parse_bre x (by rw [Lib.size_eq, hx]; have := Lib.size_eq s; simp [endE]; omega) W hW).mono fun e w' ⟨u, q1, q2, q3⟩ => by
    rw [hx, hp2] at q1 q2
    rw [T.hd_mk] at q1
    rw [T.kids_mk, hiT_mk] at q2
    exact ⟨_, q1, q2.any, q3⟩
  have HG : Hid (∀ (W : World) (u : Value), SV AnyB W u ll → Calls Try.prog 55 #[vN hh u] W fun e w' => ∃ u', e = .returned (vN (hiH hh) u') ∧ SV AnyB w' u' (ll.map hiT) ∧ Below W.heap.size W w') := fun W u h => by
    have q := higher_any (.mk hh ll) W u (by rw [T.kids_mk]; exact h) hc hsm
    rw [T.hd_mk, T.kids_mk] at q
    exact q.mono fun e w' ⟨u', q1, q2, q3⟩ => ⟨u', q1, q2.any, q3⟩
  have SM : Hid (∀ (W : World) (u v : Value), SV AnyB W u (ll.map hiT) → SV AnyB W v (ll.map hiT) → Calls Try.prog 50 #[vN (hiH hh) u, vN (hiH hh) v] W fun e w' => e = .returned (.bool true) ∧ Below W.heap.size W w') := fun W u v h1 h2 => by
    have q := same_any (.mk (hiH hh) (ll.map hiT)) (.mk (hiH hh) (ll.map hiT)) W u v (by rw [T.kids_mk]; exact h1) (by rw [T.kids_mk]; exact h2)
    rw [T.hd_mk, same_refl.1] at q; exact q
  have hlz : (s.size : Int) ≤ 500 := by omega
  clear hp hp2 hc hgT hbT hdT hcT hM hl hsm
  have j8 : ¬ (8 : Int) < (gT : Int) := by omega
  have d8 : decide ((8 : Int) < (gT : Int)) = false := decide_eq_false j8
  subst hb
  have j9 : ¬ (9 : Int) < (dT : Int) := by omega
  have d9 : decide ((9 : Int) < (dT : Int)) = false := decide_eq_false j9
  have j199 : ¬ (199 : Int) < (cT : Int) := by omega
  go_enter Try.func15, Try.ntmps15
  go_wp2_with fail
  refine AW.out.mono ?_
  rintro e w1 ⟨rfl, b1⟩
  have B1 : Hid (Below w.heap.size w w1) := b1
  have M1 : Hid (MaxL w1) := HM.out.below2 b1
  clear b1 AW HM
  go_wp2_with fail
  refine (PS.out _ M1.out).mono ?_
  rintro e w2 ⟨u, rfl, s2, b2⟩
  have B2 : Hid (Below w.heap.size w w2) := B1.out.trans (b2.mono B1.out.size)
  have M2 : Hid (MaxL w2) := M1.out.below2 b2
  obtain ⟨av, cp, b, o, hu, hrest⟩ := id s2
  clear hrest
  subst hu
  have N3 : Hid (BoxN 55 (w2.alloc (.cells (cN hh (.slice av ll.length cp)).toArray 55)) w2.heap.size hh (.slice av ll.length cp)) := BoxN.new _ _ _ _
  have B3 : Hid (Below w.heap.size w (w2.alloc (.cells (cN hh (.slice av ll.length cp)).toArray 55))) := B2.out.alloc B2.out.size _
  have M3 : Hid (MaxL (w2.alloc (.cells (cN hh (.slice av ll.length cp)).toArray 55))) := M2.out.alloc _
  have S3 : Hid (SV AnyB (w2.alloc (.cells (cN hh (.slice av ll.length cp)).toArray 55)) (.slice av ll.length cp) ll) := s2.below ((Below.refl _ _).alloc (Nat.le_refl _) _)
  clear b2 s2 PS M1
  go_wp2_with (first | (refine storeN55 rfl _ _ rfl rfl hh av ll.length cp rfl ?_) | (refine loadN55g rfl _ rfl w2.heap.size 0 rfl hh _ N3.out.range ?_) | (go_at_call 40; refine (GR.out _ _ S3.out).mono ?_; rintro e w10 ⟨rfl, b10⟩; have N10 : Hid (BoxN 55 w10 w2.heap.size hh (.slice av ll.length cp)) := N3.out.below b10 N3.out.lt; have B10 : Hid (Below w.heap.size w w10) := B3.out.trans (b10.mono B3.out.size); have M10 : Hid (MaxL w10) := M3.out.below2 b10; have S10 : Hid (SV AnyB w10 (.slice av ll.length cp) ll) := S3.out.below b10; clear b10) | ((try simp only [d8, d9]); refine loadN55g rfl _ rfl w2.heap.size 0 rfl hh _ N10.out.range ?_) | (go_at_call 54; refine (BK.out _ _ S10.out).mono ?_; rintro e w11 ⟨rfl, b11⟩; have N11 : Hid (BoxN 55 w11 w2.heap.size hh (.slice av ll.length cp)) := N10.out.below b11 N10.out.lt; have B11 : Hid (Below w.heap.size w w11) := B10.out.trans (b11.mono B10.out.size); have M11 : Hid (MaxL w11) := M10.out.below2 b11; have S11 : Hid (SV AnyB w11 (.slice av ll.length cp) ll) := S10.out.below b11; clear b11) | ((try simp only [d8, d9]); refine loadN55g rfl _ rfl w2.heap.size 0 rfl hh _ N11.out.range ?_) | (go_at_call 38; refine (DP.out _ _ S11.out).mono ?_; rintro e w12 ⟨rfl, b12⟩; have N12 : Hid (BoxN 55 w12 w2.heap.size hh (.slice av ll.length cp)) := N11.out.below b12 N11.out.lt; have B12 : Hid (Below w.heap.size w w12) := B11.out.trans (b12.mono B11.out.size); have M12 : Hid (MaxL w12) := M11.out.below2 b12; have S12 : Hid (SV AnyB w12 (.slice av ll.length cp) ll) := S11.out.below b12; clear b12) | ((try simp only [d8, d9]); refine loadN55g rfl _ rfl w2.heap.size 0 rfl hh _ N12.out.range ?_) | (go_at_call 36; refine (CN.out _ _ S12.out).mono ?_; rintro e w13 ⟨rfl, b13⟩; have N13 : Hid (BoxN 55 w13 w2.heap.size hh (.slice av ll.length cp)) := N12.out.below b13 N12.out.lt; have B13 : Hid (Below w.heap.size w w13) := B12.out.trans (b13.mono B12.out.size); have M13 : Hid (MaxL w13) := M12.out.below2 b13; have S13 : Hid (SV AnyB w13 (.slice av ll.length cp) ll) := S12.out.below b13; clear b13) | ((try simp only [d8, d9]); refine loadN55g rfl _ rfl w2.heap.size 0 rfl hh _ N13.out.range ?_) )
  refine (PS2.out _ _ (by simp [endE]) M13.out).mono ?_
  rintro e w4 ⟨u4, rfl, s4, b4⟩
  have B4 : Hid (Below w.heap.size w w4) := B13.out.trans (b4.mono B13.out.size)
  have N4 : Hid (BoxN 55 w4 w2.heap.size hh (.slice av ll.length cp)) := N13.out.below b4 N13.out.lt
  have S4 : Hid (SV AnyB w4 (.slice av ll.length cp) ll) := S13.out.below b4
  obtain ⟨av6, cp6, b6, o6, hu4, hq1, hq2, hq3, hq4⟩ := id s4
  obtain rfl := hq3 (by simp)
  subst hu4
  rw [LAt_cons] at hq4
  obtain ⟨u6, k1, _, k3, k4⟩ := hq4.1.out
  clear b4 s4 hq1 hq2 hq3 hq4 N13 S13 B13 M13
  simp only [List.length_cons, List.length_nil, Nat.zero_add]
  obtain ⟨w5, hw5⟩ : ∃ W, W = w4.alloc (.cells (cN (hGroup 1) (.slice (some ⟨b6, o6, none⟩) 1 cp6)).toArray 55) := ⟨_, rfl⟩
  have hz5 : w4.heap.size ≤ w5.heap.size := by rw [hw5]; simp
  have b5 : Below w4.heap.size w4 w5 := by rw [hw5]; exact (Below.refl _ _).alloc (Nat.le_refl _) _
  have M5 : BoxN 55 w5 w4.heap.size (hGroup 1) (.slice (some ⟨b6, o6, none⟩) 1 cp6) := by rw [hw5]; exact BoxN.new _ _ _ _
  have B5 : Hid (Below w.heap.size w w5) := B4.out.trans (b5.mono B4.out.size)
  have N5 : BoxN 55 w5 w2.heap.size hh (.slice av ll.length cp) := N4.out.below b5 N4.out.lt
  have S5 : SV AnyB w5 (.slice av ll.length cp) ll := S4.out.below b5
  have K5 : w5.rangeAt b6 o6 (cN (hiH hh) u6) := range_block k1 (b5.block b6 k3)
  have V5 : SV AnyB w5 u6 (ll.map hiT) := k4.below b5
  have C0 : Hid (∀ W, Below w5.heap.size w5 W → W.cell? ⟨w4.heap.size, 0, none⟩ = some (.int .i64 6)) := fun W h => (M5.below h M5.lt).cell 0 _ rfl
  have C6 : Hid (∀ W, Below w5.heap.size w5 W → W.cell? ⟨w4.heap.size, 6, none⟩ = some (.int .i64 1)) := fun W h => (M5.below h M5.lt).cell 6 _ rfl
  have C9 : Hid (∀ W, Below w5.heap.size w5 W → W.cell? ⟨w4.heap.size, 9, none⟩ = some (.slice (some ⟨b6, o6, none⟩) 1 cp6)) := fun W h => (M5.below h M5.lt).cell 9 _ rfl
  have HK : Hid (∀ W, Below w5.heap.size w5 W → W.rangeAt b6 o6 (cN (hiH hh) u6)) := fun W h => range_block K5 (h.block b6 (Nat.lt_of_lt_of_le k3 hz5))
  have HN : Hid (∀ W, Below w5.heap.size w5 W → W.rangeAt w2.heap.size 0 (cN hh (.slice av ll.length cp))) := fun W h => (N5.below h N5.lt).range
  have HI : Hid (∀ W, Below w5.heap.size w5 W → Calls Try.prog 55 #[vN hh (.slice av ll.length cp)] W fun e w' => ∃ u', e = .returned (vN (hiH hh) u') ∧ SV AnyB w' u' (ll.map hiT) ∧ Below w5.heap.size w5 w') := fun W h => (HG.out W _ (S5.below h)).mono fun e w' ⟨u', q1, q2, q3⟩ => ⟨u', q1, q2, h.trans (q3.mono h.size)⟩
  have SA : Hid (∀ (W : World) (v : Value), Below w5.heap.size w5 W → SV AnyB W v (ll.map hiT) → Calls Try.prog 50 #[vN (hiH hh) u6, vN (hiH hh) v] W fun e w' => e = .returned (.bool true) ∧ Below w5.heap.size w5 w') := fun W v h h2 => (SM.out W _ _ (V5.below h) h2).mono fun e w' ⟨q1, q2⟩ => ⟨q1, h.trans (q2.mono h.size)⟩
  clear k1 k3 k4 b5 M5 N5 S5 K5 V5 hz5 HG SM N4 S4
  go_wp2_with (refine storeN55 rfl _ _ rfl rfl (hGroup 1) (some ⟨b6, o6, none⟩) 1 cp6 rfl ?_)
  rw [← hw5]
  clear hw5
  refine wp_region_noPanic ?_
  refine wp_region_held_drew (S := fun W => Below w5.heap.size w5 W) (by kernel_rfl) ((Below.refl _ _).drew) (fun hHeld => ?_)
  try simp only [Act.put, List.setIfInBounds_toArray, List.set_cons_zero, List.set_cons_succ]
  refine wpAnyH_take (i := 0) (oi := { dst := some 59, op := Go.Op.move (Go.Operand.tmp 8), type := 39, pos := "law.go:53", after := #[], guard := none }) (v := ?_) rfl (by kernel_rfl) (by kernel_rfl) (by kernel_rfl) (fun _ _ _ h => h) (Or.inl ⟨by rfl, ?_⟩) hHeld ?_
  rotate_left 1
  · (intro wq hSq; (try dsimp only at hSq); go_simp; first | done | with_reducible rfl)
  try simp only [Act.put, List.setIfInBounds_toArray, List.set_cons_zero, List.set_cons_succ]
  refine wpAnyH_take (i := 1) (oi := { dst := some 60, op := Go.Op.binOp Go.BinOp.eql 39 (Go.Operand.tmp 59) (Go.Operand.const (Go.Value.int Go.IntKind.i64 0)) 39, type := 4, pos := "law.go:53", after := #[{ on := 0, ground := Go.Ground.data }], guard := none }) (v := ?_) rfl (by kernel_rfl) (by kernel_rfl) (by kernel_rfl) (fun _ _ _ h => h) (Or.inl ⟨by rfl, ?_⟩) hHeld ?_
  rotate_left 1
  · (intro wq hSq; (try dsimp only at hSq); go_simp; first | done | with_reducible rfl)
  try simp only [Act.put, List.setIfInBounds_toArray, List.set_cons_zero, List.set_cons_succ]
  refine wpAnyH_take (i := 2) (oi := { dst := some 61, op := Go.Op.move (Go.Operand.tmp 60), type := 4, pos := "law.go:53", after := #[{ on := 1, ground := Go.Ground.data }], guard := none }) (v := ?_) rfl (by kernel_rfl) (by kernel_rfl) (by kernel_rfl) (fun _ _ _ h => h) (Or.inl ⟨by rfl, ?_⟩) hHeld ?_
  rotate_left 1
  · (intro wq hSq; (try dsimp only at hSq); go_simp; first | done | with_reducible rfl)
  try simp only [Act.put, List.setIfInBounds_toArray, List.set_cons_zero, List.set_cons_succ]
  refine wpAnyH_take (i := 3) (oi := { dst := some 62, op := Go.Op.fieldAddr 55 (Go.Operand.tmp 6) 0, type := 0, pos := "law.go:53", after := #[{ on := 2, ground := Go.Ground.guard }], guard := some (2, true) }) (v := ?_) rfl (by kernel_rfl) (by kernel_rfl) (by kernel_rfl) (fun _ _ _ h => h) (Or.inl ⟨by rfl, ?_⟩) hHeld ?_
  rotate_left 1
  · (intro wq hSq; (try dsimp only at hSq); go_simp; first | done | with_reducible rfl)
  try simp only [Act.put, List.setIfInBounds_toArray, List.set_cons_zero, List.set_cons_succ]
  refine wpAnyH_take (i := 4) (oi := { dst := some 63, op := Go.Op.load 3 (Go.Operand.tmp 62), type := 3, pos := "law.go:53", after := #[{ on := 3, ground := Go.Ground.data }, { on := 2, ground := Go.Ground.guard }], guard := some (2, true) }) (v := ?_) rfl (by kernel_rfl) (by kernel_rfl) (by kernel_rfl) (fun _ _ _ h => h) (Or.inl ⟨by rfl, ?_⟩) hHeld ?_
  rotate_left 1
  · (intro wq hSq; (try dsimp only at hSq); have c := C0.out _ hSq; go_simp; first | done | with_reducible rfl)
  try simp only [Act.put, List.setIfInBounds_toArray, List.set_cons_zero, List.set_cons_succ]
  refine wpAnyH_take (i := 5) (oi := { dst := some 64, op := Go.Op.binOp Go.BinOp.eql 3 (Go.Operand.tmp 63) (Go.Operand.const (Go.Value.int Go.IntKind.i64 6)) 3, type := 4, pos := "law.go:53", after := #[{ on := 4, ground := Go.Ground.data }, { on := 2, ground := Go.Ground.guard }], guard := some (2, true) }) (v := ?_) rfl (by kernel_rfl) (by kernel_rfl) (by kernel_rfl) (fun _ _ _ h => h) (Or.inl ⟨by rfl, ?_⟩) hHeld ?_
  rotate_left 1
  · (intro wq hSq; (try dsimp only at hSq); go_simp; first | done | with_reducible rfl)
  try simp only [Act.put, List.setIfInBounds_toArray, List.set_cons_zero, List.set_cons_succ]
  refine wpAnyH_take (i := 6) (oi := { dst := some 65, op := Go.Op.pick (Go.Operand.tmp 61) (Go.Operand.tmp 64) (Go.Operand.const (Go.Value.bool false)), type := 4, pos := "law.go:53", after := #[{ on := 2, ground := Go.Ground.data }, { on := 5, ground := Go.Ground.data }], guard := none }) (v := ?_) rfl (by kernel_rfl) (by kernel_rfl) (by kernel_rfl) (fun _ _ _ h => h) (Or.inl ⟨by rfl, ?_⟩) hHeld ?_
  rotate_left 1
  · (intro wq hSq; (try dsimp only at hSq); go_simp; first | done | with_reducible rfl)
  try simp only [Act.put, List.setIfInBounds_toArray, List.set_cons_zero, List.set_cons_succ]
  refine wpAnyH_take (i := 7) (oi := { dst := some 66, op := Go.Op.move (Go.Operand.tmp 65), type := 4, pos := "law.go:53", after := #[{ on := 6, ground := Go.Ground.data }, { on := 2, ground := Go.Ground.chain }], guard := none }) (v := ?_) rfl (by kernel_rfl) (by kernel_rfl) (by kernel_rfl) (fun _ _ _ h => h) (Or.inl ⟨by rfl, ?_⟩) hHeld ?_
  rotate_left 1
  · (intro wq hSq; (try dsimp only at hSq); go_simp; first | done | with_reducible rfl)
  try simp only [Act.put, List.setIfInBounds_toArray, List.set_cons_zero, List.set_cons_succ]
  refine wpAnyH_take (i := 8) (oi := { dst := some 67, op := Go.Op.fieldAddr 55 (Go.Operand.tmp 6) 3, type := 0, pos := "law.go:53", after := #[{ on := 7, ground := Go.Ground.guard }], guard := some (7, true) }) (v := ?_) rfl (by kernel_rfl) (by kernel_rfl) (by kernel_rfl) (fun _ _ _ h => h) (Or.inl ⟨by rfl, ?_⟩) hHeld ?_
  rotate_left 1
  · (intro wq hSq; (try dsimp only at hSq); go_simp; first | done | with_reducible rfl)
  try simp only [Act.put, List.setIfInBounds_toArray, List.set_cons_zero, List.set_cons_succ]
  refine wpAnyH_take (i := 9) (oi := { dst := some 68, op := Go.Op.load 3 (Go.Operand.tmp 67), type := 3, pos := "law.go:53", after := #[{ on := 8, ground := Go.Ground.data }, { on := 7, ground := Go.Ground.guard }], guard := some (7, true) }) (v := ?_) rfl (by kernel_rfl) (by kernel_rfl) (by kernel_rfl) (fun _ _ _ h => h) (Or.inl ⟨by rfl, ?_⟩) hHeld ?_
  rotate_left 1
  · (intro wq hSq; (try dsimp only at hSq); have c := C6.out _ hSq; go_simp; first | done | with_reducible rfl)
  try simp only [Act.put, List.setIfInBounds_toArray, List.set_cons_zero, List.set_cons_succ]
  refine wpAnyH_take (i := 10) (oi := { dst := some 69, op := Go.Op.binOp Go.BinOp.eql 3 (Go.Operand.tmp 68) (Go.Operand.const (Go.Value.int Go.IntKind.i64 1)) 3, type := 4, pos := "law.go:53", after := #[{ on := 9, ground := Go.Ground.data }, { on := 7, ground := Go.Ground.guard }], guard := some (7, true) }) (v := ?_) rfl (by kernel_rfl) (by kernel_rfl) (by kernel_rfl) (fun _ _ _ h => h) (Or.inl ⟨by rfl, ?_⟩) hHeld ?_
  rotate_left 1
  · (intro wq hSq; (try dsimp only at hSq); go_simp; first | done | with_reducible rfl)
  try simp only [Act.put, List.setIfInBounds_toArray, List.set_cons_zero, List.set_cons_succ]
  refine wpAnyH_take (i := 11) (oi := { dst := some 70, op := Go.Op.pick (Go.Operand.tmp 66) (Go.Operand.tmp 69) (Go.Operand.const (Go.Value.bool false)), type := 4, pos := "law.go:53", after := #[{ on := 7, ground := Go.Ground.data }, { on := 10, ground := Go.Ground.data }], guard := none }) (v := ?_) rfl (by kernel_rfl) (by kernel_rfl) (by kernel_rfl) (fun _ _ _ h => h) (Or.inl ⟨by rfl, ?_⟩) hHeld ?_
  rotate_left 1
  · (intro wq hSq; (try dsimp only at hSq); go_simp; first | done | with_reducible rfl)
  try simp only [Act.put, List.setIfInBounds_toArray, List.set_cons_zero, List.set_cons_succ]
  refine wpAnyH_take (i := 12) (oi := { dst := some 71, op := Go.Op.move (Go.Operand.tmp 70), type := 4, pos := "law.go:53", after := #[{ on := 11, ground := Go.Ground.data }, { on := 7, ground := Go.Ground.chain }], guard := none }) (v := ?_) rfl (by kernel_rfl) (by kernel_rfl) (by kernel_rfl) (fun _ _ _ h => h) (Or.inl ⟨by rfl, ?_⟩) hHeld ?_
  rotate_left 1
  · (intro wq hSq; (try dsimp only at hSq); go_simp; first | done | with_reducible rfl)
  try simp only [Act.put, List.setIfInBounds_toArray, List.set_cons_zero, List.set_cons_succ]
  refine wpAnyH_take (i := 13) (oi := { dst := some 72, op := Go.Op.fieldAddr 55 (Go.Operand.tmp 6) 6, type := 0, pos := "law.go:53", after := #[{ on := 12, ground := Go.Ground.guard }], guard := some (12, true) }) (v := ?_) rfl (by kernel_rfl) (by kernel_rfl) (by kernel_rfl) (fun _ _ _ h => h) (Or.inl ⟨by rfl, ?_⟩) hHeld ?_
  rotate_left 1
  · (intro wq hSq; (try dsimp only at hSq); go_simp; first | done | with_reducible rfl)
  try simp only [Act.put, List.setIfInBounds_toArray, List.set_cons_zero, List.set_cons_succ]
  refine wpAnyH_take (i := 14) (oi := { dst := some 73, op := Go.Op.load 53 (Go.Operand.tmp 72), type := 53, pos := "law.go:53", after := #[{ on := 13, ground := Go.Ground.data }, { on := 12, ground := Go.Ground.guard }], guard := some (12, true) }) (v := ?_) rfl (by kernel_rfl) (by kernel_rfl) (by kernel_rfl) (fun _ _ _ h => h) (Or.inl ⟨by rfl, ?_⟩) hHeld ?_
  rotate_left 1
  · (intro wq hSq; (try dsimp only at hSq); have c := C9.out _ hSq; go_simp; first | done | with_reducible rfl)
  try simp only [Act.put, List.setIfInBounds_toArray, List.set_cons_zero, List.set_cons_succ]
  refine wpAnyH_take (i := 15) (oi := { dst := some 74, op := Go.Op.call { callee := Go.Callee.builtin Go.Builtin.len, args := #[Go.Operand.tmp 73], argTypes := #[53] }, type := 3, pos := "law.go:53", after := #[{ on := 14, ground := Go.Ground.data }, { on := 12, ground := Go.Ground.guard }], guard := some (12, true) }) (v := ?_) rfl (by kernel_rfl) (by kernel_rfl) (by kernel_rfl) (fun _ _ _ h => h) (Or.inl ⟨by rfl, ?_⟩) hHeld ?_
  rotate_left 1
  · (intro wq hSq; (try dsimp only at hSq); go_simp; first | done | with_reducible rfl)
  try simp only [Act.put, List.setIfInBounds_toArray, List.set_cons_zero, List.set_cons_succ]
  refine wpAnyH_take (i := 16) (oi := { dst := some 75, op := Go.Op.binOp Go.BinOp.eql 3 (Go.Operand.tmp 74) (Go.Operand.const (Go.Value.int Go.IntKind.i64 1)) 3, type := 4, pos := "law.go:53", after := #[{ on := 15, ground := Go.Ground.data }, { on := 12, ground := Go.Ground.guard }], guard := some (12, true) }) (v := ?_) rfl (by kernel_rfl) (by kernel_rfl) (by kernel_rfl) (fun _ _ _ h => h) (Or.inl ⟨by rfl, ?_⟩) hHeld ?_
  rotate_left 1
  · (intro wq hSq; (try dsimp only at hSq); go_simp; first | done | with_reducible rfl)
  try simp only [Act.put, List.setIfInBounds_toArray, List.set_cons_zero, List.set_cons_succ]
  refine wpAnyH_take (i := 17) (oi := { dst := some 76, op := Go.Op.pick (Go.Operand.tmp 71) (Go.Operand.tmp 75) (Go.Operand.const (Go.Value.bool false)), type := 4, pos := "law.go:53", after := #[{ on := 12, ground := Go.Ground.data }, { on := 16, ground := Go.Ground.data }], guard := none }) (v := ?_) rfl (by kernel_rfl) (by kernel_rfl) (by kernel_rfl) (fun _ _ _ h => h) (Or.inl ⟨by rfl, ?_⟩) hHeld ?_
  rotate_left 1
  · (intro wq hSq; (try dsimp only at hSq); go_simp; first | done | with_reducible rfl)
  try simp only [Act.put, List.setIfInBounds_toArray, List.set_cons_zero, List.set_cons_succ]
  refine wpAnyH_take (i := 18) (oi := { dst := some 77, op := Go.Op.move (Go.Operand.tmp 76), type := 4, pos := "law.go:53", after := #[{ on := 17, ground := Go.Ground.data }, { on := 12, ground := Go.Ground.chain }], guard := none }) (v := ?_) rfl (by kernel_rfl) (by kernel_rfl) (by kernel_rfl) (fun _ _ _ h => h) (Or.inl ⟨by rfl, ?_⟩) hHeld ?_
  rotate_left 1
  · (intro wq hSq; (try dsimp only at hSq); go_simp; first | done | with_reducible rfl)
  try simp only [Act.put, List.setIfInBounds_toArray, List.set_cons_zero, List.set_cons_succ]
  refine wpAnyH_take (i := 19) (oi := { dst := some 78, op := Go.Op.fieldAddr 55 (Go.Operand.tmp 6) 6, type := 0, pos := "law.go:53", after := #[{ on := 18, ground := Go.Ground.guard }], guard := some (18, true) }) (v := ?_) rfl (by kernel_rfl) (by kernel_rfl) (by kernel_rfl) (fun _ _ _ h => h) (Or.inl ⟨by rfl, ?_⟩) hHeld ?_
  rotate_left 1
  · (intro wq hSq; (try dsimp only at hSq); go_simp; first | done | with_reducible rfl)
  try simp only [Act.put, List.setIfInBounds_toArray, List.set_cons_zero, List.set_cons_succ]
  refine wpAnyH_take (i := 20) (oi := { dst := some 79, op := Go.Op.load 53 (Go.Operand.tmp 78), type := 53, pos := "law.go:53", after := #[{ on := 19, ground := Go.Ground.data }, { on := 18, ground := Go.Ground.guard }], guard := some (18, true) }) (v := ?_) rfl (by kernel_rfl) (by kernel_rfl) (by kernel_rfl) (fun _ _ _ h => h) (Or.inl ⟨by rfl, ?_⟩) hHeld ?_
  rotate_left 1
  · (intro wq hSq; (try dsimp only at hSq); have c := C9.out _ hSq; go_simp; first | done | with_reducible rfl)
  try simp only [Act.put, List.setIfInBounds_toArray, List.set_cons_zero, List.set_cons_succ]
  refine wpAnyH_take (i := 21) (oi := { dst := some 80, op := Go.Op.indexAddr 53 (Go.Operand.tmp 79) (Go.Operand.const (Go.Value.int Go.IntKind.i64 0)), type := 0, pos := "law.go:53", after := #[{ on := 20, ground := Go.Ground.data }, { on := 18, ground := Go.Ground.guard }], guard := some (18, true) }) (v := ?_) rfl (by kernel_rfl) (by kernel_rfl) (by kernel_rfl) (fun _ _ _ h => h) (Or.inl ⟨by rfl, ?_⟩) hHeld ?_
  rotate_left 1
  · (intro wq hSq; (try dsimp only at hSq); go_simp; first | done | with_reducible rfl)
  try simp only [Act.put, List.setIfInBounds_toArray, List.set_cons_zero, List.set_cons_succ]
  refine wpAnyH_take (i := 22) (oi := { dst := some 81, op := Go.Op.load 55 (Go.Operand.tmp 80), type := 55, pos := "law.go:53", after := #[{ on := 21, ground := Go.Ground.data }, { on := 18, ground := Go.Ground.guard }], guard := some (18, true) }) (v := vN (hiH hh) u6) rfl (by kernel_rfl) (by kernel_rfl) (by kernel_rfl) (fun _ _ _ h => h) (yieldsIf_load_mid rfl 55 _ rfl b6 o6 rfl (cN (hiH hh) u6) _ (fun wq hSq => HK.out wq hSq) Try.underlying55 rfl size55) hHeld ?_
  try simp only [Act.put, List.setIfInBounds_toArray, List.set_cons_zero, List.set_cons_succ]
  refine wpAnyH_take (i := 23) (oi := { dst := some 82, op := Go.Op.load 55 (Go.Operand.tmp 3), type := 55, pos := "law.go:53", after := #[{ on := 18, ground := Go.Ground.guard }], guard := some (18, true) }) (v := vN hh (.slice av ll.length cp)) rfl (by kernel_rfl) (by kernel_rfl) (by kernel_rfl) (fun _ _ _ h => h) (yieldsIf_load_mid rfl 55 _ rfl w2.heap.size 0 rfl (cN hh (.slice av ll.length cp)) _ (fun wq hSq => HN.out wq hSq) Try.underlying55 rfl size55) hHeld ?_
  try simp only [Act.put, List.setIfInBounds_toArray, List.set_cons_zero, List.set_cons_succ]
  refine wpAnyH_ready (rs := [24]) (by kernel_rfl) (by simp) ?_
  refine AllReadyH.cons (o := { dst := some 83, op := Go.Op.call { callee := Go.Callee.value (Go.Operand.func 55), args := #[Go.Operand.tmp 82], argTypes := #[55] }, type := 55, pos := "law.go:53", after := #[{ on := 23, ground := Go.Ground.data }, { on := 18, ground := Go.Ground.chain }, { on := 18, ground := Go.Ground.guard }], guard := some (18, true) }) rfl (fun K hK => ?_) AllReadyH.nil
  go_simp
  refine (HI.out _ (by assumption)).mono ?_
  rintro e w6 ⟨u9, rfl, s9, b6⟩
  have S9 : Hid (SV AnyB w6 u9 (ll.map hiT)) := s9
  have B6 : Hid (Below w5.heap.size w5 w6) := b6
  refine hK.out _ _ (B6.out) (fun hHeld1 => ?_)
  clear hK K hHeld
  try simp only [Act.put, List.setIfInBounds_toArray, List.set_cons_zero, List.set_cons_succ]
  clear s9 b6
  refine wpAnyH_ready (rs := [25]) (by kernel_rfl) (by simp) ?_
  refine AllReadyH.cons (o := { dst := some 84, op := Go.Op.call { callee := Go.Callee.value (Go.Operand.func 50), args := #[Go.Operand.tmp 81, Go.Operand.tmp 83], argTypes := #[55, 55] }, type := 4, pos := "law.go:53", after := #[{ on := 22, ground := Go.Ground.data }, { on := 24, ground := Go.Ground.data }, { on := 24, ground := Go.Ground.chain }, { on := 18, ground := Go.Ground.guard }], guard := some (18, true) }) rfl (fun K hK => ?_) AllReadyH.nil
  go_simp
  refine (SA.out _ u9 B6.out S9.out).mono ?_
  rintro e w7 ⟨rfl, b7⟩
  have B7 : Hid (Below w5.heap.size w5 w7) := b7
  refine hK.out _ _ (B7.out) (fun hHeld2 => ?_)
  clear hK K hHeld1
  try simp only [Act.put, List.setIfInBounds_toArray, List.set_cons_zero, List.set_cons_succ]
  clear b7
  refine wpAnyH_take (i := 26) (oi := { dst := some 85, op := Go.Op.pick (Go.Operand.tmp 77) (Go.Operand.tmp 84) (Go.Operand.const (Go.Value.bool false)), type := 4, pos := "law.go:53", after := #[{ on := 18, ground := Go.Ground.data }, { on := 25, ground := Go.Ground.data }], guard := none }) (v := ?_) rfl (by kernel_rfl) (by kernel_rfl) (by kernel_rfl) (fun _ _ _ h => h) (Or.inl ⟨by rfl, ?_⟩) hHeld2 ?_
  rotate_left 1
  · (intro wq hSq; (try dsimp only at hSq); go_simp; first | done | with_reducible rfl)
  try simp only [Act.put, List.setIfInBounds_toArray, List.set_cons_zero, List.set_cons_succ]
  refine wpAnyH_take (i := 27) (oi := { dst := some 2, op := Go.Op.assign (Go.Operand.tmp 85), type := 4, pos := "law.go:53", after := #[{ on := 26, ground := Go.Ground.data }, { on := 25, ground := Go.Ground.chain }, { on := 0, ground := Go.Ground.phase }, { on := 1, ground := Go.Ground.phase }, { on := 2, ground := Go.Ground.phase }, { on := 3, ground := Go.Ground.phase }, { on := 4, ground := Go.Ground.phase }, { on := 5, ground := Go.Ground.phase }, { on := 6, ground := Go.Ground.phase }, { on := 7, ground := Go.Ground.phase }, { on := 8, ground := Go.Ground.phase }, { on := 9, ground := Go.Ground.phase }, { on := 10, ground := Go.Ground.phase }, { on := 11, ground := Go.Ground.phase }, { on := 12, ground := Go.Ground.phase }, { on := 13, ground := Go.Ground.phase }, { on := 14, ground := Go.Ground.phase }, { on := 15, ground := Go.Ground.phase }, { on := 16, ground := Go.Ground.phase }, { on := 17, ground := Go.Ground.phase }, { on := 18, ground := Go.Ground.phase }, { on := 19, ground := Go.Ground.phase }, { on := 20, ground := Go.Ground.phase }, { on := 21, ground := Go.Ground.phase }, { on := 22, ground := Go.Ground.phase }, { on := 23, ground := Go.Ground.phase }, { on := 24, ground := Go.Ground.phase }, { on := 25, ground := Go.Ground.phase }, { on := 26, ground := Go.Ground.phase }], guard := none }) (v := ?_) rfl (by kernel_rfl) (by kernel_rfl) (by kernel_rfl) (fun _ _ _ h => h) (Or.inl ⟨by rfl, ?_⟩) hHeld2 ?_
  rotate_left 1
  · (intro wq hSq; (try dsimp only at hSq); go_simp; first | done | with_reducible rfl)
  try simp only [Act.put, List.setIfInBounds_toArray, List.set_cons_zero, List.set_cons_succ]
  refine wpAnyH_done (by kernel_rfl) ?_ _
  refine NoPanic.normal ?_
  go_wp2
  go_ret
  exact ⟨rfl, B5.out.trans (B7.out.mono B5.out.size)⟩
set_option maxHeartbeats 1000000 in
set_option maxRecDepth 100000 in
theorem groups_long (s : ByteArray) (hs : s.size ≤ 9223372036854775807) (hl : 500 < s.size) (w : World) (hM : MaxL w) : Calls Try.prog 15 #[.string s] w fun e w' => e = .returned (.bool true) ∧ Below w.heap.size w w' := by
  have i500 : (500 : Int) < s.size := by omega
  have AW : Hid (∀ W, MaxL W → Calls Try.prog 51 #[] W fun e w' => e = .returned (.bool true) ∧ Below W.heap.size W w') := fun W h => awake_bre W h
  have HM : Hid (MaxL w) := hM
  clear hM hl
  go_enter Try.func15, Try.ntmps15
  go_wp2_with fail
  refine (AW.out _ HM.out).mono ?_
  rintro e w1 ⟨rfl, b1⟩
  have B1 : Hid (Below w.heap.size w w1) := b1
  have M1 : Hid (MaxL w1) := HM.out.below2 b1
  clear b1 HM
  go_wp2_with fail
  refine (AW.out _ M1.out).mono ?_
  rintro e w2 ⟨rfl, b2⟩
  have B2 : Hid (Below w.heap.size w w2) := B1.out.trans (b2.mono B1.out.size)
  clear b2
  go_wp2
  go_ret
  exact ⟨rfl, B2.out⟩
theorem breGroups_walk (s : ByteArray) (hs : s.size ≤ 9223372036854775807) (w : World) (hM : MaxL w) : Calls Try.prog 15 #[.string s] w fun e w' => e = .returned (.bool true) ∧ Below w.heap.size w w' := by
  by_cases hl : 500 < s.size
  · exact groups_long s hs hl w hM
  · have hl : s.size ≤ 500 := by omega
    rcases parseB_cases (some 200) s.data.toList with ⟨t, hp, hf, g, hpat⟩ | ⟨p, hp⟩
    · have hc200 : countT t ≤ 200 := by
        unfold formedT at hf
        rw [Bool.and_eq_true] at hf
        exact (of_decide_eq_true hf.1).1
      have hsm : smallT t = true := by
        unfold formedT at hf
        rw [Bool.and_eq_true] at hf
        obtain ⟨s', hs'⟩ := Option.isSome_iff_exists.1 hf.2
        exact form_small.1 t gs0 s' (by decide) hs'
      have htop := fun h1 h2 h3 h4 => groups_top s.data.toList t g hpat hf h1 h2 h3 h4
      obtain ⟨hh, ll, rfl⟩ := t.out
      by_cases h8 : 8 < groupsT (.mk hh ll)
      · exact groups_over1 s hl w hM hh ll hp (by omega) _ _ _ _ rfl rfl rfl rfl h8
      · cases hb : backT (.mk hh ll) with
        | true => exact groups_over2 s hl w hM hh ll hp (by omega) _ _ _ _ rfl rfl rfl rfl h8 hb
        | false =>
          by_cases h9 : 9 < deepT (.mk hh ll)
          · exact groups_over3 s hl w hM hh ll hp (by omega) _ _ _ _ rfl rfl rfl rfl h8 hb h9
          · by_cases h199 : 199 < countT (.mk hh ll)
            · exact groups_over4 s hl w hM hh ll hp (by omega) _ _ _ _ rfl rfl rfl rfl h8 hb h9 h199
            · exact groups_full s hl w hM hh ll hp (by omega) _ _ _ _ rfl rfl rfl rfl h8 hb h9 h199 hsm (htop hb (by omega) (by omega) (by omega))
    · exact groups_bad s hl w hM p hp
end Go.Proofs.Ytndmjndokokmnaa
