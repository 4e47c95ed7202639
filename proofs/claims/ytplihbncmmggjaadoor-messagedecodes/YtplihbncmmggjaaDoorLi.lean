import Derived.Test.YtplihbncmmggjaaDoorLd
import Derived.Test.YtplihbncmmggjaaDoorJh
namespace Go.Proofs.YtplihbncmmggjaaDoor
set_option linter.unusedSimpArgs false
set_option linter.unusedVariables false
open Go.RowKit
/-- A frame that fills all of the bytes is what they are. -/
theorem dec_bytes (bs : List Int) (hb : Bytes bs) (h : (decR bs).2.2.2 = 0) (hn : ¬ (decR bs).2.2.1 < bs.length) : encB (decR bs).1 (decR bs).2.1 = bs := by
  unfold decR at h hn ⊢
  by_cases h1 : beginsB bs = false
  · rw [if_pos h1] at h; cases h
  rw [if_neg h1] at h hn ⊢
  by_cases h2 : bs.length < 10 + (if bs.length < 10 then 0 else lenD bs)
  · rw [if_pos h2] at h; cases h
  rw [if_neg h2] at h hn ⊢
  have h10 : ¬ bs.length < 10 := fun q => by rw [if_pos q] at h2; omega
  rw [if_neg h10] at h2
  have hB : beginsB bs = true := by cases q : beginsB bs with | true => rfl | false => exact absurd q h1
  have hl := lenD_le bs (by omega) hB hb
  by_cases h3 : (hashOf ([gi bs 3, gi bs 4, gi bs 5] ++ (bs.drop 10).take (lenD bs))).take 4 = (bs.drop 6).take 4
  · rw [if_pos h3] at h hn ⊢
    have hn : ¬ ((10 : Int) + (lenD bs : Int) < (bs.length : Int)) := hn
    have e10 : (bs.drop 10).take (lenD bs) = bs.drop 10 := List.take_of_length_le (by rw [List.length_drop]; omega)
    have l10 : (bs.drop 10).length = lenD bs := by rw [List.length_drop]; omega
    show encB (gi bs 3) ((bs.drop 10).take (lenD bs)) = bs
    rw [e10] at h3 ⊢
    have b4 := gi_b bs hb 4
    have b5 := gi_b bs hb 5
    have x4 : ((bs.drop 10).length : Int) / 256 = gi bs 4 := by rw [l10]; omega
    have x5 : ((bs.drop 10).length : Int) % 256 = gi bs 5 := by rw [l10]; omega
    have n2 : numB ((bs.drop 10).length : Int) 2 = [gi bs 4, gi bs 5] := by rw [numB2 _ (by omega), x4, x5]
    have es : sum4 (gi bs 3) (bs.drop 10) = (bs.drop 6).take 4 := by
      rw [← h3]; unfold sum4
      rw [n2]
    rw [encB_eq _ _ (by omega), x4, x5, es]
    unfold beginsB at hB
    obtain ⟨q0, q1, q2, _, _⟩ := of_decide_eq_true hB
    rw [gi_begOf bs (by omega) 0 (by omega)] at q0
    rw [gi_begOf bs (by omega) 1 (by omega)] at q1
    rw [gi_begOf bs (by omega) 2 (by omega)] at q2
    have s6 := six (bs.take 6) (by rw [List.length_take]; omega)
    have g6 : ∀ i, i < 6 → gi (bs.take 6) i = gi bs i := fun i hi => by
      unfold gi; rw [List.getD_eq_getElem?_getD, List.getD_eq_getElem?_getD, List.getElem?_take, if_pos hi]
    rw [g6 0 (by omega), g6 1 (by omega), g6 2 (by omega), g6 3 (by omega), g6 4 (by omega), g6 5 (by omega), q0, q1, q2] at s6
    have e1 : bs = bs.take 6 ++ ((bs.drop 6).take 4 ++ bs.drop 10) := by
      have : bs.drop 10 = (bs.drop 6).drop 4 := by rw [List.drop_drop]
      rw [this, List.take_append_drop, List.take_append_drop]
    generalize (bs.drop 6).take 4 ++ bs.drop 10 = R at *
    rw [s6] at e1
    exact e1.symm
  · rw [if_neg h3] at h; cases h
theorem md_sound (bs : List Int) (hb : Bytes bs) (h : mdC bs = 0) : formB (mdM bs) = true ∧ encB (mdM bs).kind (bodyB (mdM bs)) = bs ∧ (mdM bs).Ok := by
  unfold mdC at h
  unfold mdM
  by_cases hc : (decR bs).2.2.2 = 0
  · rw [if_pos hc] at h ⊢
    by_cases hn : (decR bs).2.2.1 < bs.length
    · rw [if_pos hn] at h; cases h
    rw [if_neg hn] at h ⊢
    have dk := decR_ok bs hb hc
    have eb := dec_bytes bs hb hc hn
    generalize (decR bs).1 = t at *
    generalize (decR bs).2.1 = b at *
    have hok := ofR_ok t dk.1 b dk.2.1
    unfold ofC at h
    unfold ofR at hok ⊢
    by_cases ho : ofS t b = some [] ∧ formB (ofM t b) = true
    · rw [if_pos ho] at hok ⊢
      have hk : (ofM t b).kind = t := (rownM_head (headS b) (headM t b)).1
      rw [hk, of_sound t b dk.2.1 ho.1]
      exact ⟨ho.2, eb, hok⟩
    · rw [if_neg ho] at h; cases h
  · rw [if_neg hc] at h; exact absurd h hc
theorem md_no (bs : List Int) (h : ¬ mdC bs = 0) : mdM bs = msg0 := by
  unfold mdC at h
  unfold mdM
  by_cases hc : (decR bs).2.2.2 = 0
  · rw [if_pos hc] at h ⊢
    by_cases hn : (decR bs).2.2.1 < bs.length
    · rw [if_pos hn]
    rw [if_neg hn] at h ⊢
    unfold ofC at h
    unfold ofR
    by_cases ho : ofS (decR bs).1 (decR bs).2.1 = some [] ∧ formB (ofM (decR bs).1 (decR bs).2.1) = true
    · rw [if_pos ho] at h; exact absurd rfl h
    · rw [if_neg ho]
  · rw [if_neg hc]
set_option maxHeartbeats 1000000 in
set_option maxRecDepth 100000 in
theorem mdecs_long (av : Option Addr) (n cp : Nat) (hn : 3000 < n) (w : World) : Calls Tryd.prog 11 #[.slice av n cp] w fun e w' => e = .returned (.bool true) ∧ Below w.heap.size w w' := by
  have AW : Hid (∀ W, Below w.heap.size w W → Calls Tryd.prog 37 #[] W fun e w' => e = .returned (.bool true) ∧ Below w.heap.size w w') := fun W q => (awake5_any W).mono fun e w' ⟨r1, r2⟩ => ⟨r1, q.trans (r2.mono q.size)⟩
  have d1 : decide ((3000 : Int) < (n : Int)) = true := decide_eq_true (by omega)
  clear hn
  go_enter Tryd.func11, Tryd.ntmps11
  go_wp2_with fail
  refine (AW.out _ (Below.refl _ _)).mono ?_
  rintro e w2 ⟨rfl, b2⟩
  go_wp2_with fail
  refine (AW.out _ b2).mono ?_
  rintro e w3 ⟨rfl, b3⟩
  go_wp2
  go_ret
  exact ⟨rfl, b3⟩
set_option maxHeartbeats 2000000 in
set_option maxRecDepth 100000 in
theorem mdecs_ok (av : Option Addr) (n cp : Nat) (b : List Int) (hbn : b.length = n) (hb : Bytes b) (hn : n ≤ 3000) (hc : mdC b = 0) (w : World) (hL : Laid w) (hp : PartAt w (.slice av n cp) b) : Calls Tryd.prog 11 #[.slice av n cp] w fun e w' => e = .returned (.bool true) ∧ Below w.heap.size w w' := by
  have s0 := hL.two
  have AW : Hid (∀ W, Below w.heap.size w W → Calls Tryd.prog 37 #[] W fun e w' => e = .returned (.bool true) ∧ Below w.heap.size w w') := fun W q => (awake5_any W).mono fun e w' ⟨r1, r2⟩ => ⟨r1, q.trans (r2.mono q.size)⟩
  have O1 : Hid (∀ W, Below w.heap.size w W → Calls Tryd.prog 43 #[.slice av n cp] W fun e w' => e = .returned (.tuple #[.agg (mC (mdM b)).toArray, .int .i64 (mdC b)]) ∧ Below w.heap.size w w') := fun W q => (mdec_any b hb (by omega) _ W (hL.below q s0) (hp.below q)).mono fun e w' ⟨r1, r2⟩ => ⟨r1, q.trans (r2.mono q.size)⟩
  have O2 : Hid (∀ W, Below w.heap.size w W → Calls Tryd.prog 44 #[.slice av n cp] W fun e w' => e = .returned (.tuple #[.agg (mC (mdM b)).toArray, .int .i64 (mdC b)]) ∧ Below W.heap.size W w') := fun W q => rrd_any b hb (by omega) _ W (hL.below q s0) (hp.below q)
  have sd := md_sound b hb hc
  rw [hc] at O1 O2
  have OK : Hid ((mdM b).Ok) := sd.2.2
  have EN : Hid (∀ W, Below w.heap.size w W → Calls Tryd.prog 39 #[.agg (mC (mdM b)).toArray] W fun e w' => ∃ u, e = .returned (.tuple #[u, .int .i64 0]) ∧ PartAt w' u b ∧ Below W.heap.size W w') := fun W q => by
    have r := mencode_yes (mdM b) sd.2.2 sd.1 W (hL.below q s0)
    rw [sd.2.1] at r
    exact r
  have FM : Hid (∀ W, Calls Tryd.prog 41 #[.agg (mC (mdM b)).toArray] W fun e w' => e = .returned (.bool true) ∧ Below W.heap.size W w') := fun W => by have q := formed_any (mdM b) sd.2.2 W; rw [sd.1] at q; exact q
  have CB : Hid (∀ W, Below w.heap.size w W → (convert 22 9 (.slice av n cp)).run Tryd.prog W = .ok (.string (strOfNums b)) W) := fun W q => run_conv (hp.below q)
  clear sd
  have EQ : Hid (∀ W, (Op.equalIn 10000 65 (.agg (mC (mdM b)).toArray) (.agg (mC (mdM b)).toArray)).run Tryd.prog W = .ok true W) := fun W => eq65_self _ OK.out W
  have d1 : decide ((3000 : Int) < (n : Int)) = false := decide_eq_false (by omega)
  clear hbn hb hn hL hp s0 hc
  generalize mdM b = M at *
  go_enter Tryd.func11, Tryd.ntmps11
  go_wp2_with fail
  refine (AW.out _ (Below.refl _ _)).mono ?_
  rintro e w2 ⟨rfl, b2⟩
  go_wp2_with fail
  refine (O1.out _ b2).mono ?_
  rintro e w3 ⟨rfl, b3⟩
  have Y3 : Hid (BoxM 68 (w3.alloc (.cells Tryd.zeroCells68 68)) w3.heap.size msg0) := by unfold Hid BoxM; rw [heap_alloc_new, zero68]
  have Z3 : Hid (∀ W, W = (w3.alloc (.cells Tryd.zeroCells68 68)).setRow w3.heap.size (mC M).toArray → Below w.heap.size w W ∧ BoxM 68 W w3.heap.size M) := fun W hW => by
    subst hW
    exact ⟨below_setRow (b3.alloc b3.size _) b3.size _, setRow_same Y3.out⟩
  clear b2 b3 AW O1
  go_wp2_with (first | (refine storeM68 rfl _ _ rfl w3.heap.size rfl M msg0 rfl OK.out msg0_ok Y3.out ?_; (obtain ⟨w4, hw4⟩ : ∃ W, W = (w3.alloc (.cells Tryd.zeroCells68 68)).setRow w3.heap.size (mC M).toArray := ⟨_, rfl⟩); rw [← hw4]; obtain ⟨q1, q3⟩ := Z3.out w4 hw4; have B4 : Hid (Below w.heap.size w w4) := q1; have X4 : Hid (BoxM 68 w4 w3.heap.size M) := q3; clear q1 q3 Z3 hw4 Y3))
  refine (O2.out _ B4.out).mono ?_
  rintro e w5 ⟨rfl, b5⟩
  have X5 : Hid (BoxM 68 w5 w3.heap.size M) := X4.out.below b5
  have B5 : Hid (Below w.heap.size w w5) := B4.out.trans (b5.mono B4.out.size)
  have Y5 : Hid (BoxM 65 (w5.alloc (.cells Tryd.zeroCells65 65)) w5.heap.size msg0) := by unfold Hid BoxM; rw [heap_alloc_new, zero65]
  have Z5 : Hid (∀ W, W = (w5.alloc (.cells Tryd.zeroCells65 65)).setRow w5.heap.size (mC M).toArray → Below w.heap.size w W ∧ BoxM 65 W w5.heap.size M ∧ BoxM 68 W w3.heap.size M) := fun W hW => by
    subst hW
    refine ⟨below_setRow (B5.out.alloc B5.out.size _) B5.out.size _, setRow_same Y5.out, ?_⟩
    have hlt := X5.out.lt
    unfold BoxM; rw [setRow_far _ _ _ _ (by omega), Below.heap_alloc _ _ _ hlt]; exact X5.out
  clear b5 O2 X4 B4
  go_wp2_with (first | (refine storeM65 rfl _ _ rfl w5.heap.size rfl M msg0 rfl OK.out msg0_ok Y5.out ?_; (obtain ⟨w6, hw6⟩ : ∃ W, W = (w5.alloc (.cells Tryd.zeroCells65 65)).setRow w5.heap.size (mC M).toArray := ⟨_, rfl⟩); rw [← hw6]; obtain ⟨q1, q2, q3⟩ := Z5.out w6 hw6; have B6 : Hid (Below w.heap.size w w6) := q1; have X6 : Hid (BoxM 65 w6 w5.heap.size M) := q2; have V6 : Hid (BoxM 68 w6 w3.heap.size M) := q3; clear q1 q2 q3 Z5 hw6 Y5) | (refine loadM68 rfl _ rfl w3.heap.size rfl M OK.out V6.out ?_) | (refine loadM65 rfl _ rfl w5.heap.size rfl M OK.out X6.out ?_) | (refine valList rfl (.bool false) (run_neq 65 guard65 _ _ _ _ _ rfl _ _ rfl rfl true _ (EQ.out _)) ?_))
  refine (EN.out _ B6.out).mono ?_
  rintro e w7 ⟨u, rfl, p7, b7⟩
  obtain ⟨uv, ub, uo, uc, hu, _⟩ := id p7
  subst hu
  have B7 : Hid (Below w.heap.size w w7) := B6.out.trans (b7.mono B6.out.size)
  have V7 : Hid (BoxM 68 w7 w3.heap.size M) := V6.out.below b7
  have CA : (convert 22 9 (.slice uv b.length uc)).run Tryd.prog w7 = .ok (.string (strOfNums b)) w7 := run_conv p7
  have CBB := CB.out _ B7.out
  generalize strOfNums b = S at *
  clear p7 b7 EN B6 X6 V6 EQ CB
  go_wp2_with (first | (refine loadM68g rfl _ rfl w3.heap.size rfl M OK.out V7.out ?_))
  refine (FM.out _).mono ?_
  rintro e w8 ⟨rfl, b8⟩
  go_wp2
  go_ret
  exact ⟨by first | rfl | simp, B7.out.trans (b8.mono B7.out.size)⟩
set_option maxHeartbeats 2000000 in
set_option maxRecDepth 100000 in
theorem mdecs_no (av : Option Addr) (n cp : Nat) (b : List Int) (hbn : b.length = n) (hb : Bytes b) (hn : n ≤ 3000) (hc : ¬ mdC b = 0) (w : World) (hL : Laid w) (hp : PartAt w (.slice av n cp) b) : Calls Tryd.prog 11 #[.slice av n cp] w fun e w' => e = .returned (.bool true) ∧ Below w.heap.size w w' := by
  have s0 := hL.two
  have AW : Hid (∀ W, Below w.heap.size w W → Calls Tryd.prog 37 #[] W fun e w' => e = .returned (.bool true) ∧ Below w.heap.size w w') := fun W q => (awake5_any W).mono fun e w' ⟨r1, r2⟩ => ⟨r1, q.trans (r2.mono q.size)⟩
  have O1 : Hid (∀ W, Below w.heap.size w W → Calls Tryd.prog 43 #[.slice av n cp] W fun e w' => e = .returned (.tuple #[.agg (mC (mdM b)).toArray, .int .i64 (mdC b)]) ∧ Below w.heap.size w w') := fun W q => (mdec_any b hb (by omega) _ W (hL.below q s0) (hp.below q)).mono fun e w' ⟨r1, r2⟩ => ⟨r1, q.trans (r2.mono q.size)⟩
  have O2 : Hid (∀ W, Below w.heap.size w W → Calls Tryd.prog 44 #[.slice av n cp] W fun e w' => e = .returned (.tuple #[.agg (mC (mdM b)).toArray, .int .i64 (mdC b)]) ∧ Below W.heap.size W w') := fun W q => rrd_any b hb (by omega) _ W (hL.below q s0) (hp.below q)
  have em := md_no b hc
  rw [em] at O1 O2
  have OK : Hid ((mdM b).Ok) := by rw [em]; exact msg0_ok
  have EN : Hid (∀ W, Calls Tryd.prog 39 #[.agg (mC (mdM b)).toArray] W fun e w' => e = .returned (.tuple #[.slice none 0 0, .int .i64 1]) ∧ Below W.heap.size W w') := fun W => by rw [em]; exact mencode_no msg0 msg0_ok msg0_form W
  have hcn : (mdC b != 0) = true := by simpa using hc
  rw [← em] at O1 O2
  clear em
  have EQ : Hid (∀ W, (Op.equalIn 10000 65 (.agg (mC (mdM b)).toArray) (.agg (mC (mdM b)).toArray)).run Tryd.prog W = .ok true W) := fun W => eq65_self _ OK.out W
  have d1 : decide ((3000 : Int) < (n : Int)) = false := decide_eq_false (by omega)
  clear hbn hb hn hL hp s0 hc
  generalize mdM b = M at *
  generalize mdC b = c at *
  go_enter Tryd.func11, Tryd.ntmps11
  go_wp2_with fail
  refine (AW.out _ (Below.refl _ _)).mono ?_
  rintro e w2 ⟨rfl, b2⟩
  go_wp2_with fail
  refine (O1.out _ b2).mono ?_
  rintro e w3 ⟨rfl, b3⟩
  have Y3 : Hid (BoxM 68 (w3.alloc (.cells Tryd.zeroCells68 68)) w3.heap.size msg0) := by unfold Hid BoxM; rw [heap_alloc_new, zero68]
  have Z3 : Hid (∀ W, W = (w3.alloc (.cells Tryd.zeroCells68 68)).setRow w3.heap.size (mC M).toArray → Below w.heap.size w W ∧ BoxM 68 W w3.heap.size M) := fun W hW => by
    subst hW
    exact ⟨below_setRow (b3.alloc b3.size _) b3.size _, setRow_same Y3.out⟩
  clear b2 b3 AW O1
  go_wp2_with (first | (refine storeM68 rfl _ _ rfl w3.heap.size rfl M msg0 rfl OK.out msg0_ok Y3.out ?_; (obtain ⟨w4, hw4⟩ : ∃ W, W = (w3.alloc (.cells Tryd.zeroCells68 68)).setRow w3.heap.size (mC M).toArray := ⟨_, rfl⟩); rw [← hw4]; obtain ⟨q1, q3⟩ := Z3.out w4 hw4; have B4 : Hid (Below w.heap.size w w4) := q1; have X4 : Hid (BoxM 68 w4 w3.heap.size M) := q3; clear q1 q3 Z3 hw4 Y3))
  refine (O2.out _ B4.out).mono ?_
  rintro e w5 ⟨rfl, b5⟩
  have X5 : Hid (BoxM 68 w5 w3.heap.size M) := X4.out.below b5
  have B5 : Hid (Below w.heap.size w w5) := B4.out.trans (b5.mono B4.out.size)
  have Y5 : Hid (BoxM 65 (w5.alloc (.cells Tryd.zeroCells65 65)) w5.heap.size msg0) := by unfold Hid BoxM; rw [heap_alloc_new, zero65]
  have Z5 : Hid (∀ W, W = (w5.alloc (.cells Tryd.zeroCells65 65)).setRow w5.heap.size (mC M).toArray → Below w.heap.size w W ∧ BoxM 65 W w5.heap.size M ∧ BoxM 68 W w3.heap.size M) := fun W hW => by
    subst hW
    refine ⟨below_setRow (B5.out.alloc B5.out.size _) B5.out.size _, setRow_same Y5.out, ?_⟩
    have hlt := X5.out.lt
    unfold BoxM; rw [setRow_far _ _ _ _ (by omega), Below.heap_alloc _ _ _ hlt]; exact X5.out
  clear b5 O2 X4 B4
  go_wp2_with (first | (refine storeM65 rfl _ _ rfl w5.heap.size rfl M msg0 rfl OK.out msg0_ok Y5.out ?_; (obtain ⟨w6, hw6⟩ : ∃ W, W = (w5.alloc (.cells Tryd.zeroCells65 65)).setRow w5.heap.size (mC M).toArray := ⟨_, rfl⟩); rw [← hw6]; obtain ⟨q1, q2, q3⟩ := Z5.out w6 hw6; have B6 : Hid (Below w.heap.size w w6) := q1; have X6 : Hid (BoxM 65 w6 w5.heap.size M) := q2; have V6 : Hid (BoxM 68 w6 w3.heap.size M) := q3; clear q1 q2 q3 Z5 hw6 Y5) | (refine loadM68 rfl _ rfl w3.heap.size rfl M OK.out V6.out ?_) | (refine loadM65 rfl _ rfl w5.heap.size rfl M OK.out X6.out ?_) | (refine valList rfl (.bool false) (run_neq 65 guard65 _ _ _ _ _ rfl _ _ rfl rfl true _ (EQ.out _)) ?_))
  refine (EN.out _).mono ?_
  rintro e w7 ⟨rfl, b7⟩
  go_wp2
  go_ret
  exact ⟨by first | rfl | simp, B6.out.trans (b7.mono B6.out.size)⟩
theorem messageDecodes_walk (v : Value) (b : List Int) (w : World) (hL : Laid w) (hb : Bytes b) (hp : PartAt w v b) : Calls Tryd.prog 11 #[v] w fun e w' => e = .returned (.bool true) ∧ Below w.heap.size w w' := by
  obtain ⟨av, bb, oo, cp, hv, _⟩ := id hp
  subst hv
  by_cases hn : 3000 < b.length
  · exact mdecs_long av b.length cp hn w
  · by_cases hc : mdC b = 0
    · exact mdecs_ok av b.length cp b rfl hb (by omega) hc w hL hp
    · exact mdecs_no av b.length cp b rfl hb (by omega) hc w hL hp
end Go.Proofs.YtplihbncmmggjaaDoor
