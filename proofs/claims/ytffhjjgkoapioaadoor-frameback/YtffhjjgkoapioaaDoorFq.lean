import Derived.Test.YtffhjjgkoapioaaDoorFy
namespace Go.Proofs.YtffhjjgkoapioaaDoor
set_option linter.unusedSimpArgs false
set_option linter.unusedVariables false
open Go.RowKit
set_option maxHeartbeats 1000000 in
set_option maxRecDepth 100000 in
theorem cut_part {w : World} {b o L cp k : Nat} {bs : List Int} (h : PartAt w (.slice (some ⟨b, o, none⟩) L cp) bs) (hL : bs.length = L) (h0 : 0 < L) (hk : k ≤ L) : PartAt w (.slice (some ⟨b, o, none⟩) k cp) (bs.take k) := by
  obtain ⟨av, b', o', cp', e, q1, q2, q3, q4, q5, q6⟩ := h
  have q3' := q3 (by omega)
  rw [hL] at e q1
  injection e with e1 e2 e3
  rw [← e1] at q3'
  injection q3' with q3'
  injection q3' with q3a q3b
  subst q3a q3b e3
  have := sub_part hL q1 q2 q4 q5 0 k (by omega)
  simpa using this
set_option maxHeartbeats 1000000 in
set_option maxRecDepth 100000 in
theorem back_in (t at' : Int) (a1 a2 : Option Addr) (n1 c1 n2 c2 : Nat) (b z : List Int) (hn1 : b.length = n1) (hn2 : z.length = n2) (h1 : n1 ≤ 1000) (h2' : n2 ≤ 1000) (ht : 0 < t ∧ t ≤ 255) (ha : 0 ≤ at' ∧ at' ≤ 18446744073709551615) (w : World) (hL : Laid w) (hp1 : PartAt w (.slice a1 n1 c1) b) (hp2 : PartAt w (.slice a2 n2 c2) z) (hb : Bytes b) (hz : Bytes z) : Calls Tryd.prog 15 #[.int .u8 t, .slice a1 n1 c1, .slice a2 n2 c2, .int .u64 at'] w fun e w' => e = .returned (.bool true) ∧ Below w.heap.size w w' := by
  have h2 := hL.two
  have AW : Hid (Calls Tryd.prog 45 #[] w fun e w' => e = .returned (.bool true) ∧ Below w.heap.size w w') := awake4_any w hL
  have EN : Hid (∀ W, Below w.heap.size w W → Calls Tryd.prog 46 #[.agg #[.int .u8 t, .slice a1 n1 c1]] W fun e w' => ∃ bb ob cp, e = .returned (.tuple #[.slice (some ⟨bb, ob, none⟩) (n1 + 10) cp, .int .i64 0]) ∧ Below w.heap.size w w' ∧ PartAt w' (.slice (some ⟨bb, ob, none⟩) (n1 + 10) cp) (encB t b) ∧ n1 + 10 ≤ cp ∧ cp ≤ 9223372036854775807) := fun W q =>
    (encode_any t (by omega) _ b (by omega) hb W (hL.below q h2) (hp1.below q)).mono fun e w' ⟨r1, r2⟩ => by
      rw [if_neg (by omega), if_neg (by omega)] at r2
      obtain ⟨u, r3, av, bb, o, cp, rfl, q1, q2, q3, q4⟩ := r2
      have hlen : (encB t b).length = n1 + 10 := by rw [encB_length, hn1]
      have e1 := q3 (by omega)
      subst e1
      rw [hlen] at r3 q1
      exact ⟨bb, o, cp, r3, q.trans (r1.mono q.size), ⟨_, bb, o, cp, by rw [hlen], by rw [hlen]; exact q1, q2, q3, q4⟩, q1, q2⟩
  have g1 : ¬ (1000 : Int) < (n1 : Int) := by omega
  have g2 : ¬ (1000 : Int) < (n2 : Int) := by omega
  have g3 : (t == 0) = false := by simp; omega
  have HT : Hid (0 < t ∧ t ≤ 255) := ht
  have g10 : ((n1 + 10 : Nat) : Int) = (n1 : Int) + 10 := by omega
  have A6 : Hid (∀ W, Below w.heap.size w W → OwnB (W.alloc (.cells #[] 5)) w.heap.size (.slice (some ⟨W.heap.size, 0, none⟩) 0 0) []) := fun W q =>
    ⟨rfl, Or.inr ⟨W.heap.size, 0, #[], rfl, q.size, heap_alloc_new _ _, Nat.le_refl _, by unfold maxLen; omega, rfl, rfl⟩⟩
  have hlen : (encB t b).length = n1 + 10 := by rw [encB_length, hn1]
  have hEB : Bytes (encB t b) := encB_bytes t ht b (by omega) hb
  have DC : Hid (∀ W v, Below w.heap.size w W → PartAt W v (encB t b ++ z) → Calls Tryd.prog 48 #[v] W fun e w' => ∃ av cp, e = .returned (.tuple #[.agg #[.int .u8 t, .slice av n1 cp], .int .i64 ((n1 : Int) + 10), .int .i64 0]) ∧ PartAt w' (.slice av n1 cp) b ∧ Below W.heap.size W w' ∧ Below w.heap.size w w') := fun W v q p => by
    have r := decode_any v _ W (hL.below q h2) p (Bytes.app hEB hz)
    rw [dec_enc t ht b z (by omega)] at r
    refine r.mono fun e w' ⟨u, r1, r2, r3⟩ => ?_
    obtain ⟨av, b', o', cp, rfl, rr⟩ := r2
    rw [hn1, Int.add_comm 10 (n1 : Int)] at r1
    exact ⟨av, cp, r1, ⟨av, b', o', cp, by rw [hn1], rr⟩, r3, q.trans (r3.mono q.size)⟩
  have DS : Hid (∀ W v k, k < n1 + 10 → Below w.heap.size w W → PartAt W v ((encB t b).take k) → Calls Tryd.prog 48 #[v] W fun e w' => ∃ av cp, e = .returned (.tuple #[.agg #[.int .u8 0, .slice av 0 cp], .int .i64 0, .int .i64 4]) ∧ Below W.heap.size W w' ∧ Below w.heap.size w w') := fun W v k hk q p => by
    have r := decode_any v _ W (hL.below q h2) p (fun x hx => hEB x (List.mem_of_mem_take hx))
    rw [dec_cut t ht b (by omega) k (by omega)] at r
    refine r.mono fun e w' ⟨u, r1, r2, r3⟩ => ?_
    obtain ⟨av, b', o', cp, rfl, _⟩ := r2
    exact ⟨av, cp, r1, r3, q.trans (r3.mono q.size)⟩
  have BG : Hid (∀ W v k, Below w.heap.size w W → PartAt W v ((encB t b).take k) → Calls Tryd.prog 51 #[v] W fun e w' => e = .returned (.bool true) ∧ Below w.heap.size w w') := fun W v k q p => by
    have r := begins_any v _ W p (fun x hx => hEB x (List.mem_of_mem_take hx))
    rw [enc_begins t ht b (by omega) k] at r
    exact r.mono fun e w' ⟨r1, r2⟩ => ⟨r1, q.trans (r2.mono q.size)⟩
  have P1 : Hid (∀ W, Below w.heap.size w W → PartAt W (.slice a1 n1 c1) b) := fun W q => hp1.below q
  have P2 : Hid (∀ W, Below w.heap.size w W → PartAt W (.slice a2 n2 c2) z) := fun W q => hp2.below q
  generalize encB t b = E at *
  clear ht hp1 hp2 hb hz hEB hL
  go_enter Tryd.func15, Tryd.ntmps15
  go_wp2_with (first | (go_at_call 45; refine AW.out.mono ?_; rintro e w1 ⟨rfl, b1⟩; clear AW) | (go_at_call 46; refine (EN.out _ b1).mono ?_; rintro e w2 ⟨bb, ob, cb, rfl, b2, p2, q1, q2⟩; clear EN; have P2E : Hid (PartAt w2 (.slice (some ⟨bb, ob, none⟩) (n1 + 10) cb) E ∧ Below w.heap.size w w2) := ⟨p2, b2⟩; clear p2 b2 b1) | (at_builtin; refine appendB rfl _ _ rfl w.heap.size _ [] rfl (A6.out w2 P2E.out.2) _ E rfl (P2E.out.1.below ((Below.refl _ _).alloc (Nat.le_refl _) _)) (by simp; omega) (by have := P2E.out.2.size; simp; omega) ?_; intro v6 w6 o6 g6 d6; rw [List.nil_append] at o6; have B26 : Hid (Below w2.heap.size w2 w6) := ((Below.refl _ _).alloc (Nat.le_refl _) _).grown g6 (by simp) (fun k hk => by injection hk with hk; subst hk; exact Nat.le_refl _); have D6 : Hid (∀ k, v6.ownBlock = some k → w2.heap.size ≤ k) := (fun k hk => by rw [hk] at d6; rcases d6 with d6 | d6 <;> (injection d6 with d6; subst d6; simp)); have O6 : Hid (OwnB w6 w.heap.size v6 E) := o6; clear o6 g6 d6) | (at_builtin; refine appendB rfl _ _ rfl w.heap.size _ E rfl O6.out _ z rfl (P2.out _ (P2E.out.2.trans (B26.out.mono P2E.out.2.size))) (by omega) (by have := P2E.out.2.size; have := B26.out.size; omega) ?_; intro v7 w7 o7 g7 d7; have B27 : Hid (Below w2.heap.size w2 w7) := B26.out.grown g7 B26.out.size D6.out; have O7 : Hid (OwnB w7 w.heap.size v7 (E ++ z)) := o7; clear o7 g7 d7 O6 D6 B26))
  have B7 : Hid (Below w.heap.size w w7) := P2E.out.2.trans (B27.out.mono P2E.out.2.size)
  refine (DC.out w7 v7 B7.out (OwnB.partG O7.out (by have := B7.out.size; omega))).mono ?_
  rintro e w8 ⟨av8, c8, rfl, p8, b78, b8⟩
  have B28 : Hid (Below w2.heap.size w2 w8) := B27.out.trans (b78.mono B27.out.size)
  have P8 : Hid (PartAt w8 (.slice av8 n1 c8) b) := p8
  have B8 : Hid (Below w.heap.size w w8) := b8
  clear p8 b8 b78 O7 B7 B27 DC A6 P2
  obtain ⟨k, hk⟩ : ∃ k : Nat, at' % ((n1 : Int) + 10) = (k : Int) := ⟨(at' % ((n1 : Int) + 10)).toNat, by have := Int.emod_nonneg at' (show (n1 : Int) + 10 ≠ 0 by omega); omega⟩
  have hk1 : k < n1 + 10 := by have := Int.emod_lt_of_pos at' (show (0 : Int) < (n1 : Int) + 10 by omega); omega
  have HK1 : Hid (k < n1 + 10) := hk1
  have hk2 : (k : Int) ≤ (cb : Int) := by omega
  have hk3 : (0 : Int) ≤ (k : Int) := by omega
  clear hk1
  go_wp2_with (first | (refine store61 rfl _ _ rfl w8.heap.size (.int .u8 t) (.slice av8 n1 c8) rfl rfl (one61 _ _ _ _) (.int .u8 0) (.slice none 0 0) (heap_alloc_new _ _) ?_))
  obtain ⟨w9, hw9⟩ : ∃ W, W = (w8.alloc (Obj.cells #[Value.int IntKind.u8 0, Value.slice none 0 0] 61)).setRow w8.heap.size #[Value.int IntKind.u8 t, Value.slice av8 n1 c8] := ⟨_, rfl⟩
  rw [← hw9]
  have B89 : Hid (Below w8.heap.size w8 w9) := by rw [hw9]; exact below_setRow ((Below.refl _ _).alloc (Nat.le_refl _) _) (Nat.le_refl _) _
  have K9 : Hid (w9.heap[w8.heap.size]? = some (.cells #[Value.int IntKind.u8 t, Value.slice av8 n1 c8] 61)) := by rw [hw9]; exact setRow_same (w := w8.alloc (Obj.cells #[Value.int IntKind.u8 0, Value.slice none 0 0] 61)) (heap_alloc_new _ _)
  have B9 : Hid (Below w.heap.size w w9) := B8.out.trans (B89.out.mono B8.out.size)
  have PE9 : Hid (∀ W, Below w9.heap.size w9 W → PartAt W (.slice (some ⟨bb, ob, none⟩) k cb) (E.take k)) := fun W q => by
    have b29 : Below w2.heap.size w2 w9 := B28.out.trans (B89.out.mono B28.out.size)
    exact (cut_part (P2E.out.1.below b29) hlen (by omega) (Nat.le_of_lt HK1.out)).below q
  have PB9 : Hid (∀ W, Below w9.heap.size w9 W → PartAt W (.slice av8 n1 c8) b) := fun W q => (P8.out.below B89.out).below q
  clear hw9 P2E B28 P8 B8 hk
  refine (DS.out w9 _ k HK1.out B9.out (PE9.out _ (Below.refl _ _))).mono ?_
  rintro e w10 ⟨av10, c10, rfl, b910, b10⟩
  have B910 : Hid (Below w9.heap.size w9 w10) := b910
  clear b910 b10 DS
  have hb9 : w8.heap.size < w9.heap.size := (Array.getElem?_eq_some_iff.1 K9.out).1
  have B911 : Hid (Below w9.heap.size w9 ((w10.alloc (Obj.cells #[Value.int IntKind.u8 0, Value.slice none 0 0] 61)).setRow w10.heap.size #[Value.int IntKind.u8 0, Value.slice av10 0 c10])) := below_setRow (B910.out.alloc B910.out.size _) B910.out.size _
  obtain ⟨w11, hw11⟩ : ∃ W, W = (w10.alloc (Obj.cells #[Value.int IntKind.u8 0, Value.slice none 0 0] 61)).setRow w10.heap.size #[Value.int IntKind.u8 0, Value.slice av10 0 c10] := ⟨_, rfl⟩
  rw [← hw11] at B911
  have HW : Hid (w11 = (w10.alloc (Obj.cells #[Value.int IntKind.u8 0, Value.slice none 0 0] 61)).setRow w10.heap.size #[Value.int IntKind.u8 0, Value.slice av10 0 c10]) := hw11
  have k11 : w11.heap[w8.heap.size]? = some (.cells #[Value.int IntKind.u8 t, Value.slice av8 n1 c8] 61) := by rw [B911.out.block _ hb9]; exact K9.out
  have c0 := row_cell (j := 0) k11 rfl
  have c1' := row_cell (j := 1) k11 rfl
  have B11 : Hid (Below w.heap.size w w11) := B9.out.trans (B911.out.mono B9.out.size)
  have hv1 := run_conv (PB9.out _ B911.out)
  have hv2 := run_conv (P1.out _ B11.out)
  have BG11 : Hid (Calls Tryd.prog 51 #[.slice (some ⟨bb, ob, none⟩) k cb] w11 fun e w' => e = .returned (.bool true) ∧ Below w.heap.size w w') := BG.out w11 _ k B11.out (PE9.out _ B911.out)
  clear hw11 k11 hb9 PB9 P1 PE9 B9 K9 B89 B910 BG
  go_wp2_with (first | (refine store61 rfl _ _ rfl w10.heap.size (.int .u8 0) (.slice av10 0 c10) rfl rfl (one61 _ _ _ _) (.int .u8 0) (.slice none 0 0) (heap_alloc_new _ _) ?_; rw [← HW.out]) | (go_at_call 51; refine BG11.out.mono ?_; rintro e w12 ⟨rfl, b12⟩))
  go_ret
  exact ⟨rfl, b12⟩
end Go.Proofs.YtffhjjgkoapioaaDoor
