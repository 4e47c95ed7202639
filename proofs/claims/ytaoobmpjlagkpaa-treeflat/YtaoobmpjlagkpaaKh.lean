import Derived.Test.YtaoobmpjlagkpaaKg
import Derived.Test.YtaoobmpjlagkpaaFg
import Derived.Test.YtaoobmpjlagkpaaTj
import Derived.Test.YtaoobmpjlagkpaaTg
import Derived.Test.YtaoobmpjlagkpaaEd
namespace Go.Proofs.Ytaoobmpjlagkpaa
set_option linter.unusedSimpArgs false
set_option linter.unusedVariables false
open Go.RowKit
open Go.Deep
theorem onlyT_count (k : Int) (l : List T) : countT (onlyT k l) ≤ 1 + countL l := by
  by_cases h : l.length = 1
  · obtain ⟨t, rfl⟩ := List.length_eq_one_iff.1 h
    rw [onlyT_one, countL_cons]; omega
  · rw [onlyT_more k l h, countT_mk]; exact Nat.le_refl _
theorem joinT_count (l : List T) : countT (joinT l) ≤ 1 + countL l := by
  have h1 := onlyT_count 8 (flatK 8 l)
  have h2 := flatK_count 8 l
  show countT (onlyT 8 (flatK 8 l)) ≤ _
  omega
theorem eitherT_count (l : List T) : countT (eitherT l) ≤ 1 + countL l := by
  by_cases h : (flatK 9 l).length = 0
  · rw [eitherT_none l h, countT_mk, countL_nil]; omega
  · rw [eitherT_some l h]
    have h1 := onlyT_count 9 (flatK 9 l)
    have h2 := flatK_count 9 l
    omega
theorem count_few : ∀ l : List T, (∀ t ∈ l, countT t < 400) → countL l ≤ 400 * l.length
  | [], _ => by rw [countL_nil]; omega
  | t :: r, h => by
    have h1 := count_few r fun x hx => h x (by simp [hx])
    have h2 := h t (by simp)
    rw [countL_cons, List.length_cons]; omega
/-- What Join, Either, Ours and the reference's hand back, however they lie there. -/
def NodeA (h : Hd) (l : List T) (w : World) (e : Ending) (w' : World) : Prop := ∃ u', e = .returned (vN h u') ∧ SV AnyB w' u' l ∧ Below w.heap.size w w'
theorem nodeA {S : Nat → Prop} {t : T} {w w' : World} {e : Ending} (h : NodeO S t w e w') : NodeA t.hd t.kids w e w' := by
  obtain ⟨u', q1, q2, q3⟩ := h
  exact ⟨u', q1, q2.any, q3⟩
theorem ours_nodeA (t : T) (hc : countT t ≤ 1000000) (w : World) (u : Value) (hu : SV AnyB w u t.kids) : Calls Try.prog 42 #[vN t.hd u] w (NodeA t.hd t.kids w) :=
  (ours_any t w u hu hc).mono fun e w' ⟨u', q1, q2, q3⟩ => ⟨u', q1, q2.any, q3⟩
set_option maxHeartbeats 4000000 in
set_option maxRecDepth 100000 in
theorem treeJoins_walk (l : List T) (w : World) (a : Option Addr) (n c : Nat) (hs : SV AnyB w (.slice a n c) l) : Calls Try.prog 10 #[.slice a n c] w fun e w' => e = .returned (.bool true) ∧ Below w.heap.size w w' := by
  have HS : Hid (SV AnyB w (.slice a n c) l) := hs
  have AW : Hid (∀ W, Calls Try.prog 28 #[] W fun e w' => e = .returned (.bool true) ∧ Below W.heap.size W w') := fun W => awake_any W
  obtain ⟨av, cp, b, o, e0, h1, h2, h3, h4⟩ := hs
  injection e0 with ea en ec
  subst ea en ec
  by_cases hn30 : 30 < l.length
  · obtain ⟨n, hn⟩ : ∃ n, n = l.length := ⟨_, rfl⟩
    rw [← hn] at hn30 h1 ⊢
    have i1 : (30 : Int) < (n : Int) := by omega
    clear HS h3 h4 hn hn30
    go_enter Try.func10, Try.ntmps10
    go_wp2_with (first | (go_at_call 28; refine (AW.out w).mono ?_; rintro e w1 ⟨rfl, b1⟩))
    all_goals (try (refine (AW.out _).mono ?_; rintro e w3 ⟨rfl, b3⟩))
    go_wp2_with fail
    all_goals (try (refine (AW.out _).mono ?_; rintro e w3 ⟨rfl, b3⟩))
    go_wp2
    go_ret
    exact ⟨rfl, b1.trans (b3.mono b1.size)⟩
  · obtain ⟨n, hn⟩ : ∃ n, n = l.length := ⟨_, rfl⟩
    have HN : Hid (n = l.length) := hn
    have HL : Hid (LAt AnyB w b o l) := h4
    have HA : Hid (0 < n → a = some ⟨b, o, none⟩) := by rw [hn]; exact h3
    rw [← hn] at hn30 h1 HS ⊢
    have hn6 : n ≤ 30 := by omega
    have i2 : ¬ (30 : Int) < (n : Int) := by omega
    clear hn h3 h4 hn30
    go_enter Try.func10, Try.ntmps10
    go_wp2_with (first | (go_at_call 28; refine (AW.out _).mono ?_; rintro e w1 ⟨rfl, b1⟩; have RW0 : Hid (RowW 55 (fun b => w.heap.size ≤ b) w w1 (.slice none 0 0) []) := ⟨OwnT.nil _ _ _ _, b1⟩; clear b1))
    go_loopw [15, 3] (fun i v wr => ∃ (j : Nat) (va : Option Addr) (vl vc : Nat), j ≤ n ∧ i = .int .i64 j ∧ v = .slice va vl vc ∧ Hid (RowW 55 (fun b => w.heap.size ≤ b) w wr (.slice va vl vc) (l.take j)) ∧ Hid (∀ t ∈ l.take j, countT t < 400)) (fun i _ _ => n - (intOf i).toNat)
    case atStart => exact ⟨0, none, 0, 0, by omega, rfl, rfl, RW0.out, fun t ht => by simp at ht⟩
    case round =>
      obtain ⟨j, va, vl, vc, hj, rfl, rfl, RW, FW⟩ := hrel
      by_cases hlt : j < n
      · obtain rfl := HA.out (by omega)
        obtain ⟨t, ht⟩ : ∃ t, l[j]? = some t := ⟨l[j]'(by rw [← HN.out]; exact hlt), List.getElem?_eq_getElem (by rw [← HN.out]; exact hlt)⟩
        have hat := HL.out.get ht
        have HTK := take_snocT l j t ht
        have HTL : Hid ((l.take j).length ≤ 1000000) := by unfold Hid; rw [List.length_take]; omega
        have hfc : fewT t = true → countT t < 400 := fun h => few_count h
        obtain ⟨h', l', rfl⟩ := t.out
        have HTK : Hid (l.take (j + 1) = l.take j ++ [T.mk h' l']) := HTK
        obtain ⟨u', r1, _, r3, r4⟩ := hat.out
        have HBL : Hid (b < wr.heap.size) := Nat.lt_of_lt_of_le r3 RW.out.bel.size
        have HR : Hid (wr.rangeAt b (o + j * 10) (cN h' u')) := range_block r1 (RW.out.bel.block b r3)
        have FA : Hid (Calls Try.prog 29 #[vN h' u'] wr fun e w' => e = .returned (.bool (fewT (.mk h' l'))) ∧ Below wr.heap.size wr w') := by
          have q := few_any (.mk h' l') wr u' (by rw [T.kids_mk]; exact r4.below RW.out.bel); rw [T.hd_mk] at q; exact q
        obtain ⟨av', cp', b', o', hu', _⟩ := id r4
        have i1 : (j : Int) < (n : Int) := by omega
        have i0 : (0 : Int) ≤ (j : Int) := by omega
        have HLT : Hid (j < n) := hlt
        cases hf : fewT (.mk h' l') with
        | false =>
          rw [hf] at FA
          subst hu'
          clear hat r1 r3 r4 ht hlt hfc hf
          go_wp2_with (first | (refine loadN51 rfl _ rfl b (o + j * 10) rfl h' _ HR.out ?_) | (go_at_call 29; refine FA.out.mono ?_; rintro e w2 ⟨rfl, b2⟩))
          go_ret
          exact ⟨rfl, RW.out.bel.trans (b2.mono RW.out.bel.size)⟩
        | true =>
          rw [hf] at FA
          have hc4 := hfc hf
          have FW2 : Hid (∀ t ∈ l.take (j + 1), countT t < 400) := by
            unfold Hid; rw [HTK.out]
            intro t ht2
            rcases List.mem_append.1 ht2 with q | q
            · exact FW.out t q
            · rw [List.mem_singleton.1 q]; exact hc4
          have TH : Hid (∀ W, Below w.heap.size w W → Calls Try.prog 30 #[vN h' u'] W fun e w' => ∃ u6, e = .returned (vN h' u6) ∧ SV (fun b => W.heap.size ≤ b) w' u6 l' ∧ Below W.heap.size W w') := fun W hW => by
            have q := theirs_any (.mk h' l') W u' (by rw [T.kids_mk]; exact r4.below hW) (by omega); rw [T.hd_mk, T.kids_mk] at q; exact q
          have NEW : Hid (∀ (w2 w6 : World) (u6 : Value), Below wr.heap.size wr w2 → Below w2.heap.size w2 w6 → SV (fun b => w2.heap.size ≤ b) w6 u6 l' → OwnT 55 (fun b => w.heap.size ≤ b) w.heap.size w6 (.slice va vl vc) (l.take j) ∧ Below w.heap.size w w6 ∧ SV (fun b => w.heap.size ≤ b ∧ some b ≠ (Value.slice va vl vc).ownBlock) w6 u6 (T.mk h' l').kids) := fun w2 w6 u6 q0 q1 q2 => by
            have b6 : Below wr.heap.size wr w6 := q0.trans (q1.mono q0.size)
            rw [T.kids_mk]
            refine ⟨RW.out.own.below b6, RW.out.bel.trans (b6.mono RW.out.bel.size), q2.weak fun b q _ => ?_⟩
            have z1 := q0.size
            have z2 := RW.out.bel.size
            refine ⟨by omega, fun e => ?_⟩
            have := (RW.out.own.low b e.symm).2
            omega
          have FIN : Hid (∀ (w6 w7 : World) (v7 : Value) (ms : List T), Below w.heap.size w w6 → OwnT 55 (fun b => w.heap.size ≤ b) w.heap.size w7 v7 (l.take j ++ ms) → w6.grownBy w7 (Value.slice va vl vc).ownBlock → RowW 55 (fun b => w.heap.size ≤ b) w w7 v7 (l.take j ++ ms)) := fun w6 w7 v7 ms q2 q3 q4 => ⟨q3, q2.grown q4 q2.size fun g hg => (RW.out.own.low g hg).1⟩
          subst hu'
          clear hat r1 r3 r4 ht hlt hfc hf hc4
          go_wp2_with (first | (refine loadN51 rfl _ rfl b (o + j * 10) rfl h' _ HR.out ?_) | (go_at_call 29; refine FA.out.mono ?_; rintro e w2 ⟨rfl, b2⟩; have B2 : Hid (Below wr.heap.size wr w2) := b2; have HR2 : Hid (w2.rangeAt b (o + j * 10) (cN h' (.slice av' l'.length cp'))) := range_block HR.out (b2.block b HBL.out); clear b2) | (refine loadN51 rfl _ rfl b (o + j * 10) rfl h' _ HR2.out ?_) | (go_at_call 30; refine (TH.out _ (RW.out.bel.trans (B2.out.mono RW.out.bel.size))).mono ?_; rintro e w6 ⟨u6, rfl, s6, b6⟩; obtain ⟨O6, B6, S6⟩ := NEW.out w2 w6 u6 B2.out b6 s6; have O6 : Hid (OwnT 55 (fun b => w.heap.size ≤ b) w.heap.size w6 (.slice va vl vc) (l.take j)) := O6; have S6 : Hid (SV (fun b => w.heap.size ≤ b ∧ some b ≠ (Value.slice va vl vc).ownBlock) w6 u6 (T.mk h' l').kids) := S6; have B6 : Hid (Below w.heap.size w w6) := B6; clear s6 b6) | (refine build55 rfl _ rfl h' u6 rfl ?_) | (refine snoc55 rfl _ _ rfl (fun b => w.heap.size ≤ b) w.heap.size (.slice va vl vc) (l.take j) rfl O6.out (T.mk h' l') u6 S6.out rfl HTL.out B6.out.size ?_; intro v7 w7 O7 g7; have R7 := FIN.out _ w7 v7 [T.mk h' l'] (B6.out.alloc B6.out.size _) O7 g7; obtain ⟨va7, vc7, e7⟩ := O7.form; clear O7 g7; subst e7; obtain ⟨vl7, hvl7⟩ : ∃ vl7, vl7 = (l.take j ++ [T.mk h' l']).length := ⟨_, rfl⟩; rw [← hvl7] at R7 ⊢; have R7 : Hid (RowW 55 (fun b => w.heap.size ≤ b) w w7 (.slice va7 vl7 vc7) (l.take j ++ [T.mk h' l'])) := R7; clear hvl7))
          go_roundw
          case rel => exact ⟨j + 1, va7, vl7, vc7, by have := HLT.out; omega, by go_num, rfl, by rw [HTK.out]; exact R7.out, FW2.out⟩
          case measure => have := HLT.out; simp [intOf]; omega
      · have i1 : ¬ (j : Int) < (n : Int) := by omega
        have htk : l.take j = l := List.take_of_length_le (by rw [← HN.out]; omega)
        have hcl : countL l ≤ 12000 := by
          have q := count_few l (by have := FW.out; rw [htk] at this; exact this)
          have := HN.out
          omega
        have SX : Hid (SV AnyB wr (.slice va vl vc) l) := by have q := RW.out.own; rw [htk] at q; exact q.sv.any
        have BX : Hid (Below w.heap.size w wr) := RW.out.bel
        have hj1 := joinT_count l
        have hj2 := eitherT_count l
        have J1 : Hid (∀ W u, SV AnyB W u l → Calls Try.prog 43 #[u] W (NodeA (joinT l).hd (joinT l).kids W)) := fun W u h => (join_any l (by omega) W u h).mono fun e w' q => nodeA q
        have J2 : Hid (∀ W u, SV AnyB W u (joinT l).kids → Calls Try.prog 42 #[vN (joinT l).hd u] W (NodeA (joinT l).hd (joinT l).kids W)) := fun W u h => ours_nodeA (joinT l) (by omega) W u h
        have J3 : Hid (∀ W, Below w.heap.size w W → Calls Try.prog 44 #[.slice a n c] W (NodeA (joinT l).hd (joinT l).kids W)) := fun W h => (rjoin_any l (by omega) W _ (HS.out.below h)).mono fun e w' q => nodeA q
        have J4 : Hid (∀ W u1 u2, SV AnyB W u1 (joinT l).kids → SV AnyB W u2 (joinT l).kids → Calls Try.prog 41 #[vN (joinT l).hd u1, vN (joinT l).hd u2] W fun e w' => e = .returned (.bool true) ∧ Below W.heap.size W w') := fun W u1 u2 q1 q2 => by
          have q := rsame_any (joinT l) (joinT l) W u1 u2 q1 q2; rw [same_refl.1] at q; exact q
        have E1 : Hid (∀ W u, SV AnyB W u l → Calls Try.prog 45 #[u] W (NodeA (eitherT l).hd (eitherT l).kids W)) := fun W u h => (either_any l (by omega) W u h).mono fun e w' q => nodeA q
        have E2 : Hid (∀ W u, SV AnyB W u (eitherT l).kids → Calls Try.prog 42 #[vN (eitherT l).hd u] W (NodeA (eitherT l).hd (eitherT l).kids W)) := fun W u h => ours_nodeA (eitherT l) (by omega) W u h
        have E3 : Hid (∀ W, Below w.heap.size w W → Calls Try.prog 46 #[.slice a n c] W (NodeA (eitherT l).hd (eitherT l).kids W)) := fun W h => (reither_any l (by omega) W _ (HS.out.below h)).mono fun e w' q => nodeA q
        have E4 : Hid (∀ W u1 u2, SV AnyB W u1 (eitherT l).kids → SV AnyB W u2 (eitherT l).kids → Calls Try.prog 41 #[vN (eitherT l).hd u1, vN (eitherT l).hd u2] W fun e w' => e = .returned (.bool true) ∧ Below W.heap.size W w') := fun W u1 u2 q1 q2 => by
          have q := rsame_any (eitherT l) (eitherT l) W u1 u2 q1 q2; rw [same_refl.1] at q; exact q
        generalize (joinT l).hd = jh at *
        generalize (joinT l).kids = jl at *
        generalize (eitherT l).hd = eh at *
        generalize (eitherT l).kids = el at *
        clear hj1 hj2 htk hcl hlt RW FW HL HA HN
        go_wp2_with (first | (go_at_call 43; refine (J1.out _ _ SX.out).mono ?_; rintro e w2 ⟨u2, rfl, s2, b2⟩; have S2 : Hid (SV AnyB w2 u2 jl) := s2; have B2 : Hid (Below w.heap.size w w2) := BX.out.trans (b2.mono BX.out.size); have SX2 : Hid (SV AnyB w2 (.slice va vl vc) l) := SX.out.below b2; clear s2 b2) | (go_at_call_of 42 (vN jh u2); refine (J2.out _ _ S2.out).mono ?_; rintro e w3 ⟨u3, rfl, s3, b3⟩; have S3 : Hid (SV AnyB w3 u3 jl) := s3; have B3 : Hid (Below w.heap.size w w3) := B2.out.trans (b3.mono B2.out.size); have SX3 : Hid (SV AnyB w3 (.slice va vl vc) l) := SX2.out.below b3; clear s3 b3) | (go_at_call 44; refine (J3.out _ B3.out).mono ?_; rintro e w4 ⟨u4, rfl, s4, b4⟩; have S4 : Hid (SV AnyB w4 u4 jl) := s4; have S34 : Hid (SV AnyB w4 u3 jl) := S3.out.below b4; have B4 : Hid (Below w.heap.size w w4) := B3.out.trans (b4.mono B3.out.size); have SX4 : Hid (SV AnyB w4 (.slice va vl vc) l) := SX3.out.below b4; clear s4 b4) | (go_at_call_of 41 (vN jh u3); refine (J4.out _ _ _ S34.out S4.out).mono ?_; rintro e w5 ⟨rfl, b5⟩; have B5 : Hid (Below w.heap.size w w5) := B4.out.trans (b5.mono B4.out.size); have SX5 : Hid (SV AnyB w5 (.slice va vl vc) l) := SX4.out.below b5; clear b5) | (go_at_call 45; refine (E1.out _ _ SX5.out).mono ?_; rintro e w6 ⟨u6, rfl, s6, b6⟩; have S6 : Hid (SV AnyB w6 u6 el) := s6; have B6 : Hid (Below w.heap.size w w6) := B5.out.trans (b6.mono B5.out.size); clear s6 b6) | (go_at_call_of 42 (vN eh u6); refine (E2.out _ _ S6.out).mono ?_; rintro e w7 ⟨u7, rfl, s7, b7⟩; have S7 : Hid (SV AnyB w7 u7 el) := s7; have B7 : Hid (Below w.heap.size w w7) := B6.out.trans (b7.mono B6.out.size); clear s7 b7) | (go_at_call 46; refine (E3.out _ B7.out).mono ?_; rintro e w8 ⟨u8, rfl, s8, b8⟩; have S8 : Hid (SV AnyB w8 u8 el) := s8; have S78 : Hid (SV AnyB w8 u7 el) := S7.out.below b8; have B8 : Hid (Below w.heap.size w w8) := B7.out.trans (b8.mono B7.out.size); clear s8 b8) | (go_at_call_of 41 (vN eh u7); refine (E4.out _ _ _ S78.out S8.out).mono ?_; rintro e w9 ⟨rfl, b9⟩; have B9 : Hid (Below w.heap.size w w9) := B8.out.trans (b9.mono B8.out.size); clear b9))
        go_ret
        exact ⟨rfl, B9.out⟩
end Go.Proofs.Ytaoobmpjlagkpaa
