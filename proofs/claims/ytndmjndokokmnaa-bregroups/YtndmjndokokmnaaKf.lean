import Derived.Test.YtndmjndokokmnaaKd
namespace Go.Proofs.Ytndmjndokokmnaa
set_option linter.unusedSimpArgs false
set_option linter.unusedVariables false
open Go.RowKit
open Go.Deep
set_option maxHeartbeats 2000000 in
set_option maxRecDepth 100000 in
theorem flat_any (k : Int) (l : List T) (S : Nat → Prop) (hc : countL l ≤ 1000000) (w : World) (u : Value) (hu : SV S w u l) : Calls Try.prog 70 #[.int .i64 k, u] w fun e w' => ∃ u', e = .returned u' ∧ SV (fun b => S b ∨ w.heap.size ≤ b) w' u' (flatK k l) ∧ Below w.heap.size w w' := by
  obtain ⟨av, cp, b, o, rfl, h1, h2, h3, h4⟩ := hu
  have hll := len_le_countL l
  obtain ⟨n, hn⟩ : ∃ n, n = l.length := ⟨_, rfl⟩
  have HN : Hid (n = l.length) := hn
  have HL : Hid (LAt S w b o l) := h4
  have HA : Hid (0 < n → av = some ⟨b, o, none⟩) := by rw [hn]; exact h3
  have HC : Hid (countL l ≤ 1000000) := hc
  have hn6 : n ≤ 1000000 := by omega
  have RW0 : Hid (RowW 51 (fun b => S b ∧ b < w.heap.size) w w (.slice none 0 0) (flatK k [])) := ⟨OwnT.nil _ _ _ _, Below.refl _ _⟩
  rw [← hn] at h1 ⊢
  clear hn h3 h4 hc hll
  go_enter Try.func70, Try.ntmps70
  go_wp2
  go_loopw [9, 5] (fun i v wr => ∃ (j : Nat) (va : Option Addr) (vl vc : Nat), j ≤ n ∧ i = .int .i64 j ∧ v = .slice va vl vc ∧ Hid (RowW 51 (fun b => S b ∧ b < w.heap.size) w wr (.slice va vl vc) (flatK k (l.take j)))) (fun i _ _ => n - (intOf i).toNat)
  case atStart => exact ⟨0, none, 0, 0, by omega, rfl, rfl, RW0.out⟩
  case round =>
    obtain ⟨j, va, vl, vc, hj, rfl, rfl, RW⟩ := hrel
    by_cases hlt : j < n
    · obtain rfl := HA.out (by omega)
      obtain ⟨t, ht⟩ : ∃ t, l[j]? = some t := ⟨l[j]'(by rw [← HN.out]; exact hlt), List.getElem?_eq_getElem (by rw [← HN.out]; exact hlt)⟩
      have hat := HL.out.get ht
      have hfk := flatK_take k l j t ht
      have hfl := flatK_len k (l.take (j + 1))
      have hcl := countL_take_le l (j + 1)
      have HTL2 : Hid ((flatK k (l.take (j + 1))).length ≤ 1000000) := by have := HC.out; unfold Hid; omega
      obtain ⟨h', l', rfl⟩ := t.out
      rw [T.hd_mk, T.kids_mk] at hfk
      obtain ⟨u', r1, _, r3, r4⟩ := hat.out
      have HR : Hid (wr.rangeAt b (o + j * 10) (cN h' u')) := range_block r1 (RW.out.bel.block b r3)
      have c0 : wr.cell? ⟨b, o + j * 10, none⟩ = some (.int .i64 h'.k) := by have q := HR.out 0 _ rfl; simpa using q
      have c9 : wr.cell? ⟨b, o + j * 10 + 9, none⟩ = some u' := HR.out 9 _ rfl
      have S6 : Hid (SV (fun b => (S b ∧ b < w.heap.size) ∧ some b ≠ (Value.slice va vl vc).ownBlock) wr u' l') := by
        have q1 : SV (fun b => S b ∧ b < w.heap.size) w u' l' := r4.weak fun b hs hb => ⟨hs, hb⟩
        refine (q1.below RW.out.bel).weak fun b q _ => ⟨q, fun e => ?_⟩
        have z1 := (RW.out.own.low b e.symm).1
        have z2 := q.2
        omega
      have FIN : Hid (∀ (w6 w7 : World) (v7 : Value) (ms : List T), Below w.heap.size w w6 → OwnT 51 (fun b => S b ∧ b < w.heap.size) w.heap.size w7 v7 (flatK k (l.take j) ++ ms) → w6.grownBy w7 (Value.slice va vl vc).ownBlock → RowW 51 (fun b => S b ∧ b < w.heap.size) w w7 v7 (flatK k (l.take j) ++ ms)) := fun w6 w7 v7 ms q2 q3 q4 => ⟨q3, q2.grown q4 q2.size fun g hg => (RW.out.own.low g hg).1⟩
      obtain ⟨av', cp', b', o', hu', _⟩ := id r4
      subst hu'
      have i1 : (j : Int) < (n : Int) := by omega
      have i0 : (0 : Int) ≤ (j : Int) := by omega
      have HLT : Hid (j < n) := hlt
      by_cases hk : h'.k = k
      · have hkb : (h'.k == k) = true := by simpa using hk
        have HFK : Hid (flatK k (l.take (j + 1)) = flatK k (l.take j) ++ l') := by unfold Hid; rw [hfk, if_pos hk]
        have HTL : Hid ((flatK k (l.take j)).length + l'.length ≤ 1000000) := by have q := HTL2.out; rw [HFK.out, List.length_append] at q; exact q
        clear hat r1 r3 r4 ht hlt hfk hfl hcl hk
        go_wp2_with (first | (refine app51 rfl _ _ rfl rfl (fun b => S b ∧ b < w.heap.size) w.heap.size (.slice va vl vc) (flatK k (l.take j)) rfl RW.out.own l' _ S6.out rfl HTL.out RW.out.bel.size ?_; intro v7 w7 O7 g7; have R7 := FIN.out _ w7 v7 l' RW.out.bel O7 g7; obtain ⟨va7, vc7, e7⟩ := O7.form; clear O7 g7; subst e7; obtain ⟨vl7, hvl7⟩ : ∃ vl7, vl7 = (flatK k (l.take j) ++ l').length := ⟨_, rfl⟩; rw [← hvl7] at R7 ⊢; have R7 : Hid (RowW 51 (fun b => S b ∧ b < w.heap.size) w w7 (.slice va7 vl7 vc7) (flatK k (l.take j) ++ l')) := R7; clear hvl7))
        go_roundw
        case rel => exact ⟨j + 1, va7, vl7, vc7, by have := HLT.out; omega, by go_num, rfl, by rw [HFK.out]; exact R7.out⟩
        case measure => have := HLT.out; simp [intOf]; omega
      · have hkb : (h'.k == k) = false := by simpa using hk
        have HFK : Hid (flatK k (l.take (j + 1)) = flatK k (l.take j) ++ [T.mk h' l']) := by unfold Hid; rw [hfk, if_neg hk]
        have HTL : Hid ((flatK k (l.take j)).length ≤ 1000000) := by have q := HTL2.out; rw [HFK.out, List.length_append] at q; unfold Hid; omega
        have S7 : Hid (SV (fun b => (S b ∧ b < w.heap.size) ∧ some b ≠ (Value.slice va vl vc).ownBlock) wr (.slice av' l'.length cp') (T.mk h' l').kids) := by unfold Hid; rw [T.kids_mk]; exact S6.out
        clear hat r1 r3 r4 ht hlt hfk hfl hcl hk
        go_wp2_with (first | (refine loadN51 rfl _ rfl b (o + j * 10) rfl h' _ HR.out ?_) | (refine build51 rfl _ rfl h' _ rfl ?_) | (refine snoc51 rfl _ _ rfl (fun b => S b ∧ b < w.heap.size) w.heap.size (.slice va vl vc) (flatK k (l.take j)) rfl RW.out.own (T.mk h' l') _ S7.out rfl HTL.out RW.out.bel.size ?_; intro v7 w7 O7 g7; have R7 := FIN.out _ w7 v7 [T.mk h' l'] (RW.out.bel.alloc RW.out.bel.size _) O7 g7; obtain ⟨va7, vc7, e7⟩ := O7.form; clear O7 g7; subst e7; obtain ⟨vl7, hvl7⟩ : ∃ vl7, vl7 = (flatK k (l.take j) ++ [T.mk h' l']).length := ⟨_, rfl⟩; rw [← hvl7] at R7 ⊢; have R7 : Hid (RowW 51 (fun b => S b ∧ b < w.heap.size) w w7 (.slice va7 vl7 vc7) (flatK k (l.take j) ++ [T.mk h' l'])) := R7; clear hvl7))
        go_roundw
        case rel => exact ⟨j + 1, va7, vl7, vc7, by have := HLT.out; omega, by go_num, rfl, by rw [HFK.out]; exact R7.out⟩
        case measure => have := HLT.out; simp [intOf]; omega
    · have i1 : ¬ (j : Int) < (n : Int) := by omega
      have RE : Hid (SV (fun b => S b ∨ w.heap.size ≤ b) wr (.slice va vl vc) (flatK k l)) := by
        have q := RW.out.own
        rw [List.take_of_length_le (by rw [← HN.out]; omega)] at q
        exact q.sv.weak fun b q _ => by rcases q with q | q; exact .inl q.1; exact .inr q
      clear hlt
      go_wp2
      go_ret
      exact ⟨_, rfl, RE.out, RW.out.bel⟩
end Go.Proofs.Ytndmjndokokmnaa
