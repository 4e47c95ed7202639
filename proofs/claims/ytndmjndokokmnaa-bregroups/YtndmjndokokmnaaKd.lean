import Derived.Test.YtndmjndokokmnaaKc
namespace Go.Proofs.Ytndmjndokokmnaa
set_option linter.unusedSimpArgs false
set_option linter.unusedVariables false
open Go.RowKit
open Go.Deep
theorem kids_len (t : T) : t.kids.length < countT t := by
  obtain ⟨h, l, rfl⟩ := t.out
  rw [T.kids_mk, countT_mk]; have := len_le_countL l; omega
theorem flatK_len (k : Int) : ∀ l : List T, (flatK k l).length ≤ countL l
  | [] => Nat.le_refl _
  | t :: r => by
    have h1 := flatK_len k r
    have h2 := kids_len t
    rw [countL_cons]
    simp only [flatK, List.length_append]
    split
    · omega
    · simp; omega
theorem kids_count (t : T) : countL t.kids + 1 = countT t := by
  obtain ⟨h, l, rfl⟩ := t.out
  rw [T.kids_mk, countT_mk]; omega
theorem flatK_count (k : Int) : ∀ l : List T, countL (flatK k l) ≤ countL l
  | [] => Nat.le_refl _
  | t :: r => by
    have h1 := flatK_count k r
    have h2 := kids_count t
    rw [countL_cons]
    simp only [flatK, countL_append]
    split
    · omega
    · simp only [countL_cons, countL_nil]; omega
/-- Spliced's and flat's memory: the row so far. -/
structure RowW (E : TypeId) (D : Nat → Prop) (w W : World) (v : Value) (ls : List T) : Prop where
  own : OwnT E D w.heap.size W v ls
  bel : Below w.heap.size w W
set_option maxHeartbeats 2000000 in
set_option maxRecDepth 100000 in
theorem spliced_any (k : Int) (l : List T) (hc : countL l ≤ 1000000) (w : World) (u : Value) (hu : SV AnyB w u l) : Calls Try.prog 69 #[.int .i64 k, u] w fun e w' => ∃ u', e = .returned u' ∧ SV (fun b => w.heap.size ≤ b) w' u' (flatK k l) ∧ Below w.heap.size w w' := by
  obtain ⟨av, cp, b, o, rfl, h1, h2, h3, h4⟩ := hu
  have hll := len_le_countL l
  obtain ⟨n, hn⟩ : ∃ n, n = l.length := ⟨_, rfl⟩
  have HN : Hid (n = l.length) := hn
  have HL : Hid (LAt AnyB w b o l) := h4
  have HA : Hid (0 < n → av = some ⟨b, o, none⟩) := by rw [hn]; exact h3
  have HC : Hid (countL l ≤ 1000000) := hc
  have hn6 : n ≤ 1000000 := by omega
  have RW0 : Hid (RowW 55 (fun b => w.heap.size ≤ b) w w (.slice none 0 0) (flatK k [])) := ⟨OwnT.nil _ _ _ _, Below.refl _ _⟩
  rw [← hn] at h1 ⊢
  clear hn h3 h4 hc hll
  go_enter Try.func69, Try.ntmps69
  go_wp2
  go_loopw [10, 5] (fun i v wr => ∃ (j : Nat) (va : Option Addr) (vl vc : Nat), j ≤ n ∧ i = .int .i64 j ∧ v = .slice va vl vc ∧ Hid (RowW 55 (fun b => w.heap.size ≤ b) w wr (.slice va vl vc) (flatK k (l.take j)))) (fun i _ _ => n - (intOf i).toNat)
  case atStart => exact ⟨0, none, 0, 0, by omega, rfl, rfl, RW0.out⟩
  case round =>
    obtain ⟨j, va, vl, vc, hj, rfl, rfl, RW⟩ := hrel
    by_cases hlt : j < n
    · obtain rfl := HA.out (by omega)
      obtain ⟨t, ht⟩ : ∃ t, l[j]? = some t := ⟨l[j]'(by rw [← HN.out]; exact hlt), List.getElem?_eq_getElem (by rw [← HN.out]; exact hlt)⟩
      have hmem := List.mem_of_getElem? ht
      have hat := HL.out.get ht
      have hct : countT t ≤ 1000000 := by have := count_mem hmem; have := HC.out; omega
      have hfk := flatK_take k l j t ht
      have hfl := flatK_len k (l.take (j + 1))
      have hcl := countL_take_le l (j + 1)
      have hkc := kids_count t
      have HTL2 : Hid ((flatK k (l.take (j + 1))).length ≤ 1000000) := by have := HC.out; unfold Hid; omega
      obtain ⟨h', l', rfl⟩ := t.out
      rw [T.hd_mk, T.kids_mk] at hfk
      rw [T.kids_mk] at hkc
      obtain ⟨u', r1, _, r3, r4⟩ := hat.out
      have HR : Hid (wr.rangeAt b (o + j * 10) (cN h' u')) := range_block r1 (RW.out.bel.block b r3)
      obtain ⟨av', cp', b', o', hu', _⟩ := id r4
      have hBX : Hid (Below wr.heap.size wr (wr.alloc (.cells (cN h' u').toArray 55))) := (Below.refl _ _).alloc (Nat.le_refl _) _
      have BXN : Hid (BoxN 55 (wr.alloc (.cells (cN h' u').toArray 55)) wr.heap.size h' u') := BoxN.new 55 wr h' u'
      have HB : Hid ((wr.alloc (.cells (cN h' u').toArray 55)).rangeAt wr.heap.size 0 (cN h' u')) := BXN.out.range
      have c0 := BXN.out.cell 0 _ rfl
      have c9 := BXN.out.cell 9 _ rfl
      have CP : Hid (∀ W, Below w.heap.size w W → Calls Try.prog 89 #[u'] W fun e w' => ∃ u6, e = .returned u6 ∧ SV (fun b => W.heap.size ≤ b) w' u6 l' ∧ Below W.heap.size W w') := fun W hW => copies_any l' (by omega) W u' (r4.below hW)
      have CO : Hid (∀ W, Below w.heap.size w W → Calls Try.prog 90 #[vN h' u'] W fun e w' => ∃ u6, e = .returned (vN h' u6) ∧ SV (fun b => W.heap.size ≤ b) w' u6 l' ∧ Below W.heap.size W w') := fun W hW => by
        have q := copyOf_any (T.mk h' l') W u' (by rw [T.kids_mk]; exact r4.below hW) hct
        rw [T.hd_mk, T.kids_mk] at q; exact q
      have BAL : Hid (Below w.heap.size w (wr.alloc (.cells (cN h' u').toArray 55))) := RW.out.bel.trans (hBX.out.mono RW.out.bel.size)
      have NEW : Hid (∀ (w6 : World) (u6 : Value), Below (wr.alloc (.cells (cN h' u').toArray 55)).heap.size (wr.alloc (.cells (cN h' u').toArray 55)) w6 → SV (fun b => (wr.alloc (.cells (cN h' u').toArray 55)).heap.size ≤ b) w6 u6 l' → OwnT 55 (fun b => w.heap.size ≤ b) w.heap.size w6 (.slice va vl vc) (flatK k (l.take j)) ∧ Below w.heap.size w w6 ∧ SV (fun b => w.heap.size ≤ b ∧ some b ≠ (Value.slice va vl vc).ownBlock) w6 u6 l') := fun w6 u6 q1 q2 => by
        have b6 : Below wr.heap.size wr w6 := hBX.out.trans (q1.mono hBX.out.size)
        refine ⟨RW.out.own.below b6, BAL.out.trans (q1.mono BAL.out.size), q2.weak fun b q _ => ?_⟩
        have z1 := hBX.out.size
        have z2 := RW.out.bel.size
        refine ⟨by omega, fun e => ?_⟩
        have := (RW.out.own.low b e.symm).2
        omega
      have FIN : Hid (∀ (w5 w6 w7 : World) (v7 : Value) (ms : List T), Below w.heap.size w w5 → w5.heap.size ≤ w6.heap.size → Below w.heap.size w w6 → OwnT 55 (fun b => w.heap.size ≤ b) w.heap.size w7 v7 (flatK k (l.take j) ++ ms) → w6.grownBy w7 (Value.slice va vl vc).ownBlock → RowW 55 (fun b => w.heap.size ≤ b) w w7 v7 (flatK k (l.take j) ++ ms)) := fun w5 w6 w7 v7 ms q1 q0 q2 q3 q4 => ⟨q3, q2.grown q4 q2.size fun g hg => (RW.out.own.low g hg).1⟩
      subst hu'
      have i1 : (j : Int) < (n : Int) := by omega
      have i0 : (0 : Int) ≤ (j : Int) := by omega
      have HLT : Hid (j < n) := hlt
      by_cases hk : h'.k = k
      · have hkb : (h'.k == k) = true := by simpa using hk
        have HFK : Hid (flatK k (l.take (j + 1)) = flatK k (l.take j) ++ l') := by unfold Hid; rw [hfk, if_pos hk]
        have HTL : Hid ((flatK k (l.take j)).length + l'.length ≤ 1000000) := by have q := HTL2.out; rw [HFK.out, List.length_append] at q; exact q
        clear hmem hat r1 r3 r4 ht hlt hct hfk hfl hcl hkc hk
        go_wp2_with (first | (refine loadN55 rfl _ rfl b (o + j * 10) rfl h' _ HR.out ?_) | (refine storeN55 rfl _ _ rfl rfl h' av' l'.length cp' rfl ?_) | (go_at_call 89; refine (CP.out _ BAL.out).mono ?_; rintro e w6 ⟨u6, rfl, s6, b6⟩; obtain ⟨O6, B6, S6⟩ := NEW.out w6 u6 b6 s6; have O6 : Hid (OwnT 55 (fun b => w.heap.size ≤ b) w.heap.size w6 (.slice va vl vc) (flatK k (l.take j))) := O6; have S6 : Hid (SV (fun b => w.heap.size ≤ b ∧ some b ≠ (Value.slice va vl vc).ownBlock) w6 u6 l') := S6; have B6 : Hid (Below w.heap.size w w6) := B6; clear s6 b6) | (refine app55 rfl _ _ rfl rfl (fun b => w.heap.size ≤ b) w.heap.size (.slice va vl vc) (flatK k (l.take j)) rfl O6.out l' _ S6.out rfl HTL.out B6.out.size ?_; intro v7 w7 O7 g7; have R7 := FIN.out w6 w6 w7 v7 l' B6.out (Nat.le_refl _) B6.out O7 g7; obtain ⟨va7, vc7, e7⟩ := O7.form; clear O7 g7; subst e7; obtain ⟨vl7, hvl7⟩ : ∃ vl7, vl7 = (flatK k (l.take j) ++ l').length := ⟨_, rfl⟩; rw [← hvl7] at R7 ⊢; have R7 : Hid (RowW 55 (fun b => w.heap.size ≤ b) w w7 (.slice va7 vl7 vc7) (flatK k (l.take j) ++ l')) := R7; clear hvl7))
        go_roundw
        case rel => exact ⟨j + 1, va7, vl7, vc7, by have := HLT.out; omega, by go_num, rfl, by rw [HFK.out]; exact R7.out⟩
        case measure => have := HLT.out; simp [intOf]; omega
      · have hkb : (h'.k == k) = false := by simpa using hk
        have HFK : Hid (flatK k (l.take (j + 1)) = flatK k (l.take j) ++ [T.mk h' l']) := by unfold Hid; rw [hfk, if_neg hk]
        have HTL : Hid ((flatK k (l.take j)).length ≤ 1000000) := by have q := HTL2.out; rw [HFK.out, List.length_append] at q; unfold Hid; omega
        clear hmem hat r1 r3 r4 ht hlt hct hfk hfl hcl hkc hk
        go_wp2_with (first | (refine loadN55 rfl _ rfl b (o + j * 10) rfl h' _ HR.out ?_) | (refine storeN55 rfl _ _ rfl rfl h' av' l'.length cp' rfl ?_) | (refine loadN55 rfl _ rfl wr.heap.size 0 rfl h' _ HB.out ?_) | (go_at_call 90; refine (CO.out _ BAL.out).mono ?_; rintro e w6 ⟨u6, rfl, s6, b6⟩; obtain ⟨O6, B6, S6⟩ := NEW.out w6 u6 b6 s6; have O6 : Hid (OwnT 55 (fun b => w.heap.size ≤ b) w.heap.size w6 (.slice va vl vc) (flatK k (l.take j))) := O6; have S6 : Hid (SV (fun b => w.heap.size ≤ b ∧ some b ≠ (Value.slice va vl vc).ownBlock) w6 u6 (T.mk h' l').kids) := (by rw [T.kids_mk]; exact S6); have B6 : Hid (Below w.heap.size w w6) := B6; clear s6 b6) | (refine build55 rfl _ rfl h' u6 rfl ?_) | (refine snoc55 rfl _ _ rfl (fun b => w.heap.size ≤ b) w.heap.size (.slice va vl vc) (flatK k (l.take j)) rfl O6.out (T.mk h' l') u6 S6.out rfl HTL.out B6.out.size ?_; intro v7 w7 O7 g7; have R7 := FIN.out w6 _ w7 v7 [T.mk h' l'] B6.out (by simp) (B6.out.alloc B6.out.size _) O7 g7; obtain ⟨va7, vc7, e7⟩ := O7.form; clear O7 g7; subst e7; obtain ⟨vl7, hvl7⟩ : ∃ vl7, vl7 = (flatK k (l.take j) ++ [T.mk h' l']).length := ⟨_, rfl⟩; rw [← hvl7] at R7 ⊢; have R7 : Hid (RowW 55 (fun b => w.heap.size ≤ b) w w7 (.slice va7 vl7 vc7) (flatK k (l.take j) ++ [T.mk h' l'])) := R7; clear hvl7))
        go_roundw
        case rel => exact ⟨j + 1, va7, vl7, vc7, by have := HLT.out; omega, by go_num, rfl, by rw [HFK.out]; exact R7.out⟩
        case measure => have := HLT.out; simp [intOf]; omega
    · have i1 : ¬ (j : Int) < (n : Int) := by omega
      have RE : Hid (SV (fun b => w.heap.size ≤ b) wr (.slice va vl vc) (flatK k l)) := by
        have q := RW.out.own
        rw [List.take_of_length_le (by rw [← HN.out]; omega)] at q
        exact q.sv.weak fun b q _ => by rcases q with q | q <;> exact q
      clear hlt
      go_wp2
      go_ret
      exact ⟨_, rfl, RE.out, RW.out.bel⟩
end Go.Proofs.Ytndmjndokokmnaa
