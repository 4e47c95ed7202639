import Derived.Test.YtlcenbhcegmnoaaDoorSa
import Derived.Test.YtlcenbhcegmnoaaDoorRl
namespace Go.Proofs.YtlcenbhcegmnoaaDoor
set_option linter.unusedSimpArgs false
set_option linter.unusedVariables false
open Go.RowKit
theorem below_grown {B : Nat} {a w w' : World} (h : Below B a w) {g : Nat} (k : w.grownBy w' (some g)) (hB : B ≤ w.heap.size) (hg : B ≤ g) : Below B a w' :=
  h.grown k hB (fun j hj => by injection hj; omega)
set_option maxRecDepth 100000 in
set_option maxHeartbeats 1000000 in
theorem shaResets_walk (va vb : Value) (xs bs : List Int) (w : World) (hL : Laid w) (hpa : PartAt w va xs) (hpb : PartAt w vb bs) (hna : xs.length ≤ 140737488351232) (hnb : bs.length ≤ 140737488351232) (hby : ∀ x ∈ bs, 0 ≤ x ∧ x ≤ 255) :
    Calls Tryd.prog 5 #[va, vb] w fun e w' => e = .returned (.bool true) ∧ Below w.heap.size w w' := by
  have h2 := hL.two
  obtain ⟨H0, hH0⟩ : ∃ HB, HB = hashOf [] := ⟨_, rfl⟩
  obtain ⟨HB, hHB⟩ : ∃ HB, HB = hashOf bs := ⟨_, rfl⟩
  have hlen0 : H0.length = 32 := by rw [hH0]; exact hashOf_length []
  have hlen : HB.length = 32 := by rw [hHB]; exact hashOf_length bs
  have S0 : Hid (∀ (w' : World) (hb : Nat), Laid w' → w'.heap[hb]? = some (.cells (hObj (zs 8) (zs 64) 0) 37) → Calls Tryd.prog 20 #[.pointer (some ⟨hb, 0, none⟩)] w' fun e w'' => e = .returned (.agg (vB H0)) ∧ Below w'.heap.size w' w'') := fun w' hb h1 h3 => by
    rw [hH0]; exact sum_any hb [] (zs 8) rfl (fun h => absurd rfl h) w' h1 (by rw [remB_nil]; exact h3) (by simp)
  have S1 : Hid (∀ (w' : World) (hb : Nat), Laid w' → w'.heap[hb]? = some (.cells (hObj (wordsOf ([] ++ bs)) (remB ([] ++ bs)) ([] ++ bs).length) 37) → Calls Tryd.prog 20 #[.pointer (some ⟨hb, 0, none⟩)] w' fun e w'' => e = .returned (.agg (vB HB)) ∧ Below w'.heap.size w' w'') := fun w' hb h1 h3 => by
    rw [hHB]; exact sum_any hb bs (wordsOf bs) (wordsOf_length _) (fun _ => rfl) w' h1 h3 (by omega)
  have C11 : Hid (∀ w' : World, PartAt w' vb bs → Calls Tryd.prog 14 #[vb] w' fun e w'' => e = .returned (.agg (vB HB)) ∧ Below w'.heap.size w' w'') := fun w' h3 => by rw [hHB]; exact rsum_any vb bs w' h3 hnb hby
  have E0 : Hid (∀ w' : World, (Op.equalIn 10000 24 (.agg (vB H0)) (.agg (vB H0))).run Tryd.prog w' = .ok true w') := fun w' => eq24_self 9998 H0 hlen0 w'
  have E24 : Hid (∀ w' : World, (Op.equalIn 10000 24 (.agg (vB HB)) (.agg (vB HB))).run Tryd.prog w' = .ok true w') := fun w' => eq24_self 9998 HB hlen w'
  clear hHB hH0 hby
  have hpa0 := hpa
  have hpb0 := hpb
  obtain ⟨av, b, o, cp, hv, hrest⟩ := hpa
  subst hv
  obtain ⟨av2, b2, o2, cp2, hv2, hrest2⟩ := hpb
  subst hv2
  clear hrest hrest2
  go_enter Tryd.func5, Tryd.ntmps5
  go_wp2_with fail
  refine (awake_any _ hL).mono ?_
  rintro e w1 ⟨rfl, b1⟩
  have hL1 := hL.below b1 h2
  have hpa1 := hpa0.below b1
  have s1 := b1.size
  go_wp2_with fail
  refine (new_any _).mono ?_
  rintro e w2 ⟨rfl, hw2⟩
  have b2 : Below w1.heap.size w1 w2 := by rw [hw2]; exact (Below.refl _ _).alloc (Nat.le_refl _) _
  have H2 : Hid (w2.heap[w1.heap.size]? = some (.cells (hObj (zs 8) (remB []) ([] : List Int).length) 37)) := by unfold Hid; rw [hw2, remB_nil]; exact heap_alloc_new _ _
  clear hw2
  have hL2 := hL1.below b2 hL1.two
  go_wp2_with fail
  refine (write_part w1.heap.size [] xs (zs 8) rfl (fun h => absurd rfl h) w2 hL2 (by omega) H2.out _ w1 hpa1 b2 (Nat.le_refl _) (by simp; omega)).mono ?_
  rintro e w3 ⟨rfl, h3', g3⟩
  have b3 : Below w1.heap.size w1 w3 := below_grown b2 g3 b2.size (Nat.le_refl _)
  have H3 : Hid (w3.heap[w1.heap.size]? = some (.cells (hObj (wordsOf ([] ++ xs)) (remB ([] ++ xs)) ([] ++ xs).length) 37)) := h3'
  clear h3' H2 g3 b2
  go_wp2_with fail
  refine (reset_any w1.heap.size _ _ _ (wordsOf_length _) (remB_length _) w3 H3.out).mono ?_
  rintro e w4 ⟨rfl, hw4⟩
  have b4 : Below w1.heap.size w1 w4 := by rw [hw4]; exact below_setRow b3 (Nat.le_refl _) _
  have H4 : Hid (w4.heap[w1.heap.size]? = some (.cells (hObj (zs 8) (zs 64) 0) 37)) := by unfold Hid; rw [hw4]; exact setRow_same H3.out
  clear hw4 H3 b3
  have hL4 := hL1.below b4 hL1.two
  have q4 := (Array.getElem?_eq_some_iff.1 H4.out).1
  go_wp2_with (first | (go_at_call 21; refine (len_any w1.heap.size _ _ _ rfl rfl w4 H4.out).mono ?_; rintro e w5 ⟨rfl, rfl⟩))
  refine (S0.out _ _ hL4 H4.out).mono ?_
  rintro e w6 ⟨rfl, b6⟩
  have b06 : Below w1.heap.size w1 w6 := b4.trans (b6.mono b4.size)
  go_wp2_with fail
  refine (new_any _).mono ?_
  rintro e w7 ⟨rfl, hw7⟩
  have b7 : Below w6.heap.size w6 w7 := by rw [hw7]; exact (Below.refl _ _).alloc (Nat.le_refl _) _
  have H7 : Hid (w7.heap[w6.heap.size]? = some (.cells (hObj (zs 8) (zs 64) 0) 37)) := by unfold Hid; rw [hw7]; exact heap_alloc_new _ _
  clear hw7
  have b07 : Below w1.heap.size w1 w7 := b06.trans (b7.mono b06.size)
  have hL7 := hL1.below b07 hL1.two
  go_wp2_with fail
  refine (S0.out _ _ hL7 H7.out).mono ?_
  rintro e w8 ⟨rfl, b8⟩
  have b08 : Below w1.heap.size w1 w8 := b07.trans (b8.mono b07.size)
  have H8 : Hid (w8.heap[w1.heap.size]? = some (.cells (hObj (zs 8) (remB []) ([] : List Int).length) 37)) := by
    unfold Hid
    have s6 := b6.size
    have s7 := b7.size
    rw [b8.block _ (by omega), b7.block _ (by omega), b6.block _ q4, remB_nil]; exact H4.out
  have hL8 := hL1.below b08 hL1.two
  have hpb1 := hpb0.below b1
  clear H4 H7 b7 b6 b4 hL7 hL4
  have e24 := E0.out w8
  go_wp2_with fail
  refine (write_part w1.heap.size [] bs (zs 8) rfl (fun h => absurd rfl h) w8 hL8 (by omega) H8.out _ w1 hpb1 b08 (Nat.le_refl _) (by simp; omega)).mono ?_
  rintro e w9 ⟨rfl, h9, g9⟩
  have b9 : Below w1.heap.size w1 w9 := below_grown b08 g9 b08.size (Nat.le_refl _)
  have H9 : Hid (w9.heap[w1.heap.size]? = some (.cells (hObj (wordsOf ([] ++ bs)) (remB ([] ++ bs)) ([] ++ bs).length) 37)) := h9
  have q9 := (Array.getElem?_eq_some_iff.1 H9.out).1
  have hL9 := hL1.below b9 hL1.two
  clear h9 g9 H8 e24 b08 b8
  go_wp2_with fail
  refine (S1.out _ _ hL9 H9.out).mono ?_
  rintro e w10 ⟨rfl, b10⟩
  have b010 : Below w1.heap.size w1 w10 := b9.trans (b10.mono b9.size)
  have hpb10 := hpb1.below b010
  go_wp2_with fail
  refine (C11.out _ hpb10).mono ?_
  rintro e w11 ⟨rfl, b11⟩
  have b011 : Below w1.heap.size w1 w11 := b010.trans (b11.mono b010.size)
  have H11 : Hid (w11.heap[w1.heap.size]? = some (.cells (hObj (wordsOf ([] ++ bs)) (remB ([] ++ bs)) ([] ++ bs).length) 37)) := by
    unfold Hid
    have s10 := b10.size
    rw [b11.block _ (by omega), b10.block _ q9]; exact H9.out
  have e24 := E24.out w11
  clear H9
  go_wp2_with (first | (go_at_call 21; refine (len_any w1.heap.size _ _ _ (wordsOf_length _) (remB_length _) w11 H11.out).mono ?_; rintro e w12 ⟨rfl, rfl⟩))
  go_ret
  exact ⟨rfl, b1.trans (b011.mono s1)⟩
end Go.Proofs.YtlcenbhcegmnoaaDoor
