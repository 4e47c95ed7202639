import Derived.Test.YtnpjknnalekdpaaDoorTf
namespace Go.Proofs.YtnpjknnalekdpaaDoor
set_option linter.unusedSimpArgs false
set_option linter.unusedVariables false
open Go.RowKit
theorem gi_app (l z : List Int) (i : Nat) (h : i < l.length) : gi (l ++ z) i = gi l i := by
  unfold gi
  rw [List.getD_eq_getElem?_getD, List.getD_eq_getElem?_getD, List.getElem?_append_left h]
theorem gi_beg (m : List Int) (i : Nat) (hi : i < 6) : gi (begOf m) i = if i < m.length then gi m i else gi [114, 100, 1, 1, 0, 0] i := by
  unfold begOf gi
  by_cases h : i < m.length
  · rw [if_pos h, List.getD_eq_getElem?_getD, List.getD_eq_getElem?_getD, List.getElem?_append_left (by rw [List.length_take]; omega), List.getElem?_take_of_lt hi]
  · have hl : (m.take 6).length = m.length := by rw [List.length_take]; omega
    rw [if_neg h, List.getD_eq_getElem?_getD, List.getD_eq_getElem?_getD, List.getElem?_append_right (by omega), List.getElem?_drop, hl, show m.length + (i - m.length) = i by omega]
/-- What begins no frame begins none with more behind it. -/
theorem begins_less (l z : List Int) (hl : Bytes l) (hz : Bytes z) (h : beginsB (l ++ z) = true) : beginsB l = true := by
  have hb : Bytes (l ++ z) := fun x hx => by
    rcases List.mem_append.1 hx with q | q
    · exact hl x q
    · exact hz x q
  have key : ∀ i, i < 6 → gi (begOf l) i = gi (begOf (l ++ z)) i ∨ (l.length ≤ i ∧ gi (begOf l) i = gi [114, 100, 1, 1, 0, 0] i) := fun i hi => by
    rw [gi_beg l i hi]
    by_cases q : i < l.length
    · left
      rw [if_pos q, gi_beg (l ++ z) i hi, if_pos (by rw [List.length_append]; omega), gi_app l z i q]
    · right
      rw [if_neg q]
      exact ⟨by omega, rfl⟩
  have h5 : 0 ≤ gi (begOf (l ++ z)) 5 := by
    have hlen := begOf_length (l ++ z)
    have := begOf_bytes (l ++ z) hb (gi (begOf (l ++ z)) 5) (by unfold gi; rw [List.getD_eq_getElem?_getD, List.getElem?_eq_getElem (by omega)]; exact List.getElem_mem _)
    exact this.1
  unfold beginsB at h ⊢
  obtain ⟨a0, a1, a2, a3, a4⟩ := of_decide_eq_true h
  refine decide_eq_true ⟨?_, ?_, ?_, ?_, ?_⟩
  · rcases key 0 (by omega) with q | ⟨_, q⟩
    · rw [q]; exact a0
    · rw [q]; rfl
  · rcases key 1 (by omega) with q | ⟨_, q⟩
    · rw [q]; exact a1
    · rw [q]; rfl
  · rcases key 2 (by omega) with q | ⟨_, q⟩
    · rw [q]; exact a2
    · rw [q]; rfl
  · rcases key 3 (by omega) with q | ⟨_, q⟩
    · rw [q]; exact a3
    · rw [q]; decide
  · have d4 : gi [114, 100, 1, 1, 0, 0] 4 = 0 := rfl
    have d5 : gi [114, 100, 1, 1, 0, 0] 5 = 0 := rfl
    have k4 := key 4 (by omega)
    have k5 := key 5 (by omega)
    rw [d4] at k4
    rw [d5] at k5
    rcases k4 with q | ⟨e, q⟩
    · rcases k5 with r | ⟨_, r⟩
      · rw [q, r]; exact a4
      · rw [q, r]; omega
    · rcases k5 with r | ⟨_, r⟩
      · have := gi_beg l 5 (by omega)
        rw [if_neg (by omega), d5] at this
        rw [q, this]; decide
      · rw [q, r]; decide
theorem begins_more (l z : List Int) (h : 6 ≤ l.length) : beginsB (l ++ z) = beginsB l := by
  unfold beginsB begOf
  rw [List.take_append_of_le_length h]
/-- What is judged is judged so with more behind it. -/
theorem decR_app (l z : List Int) (hl : Bytes l) (hz : Bytes z) (h : ¬ (decR l).2.2.2 = 4) : decR (l ++ z) = decR l := by
  by_cases h1 : beginsB l = false
  · have h2 : beginsB (l ++ z) = false := by
      cases e : beginsB (l ++ z) with
      | false => rfl
      | true => rw [begins_less l z hl hz e] at h1; cases h1
    unfold decR
    rw [if_pos h1, if_pos h2]
  · have hb : beginsB l = true := by simpa using h1
    by_cases h3 : l.length < 10 + (if l.length < 10 then 0 else lenD l)
    · exfalso; apply h
      unfold decR
      rw [if_neg h1, if_pos h3]
    · have h10 : 10 ≤ l.length := by
        rcases Nat.lt_or_ge l.length 10 with q | q
        · rw [if_pos q] at h3; omega
        · exact q
      have h3' := h3
      rw [if_neg (by omega)] at h3'
      have eb : beginsB (l ++ z) = beginsB l := begins_more l z (by omega)
      have el : lenD (l ++ z) = lenD l := by unfold lenD; rw [gi_app l z 4 (by omega), gi_app l z 5 (by omega)]
      have n3 : ¬ (l ++ z).length < 10 + (if (l ++ z).length < 10 then 0 else lenD l) := by
        rw [List.length_append, if_neg (by omega)]; omega
      have t10 : ((l ++ z).drop 10).take (lenD l) = (l.drop 10).take (lenD l) := by
        rw [List.drop_append_of_le_length h10, List.take_append_of_le_length (by rw [List.length_drop]; omega)]
      have t6 : ((l ++ z).drop 6).take 4 = (l.drop 6).take 4 := by
        rw [List.drop_append_of_le_length (by omega), List.take_append_of_le_length (by rw [List.length_drop]; omega)]
      unfold decR
      rw [eb, el, gi_app l z 3 (by omega), gi_app l z 4 (by omega), gi_app l z 5 (by omega), t10, t6, if_neg h1, if_neg h1, if_neg h3, if_neg n3]
theorem decR_fit (l : List Int) (h : (decR l).2.2.2 = 0) : (decR l).2.2.1.toNat ≤ l.length := by
  unfold decR at h ⊢
  by_cases h1 : beginsB l = false
  · rw [if_pos h1] at h; cases h
  rw [if_neg h1] at h ⊢
  by_cases h2 : l.length < 10 + (if l.length < 10 then 0 else lenD l)
  · rw [if_pos h2] at h; cases h
  rw [if_neg h2] at h ⊢
  by_cases h3 : (hashOf ([gi l 3, gi l 4, gi l 5] ++ (l.drop 10).take (lenD l))).take 4 = (l.drop 6).take 4
  · rw [if_pos h3]
    have h10 : 10 ≤ l.length := by
      rcases Nat.lt_or_ge l.length 10 with q | q
      · rw [if_pos q] at h2; omega
      · exact q
    rw [if_neg (by omega)] at h2
    show (10 + (lenD l : Int)).toNat ≤ l.length
    omega
  · rw [if_neg h3] at h; cases h
/-- Bytes that are fed behind others: P6.2. -/
theorem feedR_app : ∀ (n : Nat) (l z : List Int), l.length ≤ n → Bytes l → Bytes z →
    feedR (l ++ z) = ((feedR l).1 ++ (feedR ((feedR l).2.2 ++ z)).1, (feedR l).2.1 + (feedR ((feedR l).2.2 ++ z)).2.1, (feedR ((feedR l).2.2 ++ z)).2.2)
  | n, l, z, hn, hl, hz => by
    by_cases h0 : l = []
    · subst h0
      rw [feedR_nil]
      simp
    have hpos := List.length_pos_iff.2 h0
    have hne : l ++ z ≠ [] := by simp [h0]
    by_cases h4 : (decR l).2.2.2 = 4
    · rw [feedR_short l h4]
      simp
    have hd := decR_app l z hl hz h4
    cases n with
    | zero => omega
    | succ n =>
      by_cases hz0 : (decR l).2.2.2 = 0
      · have hp := decR_pos l hz0
        have hf := decR_fit l hz0
        have ih := feedR_app n (l.drop (decR l).2.2.1.toNat) z (by rw [List.length_drop]; omega) (fun x hx => hl x (List.drop_subset _ _ hx)) hz
        rw [feedR_ok (l ++ z) hne (by rw [hd]; exact hz0), hd, List.drop_append_of_le_length hf, ih, feedR_ok l h0 hz0]
        rfl
      · have ih := feedR_app n (l.drop 1) z (by rw [List.length_drop]; omega) (fun x hx => hl x (List.drop_subset _ _ hx)) hz
        rw [feedR_drop (l ++ z) hne (by rw [hd]; exact h4) (by rw [hd]; exact hz0), List.drop_append_of_le_length hpos, ih, feedR_drop l h0 h4 hz0]
        refine Prod.ext rfl (Prod.ext ?_ rfl)
        show (feedR (l.drop 1)).2.1 + (feedR ((feedR (l.drop 1)).2.2 ++ z)).2.1 + 1 = (feedR (l.drop 1)).2.1 + 1 + (feedR ((feedR (l.drop 1)).2.2 ++ z)).2.1
        omega
theorem feedR_more (l z : List Int) (hl : Bytes l) (hz : Bytes z) : feedR (l ++ z) = ((feedR l).1 ++ (feedR ((feedR l).2.2 ++ z)).1, (feedR l).2.1 + (feedR ((feedR l).2.2 ++ z)).2.1, (feedR ((feedR l).2.2 ++ z)).2.2) :=
  feedR_app l.length l z (Nat.le_refl _) hl hz
end Go.Proofs.YtnpjknnalekdpaaDoor
