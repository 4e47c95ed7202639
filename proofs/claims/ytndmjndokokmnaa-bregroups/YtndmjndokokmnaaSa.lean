import Derived.Test.YtndmjndokokmnaaQx
namespace Go.Proofs.Ytndmjndokokmnaa
set_option linter.unusedSimpArgs false
set_option linter.unusedVariables false
open Go.Deep
/-- A tree whose groups are numbered one higher. -/
def hiH (h : Hd) : Hd := ⟨h.k, h.c, h.x0, h.x1, h.x2, h.x3, if h.k = 6 then h.n + 1 else h.n, h.lo, h.hi⟩
def hiB : BT P7 → BT P7
  | .nil => .nil
  | .node c x0 p l r => .node c x0 ⟨p.k, p.x1, p.x2, p.x3, if p.k = 6 then p.n + 1 else p.n, p.lo, p.hi⟩ (hiB l) (hiB r)
def hiT (t : T) : T := ⟨hiH t.hd, hiB t.kf⟩
theorem hiB_lf : ∀ l : List T, hiB (lf l) = lf (l.map hiT)
  | [] => rfl
  | t :: r => by simp only [lf, List.map_cons, hiB, hiB_lf r]; rfl
theorem hiT_mk (h : Hd) (l : List T) : hiT (.mk h l) = .mk (hiH h) (l.map hiT) := by
  unfold T.mk
  show T.of (hiH h) (hiB (lf l)) = _
  rw [hiB_lf]
theorem hiH_k (h : Hd) : (hiH h).k = h.k := rfl
theorem hiT_hd (t : T) : (hiT t).hd = hiH t.hd := rfl
theorem hiT_kids (t : T) : (hiT t).kids = t.kids.map hiT := by
  obtain ⟨h, l, rfl⟩ := t.out
  rw [hiT_mk, T.kids_mk, T.kids_mk]
theorem hi_count : (∀ t, countT (hiT t) = countT t) ∧ ∀ l : List T, countL (l.map hiT) = countL l :=
  T.both (fun h l q => by rw [hiT_mk, countT_mk, countT_mk, q]) rfl (fun t r a b => by rw [List.map_cons, countL_cons, countL_cons, a, b])
theorem hi_deep : (∀ t, deepT (hiT t) = deepT t) ∧ ∀ l : List T, deepL (l.map hiT) = deepL l :=
  T.both (fun h l q => by rw [hiT_mk, deepT_mk, deepT_mk, q]) rfl (fun t r a b => by rw [List.map_cons, deepL_cons, deepL_cons, a, b])
/-- Is a back reference in it? -/
def backB : BT P7 → Bool
  | .nil => false
  | .node _ _ p l r => (decide (p.k = 7) || backB l) || backB r
def backT (t : T) : Bool := decide (t.hd.k = 7) || backB t.kf
def backL (l : List T) : Bool := backB (lf l)
theorem backT_mk (h : Hd) (l : List T) : backT (.mk h l) = (decide (h.k = 7) || backL l) := rfl
theorem backL_nil : backL [] = false := rfl
theorem backL_cons (t : T) (r : List T) : backL (t :: r) = (backT t || backL r) := rfl
theorem hi_has (ks : List Int) (l : List T) : hasK ks (l.map hiT) = hasK ks l := by
  unfold hasK
  rw [List.any_map]; rfl
theorem hi_parts (k : Int) (l : List T) : partsB k (l.map hiT) = partsB k l := by
  unfold partsB; simp only [hi_has, List.length_map]
theorem hi_need (h : Hd) : sameH (hiH h) (needH (hiH h)) = sameH h (needH h) := by
  obtain ⟨k, c, x0, x1, x2, x3, n, lo, hi⟩ := h
  rw [Bool.eq_iff_iff, sameH_iff, sameH_iff]
  unfold hiH needH
  simp only
  by_cases h1 : k = 1
  · subst h1; simp
  by_cases h3 : k = 3
  · subst h3; simp
  by_cases h6 : k = 6
  · subst h6; simp
  by_cases h7 : k = 7
  · subst h7; simp
  by_cases h10 : k = 10
  · subst h10; simp
  simp [h1, h3, h6, h7, h10]
theorem hi_ok (h : Hd) (l : List T) : okH (hiH h) (l.map hiT) = okH h l := by
  unfold okH timesB
  rw [hi_need, hi_parts]
  rfl
/-- The groups of a right tree are counted. -/
theorem form_count : (∀ t, ∀ s s', formT t s = some s' → s'.b = s.b + groupsT t) ∧ ∀ l, ∀ s s', formL l s = some s' → s'.b = s.b + groupsL l := by
  refine T.both (p := fun t => ∀ s s', formT t s = some s' → s'.b = s.b + groupsT t) (q := fun l => ∀ s s', formL l s = some s' → s'.b = s.b + groupsL l) (fun h l q s s' hf => ?_) (fun s s' hf => ?_) (fun t r a b s s' hf => ?_)
  · unfold formT at hf
    rw [T.hd_mk, T.kids_mk] at hf
    split at hf
    · cases hf
    · obtain ⟨s1, e1, hf1⟩ := Option.bind_eq_some_iff.1 hf
      obtain ⟨s2, e2, hf2⟩ := Option.bind_eq_some_iff.1 hf1
      injection hf2 with hf3
      have q2 := q _ _ e2
      rw [groupsT_mk]
      unfold stepN at e1
      unfold endN at hf3
      clear hf hf1 e2
      by_cases h6 : h.k = 6
      · rw [if_pos h6] at e1 hf3 ⊢
        split at e1
        · injection e1 with e1
          subst e1
          subst hf3
          show s2.b = _
          simp only at q2
          omega
        · cases e1
      · rw [if_neg h6] at e1 hf3 ⊢
        have e3 : s1 = s := by
          split at e1
          · split at e1
            · injection e1 with e1; exact e1.symm
            · cases e1
          · injection e1 with e1; exact e1.symm
        rw [← hf3, q2, e3]; simp
  · rw [formL_nil] at hf; injection hf with hf; rw [hf, groupsL_nil]; simp
  · rw [formL_cons] at hf
    obtain ⟨s1, e1, hf⟩ := Option.bind_eq_some_iff.1 hf
    have := a _ _ e1
    have := b _ _ hf
    rw [groupsL_cons]; omega
/-- Numbered one higher a right tree without back references is right behind one group more. -/
theorem hi_form : (∀ t, ∀ (s s' : Gs) (e2 : List Bool), backT t = false → formT t s = some s' → s'.b ≤ 8 → ∃ e', formT (hiT t) ⟨s.b + 1, e2⟩ = some ⟨s'.b + 1, e'⟩) ∧
    ∀ l, ∀ (s s' : Gs) (e2 : List Bool), backL l = false → formL l s = some s' → s'.b ≤ 8 → ∃ e', formL (l.map hiT) ⟨s.b + 1, e2⟩ = some ⟨s'.b + 1, e'⟩ := by
  refine T.both (p := fun t => ∀ (s s' : Gs) (e2 : List Bool), backT t = false → formT t s = some s' → s'.b ≤ 8 → ∃ e', formT (hiT t) ⟨s.b + 1, e2⟩ = some ⟨s'.b + 1, e'⟩)
    (q := fun l => ∀ (s s' : Gs) (e2 : List Bool), backL l = false → formL l s = some s' → s'.b ≤ 8 → ∃ e', formL (l.map hiT) ⟨s.b + 1, e2⟩ = some ⟨s'.b + 1, e'⟩) (fun h l q s s' e2 hb hf h8 => ?_) (fun s s' e2 hb hf h8 => ?_) (fun t r a b s s' e2 hb hf h8 => ?_)
  · rw [backT_mk, Bool.or_eq_false_iff] at hb
    have h7 : ¬ h.k = 7 := of_decide_eq_false hb.1
    have hcnt := form_count.1 _ _ _ hf
    unfold formT at hf ⊢
    rw [hiT_mk, T.hd_mk, T.kids_mk, hi_ok]
    rw [T.hd_mk, T.kids_mk] at hf
    split at hf
    · cases hf
    · rename_i hok
      rw [if_neg hok]
      obtain ⟨s1, e1, hf1⟩ := Option.bind_eq_some_iff.1 hf
      obtain ⟨s2, e3, hf2⟩ := Option.bind_eq_some_iff.1 hf1
      injection hf2 with hf3
      have hc2 := form_count.2 _ _ _ e3
      clear hf hf1
      unfold stepN at e1 ⊢
      unfold endN at hf3 ⊢
      rw [hiH_k]
      by_cases h6 : h.k = 6
      · rw [if_pos h6] at e1 hf3 ⊢
        split at e1
        · rename_i hn
          injection e1 with e1
          have hb2 : s2.b ≤ 8 := by rw [← hf3] at h8; exact h8
          have hn1 : (hiH h).n = s.b + 1 + 1 ∧ (hiH h).n ≤ 9 := by
            unfold hiH; simp only [if_pos h6]
            rw [← e1] at hc2
            simp only at hc2
            have := Int.natCast_nonneg (groupsL l)
            exact ⟨by omega, by omega⟩
          rw [if_pos hn1]
          obtain ⟨e', he'⟩ := q s1 s2 e2 hb.2 e3 hb2
          rw [← e1] at he'
          refine ⟨e'.set (hiH h).n.toNat true, ?_⟩
          simp only [Option.bind_some]
          rw [he', ← hf3]
          simp [h6]
        · cases e1
      · rw [if_neg h6, if_neg h7] at e1
        rw [if_neg h6] at hf3
        rw [if_neg h6, if_neg h7]
        injection e1 with e1
        subst e1
        obtain ⟨e', he'⟩ := q s s2 e2 hb.2 e3 (by rw [hf3]; exact h8)
        refine ⟨e', ?_⟩
        simp only [Option.bind_some]
        rw [he', ← hf3]
        simp [h6]
  · rw [formL_nil] at hf; injection hf with hf; exact ⟨e2, by rw [← hf]; rfl⟩
  · rw [backL_cons, Bool.or_eq_false_iff] at hb
    rw [formL_cons] at hf
    obtain ⟨s1, e1, hf⟩ := Option.bind_eq_some_iff.1 hf
    have hc := form_count.2 _ _ _ hf
    have := Int.natCast_nonneg (groupsL r)
    obtain ⟨e3, h3⟩ := a s s1 e2 hb.1 e1 (by omega)
    obtain ⟨e4, h4⟩ := b s1 s' e3 hb.2 hf h8
    exact ⟨e4, by rw [List.map_cons, formL_cons, h3]; exact h4⟩
/-- In a group of its own it is right. -/
theorem hi_formed (t : T) (h : formedT t = true) (hb : backT t = false) (hg : groupsT t ≤ 8) (hd : deepT t ≤ 9) (hc : countT t ≤ 199) : formedT (.mk (hGroup 1) [hiT t]) = true := by
  unfold formedT at h ⊢
  rw [Bool.and_eq_true] at h ⊢
  refine ⟨?_, ?_⟩
  · rw [count_one, hi_count.1, deepT_mk, deepL_cons, deepL_nil, hi_deep.1]
    simp only [decide_eq_true_eq]; omega
  · obtain ⟨s', hs'⟩ := Option.isSome_iff_exists.1 h.2
    have hb8 := form_count.1 _ _ _ hs'
    have h0 : gs0.b = 0 := rfl
    obtain ⟨e', he'⟩ := hi_form.1 t gs0 s' gs0.e hb hs' (by omega)
    unfold formT
    rw [T.hd_mk, T.kids_mk]
    have hok : okH (hGroup 1) [hiT t] = true := by unfold okH; rfl
    rw [hok]
    have hst : stepN (hGroup 1) gs0 = some ⟨0 + 1, gs0.e⟩ := rfl
    rw [hst]
    rw [h0] at he'
    simp only [Bool.true_eq_false, if_false, Option.bind_some, formL_cons, he', formL_nil]
    rfl
end Go.Proofs.Ytndmjndokokmnaa
