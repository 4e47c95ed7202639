import Derived.Test.YtndmjndokokmnaaSb
namespace Go.Proofs.Ytndmjndokokmnaa
set_option linter.unusedSimpArgs false
set_option linter.unusedVariables false
open Go.Deep
theorem groups_leaf (h : Hd) (hk : h.k ≠ 6) : groupsT (.mk h []) = 0 := by rw [groupsT_mk, if_neg hk, groupsL_nil]
theorem groups_one (h : Hd) (t : T) : groupsT (.mk h [t]) = (if h.k = 6 then 1 else 0) + groupsT t := by rw [groupsT_mk, groupsL_cons, groupsL_nil]; omega
def CntP (grp : Nat → List UInt8 → Except (List UInt8) (T × Nat × List UInt8)) (n : Nat) : Prop := ∀ g l t g' r, l.length < n → grp g l = .ok (t, g', r) → countT t ≤ 200 → g' = g + groupsT t
theorem atom_groups {grp : Nat → List UInt8 → Except (List UInt8) (T × Nat × List UInt8)} {n : Nat} (hG : CntP grp n) {first : Bool} {g : Nat} {l : List UInt8} {t : T} {g' : Nat} {r : List UInt8} (hl : l.length ≤ n) (h : atomP grp first g l = .ok (t, g', r)) (hc : countT t ≤ 200) : g' = g + groupsT t := by
  match l, hl, h with
  | [], _, h => cases h
  | c :: tl, hl, h =>
    unfold atomP at h
    simp only [List.length_cons] at hl h
    split at h
    · unfold pairP at h
      split at h
      · cases h
      · rename_i d t'
        simp only [List.length_cons] at hl
        split at h
        · split at h
          · cases h
          · cases hq : grp (g + 1) t' with
            | error r2 => rw [hq] at h; cases h
            | ok x =>
              obtain ⟨m, g2, r2⟩ := x
              rw [hq] at h
              simp only at h
              split at h
              · injection h with h
                simp only [Prod.mk.injEq] at h
                obtain ⟨h1, h2, h3⟩ := h
                subst h1
                rw [count_one] at hc
                have := hG _ _ _ _ _ (by omega) hq (by omega)
                rw [groups_one, if_pos (by simp [hGroup])]; omega
              · cases h
        · split at h
          · injection h with h
            simp only [Prod.mk.injEq] at h
            rw [← h.1, groups_leaf _ (by simp [hBack])]; omega
          · split at h
            · injection h with h
              simp only [Prod.mk.injEq] at h
              rw [← h.1, groups_leaf _ (by simp [hLit])]; omega
            · split at h
              · injection h with h
                simp only [Prod.mk.injEq] at h
                rw [← h.1, groups_leaf _ (by simp [hLit])]; omega
              · cases h
    · split at h
      · split at h
        · cases h
        · injection h with h
          simp only [Prod.mk.injEq] at h
          rw [← h.1, groups_leaf _ (by simp [hIn])]; omega
      · split at h
        · cases h
        · split at h
          · injection h with h
            simp only [Prod.mk.injEq] at h
            rw [← h.1, groups_leaf _ (by simp [Hd.of])]; omega
          · split at h
            · injection h with h
              simp only [Prod.mk.injEq] at h
              rw [← h.1, groups_leaf _ (by simp [Hd.of])]; omega
            · injection h with h
              simp only [Prod.mk.injEq] at h
              rw [← h.1, groups_leaf _ (by simp [hLit])]; omega
theorem rep_groups {grp : Nat → List UInt8 → Except (List UInt8) (T × Nat × List UInt8)} {n : Nat} (hG : CntP grp n) {first : Bool} {g : Nat} {l : List UInt8} {t : T} {g' : Nat} {r : List UInt8} (hl : l.length ≤ n) (h : repP grp first g l = .ok (t, g', r)) (hc : countT t ≤ 200) : g' = g + groupsT t := by
  unfold repP at h
  cases ha : atomP grp first g l with
  | error r2 => rw [ha] at h; cases h
  | ok x =>
    obtain ⟨a, g2, r2⟩ := x
    rw [ha] at h
    simp only at h
    have hk : ∀ m k, groupsT (tRep m k a) = groupsT a := fun m k => by unfold tRep; rw [groups_one, if_neg (by simp [hRep])]; omega
    split at h
    · injection h with h
      simp only [Prod.mk.injEq] at h
      obtain ⟨h1, h2, h3⟩ := h
      subst h1
      unfold tRep at hc; rw [count_one] at hc
      have := atom_groups hG hl ha (by omega)
      rw [hk]; omega
    · split at h
      · split at h
        · cases h
        · injection h with h
          simp only [Prod.mk.injEq] at h
          obtain ⟨h1, h2, h3⟩ := h
          subst h1
          unfold tRep at hc; rw [count_one] at hc
          have := atom_groups hG hl ha (by omega)
          rw [hk]; omega
      · injection h with h
        simp only [Prod.mk.injEq] at h
        obtain ⟨h1, h2, h3⟩ := h
        subst h1
        have := atom_groups hG hl ha hc
        omega
theorem flat_id : ∀ l : List T, (∀ t ∈ l, t.hd.k ≠ 8) → flatK 8 l = l
  | [], _ => rfl
  | t :: r, h => by
    simp only [flatK, flat_id r (fun x hx => h x (by simp [hx])), if_neg (h t (by simp))]
    rfl
theorem join_groups (l : List T) (h : ∀ t ∈ l, t.hd.k ≠ 8) : groupsT (joinT l) = groupsL l ∧ countL l ≤ countT (joinT l) := by
  unfold joinT
  rw [flat_id l h]
  match l with
  | [] => exact ⟨rfl, Nat.zero_le _⟩
  | [t] => exact ⟨by rw [show onlyT 8 [t] = t from rfl, groupsL_cons, groupsL_nil]; omega, by rw [show onlyT 8 [t] = t from rfl, countL_cons, countL_nil]; omega⟩
  | a :: b :: r => exact ⟨by rw [show onlyT 8 (a :: b :: r) = .mk (Hd.of 8) (a :: b :: r) from rfl, groupsT_mk, if_neg (by simp [Hd.of])]; omega, by rw [show onlyT 8 (a :: b :: r) = .mk (Hd.of 8) (a :: b :: r) from rfl, countT_mk]; omega⟩
theorem loop_groups : ∀ n, (∀ (first : Bool) (acc : List T) (g : Nat) (l : List UInt8) (acc' : List T) (g' : Nat) (r : List UInt8), l.length < n → loopP (some 200) n first acc g l = .ok (acc', g', r) → (∀ t ∈ acc, t.hd.k ≠ 8) → countL acc' ≤ 200 → g' + groupsL acc = g + groupsL acc' ∧ countL acc ≤ countL acc' ∧ ∀ t ∈ acc', t.hd.k ≠ 8) ∧ CntP (patN (some 200) n) n
  | 0 => ⟨fun _ _ _ _ _ _ _ h => absurd h (Nat.not_lt_zero _), fun _ _ _ _ _ h => absurd h (Nat.not_lt_zero _)⟩
  | n + 1 => by
    have ih := loop_groups n
    have ht8 : ∀ (first : Bool) (acc : List T) (g : Nat) (l : List UInt8) (acc' : List T) (g' : Nat) (r : List UInt8), l.length < n + 1 → loopP (some 200) (n + 1) first acc g l = .ok (acc', g', r) → (∀ t ∈ acc, t.hd.k ≠ 8) → ∀ t ∈ acc', t.hd.k ≠ 8 := by
      have : ∀ m (first : Bool) (acc : List T) (g : Nat) (l : List UInt8) (acc' : List T) (g' : Nat) (r : List UInt8), l.length < m → loopP (some 200) m first acc g l = .ok (acc', g', r) → (∀ t ∈ acc, t.hd.k ≠ 8) → ∀ t ∈ acc', t.hd.k ≠ 8 := by
        intro m
        induction m with
        | zero => intro _ _ _ _ _ _ _ h; exact absurd h (Nat.not_lt_zero _)
        | succ m ihm =>
          intro first acc g l acc' g' r hl h ha
          rw [loopP_succ] at h
          split at h
          · injection h with h; simp only [Prod.mk.injEq] at h; rw [← h.1]; exact ha
          · have hfin := rep_fine (first := first) (g := g) (l := l) (grp := patN (some 200) m) (loop_fine (some 200) m).2 (by omega)
            cases hq : repP (patN (some 200) m) first g l with
            | error r2 => rw [hq] at h; cases h
            | ok x =>
              obtain ⟨t, g2, r2⟩ := x
              rw [hq] at h hfin
              obtain ⟨f1, f2, f3, f4, f5⟩ := hfin
              refine ihm false _ g2 r2 acc' g' r (by omega) h ?_
              intro y hy
              unfold snocC at hy
              simp only at hy
              split at hy
              · rcases List.mem_append.1 hy with hy | hy
                · exact ha y hy
                · rw [List.mem_singleton] at hy; rw [hy]; exact f3
              · exact ha y hy
      exact this (n + 1)
    have h1 : ∀ (first : Bool) (acc : List T) (g : Nat) (l : List UInt8) (acc' : List T) (g' : Nat) (r : List UInt8), l.length < n + 1 → loopP (some 200) (n + 1) first acc g l = .ok (acc', g', r) → (∀ t ∈ acc, t.hd.k ≠ 8) → countL acc' ≤ 200 → g' + groupsL acc = g + groupsL acc' ∧ countL acc ≤ countL acc' ∧ ∀ t ∈ acc', t.hd.k ≠ 8 := by
      intro first acc g l acc' g' r hl h ha hc
      have h8 := ht8 first acc g l acc' g' r hl h ha
      rw [loopP_succ] at h
      split at h
      · injection h with h; simp only [Prod.mk.injEq] at h
        obtain ⟨q1, q2, q3⟩ := h
        subst q1 q2
        exact ⟨by omega, Nat.le_refl _, h8⟩
      · have hfin := rep_fine (first := first) (g := g) (l := l) (grp := patN (some 200) n) (loop_fine (some 200) n).2 (by omega)
        cases hq : repP (patN (some 200) n) first g l with
        | error r2 => rw [hq] at h; cases h
        | ok x =>
          obtain ⟨t, g2, r2⟩ := x
          rw [hq] at h hfin
          obtain ⟨f1, f2, f3, f4, f5⟩ := hfin
          simp only at h
          have hsn : ∀ y ∈ snocC (some 200) acc t, y.hd.k ≠ 8 := by
            intro y hy
            unfold snocC at hy
            simp only at hy
            split at hy
            · rcases List.mem_append.1 hy with hy | hy
              · exact ha y hy
              · rw [List.mem_singleton] at hy; rw [hy]; exact f3
            · exact ha y hy
          obtain ⟨a1, a2, a3⟩ := ih.1 false (snocC (some 200) acc t) g2 r2 acc' g' r (by omega) h hsn hc
          have hlen := len_le_countL acc
          by_cases hk : acc.length ≤ 200
          · have hs : snocC (some 200) acc t = acc ++ [t] := by unfold snocC; simp only [if_pos hk]
            rw [hs, countL_append, countL_cons, countL_nil] at a2
            rw [hs, groupsL_append, groupsL_cons, groupsL_nil] at a1
            have := rep_groups ih.2 (by omega) hq (by omega)
            exact ⟨by omega, by omega, h8⟩
          · have hs : snocC (some 200) acc t = acc := by unfold snocC; simp only [if_neg hk]
            rw [hs] at a2
            omega
    refine ⟨h1, fun g l t g' r hl h hc => ?_⟩
    unfold patN patP at h
    have hb : ∀ t ∈ [tBegin], t.hd.k ≠ 8 := by intro t ht; rw [List.mem_singleton] at ht; rw [ht]; simp [tBegin, T.hd_mk, Hd.of]
    have gb : groupsL [tBegin] = 0 := rfl
    by_cases hp : pre [94] l = true
    · rw [if_pos hp, if_pos hp] at h
      cases hw : loopP (some 200) (n + 1) true [tBegin] g (l.drop 1) with
      | error r2 => rw [hw] at h; cases h
      | ok y =>
        obtain ⟨acc', g2, r2⟩ := y
        rw [hw] at h
        injection h with h
        simp only [Prod.mk.injEq] at h
        obtain ⟨q1, q2, q3⟩ := h
        subst q1 q2
        have h8 := ht8 true [tBegin] g (l.drop 1) acc' g2 r2 (by simp; omega) hw hb
        have hj := join_groups acc' h8
        obtain ⟨a1, a2, a3⟩ := h1 true [tBegin] g (l.drop 1) acc' g2 r2 (by simp; omega) hw hb (by omega)
        omega
    · rw [if_neg hp, if_neg hp] at h
      cases hw : loopP (some 200) (n + 1) true [] g l with
      | error r2 => rw [hw] at h; cases h
      | ok y =>
        obtain ⟨acc', g2, r2⟩ := y
        rw [hw] at h
        injection h with h
        simp only [Prod.mk.injEq] at h
        obtain ⟨q1, q2, q3⟩ := h
        subst q1 q2
        have hn : ∀ t ∈ ([] : List T), t.hd.k ≠ 8 := fun t ht => by cases ht
        have h8 := ht8 true [] g l acc' g2 r2 hl hw hn
        have hj := join_groups acc' h8
        obtain ⟨a1, a2, a3⟩ := h1 true [] g l acc' g2 r2 hl hw hn (by omega)
        rw [groupsL_nil] at a1
        omega
theorem parseB_cases (cap : Option Nat) (l : List UInt8) : (∃ t, parseB cap l = (t, 0, 0) ∧ formedT t = true ∧ ∃ g, patN cap (l.length + 1) 0 l = .ok (t, g, [])) ∨ (∃ p, parseB cap l = (tNone, p, 10)) := by
  unfold parseB
  cases hq : patN cap (l.length + 1) 0 l with
  | error r => exact .inr ⟨_, rfl⟩
  | ok x =>
    obtain ⟨t, g, r⟩ := x
    simp only
    by_cases hr : r = []
    · rw [if_pos hr]
      cases hf : formedT t with
      | true => exact .inl ⟨t, rfl, hf, g, by rw [hr]⟩
      | false => exact .inr ⟨_, rfl⟩
    · rw [if_neg hr]; exact .inr ⟨_, rfl⟩
/-- In a group of its own a pattern is read as it is alone, its groups numbered one higher. -/
theorem groups_top (l : List UInt8) (t : T) (g : Nat) (hp : patN (some 200) (l.length + 1) 0 l = .ok (t, g, [])) (hf : formedT t = true) (hb : backT t = false) (hg : groupsT t ≤ 8) (hd : deepT t ≤ 9) (hc : countT t ≤ 199) : parseB (some 200) (92 :: 40 :: (l ++ endE)) = (.mk (hGroup 1) [hiT t], 0, 0) := by
  have hgg := (loop_groups (l.length + 1)).2 0 l t g [] (by omega) hp (by omega)
  have hsh := (loop_app (some 200) (l.length + 1)).1 (l.length + 4) (by omega) 0 l t g [] (by omega) hp (by omega)
  have hlen : (92 :: 40 :: (l ++ endE) : List UInt8).length = l.length + 4 := by simp [endE]
  have hpat : patN (some 200) (l.length + 4 + 1) 0 (92 :: 40 :: (l ++ endE)) = .ok (.mk (hGroup 1) [hiT t], g + 1, []) := by
    have h94 : pre [94] (92 :: 40 :: (l ++ endE)) = false := by simp [pre, List.isPrefixOf]
    have hstop : ¬ ((92 :: 40 :: (l ++ endE) : List UInt8) = [] ∨ pre [92, 41] (92 :: 40 :: (l ++ endE)) = true) := by simp [pre, List.isPrefixOf]
    have hrep : repP (patN (some 200) (l.length + 4)) true 0 (92 :: 40 :: (l ++ endE)) = .ok (.mk (hGroup 1) [hiT t], g + 1, []) := by
      have hat : atomP (patN (some 200) (l.length + 4)) true 0 (92 :: 40 :: (l ++ endE)) = .ok (.mk (hGroup 1) [hiT t], g + 1, []) := by
        show pairP (patN (some 200) (l.length + 4)) 0 (92 :: 40 :: (l ++ endE)) (40 :: (l ++ endE)) = _
        unfold pairP
        simp only [if_true]
        rw [if_neg (by omega), hsh]
        simp only [List.nil_append]
        rfl
      unfold repP
      rw [hat]
      rfl
    unfold patN patP
    rw [h94]
    simp only [Bool.false_eq_true, if_false]
    rw [loopP_succ, if_neg hstop, hrep]
    simp only
    rw [loopP_succ, if_pos (.inl rfl)]
    rfl
  unfold parseB
  rw [hlen, hpat]
  simp only [if_true]
  rw [hi_formed t hf hb hg hd hc]
  rfl
end Go.Proofs.Ytndmjndokokmnaa
