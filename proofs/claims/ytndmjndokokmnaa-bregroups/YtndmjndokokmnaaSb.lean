import Derived.Test.YtndmjndokokmnaaSa
namespace Go.Proofs.Ytndmjndokokmnaa
set_option linter.unusedSimpArgs false
set_option linter.unusedVariables false
open Go.Deep
/-- What ends a group. -/
def endE : List UInt8 := [92, 41]
theorem pre_len_app (p l X : List UInt8) (h : p.length ≤ l.length) : pre p (l ++ X) = pre p l := by
  unfold pre
  rw [Bool.eq_iff_iff, List.isPrefixOf_iff_prefix, List.isPrefixOf_iff_prefix]
  constructor
  · intro q
    exact List.prefix_of_prefix_length_le q (List.prefix_append l X) h
  · intro q
    exact q.trans (List.prefix_append l X)
theorem pre_true_app {p l : List UInt8} (X : List UInt8) (h : pre p l = true) : pre p (l ++ X) = true := by
  rw [pre_len_app p l X (pre_len h)]; exact h
theorem pre_short {p l : List UInt8} (h : l.length < p.length) : pre p l = false := by
  cases hq : pre p l with
  | false => rfl
  | true => have := pre_len hq; omega
/-- One sign that does not end a group. -/
theorem pre1_app (a : UInt8) (l : List UInt8) (h : a ≠ 92) : pre [a] (l ++ endE) = pre [a] l := by
  cases l with
  | nil => simp [pre, endE, List.isPrefixOf, h]
  | cons c t => exact pre_len_app _ _ _ (by simp)
/-- Two signs that do not end a group. -/
theorem pre2_app (a b : UInt8) (l : List UInt8) (h : b ≠ 92) (h2 : a ≠ 92 ∨ b ≠ 41) : pre [a, b] (l ++ endE) = pre [a, b] l := by
  match l with
  | [] => simp [pre, endE, List.isPrefixOf]; intro q; rcases h2 with h2 | h2; exact absurd q h2; exact h2
  | [c] => simp [pre, endE, List.isPrefixOf, h]
  | c :: d :: t => exact pre_len_app _ _ _ (by simp)
/-- The end of a group itself. -/
theorem pre_end_app (l : List UInt8) (h : l ≠ []) : pre [92, 41] (l ++ endE) = pre [92, 41] l := by
  match l with
  | [] => exact absurd rfl h
  | [c] => simp [pre, endE, List.isPrefixOf]
  | c :: d :: t => exact pre_len_app _ _ _ (by simp)
theorem drop_app (l X : List UInt8) (n : Nat) (h : n ≤ l.length) : (l ++ X).drop n = l.drop n ++ X := by
  rw [List.drop_append_of_le_length h]
theorem pre_drop1 {a : UInt8} {l : List UInt8} (h : pre [a] l = true) : (l ++ endE).drop 1 = l.drop 1 ++ endE := drop_app _ _ _ (pre_len h)
theorem pre_drop2 {a b : UInt8} {l : List UInt8} (h : pre [a, b] l = true) : (l ++ endE).drop 2 = l.drop 2 ++ endE := drop_app _ _ _ (pre_len h)
theorem byteA_app (X : List UInt8) {e l : List UInt8} {c : UInt8} {t : List UInt8} (h : byteA e l = some (c, t)) : byteA e (l ++ X) = some (c, t ++ X) := by
  unfold byteA at h
  split at h
  · cases h
  · rename_i c' t'
    split at h
    · cases h
    · rename_i hc
      split at h
      · rename_i hp
        simp only [Option.some.injEq, Prod.mk.injEq] at h
        show (if c' = 10 then none else if pre e (t' ++ X) then some (c', (t' ++ X).drop e.length) else none) = _
        rw [if_neg hc, pre_true_app X hp, if_pos rfl, drop_app _ _ _ (pre_len hp), h.1, h.2]
      · cases h
theorem singleP_app {l : List UInt8} {c : UInt8} {t : List UInt8} (h : singleP l = some (c, t)) : singleP (l ++ endE) = some (c, t ++ endE) := by
  unfold singleP at h ⊢
  rw [pre2_app 91 46 l (by decide) (.inl (by decide)), pre2_app 92 110 l (by decide) (.inr (by decide))]
  split at h
  · rename_i hp
    rw [if_pos hp, pre_drop2 hp]
    exact byteA_app _ h
  · rename_i hp
    rw [if_neg hp]
    split at h
    · rename_i hq
      rw [if_pos hq, pre_drop2 hq]
      simp only [Option.some.injEq, Prod.mk.injEq] at h
      rw [← h.1, ← h.2]
    · rename_i hq
      rw [if_neg hq]
      exact byteA_app _ h
theorem signP_app {l : List UInt8} {c : UInt8} {t : List UInt8} (h : signP l = some (c, t)) : signP (l ++ endE) = some (c, t ++ endE) := by
  unfold signP at h ⊢
  rw [pre2_app 91 61 l (by decide) (.inl (by decide)), pre2_app 91 58 l (by decide) (.inl (by decide))]
  split at h
  · cases h
  · rename_i hq
    rw [if_neg hq]
    exact singleP_app h
theorem index_app (p X : List UInt8) (hp : 0 < p.length) : ∀ l : List UInt8, 0 ≤ Lib.index l p → Lib.index (l ++ X) p = Lib.index l p
  | [], h => by
    unfold Lib.index at h
    cases p with
    | nil => simp at hp
    | cons a b => simp at h
  | b :: l, h => by
    have hr := Lib.index_room (b :: l) p h
    have hlen : p.length ≤ (b :: l).length := by omega
    have e1 : Lib.index (b :: (l ++ X)) p = if p.isPrefixOf (b :: (l ++ X)) then 0 else if Lib.index (l ++ X) p == -1 then -1 else Lib.index (l ++ X) p + 1 := by
      conv => lhs; unfold Lib.index
    have e2 : Lib.index (b :: l) p = if p.isPrefixOf (b :: l) then 0 else if Lib.index l p == -1 then -1 else Lib.index l p + 1 := by
      conv => lhs; unfold Lib.index
    have e3 : p.isPrefixOf (b :: (l ++ X)) = p.isPrefixOf (b :: l) := pre_len_app p (b :: l) X hlen
    rw [List.cons_append, e1, e2, e3]
    rw [e2] at h
    by_cases hq : p.isPrefixOf (b :: l) = true
    · rw [if_pos hq, if_pos hq]
    · rw [if_neg hq] at h ⊢
      rw [if_neg hq]
      by_cases h1 : Lib.index l p = -1
      · rw [h1] at h; simp at h
      · have hge := Lib.index_ge l p
        have ih := index_app p X hp l (by omega)
        rw [ih]
theorem cut_app (p X : List UInt8) (hp : 0 < p.length) (l : List UInt8) (h : (Lib.cut l p).2.2 = true) : Lib.cut (l ++ X) p = ((Lib.cut l p).1, (Lib.cut l p).2.1 ++ X, true) := by
  unfold Lib.cut at h ⊢
  by_cases h0 : 0 ≤ Lib.index l p
  · have hi := index_app p X hp l h0
    have hr := Lib.index_room l p h0
    rw [hi, if_pos h0, if_pos h0]
    simp only
    rw [List.take_append_of_le_length (by omega), drop_app _ _ _ (by omega)]
  · rw [if_neg h0] at h; cases h
theorem tailP_app {f : UInt8} {l : List UInt8} {m : S4} {t : List UInt8} (h : tailP f l = some (m, t)) : tailP f (l ++ endE) = some (m, t ++ endE) := by
  unfold tailP at h ⊢
  rw [pre2_app 45 93 l (by decide) (.inl (by decide)), pre1_app 45 l (by decide)]
  split at h
  · rename_i hq
    rw [if_pos hq]
    simp only [Option.some.injEq, Prod.mk.injEq] at h
    rw [h.1, h.2]
  · rename_i hq
    rw [if_neg hq]
    have hl : 1 ≤ l.length := by
      cases hp : pre [45] l with
      | false => rw [hp] at hq; simp at hq
      | true => exact pre_len hp
    rw [drop_app _ _ _ hl]
    split at h
    · cases h
    · rename_i g t2 hs
      rw [signP_app hs]
      simp only
      split at h
      · cases h
      · rename_i hz
        simp only [Option.some.injEq, Prod.mk.injEq] at h
        have e1 : pre [45] (l.drop 1 ++ endE) = pre [45] (l.drop 1) := pre1_app 45 _ (by decide)
        have e2 : pre [93] (t2 ++ endE) = pre [93] t2 := pre1_app 93 _ (by decide)
        rw [e1, e2, if_neg hz, h.1, h.2]
theorem memberP_app {l : List UInt8} {m : S4} {t : List UInt8} (h : memberP l = some (m, t)) : memberP (l ++ endE) = some (m, t ++ endE) := by
  unfold memberP at h ⊢
  rw [pre2_app 91 61 l (by decide) (.inl (by decide)), pre2_app 91 58 l (by decide) (.inl (by decide))]
  split at h
  · rename_i hp
    rw [if_pos hp, pre_drop2 hp]
    cases hb : byteA [61, 93] (l.drop 2) with
    | none => rw [hb] at h; cases h
    | some x =>
      rw [hb] at h
      rw [byteA_app endE (c := x.1) (t := x.2) hb]
      simp only [Option.map_some, Option.some.injEq, Prod.mk.injEq] at h ⊢
      exact ⟨h.1, by rw [h.2]⟩
  · rename_i hp
    rw [if_neg hp]
    split at h
    · rename_i hq
      rw [if_pos hq, pre_drop2 hq]
      unfold classP at h ⊢
      split at h
      · rename_i hf
        rw [cut_app _ endE (by simp) _ hf, if_pos rfl]
        cases hc : classS (Lib.cut (l.drop 2) [58, 93]).1 with
        | none => rw [hc] at h; cases h
        | some x =>
          rw [hc] at h
          simp only [Option.map_some, Option.some.injEq, Prod.mk.injEq] at h ⊢
          exact ⟨h.1, by rw [h.2]⟩
      · cases h
    · rename_i hq
      rw [if_neg hq]
      split at h
      · cases h
      · rename_i f t' hs
        rw [signP_app hs]
        exact tailP_app h
theorem members_app : ∀ (n m : Nat) (first : Bool) (acc : S4) (l : List UInt8) (s : S4) (t : List UInt8), n ≤ m → membersP n first acc l = some (s, t) → membersP m first acc (l ++ endE) = some (s, t ++ endE)
  | 0, _, _, _, _, _, _, _, h => by simp [membersP] at h
  | n + 1, 0, _, _, _, _, _, hm, _ => by omega
  | n + 1, m + 1, first, acc, l, s, t, hm, h => by
    unfold membersP at h ⊢
    rw [pre1_app 93 l (by decide)]
    split at h
    · rename_i hq
      rw [if_pos hq, pre_drop1 hq.2]
      simp only [Option.some.injEq, Prod.mk.injEq] at h
      rw [h.1, h.2]
    · rename_i hq
      rw [if_neg hq]
      split at h
      · cases h
      · rename_i m' t' hmm
        rw [memberP_app hmm]
        exact members_app n m _ _ _ _ _ (by omega) h
theorem exprP_app {l : List UInt8} {s : S4} {t : List UInt8} (h : exprP l = some (s, t)) : exprP (l ++ endE) = some (s, t ++ endE) := by
  unfold exprP at h ⊢
  rw [pre1_app 94 l (by decide)]
  split at h
  · rename_i hq
    rw [if_pos hq, pre_drop1 hq]
    obtain ⟨x, hx, he⟩ := Option.map_eq_some_iff.1 h
    simp only [Prod.mk.injEq] at he
    rw [members_app _ ((l ++ endE).length + 1) _ _ _ _ _ (by simp [endE]) (show membersP _ _ _ _ = some (x.1, x.2) from hx)]
    simp only [Option.map_some, Option.some.injEq, Prod.mk.injEq]
    exact ⟨he.1, by rw [he.2]⟩
  · rename_i hq
    rw [if_neg hq]
    exact members_app _ _ _ _ _ _ _ (by simp [endE]) h
theorem countP_app {l : List UInt8} {m : Nat} {k : Int} {r : List UInt8} (h : countP l = some (m, k, r)) : countP (l ++ endE) = some (m, k, r ++ endE) := by
  unfold countP at h ⊢
  split at h
  · rename_i hf
    rw [cut_app _ endE (by simp) _ hf, if_pos rfl]
    obtain ⟨x, hx, hq⟩ := Option.map_eq_some_iff.1 h
    rw [hx]
    simp only [Prod.mk.injEq] at hq
    simp only [Option.map_some, Option.some.injEq, Prod.mk.injEq]
    exact ⟨hq.1, hq.2.1, by rw [hq.2.2]⟩
  · cases h
/-- What grp' reads in a group is what grp reads alone, numbered one higher. -/
def Shift (grp grp' : Nat → List UInt8 → Except (List UInt8) (T × Nat × List UInt8)) (n : Nat) : Prop := ∀ g l t g' r, l.length < n → grp g l = .ok (t, g', r) → g' ≤ 8 → grp' (g + 1) (l ++ endE) = .ok (hiT t, g' + 1, r ++ endE)
theorem hi_leaf (h : Hd) (hk : h.k ≠ 6) : hiT (.mk h []) = .mk h [] := by
  rw [hiT_mk]; unfold hiH; rw [if_neg hk]; rfl
theorem pair_app {grp grp' : Nat → List UInt8 → Except (List UInt8) (T × Nat × List UInt8)} {n : Nat} (hS : Shift grp grp' n) (hF : ∀ g l, l.length < n → FineP g l (grp g l)) {g : Nat} {l tl : List UInt8} {t : T} {g' : Nat} {r : List UInt8} (hl : tl.length < n + 1) (h : pairP grp g l tl = .ok (t, g', r)) (h8 : g' ≤ 8) (l' : List UInt8) : pairP grp' (g + 1) l' (tl ++ endE) = .ok (hiT t, g' + 1, r ++ endE) := by
  unfold pairP at h
  split at h
  · cases h
  · rename_i d t'
    have hP : pairP grp' (g + 1) l' ((d :: t') ++ endE) = if d = 40 then (if g + 1 = 9 then .error l' else match grp' (g + 1 + 1) (t' ++ endE) with
      | .error r => .error r
      | .ok (n, g', r) => if pre [92, 41] r then .ok (.mk (hGroup ((g + 1 + 1 : Nat) : Int)) [n], g', r.drop 2) else .error r)
    else if 49 ≤ d.toNat ∧ d.toNat ≤ 57 then .ok (.mk (hBack ((d.toNat : Int) - 48)) [], g + 1, t' ++ endE)
    else if d = 110 then .ok (.mk (hLit 10) [], g + 1, t' ++ endE)
    else if litB.contains d then .ok (.mk (hLit d) [], g + 1, t' ++ endE)
    else .error l' := rfl
    rw [hP]
    split at h
    · rename_i hd
      rw [if_pos hd]
      split at h
      · cases h
      · have hf := hF (g + 1) t' (by simp at hl; omega)
        cases hq : grp (g + 1) t' with
        | error r2 => rw [hq] at h; cases h
        | ok x =>
          obtain ⟨m, g2, r2⟩ := x
          rw [hq] at h hf
          simp only at h
          have hg : g + 1 ≤ g2 := hf.2.2.1
          split at h
          · rename_i hp
            injection h with h
            simp only [Prod.mk.injEq] at h
            obtain ⟨h1, h2, h3⟩ := h
            subst h2
            rw [if_neg (by omega), hS _ _ _ _ _ (by simp at hl; omega) hq h8]
            simp only
            rw [pre_true_app endE hp, if_pos rfl, pre_drop2 hp, h3, ← h1, hiT_mk]
            rfl
          · cases h
    · rename_i hd
      rw [if_neg hd]
      split at h
      · rename_i h49
        rw [if_pos h49]
        injection h with h
        simp only [Prod.mk.injEq] at h
        obtain ⟨h1, h2, h3⟩ := h
        rw [← h1, ← h2, ← h3, hi_leaf _ (by simp [hBack])]
      · rename_i h49
        rw [if_neg h49]
        split at h
        · rename_i h110
          rw [if_pos h110]
          injection h with h
          simp only [Prod.mk.injEq] at h
          obtain ⟨h1, h2, h3⟩ := h
          rw [← h1, ← h2, ← h3, hi_leaf _ (by simp [hLit])]
        · rename_i h110
          rw [if_neg h110]
          split at h
          · rename_i hin
            rw [if_pos hin]
            injection h with h
            simp only [Prod.mk.injEq] at h
            obtain ⟨h1, h2, h3⟩ := h
            rw [← h1, ← h2, ← h3, hi_leaf _ (by simp [hLit])]
          · cases h
theorem atom_app {grp grp' : Nat → List UInt8 → Except (List UInt8) (T × Nat × List UInt8)} {n : Nat} (hS : Shift grp grp' n) (hF : ∀ g l, l.length < n → FineP g l (grp g l)) {first : Bool} {g : Nat} {l : List UInt8} {t : T} {g' : Nat} {r : List UInt8} (hl : l.length ≤ n) (h : atomP grp first g l = .ok (t, g', r)) (h8 : g' ≤ 8) : atomP grp' first (g + 1) (l ++ endE) = .ok (hiT t, g' + 1, r ++ endE) := by
  match l, hl, h with
  | [], _, h => cases h
  | c :: tl, hl, h =>
    have hA : ∀ (G : Nat → List UInt8 → Except (List UInt8) (T × Nat × List UInt8)) (g : Nat) (tl : List UInt8), atomP G first g (c :: tl) = if c = 92 then pairP G g (c :: tl) tl
      else if c = 91 then (match exprP tl with
        | none => .error (c :: tl)
        | some (m, t') => .ok (.mk (hIn m) [], g, t'))
      else if c = 10 ∨ (c = 42 ∧ first = false) then .error (c :: tl)
      else if c = 46 then .ok (.mk (Hd.of 2) [], g, tl)
      else if c = 36 ∧ (tl = [] ∨ pre [92, 41] tl = true) then .ok (.mk (Hd.of 5) [], g, tl)
      else .ok (.mk (hLit c) [], g, tl) := fun _ _ _ => rfl
    rw [List.cons_append, hA]
    rw [hA] at h
    simp only [List.length_cons] at hl
    split at h
    · rename_i h92
      rw [if_pos h92]
      exact pair_app hS hF (by omega) h h8 _
    · rename_i h92
      rw [if_neg h92]
      split at h
      · rename_i h91
        rw [if_pos h91]
        cases he : exprP tl with
        | none => rw [he] at h; cases h
        | some x =>
          obtain ⟨m, t'⟩ := x
          rw [he] at h
          rw [exprP_app he]
          injection h with h
          simp only [Prod.mk.injEq] at h
          obtain ⟨h1, h2, h3⟩ := h
          simp only
          rw [← h1, ← h2, ← h3, hi_leaf _ (by simp [hIn])]
      · rename_i h91
        rw [if_neg h91]
        split at h
        · cases h
        · rename_i h10
          rw [if_neg h10]
          split at h
          · rename_i h46
            rw [if_pos h46]
            injection h with h
            simp only [Prod.mk.injEq] at h
            obtain ⟨h1, h2, h3⟩ := h
            rw [← h1, ← h2, ← h3, hi_leaf _ (by simp [Hd.of])]
          · rename_i h46
            rw [if_neg h46]
            have hc : (tl ++ endE = [] ∨ pre [92, 41] (tl ++ endE) = true) ↔ (tl = [] ∨ pre [92, 41] tl = true) := by
              by_cases h0 : tl = []
              · subst h0; simp [endE, pre, List.isPrefixOf]
              · rw [pre_end_app tl h0]; simp [h0]
            split at h
            · rename_i he
              rw [if_pos ⟨he.1, hc.2 he.2⟩]
              injection h with h
              simp only [Prod.mk.injEq] at h
              obtain ⟨h1, h2, h3⟩ := h
              rw [← h1, ← h2, ← h3, hi_leaf _ (by simp [Hd.of])]
            · rename_i he
              rw [if_neg (fun q => he ⟨q.1, hc.1 q.2⟩)]
              injection h with h
              simp only [Prod.mk.injEq] at h
              obtain ⟨h1, h2, h3⟩ := h
              rw [← h1, ← h2, ← h3, hi_leaf _ (by simp [hLit])]
theorem hi_rep (a b : Int) (t : T) : hiT (tRep a b t) = tRep a b (hiT t) := by
  unfold tRep
  rw [hiT_mk]
  rfl
theorem rep_app {grp grp' : Nat → List UInt8 → Except (List UInt8) (T × Nat × List UInt8)} {n : Nat} (hS : Shift grp grp' n) (hF : ∀ g l, l.length < n → FineP g l (grp g l)) {first : Bool} {g : Nat} {l : List UInt8} {t : T} {g' : Nat} {r : List UInt8} (hl : l.length ≤ n) (h : repP grp first g l = .ok (t, g', r)) (h8 : g' ≤ 8) : repP grp' first (g + 1) (l ++ endE) = .ok (hiT t, g' + 1, r ++ endE) := by
  unfold repP at h ⊢
  cases ha : atomP grp first g l with
  | error r2 => rw [ha] at h; cases h
  | ok x =>
    obtain ⟨a, g2, r2⟩ := x
    rw [ha] at h
    simp only at h
    have hg : g2 ≤ 8 := by
      split at h
      · injection h with h; simp only [Prod.mk.injEq] at h; omega
      · split at h
        · split at h
          · cases h
          · injection h with h; simp only [Prod.mk.injEq] at h; omega
        · injection h with h; simp only [Prod.mk.injEq] at h; omega
    rw [atom_app hS hF hl ha hg]
    simp only
    rw [pre1_app 42 r2 (by decide), pre2_app 92 123 r2 (by decide) (.inr (by decide))]
    split at h
    · rename_i hp
      rw [if_pos hp, pre_drop1 hp]
      injection h with h
      simp only [Prod.mk.injEq] at h
      obtain ⟨h1, h2, h3⟩ := h
      rw [← h1, ← h2, ← h3, hi_rep]
    · rename_i hp
      rw [if_neg hp]
      split at h
      · rename_i hp2
        rw [if_pos hp2, pre_drop2 hp2]
        cases hc : countP (r2.drop 2) with
        | none => rw [hc] at h; cases h
        | some y =>
          obtain ⟨m, k, r3⟩ := y
          rw [hc] at h
          rw [countP_app hc]
          injection h with h
          simp only [Prod.mk.injEq] at h
          obtain ⟨h1, h2, h3⟩ := h
          simp only
          rw [← h1, ← h2, ← h3, hi_rep]
      · rename_i hp2
        rw [if_neg hp2]
        injection h with h
        simp only [Prod.mk.injEq] at h
        obtain ⟨h1, h2, h3⟩ := h
        rw [← h1, ← h2, ← h3]
theorem snoc_app (cap : Option Nat) (acc : List T) (t : T) : (snocC cap acc t).map hiT = snocC cap (acc.map hiT) (hiT t) := by
  unfold snocC
  split
  · simp
  · rw [List.length_map]; split <;> simp
theorem flat_hi (k : Int) : ∀ l : List T, flatK k (l.map hiT) = (flatK k l).map hiT
  | [] => rfl
  | t :: r => by
    simp only [List.map_cons, flatK, flat_hi k r, List.map_append]
    rw [hiT_hd, hiH_k]
    split
    · rw [hiT_kids]
    · rfl
theorem join_hi (l : List T) : joinT (l.map hiT) = hiT (joinT l) := by
  unfold joinT
  rw [flat_hi]
  match flatK 8 l with
  | [] => rfl
  | [t] => rfl
  | a :: b :: r =>
    show T.mk (Hd.of 8) _ = hiT (T.mk (Hd.of 8) _)
    rw [hiT_mk]; rfl
theorem loop_app (cap : Option Nat) : ∀ n, (∀ m, n ≤ m → Shift (patN cap n) (patN cap m) n) ∧ ∀ (m : Nat) (first : Bool) (acc : List T) (g : Nat) (l : List UInt8) (acc' : List T) (g' : Nat) (r : List UInt8), n ≤ m → l.length < n → loopP cap n first acc g l = .ok (acc', g', r) → g' ≤ 8 → loopP cap m first (acc.map hiT) (g + 1) (l ++ endE) = .ok (acc'.map hiT, g' + 1, r ++ endE)
  | 0 => ⟨fun _ _ _ _ _ _ _ h => absurd h (Nat.not_lt_zero _), fun _ _ _ _ _ _ _ _ _ h => absurd h (Nat.not_lt_zero _)⟩
  | n + 1 => by
    have ih := loop_app cap n
    have h1 : ∀ (m : Nat) (first : Bool) (acc : List T) (g : Nat) (l : List UInt8) (acc' : List T) (g' : Nat) (r : List UInt8), n + 1 ≤ m → l.length < n + 1 → loopP cap (n + 1) first acc g l = .ok (acc', g', r) → g' ≤ 8 → loopP cap m first (acc.map hiT) (g + 1) (l ++ endE) = .ok (acc'.map hiT, g' + 1, r ++ endE) := by
      intro m first acc g l acc' g' r hm hl h h8
      obtain ⟨m', rfl⟩ : ∃ m', m = m' + 1 := ⟨m - 1, by omega⟩
      rw [loopP_succ] at h ⊢
      have hc : (l ++ endE = [] ∨ pre [92, 41] (l ++ endE) = true) ↔ (l = [] ∨ pre [92, 41] l = true) := by
        by_cases h0 : l = []
        · subst h0; simp [endE, pre, List.isPrefixOf]
        · rw [pre_end_app l h0]; simp [h0]
      split at h
      · rename_i hs
        rw [if_pos (hc.2 hs)]
        injection h with h
        simp only [Prod.mk.injEq] at h
        obtain ⟨h1, h2, h3⟩ := h
        rw [← h1, ← h2, ← h3]
      · rename_i hs
        rw [if_neg (fun q => hs (hc.1 q))]
        have hfin := rep_fine (first := first) (g := g) (l := l) (grp := patN cap n) (loop_fine cap n).2 (by omega)
        cases hq : repP (patN cap n) first g l with
        | error r2 => rw [hq] at h; cases h
        | ok x =>
          obtain ⟨t, g2, r2⟩ := x
          rw [hq] at h hfin
          obtain ⟨f1, f2, f3, f4, f5⟩ := hfin
          simp only at h
          have hlf := (loop_fine cap n).1 false (snocC cap acc t) g2 r2 (by omega)
          rw [h] at hlf
          have hg2 : g2 ≤ 8 := by have := hlf.2.2.1; omega
          rw [rep_app (ih.1 m' (by omega)) (loop_fine cap n).2 (by omega) hq hg2]
          simp only
          rw [← snoc_app]
          exact ih.2 m' false _ g2 r2 acc' g' r (by omega) (by omega) h h8
    refine ⟨fun m hm g l t g' r hl h h8 => ?_, h1⟩
    unfold patN patP at h ⊢
    rw [pre1_app 94 l (by decide)]
    have hb : [tBegin] = [tBegin].map hiT := rfl
    by_cases hp : pre [94] l = true
    · rw [if_pos hp, if_pos hp] at h ⊢
      rw [pre_drop1 hp]
      cases hw : loopP cap (n + 1) true [tBegin] g (l.drop 1) with
      | error r2 => rw [hw] at h; cases h
      | ok y =>
        obtain ⟨acc', g2, r2⟩ := y
        rw [hw] at h
        injection h with h
        simp only [Prod.mk.injEq] at h
        obtain ⟨q1, q2, q3⟩ := h
        subst q2
        have := h1 m true [tBegin] g (l.drop 1) acc' g2 r2 hm (by simp; omega) hw h8
        rw [← hb] at this
        rw [this]
        simp only
        rw [join_hi, q1, q3]
    · rw [if_neg hp, if_neg hp] at h ⊢
      cases hw : loopP cap (n + 1) true [] g l with
      | error r2 => rw [hw] at h; cases h
      | ok y =>
        obtain ⟨acc', g2, r2⟩ := y
        rw [hw] at h
        injection h with h
        simp only [Prod.mk.injEq] at h
        obtain ⟨q1, q2, q3⟩ := h
        subst q2
        have := h1 m true [] g l acc' g2 r2 hm hl hw h8
        rw [List.map_nil] at this
        rw [this]
        simp only
        rw [join_hi, q1, q3]
end Go.Proofs.Ytndmjndokokmnaa
