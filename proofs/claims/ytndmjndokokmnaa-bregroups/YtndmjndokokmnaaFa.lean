import Derived.Test.YtndmjndokokmnaaTa
namespace Go.Proofs.Ytndmjndokokmnaa
set_option linter.unusedSimpArgs false
set_option linter.unusedVariables false
open Go.Deep
/-- What a node's kind needs of it. -/
def needH (h : Hd) : Hd :=
  if h.k = 1 then ⟨h.k, h.c, 0, 0, 0, 0, 0, 0, 0⟩
  else if h.k = 3 then ⟨h.k, 0, h.x0, h.x1, h.x2, h.x3, 0, 0, 0⟩
  else if h.k = 6 ∨ h.k = 7 then ⟨h.k, 0, 0, 0, 0, 0, h.n, 0, 0⟩
  else if h.k = 10 then ⟨h.k, 0, 0, 0, 0, 0, 0, h.lo, h.hi⟩
  else ⟨h.k, 0, 0, 0, 0, 0, 0, 0, 0⟩
/-- Is one of the nodes of one of the kinds? -/
def hasK (ks : List Int) (l : List T) : Bool := l.any fun t => ks.contains t.hd.k
def partsB (k : Int) (l : List T) : Bool :=
  if k = 1 ∨ k = 2 ∨ k = 3 ∨ k = 4 ∨ k = 5 ∨ k = 7 then decide (l.length = 0)
  else if k = 6 then decide (l.length = 1)
  else if k = 8 then decide (l.length ≠ 1) && !hasK [8] l
  else if k = 9 then decide (2 ≤ l.length) && !hasK [9] l
  else if k = 10 then decide (l.length = 1) && !hasK [4, 5, 10] l
  else false
def timesB (h : Hd) : Bool := if h.k = 10 then decide (0 ≤ h.lo ∧ h.lo ≤ 255 ∧ (h.hi = -1 ∨ h.lo ≤ h.hi ∧ h.hi ≤ 255)) else true
/-- How many groups began, and which ended. -/
structure Gs where
  b : Int
  e : List Bool
/-- Is the node's number right? -/
def stepN (h : Hd) (s : Gs) : Option Gs :=
  if h.k = 6 then (if h.n = s.b + 1 ∧ h.n ≤ 9 then some ⟨s.b + 1, s.e⟩ else none)
  else if h.k = 7 then (if 1 ≤ h.n ∧ h.n ≤ 9 ∧ s.e[h.n.toNat]? = some true then some s else none)
  else some s
def endN (h : Hd) (s : Gs) : Gs := if h.k = 6 then ⟨s.b, s.e.set h.n.toNat true⟩ else s
def okH (h : Hd) (l : List T) : Bool := sameH h (needH h) && partsB h.k l && timesB h
/-- The program's way: m nodes came by, the nodes are so deep. -/
def passB : BT P7 → Nat → Int → Gs → Option (Nat × Gs)
  | .nil, m, _, s => some (m, s)
  | .node c x0 p l r, m, d, s =>
    if 200 < m + 1 ∨ 10 < d ∨ okH (p.hd c x0) (fl l) = false then none
    else (stepN (p.hd c x0) s).bind fun s1 => (passB l (m + 1) (d + 1) s1).bind fun q => passB r q.1 d (endN (p.hd c x0) q.2)
def passL (l : List T) (m : Nat) (d : Int) (s : Gs) : Option (Nat × Gs) := passB (lf l) m d s
def passT (t : T) (m : Nat) (d : Int) (s : Gs) : Option (Nat × Gs) :=
  if 200 < m + 1 ∨ 10 < d ∨ okH t.hd t.kids = false then none
  else (stepN t.hd s).bind fun s1 => (passL t.kids (m + 1) (d + 1) s1).bind fun q => some (q.1, endN t.hd q.2)
theorem passL_nil (m : Nat) (d : Int) (s : Gs) : passL [] m d s = some (m, s) := rfl
theorem passL_cons (t : T) (r : List T) (m : Nat) (d : Int) (s : Gs) : passL (t :: r) m d s = (passT t m d s).bind fun q => passL r q.1 d q.2 := by
  unfold passL passT passL T.kids
  show (if 200 < m + 1 ∨ 10 < d ∨ okH (t.hd.p.hd t.hd.c t.hd.x0) (fl t.kf) = false then none else _) = _
  rw [show t.hd.p.hd t.hd.c t.hd.x0 = t.hd from rfl, lf_fl]
  by_cases h : 200 < m + 1 ∨ 10 < d ∨ okH t.hd (fl t.kf) = false
  · rw [if_pos h, if_pos h]; rfl
  · rw [if_neg h, if_neg h]
    cases stepN t.hd s with
    | none => rfl
    | some s1 =>
      show (passB t.kf (m + 1) (d + 1) s1).bind _ = ((passB t.kf (m + 1) (d + 1) s1).bind _).bind _
      cases passB t.kf (m + 1) (d + 1) s1 with
      | none => rfl
      | some q => rfl
/-- Numbers and shape alone, in the document's order. -/
def formB : BT P7 → Gs → Option Gs
  | .nil, s => some s
  | .node c x0 p l r, s =>
    if okH (p.hd c x0) (fl l) = false then none
    else (stepN (p.hd c x0) s).bind fun s1 => (formB l s1).bind fun q => formB r (endN (p.hd c x0) q)
def formL (l : List T) (s : Gs) : Option Gs := formB (lf l) s
def formT (t : T) (s : Gs) : Option Gs :=
  if okH t.hd t.kids = false then none else (stepN t.hd s).bind fun s1 => (formL t.kids s1).bind fun q => some (endN t.hd q)
theorem formL_nil (s : Gs) : formL [] s = some s := rfl
theorem formL_cons (t : T) (r : List T) (s : Gs) : formL (t :: r) s = (formT t s).bind fun q => formL r q := by
  unfold formL formT formL T.kids
  show (if okH (t.hd.p.hd t.hd.c t.hd.x0) (fl t.kf) = false then none else _) = _
  rw [show t.hd.p.hd t.hd.c t.hd.x0 = t.hd from rfl, lf_fl]
  by_cases h : okH t.hd (fl t.kf) = false
  · rw [if_pos h, if_pos h]; rfl
  · rw [if_neg h, if_neg h]
    cases stepN t.hd s with
    | none => rfl
    | some s1 =>
      show (formB t.kf s1).bind _ = ((formB t.kf s1).bind _).bind _
      cases formB t.kf s1 with
      | none => rfl
      | some q => rfl
def gs0 : Gs := ⟨0, List.replicate 10 false⟩
def formedT (t : T) : Bool := decide (countT t ≤ 200 ∧ deepT t ≤ 10) && (formT t gs0).isSome
theorem deepT_pos (t : T) : 1 ≤ deepT t := by unfold deepT; omega
/-- The program's way comes to the same. -/
theorem pass_form : (∀ t, ∀ (m : Nat) (d : Int) (s : Gs), passT t m d s = if m + countT t ≤ 200 ∧ d + deepT t ≤ 11 then (formT t s).map fun q => (m + countT t, q) else none) ∧
    ∀ l, ∀ (m : Nat) (d : Int) (s : Gs), m ≤ 200 → passL l m d s = if m + countL l ≤ 200 ∧ (l = [] ∨ d + deepL l ≤ 11) then (formL l s).map fun q => (m + countL l, q) else none := by
  refine T.both (p := fun t => ∀ (m : Nat) (d : Int) (s : Gs), passT t m d s = if m + countT t ≤ 200 ∧ d + deepT t ≤ 11 then (formT t s).map fun q => (m + countT t, q) else none)
    (q := fun l => ∀ (m : Nat) (d : Int) (s : Gs), m ≤ 200 → passL l m d s = if m + countL l ≤ 200 ∧ (l = [] ∨ d + deepL l ≤ 11) then (formL l s).map fun q => (m + countL l, q) else none) (fun h l q m d s => ?_) (fun m d s hm => ?_) (fun t r x y m d s hm => ?_)
  · unfold passT formT
    rw [T.hd_mk, T.kids_mk, countT_mk, deepT_mk]
    by_cases h1 : 200 < m + 1
    · rw [if_pos (.inl h1), if_neg (by omega)]
    · by_cases h2 : 10 < d
      · rw [if_pos (.inr (.inl h2)), if_neg (by have := deep_le; omega)]
      · cases hk : okH h l with
        | false => rw [if_pos (.inr (.inr rfl)), if_pos rfl]; split <;> rfl
        | true =>
          rw [if_neg (by simp; omega)]
          simp only [reduceCtorEq, if_false]
          cases stepN h s with
          | none => split <;> rfl
          | some s1 =>
            simp only [Option.bind_some]
            rw [q (m + 1) (d + 1) s1 (by omega)]
            by_cases hl : l = []
            · subst hl
              rw [countL_nil, deepL_nil, formL_nil, if_pos ⟨by omega, .inl rfl⟩, if_pos ⟨by omega, by omega⟩]
              simp
            · by_cases hc : m + 1 + countL l ≤ 200 ∧ d + 1 + (deepL l : Int) ≤ 11
              · rw [if_pos ⟨hc.1, .inr hc.2⟩, if_pos ⟨by omega, by omega⟩]
                cases formL l s1 with
                | none => rfl
                | some g => simp; omega
              · rw [if_neg (by intro e; rcases e.2 with e2 | e2; exact hl e2; exact hc ⟨e.1, e2⟩), if_neg (by omega)]; rfl
  · rw [passL_nil, countL_nil, if_pos ⟨by omega, .inl rfl⟩, formL_nil]; rfl
  · rw [passL_cons, formL_cons, x m d s, countL_cons, deepL_cons]
    have hp := deepT_pos t
    by_cases hc : m + countT t ≤ 200 ∧ d + (deepT t : Int) ≤ 11
    · rw [if_pos hc]
      cases formT t s with
      | none => split <;> rfl
      | some g =>
        simp only [Option.map_some, Option.bind_some]
        rw [y _ d g hc.1]
        by_cases hr : r = []
        · subst hr
          rw [countL_nil, deepL_nil, if_pos ⟨by omega, .inl rfl⟩, if_pos ⟨by omega, .inr (by omega)⟩]
          simp
        · by_cases hc2 : m + countT t + countL r ≤ 200 ∧ d + (deepL r : Int) ≤ 11
          · rw [if_pos ⟨hc2.1, .inr hc2.2⟩, if_pos ⟨by omega, .inr (by omega)⟩]
            congr 1; funext q; congr 1; omega
          · rw [if_neg (by intro e; rcases e.2 with e2 | e2; exact hr e2; exact hc2 ⟨e.1, e2⟩), if_neg (by intro e; rcases e.2 with e2 | e2; cases e2; exact hc2 ⟨by omega, by omega⟩)]
    · rw [if_neg hc, if_neg (by intro e; rcases e.2 with e2 | e2; cases e2; exact hc ⟨by omega, by omega⟩)]; rfl
theorem formed_pass (t : T) : formedT t = (passT t 0 1 gs0).isSome := by
  rw [pass_form.1 t 0 1 gs0]
  unfold formedT
  by_cases h : countT t ≤ 200 ∧ deepT t ≤ 10
  · rw [if_pos ⟨by omega, by omega⟩, decide_eq_true h]; simp
  · rw [if_neg (by omega), decide_eq_false h]; rfl
/-- What the document asks of a node by itself: what its kind needs, and how many nodes stand in it. -/
def plainB (h : Hd) (l : List T) : Bool :=
  decide (1 ≤ h.k ∧ h.k ≤ 10) && sameH h (needH h) && decide (l.length = if h.k = 6 ∨ h.k = 10 then 1 else if h.k = 8 ∨ h.k = 9 then l.length else 0)
/-- Is the node right, but for its nodes and its number? -/
def switchB (h : Hd) (l : List T) : Bool :=
  if h.k = 8 then decide (l.length ≠ 1) else if h.k = 9 then decide (2 ≤ l.length)
  else if h.k = 10 then decide (0 ≤ h.lo ∧ h.lo ≤ 255 ∧ (h.hi = -1 ∨ h.lo ≤ h.hi ∧ h.hi ≤ 255)) && !hasK [4, 5, 10] l else true
/-- The reference's way: pk: the kind of the node in which they stand. -/
def walkB : BT P7 → Int → Gs → Option Gs
  | .nil, _, s => some s
  | .node c x0 p l r, pk, s =>
    if ((pk = 8 ∨ pk = 9) ∧ p.k = pk) ∨ plainB (p.hd c x0) (fl l) = false ∨ switchB (p.hd c x0) (fl l) = false then none
    else (stepN (p.hd c x0) s).bind fun s1 => (walkB l p.k s1).bind fun q => walkB r pk (endN (p.hd c x0) q)
def walkL (l : List T) (pk : Int) (s : Gs) : Option Gs := walkB (lf l) pk s
def walkT (t : T) (s : Gs) : Option Gs :=
  if plainB t.hd t.kids = false ∨ switchB t.hd t.kids = false then none else (stepN t.hd s).bind fun s1 => (walkL t.kids t.hd.k s1).bind fun q => some (endN t.hd q)
theorem walkL_nil (pk : Int) (s : Gs) : walkL [] pk s = some s := rfl
theorem walkL_cons (t : T) (r : List T) (pk : Int) (s : Gs) : walkL (t :: r) pk s = if (pk = 8 ∨ pk = 9) ∧ t.hd.k = pk then none else (walkT t s).bind fun q => walkL r pk q := by
  unfold walkL walkT walkL T.kids
  show (if ((pk = 8 ∨ pk = 9) ∧ t.hd.k = pk) ∨ plainB (t.hd.p.hd t.hd.c t.hd.x0) (fl t.kf) = false ∨ switchB (t.hd.p.hd t.hd.c t.hd.x0) (fl t.kf) = false then none else _) = _
  rw [show t.hd.p.hd t.hd.c t.hd.x0 = t.hd from rfl, lf_fl]
  by_cases h0 : (pk = 8 ∨ pk = 9) ∧ t.hd.k = pk
  · rw [if_pos (.inl h0), if_pos h0]
  · rw [if_neg h0]
    by_cases h : plainB t.hd (fl t.kf) = false ∨ switchB t.hd (fl t.kf) = false
    · rw [if_pos (.inr h), if_pos h]; rfl
    · rw [if_neg (by intro e; rcases e with e | e; exact h0 e; exact h e), if_neg h]
      cases stepN t.hd s with
      | none => rfl
      | some s1 =>
        show (walkB t.kf t.hd.p.k s1).bind _ = ((walkB t.kf t.hd.k s1).bind _).bind _
        rw [show t.hd.p.k = t.hd.k from rfl]
        cases walkB t.kf t.hd.k s1 with
        | none => rfl
        | some q => rfl
theorem ok_split (h : Hd) (l : List T) : okH h l = (plainB h l && switchB h l && !(decide (h.k = 8 ∨ h.k = 9) && hasK [h.k] l)) := by
  unfold okH plainB switchB partsB timesB
  cases sameH h (needH h)
  · simp
  · simp only [Bool.true_and, Bool.and_true]
    generalize h.k = k
    by_cases h1 : 1 ≤ k ∧ k ≤ 10
    · have : k = 1 ∨ k = 2 ∨ k = 3 ∨ k = 4 ∨ k = 5 ∨ k = 6 ∨ k = 7 ∨ k = 8 ∨ k = 9 ∨ k = 10 := by omega
      rcases this with rfl | rfl | rfl | rfl | rfl | rfl | rfl | rfl | rfl | rfl <;> simp [Bool.and_comm, Bool.and_assoc, Bool.and_left_comm]
    · rw [decide_eq_false h1]
      rw [if_neg (by omega), if_neg (by omega), if_neg (by omega), if_neg (by omega), if_neg (by omega)]; simp
theorem hasK_cons (ks : List Int) (t : T) (r : List T) : hasK ks (t :: r) = (ks.contains t.hd.k || hasK ks r) := rfl
/-- The reference's way comes to the same. -/
theorem walk_form : (∀ t, ∀ s, walkT t s = formT t s) ∧ ∀ l, ∀ pk s, walkL l pk s = if (pk = 8 ∨ pk = 9) ∧ hasK [pk] l = true then none else formL l s := by
  refine T.both (p := fun t => ∀ s, walkT t s = formT t s) (q := fun l => ∀ pk s, walkL l pk s = if (pk = 8 ∨ pk = 9) ∧ hasK [pk] l = true then none else formL l s) (fun h l q s => ?_) (fun pk s => ?_) (fun t r x y pk s => ?_)
  · unfold walkT formT
    rw [T.hd_mk, T.kids_mk, ok_split]
    cases hp : plainB h l with
    | false => simp
    | true =>
      cases hs : switchB h l with
      | false => simp
      | true =>
        simp only [Bool.true_and, Bool.not_eq_eq_eq_not, Bool.not_false, reduceCtorEq, or_self, if_false]
        by_cases hk : (h.k = 8 ∨ h.k = 9) ∧ hasK [h.k] l = true
        · rw [if_pos (by simp only [Bool.and_eq_true, decide_eq_true_eq]; exact hk)]
          cases stepN h s with
          | none => rfl
          | some s1 => simp only [Option.bind_some]; rw [q h.k s1, if_pos hk]; rfl
        · rw [if_neg (by simp only [Bool.and_eq_true, decide_eq_true_eq]; exact hk)]
          cases stepN h s with
          | none => rfl
          | some s1 => simp only [Option.bind_some]; rw [q h.k s1, if_neg hk]
  · rw [walkL_nil, formL_nil, if_neg (by simp [hasK])]
  · rw [walkL_cons, formL_cons, hasK_cons, x s]
    by_cases h0 : (pk = 8 ∨ pk = 9) ∧ t.hd.k = pk
    · rw [if_pos h0, if_pos ⟨h0.1, by simp [h0.2]⟩]
    · rw [if_neg h0]
      by_cases h1 : (pk = 8 ∨ pk = 9) ∧ hasK [pk] r = true
      · rw [if_pos ⟨h1.1, by rw [h1.2]; simp⟩]
        cases formT t s with
        | none => rfl
        | some g => simp only [Option.bind_some]; rw [y pk g, if_pos h1]
      · rw [if_neg (by intro e; have := e.2; simp only [Bool.or_eq_true, List.contains_iff_mem, List.mem_singleton] at this; rcases this with q | q; exact h0 ⟨e.1, q⟩; exact h1 ⟨e.1, q⟩)]
        cases formT t s with
        | none => rfl
        | some g => simp only [Option.bind_some]; rw [y pk g, if_neg h1]
theorem formed_walk (t : T) : formedT t = (decide (countT t ≤ 200 ∧ deepT t ≤ 10) && (walkT t gs0).isSome) := by rw [walk_form.1]; rfl
theorem stepN_len {h : Hd} {s s' : Gs} (e : stepN h s = some s') : s'.e = s.e := by
  unfold stepN at e
  split at e
  · split at e
    · injection e with e; rw [← e]
    · cases e
  · split at e
    · split at e
      · injection e with e; rw [← e]
      · cases e
    · injection e with e; rw [← e]
end Go.Proofs.Ytndmjndokokmnaa
