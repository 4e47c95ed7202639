import Derived.Test.YtndmjndokokmnaaPa
import Derived.Test.YtndmjndokokmnaaFa
namespace Go.Proofs.Ytndmjndokokmnaa
set_option linter.unusedSimpArgs false
set_option linter.unusedVariables false
/-- A pattern's text, as it is read: what stands in the repeats' brackets. -/
def digN : List UInt8 → Nat → Option Nat
  | [], n => some n
  | c :: r, n => if 48 ≤ c.toNat ∧ c.toNat ≤ 57 then digN r (min (n * 10 + (c.toNat - 48)) 256) else none
def numP (l : List UInt8) : Option Nat := if l = [] then none else match digN l 0 with
  | none => none
  | some n => if n ≤ 255 then some n else none
def timesQ (l : List UInt8) : Option (Nat × Int) :=
  match numP (Lib.cut l [44]).1 with
  | none => none
  | some m => if (Lib.cut l [44]).2.2 = false then some (m, (m : Int)) else if (Lib.cut l [44]).2.1 = [] then some (m, -1) else
    match numP (Lib.cut l [44]).2.1 with
    | none => none
    | some k => if m ≤ k then some (m, (k : Int)) else none
/-- What stands behind the opening of a counted repeat. -/
def countP (l : List UInt8) : Option (Nat × Int × List UInt8) :=
  if (Lib.cut l [92, 125]).2.2 then (timesQ (Lib.cut l [92, 125]).1).map fun x => (x.1, x.2, (Lib.cut l [92, 125]).2.1) else none
def hLit (c : UInt8) : Hd := ⟨1, c.toNat, 0, 0, 0, 0, 0, 0, 0⟩
def hIn (m : S4) : Hd := ⟨3, 0, m.a.toNat, m.b.toNat, m.c.toNat, m.d.toNat, 0, 0, 0⟩
def hGroup (n : Int) : Hd := ⟨6, 0, 0, 0, 0, 0, n, 0, 0⟩
def hBack (n : Int) : Hd := ⟨7, 0, 0, 0, 0, 0, n, 0, 0⟩
def hRep (a b : Int) : Hd := ⟨10, 0, 0, 0, 0, 0, 0, a, b⟩
def tBegin : T := .mk (Hd.of 4) []
def tRep (a b : Int) (t : T) : T := .mk (hRep a b) [t]
/-- What a part is read as: what came of it, how many groups began, what is left; or what stands where it is wrong. -/
def litB : List UInt8 := [46, 91, 93, 42, 94, 36, 47, 92, 38, 45]
def pairP (grp : Nat → List UInt8 → Except (List UInt8) (T × Nat × List UInt8)) (g : Nat) (l t : List UInt8) : Except (List UInt8) (T × Nat × List UInt8) :=
  match t with
  | [] => .error l
  | d :: t' =>
    if d = 40 then (if g = 9 then .error l else match grp (g + 1) t' with
      | .error r => .error r
      | .ok (n, g', r) => if pre [92, 41] r then .ok (.mk (hGroup ((g + 1 : Nat) : Int)) [n], g', r.drop 2) else .error r)
    else if 49 ≤ d.toNat ∧ d.toNat ≤ 57 then .ok (.mk (hBack ((d.toNat : Int) - 48)) [], g, t')
    else if d = 110 then .ok (.mk (hLit 10) [], g, t')
    else if litB.contains d then .ok (.mk (hLit d) [], g, t')
    else .error l
def atomP (grp : Nat → List UInt8 → Except (List UInt8) (T × Nat × List UInt8)) (first : Bool) (g : Nat) (l : List UInt8) : Except (List UInt8) (T × Nat × List UInt8) :=
  match l with
  | [] => .error []
  | c :: t =>
    if c = 92 then pairP grp g l t
    else if c = 91 then (match exprP t with
      | none => .error l
      | some (m, t') => .ok (.mk (hIn m) [], g, t'))
    else if c = 10 ∨ (c = 42 ∧ first = false) then .error l
    else if c = 46 then .ok (.mk (Hd.of 2) [], g, t)
    else if c = 36 ∧ (t = [] ∨ pre [92, 41] t = true) then .ok (.mk (Hd.of 5) [], g, t)
    else .ok (.mk (hLit c) [], g, t)
def repP (grp : Nat → List UInt8 → Except (List UInt8) (T × Nat × List UInt8)) (first : Bool) (g : Nat) (l : List UInt8) : Except (List UInt8) (T × Nat × List UInt8) :=
  match atomP grp first g l with
  | .error r => .error r
  | .ok (a, g', r) =>
    if pre [42] r then .ok (tRep 0 (-1) a, g', r.drop 1)
    else if pre [92, 123] r then (match countP (r.drop 2) with
      | none => .error r
      | some (m, k, r') => .ok (tRep (m : Int) k a, g', r'))
    else .ok (a, g', r)
/-- One more, but of a bound list no more than one beyond the bound. -/
def snocC (cap : Option Nat) (acc : List T) (t : T) : List T := match cap with
  | none => acc ++ [t]
  | some k => if acc.length ≤ k then acc ++ [t] else acc
def patP (lp : Bool → List T → Nat → List UInt8 → Except (List UInt8) (List T × Nat × List UInt8)) (g : Nat) (l : List UInt8) : Except (List UInt8) (T × Nat × List UInt8) :=
  match lp true (if pre [94] l then [tBegin] else []) g (if pre [94] l then l.drop 1 else l) with
  | .error r => .error r
  | .ok (acc, g', r) => .ok (joinT acc, g', r)
def loopP (cap : Option Nat) : Nat → Bool → List T → Nat → List UInt8 → Except (List UInt8) (List T × Nat × List UInt8)
  | 0, _, _, _, l => .error l
  | n + 1, first, acc, g, l =>
    if l = [] ∨ pre [92, 41] l = true then .ok (acc, g, l)
    else match repP (fun g l => patP (fun f a g l => loopP cap n f a g l) g l) first g l with
      | .error r => .error r
      | .ok (t, g', r) => loopP cap n false (snocC cap acc t) g' r
def patN (cap : Option Nat) (n : Nat) (g : Nat) (l : List UInt8) : Except (List UInt8) (T × Nat × List UInt8) := patP (loopP cap n) g l
theorem loopP_succ (cap : Option Nat) (n : Nat) (first : Bool) (acc : List T) (g : Nat) (l : List UInt8) : loopP cap (n + 1) first acc g l =
    if l = [] ∨ pre [92, 41] l = true then .ok (acc, g, l)
    else match repP (patN cap n) first g l with
      | .error r => .error r
      | .ok (t, g', r) => loopP cap n false (snocC cap acc t) g' r := rfl
def tNone : T := .mk (Hd.of 0) []
/-- What Parse hands back: the tree, the place, and the error. -/
def parseB (cap : Option Nat) (l : List UInt8) : T × Int × Int :=
  match patN cap (l.length + 1) 0 l with
  | .error r => (tNone, (l.length : Int) - r.length, 10)
  | .ok (t, g, r) => if r = [] then (if formedT t then (t, 0, 0) else (tNone, (l.length : Int), 10)) else (tNone, (l.length : Int) - r.length, 10)
/-- What is left is no longer; of a right part it is shorter. -/
def LenG (grp : Nat → List UInt8 → Except (List UInt8) (T × Nat × List UInt8)) (n : Nat) : Prop := ∀ g l, l.length < n → match grp g l with
  | .error r => r.length ≤ l.length
  | .ok (t, g', r) => r.length ≤ l.length ∧ countT t ≤ 1 + (l.length - r.length) ∧ g ≤ g' ∧ (g ≤ 9 → g' ≤ 9)
end Go.Proofs.Ytndmjndokokmnaa
namespace Go.Proofs.Ytndmjndokokmnaa
set_option linter.unusedSimpArgs false
set_option linter.unusedVariables false
/-- What is read is shorter, its nodes are no more than its bytes, and groups are counted up, to nine. -/
def Fine (g : Nat) (l : List UInt8) (res : Except (List UInt8) (T × Nat × List UInt8)) : Prop := match res with
  | .error r => r.length ≤ l.length
  | .ok (t, g', r) => r.length < l.length ∧ countT t + r.length ≤ l.length ∧ t.hd.k ≠ 8 ∧ g ≤ g' ∧ (g ≤ 9 → g' ≤ 9)
def FineP (g : Nat) (l : List UInt8) (res : Except (List UInt8) (T × Nat × List UInt8)) : Prop := match res with
  | .error r => r.length ≤ l.length
  | .ok (t, g', r) => r.length ≤ l.length ∧ countT t + r.length ≤ 1 + l.length ∧ g ≤ g' ∧ (g ≤ 9 → g' ≤ 9)
theorem count_leaf (h : Hd) : countT (.mk h []) = 1 := by rw [countT_mk, countL_nil]
theorem count_one (h : Hd) (t : T) : countT (.mk h [t]) = 1 + countT t := by rw [countT_mk, countL_cons, countL_nil]; omega
theorem pair_fine {grp : Nat → List UInt8 → Except (List UInt8) (T × Nat × List UInt8)} {n g : Nat} {l t : List UInt8} (hg : ∀ g l, l.length < n → FineP g l (grp g l)) (hl : l.length = t.length + 1) (hn : l.length ≤ n) : Fine g l (pairP grp g l t) := by
  unfold pairP
  match t, hl with
  | [], _ => exact Nat.le_refl _
  | d :: t', hl =>
    simp only [List.length_cons] at hl
    simp only
    split
    · split
      · exact Nat.le_refl _
      · have h := hg (g + 1) t' (by omega)
        cases hq : grp (g + 1) t' with
        | error r => rw [hq] at h; have h : r.length ≤ t'.length := h; show r.length ≤ l.length; omega
        | ok x =>
          obtain ⟨m, g', r⟩ := x
          rw [hq] at h
          obtain ⟨h1, h2, h3, h4⟩ : r.length ≤ t'.length ∧ countT m + r.length ≤ 1 + t'.length ∧ g + 1 ≤ g' ∧ (g + 1 ≤ 9 → g' ≤ 9) := h
          simp only
          split
          · rename_i hp
            have := pre_len hp
            refine ⟨?_, ?_, ?_, by omega, by omega⟩
            · simp at *; omega
            · rw [count_one]; simp at *; omega
            · simp [T.hd_mk, hGroup]
          · show r.length ≤ l.length; omega
    · split
      · refine ⟨by omega, by rw [count_leaf]; omega, by simp [T.hd_mk, hBack], Nat.le_refl _, id⟩
      · split
        · refine ⟨by omega, by rw [count_leaf]; omega, by simp [T.hd_mk, hLit], Nat.le_refl _, id⟩
        · split
          · refine ⟨by omega, by rw [count_leaf]; omega, by simp [T.hd_mk, hLit], Nat.le_refl _, id⟩
          · exact Nat.le_refl _
theorem members_le : ∀ (n : Nat) (first : Bool) (acc : S4) (l : List UInt8) (s : S4) (t : List UInt8), membersP n first acc l = some (s, t) → t.length ≤ l.length
  | 0, _, _, _, _, _, h => by simp [membersP] at h
  | n + 1, first, acc, l, s, t, h => by
    unfold membersP at h
    split at h
    · simp only [Option.some.injEq, Prod.mk.injEq] at h
      rw [← h.2, List.length_drop]; omega
    · split at h
      · cases h
      · rename_i m t' hm
        have := memberP_lt hm
        have := members_le n _ _ _ _ _ h
        omega
theorem expr_le {l : List UInt8} {s : S4} {t : List UInt8} (h : exprP l = some (s, t)) : t.length ≤ l.length := by
  rw [exprP_eq] at h
  split at h
  · obtain ⟨x, hx, hq⟩ := Option.map_eq_some_iff.1 h
    have := members_le _ _ _ _ _ _ (show membersP _ _ _ _ = some (x.1, x.2) from hx)
    simp only [Prod.mk.injEq] at hq
    rw [← hq.2]; simp at this; omega
  · exact members_le _ _ _ _ _ _ h
theorem atom_fine {grp : Nat → List UInt8 → Except (List UInt8) (T × Nat × List UInt8)} {n g : Nat} {first : Bool} {l : List UInt8} (hg : ∀ g l, l.length < n → FineP g l (grp g l)) (hn : l.length ≤ n) : Fine g l (atomP grp first g l) := by
  unfold atomP
  match l, hn with
  | [], _ => exact Nat.le_refl _
  | c :: t, hn =>
    simp only
    split
    · exact pair_fine hg rfl hn
    · split
      · cases he : exprP t with
        | none => exact Nat.le_refl _
        | some x =>
          obtain ⟨m, t'⟩ := x
          have := expr_le he
          refine ⟨by simp; omega, by rw [count_leaf]; simp; omega, by simp [T.hd_mk, hIn], Nat.le_refl _, id⟩
      · split
        · exact Nat.le_refl _
        · split
          · refine ⟨by simp, by rw [count_leaf]; simp; omega, by simp [T.hd_mk, Hd.of], Nat.le_refl _, id⟩
          · split
            · refine ⟨by simp, by rw [count_leaf]; simp; omega, by simp [T.hd_mk, Hd.of], Nat.le_refl _, id⟩
            · refine ⟨by simp, by rw [count_leaf]; simp; omega, by simp [T.hd_mk, hLit], Nat.le_refl _, id⟩
theorem cutx_lt (l p : List UInt8) (h : (Lib.cut l p).2.2 = true) : (Lib.cut l p).2.1.length + p.length ≤ l.length := by
  unfold Lib.cut at h ⊢
  split
  · rename_i hp
    have := Lib.index_room l p hp
    simp at *; omega
  · rename_i hp; simp [hp] at h
theorem countP_lt {l r : List UInt8} {m : Nat} {k : Int} (h : countP l = some (m, k, r)) : r.length + 2 ≤ l.length := by
  unfold countP at h
  split at h
  · rename_i hf
    have := cutx_lt _ _ hf
    obtain ⟨x, hx, hq⟩ := Option.map_eq_some_iff.1 h
    simp only [Prod.mk.injEq] at hq
    rw [← hq.2.2]; simpa using this
  · cases h
theorem rep_fine {grp : Nat → List UInt8 → Except (List UInt8) (T × Nat × List UInt8)} {n g : Nat} {first : Bool} {l : List UInt8} (hg : ∀ g l, l.length < n → FineP g l (grp g l)) (hn : l.length ≤ n) : Fine g l (repP grp first g l) := by
  have h := atom_fine (first := first) (g := g) hg hn
  unfold repP
  cases hq : atomP grp first g l with
  | error r => rw [hq] at h; exact h
  | ok x =>
    obtain ⟨a, g', r⟩ := x
    rw [hq] at h
    obtain ⟨h1, h2, h3, h4, h5⟩ := h
    simp only
    split
    · rename_i hp
      have := pre_len hp
      refine ⟨by simp at *; omega, ?_, by simp [tRep, T.hd_mk, hRep], h4, h5⟩
      unfold tRep; rw [count_one]; simp at *; omega
    · split
      · rename_i hp
        have := pre_len hp
        cases hc : countP (r.drop 2) with
        | none => exact Nat.le_of_lt h1
        | some y =>
          obtain ⟨m, k, r'⟩ := y
          have := countP_lt hc
          refine ⟨by simp at *; omega, ?_, by simp [tRep, T.hd_mk, hRep], h4, h5⟩
          unfold tRep; rw [count_one]; simp at *; omega
      · exact ⟨h1, h2, h3, h4, h5⟩
theorem snocC_count (cap : Option Nat) (acc : List T) (t : T) : countL (snocC cap acc t) ≤ countL acc + countT t := by
  unfold snocC
  split
  · rw [countL_append, countL_cons, countL_nil]; omega
  · split
    · rw [countL_append, countL_cons, countL_nil]; omega
    · omega
/-- What a run of a loop keeps. -/
def FineL (acc : List T) (g : Nat) (l : List UInt8) (res : Except (List UInt8) (List T × Nat × List UInt8)) : Prop := match res with
  | .error r => r.length ≤ l.length
  | .ok (acc', g', r) => r.length ≤ l.length ∧ countL acc' + r.length ≤ countL acc + l.length ∧ g ≤ g' ∧ (g ≤ 9 → g' ≤ 9)
theorem joinT_count2 (l : List T) : countT (joinT l) ≤ 1 + countL l := by
  have h1 : countT (onlyT 8 (flatK 8 l)) ≤ 1 + countL (flatK 8 l) := by
    match flatK 8 l with
    | [] => rw [show onlyT 8 [] = .mk (Hd.of 8) [] from rfl, countT_mk]; omega
    | [t] => rw [show onlyT 8 [t] = t from rfl, countL_cons]; omega
    | a :: b :: r => rw [show onlyT 8 (a :: b :: r) = .mk (Hd.of 8) (a :: b :: r) from rfl, countT_mk]; omega
  have h2 : ∀ l : List T, countL (flatK 8 l) ≤ countL l := by
    intro l
    induction l with
    | nil => exact Nat.le_refl _
    | cons t r ih =>
      simp only [flatK, countL_append, countL_cons]
      split
      · have : countT t = 1 + countL t.kids := by conv => lhs; rw [t.eta, countT_mk]
        omega
      · simp only [countL_cons, countL_nil]; omega
  have := h2 l
  unfold joinT; omega
theorem loop_fine (cap : Option Nat) : ∀ n, (∀ (first : Bool) (acc : List T) (g : Nat) (l : List UInt8), l.length < n → FineL acc g l (loopP cap n first acc g l)) ∧ ∀ g l, l.length < n → FineP g l (patN cap n g l)
  | 0 => ⟨fun _ _ _ _ h => absurd h (Nat.not_lt_zero _), fun _ _ h => absurd h (Nat.not_lt_zero _)⟩
  | n + 1 => by
    have ih := loop_fine cap n
    have h1 : ∀ (first : Bool) (acc : List T) (g : Nat) (l : List UInt8), l.length < n + 1 → FineL acc g l (loopP cap (n + 1) first acc g l) := by
      intro first acc g l hl
      rw [loopP_succ]
      split
      · exact ⟨Nat.le_refl _, Nat.le_refl _, Nat.le_refl _, id⟩
      · have hr := rep_fine (first := first) (g := g) (l := l) (grp := patN cap n) ih.2 (by omega)
        cases hq : repP (patN cap n) first g l with
        | error r => rw [hq] at hr; exact hr
        | ok x =>
          obtain ⟨t, g', r⟩ := x
          rw [hq] at hr
          obtain ⟨a1, a2, a3, a4, a5⟩ := hr
          have h2 := ih.1 false (snocC cap acc t) g' r (by omega)
          have hs := snocC_count cap acc t
          simp only
          cases hw : loopP cap n false (snocC cap acc t) g' r with
          | error r2 => rw [hw] at h2; have h2 : r2.length ≤ r.length := h2; show r2.length ≤ l.length; omega
          | ok y =>
            obtain ⟨acc', g2, r2⟩ := y
            rw [hw] at h2
            obtain ⟨b1, b2, b3, b4⟩ := h2
            exact ⟨by omega, by omega, by omega, fun q => b4 (a5 q)⟩
    refine ⟨h1, fun g l hl => ?_⟩
    unfold patN patP
    have hb : countL [tBegin] = 1 := rfl
    by_cases hp : pre [94] l = true
    · have := pre_len hp
      rw [if_pos hp, if_pos hp]
      have h2 := h1 true [tBegin] g (l.drop 1) (by simp; omega)
      cases hw : loopP cap (n + 1) true [tBegin] g (l.drop 1) with
      | error r2 => rw [hw] at h2; have h2 : r2.length ≤ (l.drop 1).length := h2; show r2.length ≤ l.length; simp at h2; omega
      | ok y =>
        obtain ⟨acc', g2, r2⟩ := y
        rw [hw] at h2
        obtain ⟨b1, b2, b3, b4⟩ := h2
        have := joinT_count2 acc'
        simp at *
        exact ⟨by omega, by omega, by omega, b4⟩
    · rw [if_neg hp, if_neg hp]
      have h2 := h1 true [] g l hl
      cases hw : loopP cap (n + 1) true [] g l with
      | error r2 => rw [hw] at h2; exact h2
      | ok y =>
        obtain ⟨acc', g2, r2⟩ := y
        rw [hw] at h2
        obtain ⟨b1, b2, b3, b4⟩ := h2
        have := joinT_count2 acc'
        rw [countL_nil] at b2
        exact ⟨by omega, by omega, by omega, b4⟩
end Go.Proofs.Ytndmjndokokmnaa
