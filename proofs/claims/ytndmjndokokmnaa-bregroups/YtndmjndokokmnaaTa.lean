import Derived.Test.YtndmjndokokmnaaRows
import Derived.Deep.Trees
namespace Go.Proofs.Ytndmjndokokmnaa
set_option linter.unusedSimpArgs false
set_option linter.unusedVariables false
open Go.Deep
/-- What a node has beside its nodes, its byte and the first word of its set. -/
structure P7 where
  k : Int
  x1 : Int
  x2 : Int
  x3 : Int
  n : Int
  lo : Int
  hi : Int
/-- What a node has beside its nodes. -/
structure Hd where
  k : Int
  c : Nat
  x0 : Nat
  x1 : Int
  x2 : Int
  x3 : Int
  n : Int
  lo : Int
  hi : Int
def Hd.p (h : Hd) : P7 := ⟨h.k, h.x1, h.x2, h.x3, h.n, h.lo, h.hi⟩
def P7.hd (p : P7) (c x0 : Nat) : Hd := ⟨p.k, c, x0, p.x1, p.x2, p.x3, p.n, p.lo, p.hi⟩
/-- A tree: what it has, and the nodes in it as a binary tree of the library's: left what is in the first node, right the nodes behind it. -/
structure T where of ::
  hd : Hd
  kf : BT P7
def fl : BT P7 → List T
  | .nil => []
  | .node c x0 p l r => ⟨p.hd c x0, l⟩ :: fl r
def lf : List T → BT P7
  | [] => .nil
  | t :: r => .node t.hd.c t.hd.x0 t.hd.p t.kf (lf r)
theorem fl_lf : ∀ l : List T, fl (lf l) = l
  | [] => rfl
  | t :: r => by simp only [lf, fl, fl_lf r]; rfl
theorem lf_fl : ∀ f : BT P7, lf (fl f) = f
  | .nil => rfl
  | .node c x0 p l r => by simp only [lf, fl, lf_fl r]; rfl
def T.mk (h : Hd) (l : List T) : T := ⟨h, lf l⟩
def T.kids (t : T) : List T := fl t.kf
theorem T.kids_mk (h : Hd) (l : List T) : (T.mk h l).kids = l := fl_lf l
theorem T.hd_mk (h : Hd) (l : List T) : (T.mk h l).hd = h := rfl
theorem T.eta (t : T) : t = .mk t.hd t.kids := by obtain ⟨h, f⟩ := t; simp only [T.mk, T.kids, lf_fl]
theorem T.out (t : T) : ∃ h l, t = T.mk h l := ⟨_, _, t.eta⟩
theorem T.inj {h h' : Hd} {l l' : List T} (e : T.mk h l = T.mk h' l') : h = h' ∧ l = l' :=
  ⟨by have := congrArg T.hd e; exact this, by have := congrArg T.kids e; rwa [T.kids_mk, T.kids_mk] at this⟩
theorem T.both {p : T → Prop} {q : List T → Prop} (h1 : ∀ h l, q l → p (.mk h l)) (h2 : q []) (h3 : ∀ t r, p t → q r → q (t :: r)) : (∀ t, p t) ∧ ∀ l, q l := by
  have a : ∀ f : BT P7, q (fl f) := fun f => by
    induction f with
    | nil => exact h2
    | node c x0 p' l r ihl ihr =>
      refine h3 _ _ ?_ ihr
      have := h1 (p'.hd c x0) (fl l) ihl
      unfold T.mk at this
      rw [lf_fl] at this
      exact this
  refine ⟨fun t => ?_, fun l => ?_⟩
  · rw [t.eta]; exact h1 _ _ (a _)
  · have := a (lf l); rwa [fl_lf] at this
/-- By the nodes in it. -/
theorem T.ind {p : T → Prop} (h : ∀ hd l, (∀ t ∈ l, p t) → p (.mk hd l)) : ∀ t, p t :=
  (T.both (p := p) (q := fun l => ∀ t ∈ l, p t) (fun hd l q => h hd l q) (fun t q => by cases q) (fun t r a b x hx => by
    rcases List.mem_cons.1 hx with rfl | q
    · exact a
    · exact b x q)).1
def countB : BT P7 → Nat
  | .nil => 0
  | .node _ _ _ l r => (1 + countB l) + countB r
def countT (t : T) : Nat := 1 + countB t.kf
def countL (l : List T) : Nat := countB (lf l)
theorem countT_mk (h : Hd) (l : List T) : countT (.mk h l) = 1 + countL l := rfl
theorem countL_nil : countL [] = 0 := rfl
theorem countL_cons (t : T) (r : List T) : countL (t :: r) = countT t + countL r := rfl
def deepB : BT P7 → Nat
  | .nil => 0
  | .node _ _ _ l r => max (1 + deepB l) (deepB r)
def deepT (t : T) : Nat := 1 + deepB t.kf
def deepL (l : List T) : Nat := deepB (lf l)
theorem deepT_mk (h : Hd) (l : List T) : deepT (.mk h l) = 1 + deepL l := rfl
theorem deepL_nil : deepL [] = 0 := rfl
theorem deepL_cons (t : T) (r : List T) : deepL (t :: r) = max (deepT t) (deepL r) := rfl
def groupsB : BT P7 → Nat
  | .nil => 0
  | .node _ _ p l r => ((if p.k = 6 then 1 else 0) + groupsB l) + groupsB r
def groupsT (t : T) : Nat := (if t.hd.k = 6 then 1 else 0) + groupsB t.kf
def groupsL (l : List T) : Nat := groupsB (lf l)
theorem groupsT_mk (h : Hd) (l : List T) : groupsT (.mk h l) = (if h.k = 6 then 1 else 0) + groupsL l := rfl
theorem groupsL_nil : groupsL [] = 0 := rfl
theorem groupsL_cons (t : T) (r : List T) : groupsL (t :: r) = groupsT t + groupsL r := rfl
theorem countT_pos (t : T) : 0 < countT t := by rw [t.eta, countT_mk]; omega
theorem deep_le : (∀ t, deepT t ≤ countT t) ∧ ∀ l, deepL l ≤ countL l :=
  T.both (fun h l q => by simp only [deepT_mk, countT_mk]; omega) (by simp [deepL_nil, countL_nil, deepL_cons, countL_cons]) (fun t r a b => by simp only [deepL_nil, countL_nil, deepL_cons, countL_cons]; omega)
theorem groups_le : (∀ t, groupsT t ≤ countT t) ∧ ∀ l, groupsL l ≤ countL l :=
  T.both (fun h l q => by simp only [groupsT_mk, countT_mk]; split <;> omega) (by simp [groupsL_nil, countL_nil, groupsL_cons, countL_cons]) (fun t r a b => by simp only [groupsL_nil, countL_nil, groupsL_cons, countL_cons]; omega)
theorem countL_append (a b : List T) : countL (a ++ b) = countL a + countL b := by
  induction a with
  | nil => simp [countL_nil, countL_cons]
  | cons t r ih => simp only [List.cons_append, countL_cons, ih]; omega
theorem deepL_append (a b : List T) : deepL (a ++ b) = max (deepL a) (deepL b) := by
  induction a with
  | nil => simp [deepL_nil, deepL_cons]
  | cons t r ih => simp only [List.cons_append, deepL_cons, ih]; omega
theorem groupsL_append (a b : List T) : groupsL (a ++ b) = groupsL a + groupsL b := by
  induction a with
  | nil => simp [groupsL_nil, groupsL_cons]
  | cons t r ih => simp only [List.cons_append, groupsL_cons, ih]; omega
theorem len_le_countL (l : List T) : l.length ≤ countL l := by
  induction l with
  | nil => simp
  | cons t r ih => simp only [List.length_cons, countL_cons]; have := countT_pos t; omega
theorem take_snocT (l : List T) (k : Nat) (t : T) (h : l[k]? = some t) : l.take (k + 1) = l.take k ++ [t] := by
  rw [List.take_add_one, h]; rfl
theorem countL_take (l : List T) (k : Nat) (t : T) (h : l[k]? = some t) : countL (l.take (k + 1)) = countL (l.take k) + countT t := by
  rw [take_snocT l k t h, countL_append]; simp [countL_nil, countL_cons]
theorem deepL_take (l : List T) (k : Nat) (t : T) (h : l[k]? = some t) : deepL (l.take (k + 1)) = max (deepL (l.take k)) (deepT t) := by
  rw [take_snocT l k t h, deepL_append]; simp [deepL_nil, deepL_cons]
theorem groupsL_take (l : List T) (k : Nat) (t : T) (h : l[k]? = some t) : groupsL (l.take (k + 1)) = groupsL (l.take k) + groupsT t := by
  rw [take_snocT l k t h, groupsL_append]; simp [groupsL_nil, groupsL_cons]
theorem countL_take_le (l : List T) (k : Nat) : countL (l.take k) ≤ countL l := by
  have := countL_append (l.take k) (l.drop k); rw [List.take_append_drop] at this; omega
theorem count_mem {l : List T} {t : T} (h : t ∈ l) : countT t ≤ countL l := by
  induction l with
  | nil => cases h
  | cons x r ih =>
    simp only [countL_cons]
    rcases List.mem_cons.1 h with rfl | q
    · omega
    · have := ih q; omega
/-- The greatest number that Least tells. -/
def mostI : Int := 2147483647
/-- So many bytes so often. -/
def timesI (often bytes : Int) : Int := if often < 1 ∨ bytes = 0 then 0 else if mostI / bytes < often then mostI else often * bytes
/-- What Least asks of a node's nodes: whether there are none; the first one's; the sum, and the least one, from a number on. -/
structure Lst where
  none : Bool
  first : Int
  sum : Int → Int
  mn : Int → Int
def leastH (k lo : Int) (L : Lst) : Int := if k = 1 ∨ k = 2 ∨ k = 3 then 1 else if k = 6 then L.first else if k = 10 then timesI lo L.first else if k = 8 then L.sum 0 else if k = 9 then (if L.none then 0 else L.mn mostI) else 0
def leastB : BT P7 → Lst
  | .nil => ⟨true, 0, fun a => a, fun a => a⟩
  | .node _ _ p l r => ⟨false, leastH p.k p.lo (leastB l), fun a => (leastB r).sum (min mostI (a + leastH p.k p.lo (leastB l))), fun a => (leastB r).mn (min a (leastH p.k p.lo (leastB l)))⟩
def leastT (t : T) : Int := leastH t.hd.k t.hd.lo (leastB t.kf)
def firstL (l : List T) : Int := (leastB (lf l)).first
def sumF (a : Int) (l : List T) : Int := (leastB (lf l)).sum a
def minF (a : Int) (l : List T) : Int := (leastB (lf l)).mn a
theorem none_iff (l : List T) : (leastB (lf l)).none = decide (l = []) := by cases l <;> rfl
theorem leastT_mk (h : Hd) (l : List T) : leastT (.mk h l) = if h.k = 1 ∨ h.k = 2 ∨ h.k = 3 then 1 else if h.k = 6 then firstL l else if h.k = 10 then timesI h.lo (firstL l) else if h.k = 8 then sumF 0 l else if h.k = 9 then (if l = [] then 0 else minF mostI l) else 0 := by
  have := none_iff l
  unfold leastT leastH T.mk firstL sumF minF
  simp only [this, decide_eq_true_eq]
theorem firstL_nil : firstL [] = 0 := rfl
theorem firstL_cons (t : T) (r : List T) : firstL (t :: r) = leastT t := rfl
theorem sumF_nil (a : Int) : sumF a [] = a := rfl
theorem sumF_cons (a : Int) (t : T) (r : List T) : sumF a (t :: r) = sumF (min mostI (a + leastT t)) r := rfl
theorem minF_nil (a : Int) : minF a [] = a := rfl
theorem minF_cons (a : Int) (t : T) (r : List T) : minF a (t :: r) = minF (min a (leastT t)) r := rfl
theorem timesI_bd (o b : Int) (hb : 0 ≤ b) : 0 ≤ timesI o b ∧ timesI o b ≤ mostI := by
  unfold timesI
  split
  · simp [mostI]
  · split
    · simp [mostI]
    · rename_i h1 h2
      have hb' : 0 < b := by omega
      have ho : 1 ≤ o := by omega
      have := Int.mul_le_mul_of_nonneg_right (Int.not_lt.1 h2) hb
      have h3 := Int.ediv_mul_le mostI (show b ≠ 0 by omega)
      exact ⟨Int.mul_nonneg (by omega) hb, by omega⟩
theorem least_bd : (∀ t, 0 ≤ leastT t ∧ leastT t ≤ mostI) ∧ ∀ l : List T, (0 ≤ firstL l ∧ firstL l ≤ mostI) ∧ (∀ a, 0 ≤ a → a ≤ mostI → 0 ≤ sumF a l ∧ sumF a l ≤ mostI) ∧ (∀ a, 0 ≤ a → a ≤ mostI → 0 ≤ minF a l ∧ minF a l ≤ mostI) := by
  refine T.both (fun h l q => ?_) ?_ (fun t r a b => ?_)
  · obtain ⟨q1, q2, q3⟩ := q
    have z0 : (0 : Int) ≤ 0 := by omega
    have z1 : (0 : Int) ≤ mostI := by simp [mostI]
    simp only [leastT_mk]
    split
    · simp [mostI]
    · split
      · exact q1
      · split
        · exact timesI_bd _ _ q1.1
        · split
          · exact q2 0 z0 z1
          · split
            · split
              · exact ⟨z0, z1⟩
              · exact q3 mostI z1 (by omega)
            · exact ⟨z0, z1⟩
  · refine ⟨?_, fun a h1 h2 => ?_, fun a h1 h2 => ?_⟩
    · simp [firstL_nil, mostI]
    · simpa [sumF_nil] using ⟨h1, h2⟩
    · simpa [minF_nil] using ⟨h1, h2⟩
  · obtain ⟨b1, b2, b3⟩ := b
    refine ⟨?_, fun x h1 h2 => ?_, fun x h1 h2 => ?_⟩
    · simpa [firstL_cons] using a
    · simp only [sumF_cons]; exact b2 _ (by omega) (by omega)
    · simp only [minF_cons]; exact b3 _ (by omega) (by omega)
def sameH (h g : Hd) : Bool := h.k == g.k && h.c == g.c && h.x0 == g.x0 && h.x1 == g.x1 && h.x2 == g.x2 && h.x3 == g.x3 && h.n == g.n && h.lo == g.lo && h.hi == g.hi
theorem sameH_iff (h g : Hd) : sameH h g = true ↔ h = g := by
  obtain ⟨a1, a2, a3, a4, a5, a6, a7, a8, a9⟩ := h
  obtain ⟨b1, b2, b3, b4, b5, b6, b7, b8, b9⟩ := g
  simp only [sameH, Bool.and_eq_true, beq_iff_eq, Hd.mk.injEq]
  constructor
  · rintro ⟨⟨⟨⟨⟨⟨⟨⟨q1, q2⟩, q3⟩, q4⟩, q5⟩, q6⟩, q7⟩, q8⟩, q9⟩; exact ⟨q1, q2, q3, q4, q5, q6, q7, q8, q9⟩
  · rintro ⟨q1, q2, q3, q4, q5, q6, q7, q8, q9⟩; exact ⟨⟨⟨⟨⟨⟨⟨⟨q1, q2⟩, q3⟩, q4⟩, q5⟩, q6⟩, q7⟩, q8⟩, q9⟩
def sameB : BT P7 → BT P7 → Bool
  | .nil, .nil => true
  | .node c x0 p l r, .node c' x0' p' l' r' => (sameH (p.hd c x0) (p'.hd c' x0') && sameB l l') && sameB r r'
  | _, _ => false
def sameT (t u : T) : Bool := sameH t.hd u.hd && sameB t.kf u.kf
def sameL (l m : List T) : Bool := sameB (lf l) (lf m)
theorem sameT_mk (h h' : Hd) (l l' : List T) : sameT (.mk h l) (.mk h' l') = (sameH h h' && sameL l l') := rfl
theorem sameL_nil : sameL [] [] = true := rfl
theorem sameL_cons (a b : T) (r s : List T) : sameL (a :: r) (b :: s) = (sameT a b && sameL r s) := rfl
theorem sameL_nc (b : T) (s : List T) : sameL [] (b :: s) = false := rfl
theorem sameL_cn (b : T) (s : List T) : sameL (b :: s) [] = false := rfl
theorem same_refl : (∀ t, sameT t t = true) ∧ ∀ l, sameL l l = true :=
  T.both (fun h l q => by rw [sameT_mk, q, (sameH_iff h h).2 rfl]; rfl) rfl (fun t r a b => by rw [sameL_cons, a, b]; rfl)
theorem same_eq : (∀ t u, sameT t u = true → t = u) ∧ ∀ l m, sameL l m = true → l = m := by
  refine T.both (p := fun t => ∀ u, sameT t u = true → t = u) (q := fun l => ∀ m, sameL l m = true → l = m) (fun h l q u hu => ?_) (fun m hm => ?_) (fun t r a b m hm => ?_)
  · obtain ⟨h', l', rfl⟩ := u.out
    rw [sameT_mk, Bool.and_eq_true] at hu; rw [(sameH_iff h h').1 hu.1, q _ hu.2]
  · cases m with
    | nil => rfl
    | cons x s => rw [sameL_nc] at hm; cases hm
  · cases m with
    | nil => rw [sameL_cn] at hm; cases hm
    | cons x s => rw [sameL_cons, Bool.and_eq_true] at hm; rw [a _ hm.1, b _ hm.2]
theorem sameT_iff (t u : T) : sameT t u = true ↔ t = u := ⟨same_eq.1 t u, fun e => by rw [e]; exact same_refl.1 u⟩
theorem sameL_iff (t u : List T) : sameL t u = true ↔ t = u := ⟨same_eq.2 t u, fun e => by rw [e]; exact same_refl.2 u⟩
theorem sameT_comm (t u : T) : sameT t u = sameT u t := by
  rw [Bool.eq_iff_iff, sameT_iff, sameT_iff]; exact ⟨fun h => h.symm, fun h => h.symm⟩
/-- With the nodes of those of a kind in their places. -/
def flatK (k : Int) : List T → List T
  | [] => []
  | t :: r => (if t.hd.k = k then t.kids else [t]) ++ flatK k r
theorem flatK_append (k : Int) (a b : List T) : flatK k (a ++ b) = flatK k a ++ flatK k b := by
  induction a with
  | nil => rfl
  | cons t r ih => simp only [List.cons_append, flatK, ih, List.append_assoc]
theorem flatK_take (k : Int) (l : List T) (i : Nat) (t : T) (h : l[i]? = some t) : flatK k (l.take (i + 1)) = flatK k (l.take i) ++ (if t.hd.k = k then t.kids else [t]) := by
  rw [take_snocT l i t h, flatK_append]; simp [flatK]
def Hd.of (k : Int) : Hd := ⟨k, 0, 0, 0, 0, 0, 0, 0, 0⟩
def onlyT (k : Int) : List T → T
  | [t] => t
  | l => .mk (Hd.of k) l
def joinT (l : List T) : T := onlyT 8 (flatK 8 l)
def eitherT (l : List T) : T := if (flatK 9 l).length = 0 then .mk (Hd.of 8) [] else onlyT 9 (flatK 9 l)
/-- How many are left behind a tree; 0: it is too great. -/
def bndZ (a : Int) : Int := max a 0
def bndB : BT P7 → Nat → Int → Int
  | .nil, _, left => left
  | .node _ _ _ l r, d, left => if left ≤ 0 then 0 else bndB r d (if d = 0 then 0 else bndZ (bndB l (d - 1) (left - 1)))
def bndF (d : Nat) (left : Int) (l : List T) : Int := bndB (lf l) d left
def bndT (d : Nat) (left : Int) (t : T) : Int := if d = 0 then 0 else bndZ (bndB t.kf (d - 1) (left - 1))
theorem bndT_mk (d : Nat) (left : Int) (h : Hd) (l : List T) : bndT d left (.mk h l) = if d = 0 then 0 else bndZ (bndF (d - 1) (left - 1) l) := rfl
theorem bndF_nil (d : Nat) (left : Int) : bndF d left [] = left := rfl
theorem bndF_cons (d : Nat) (left : Int) (t : T) (r : List T) : bndF d left (t :: r) = if left ≤ 0 then 0 else bndF d (bndT d left t) r := rfl
theorem bnd_count : (∀ t, ∀ d a, 0 < bndT d a t → bndT d a t = a - countT t) ∧ ∀ l, ∀ d a, 0 < bndF d a l → bndF d a l = a - countL l := by
  refine T.both (fun h l q d a hp => ?_) (fun d a hp => ?_) (fun t r x y d a hp => ?_)
  · simp only [bndT_mk] at hp ⊢
    split at hp
    · omega
    · rename_i hd
      rw [if_neg hd]
      unfold bndZ at hp ⊢
      have := q (d - 1) (a - 1) (by omega)
      simp only [countT_mk]
      omega
  · simp [bndF_nil, countL_nil]
  · simp only [bndF_cons] at hp ⊢
    split at hp
    · omega
    · rename_i hl
      rw [if_neg hl]
      have h1 := y d (bndT d a t) hp
      have hpos : 0 < bndT d a t := by
        rcases Int.lt_or_le 0 (bndT d a t) with h | h
        · exact h
        · exfalso
          cases r with
          | nil => simp [bndF_nil] at hp; omega
          | cons t2 r2 => simp only [bndF_cons] at hp; rw [if_pos h] at hp; omega
      have h2 := x d a hpos
      simp only [countL_cons]
      omega
def fewT (t : T) : Bool := decide (0 < bndT 40 400 t)
theorem few_count {t : T} (h : fewT t = true) : countT t < 400 := by
  unfold fewT at h
  have h := of_decide_eq_true h
  have := bnd_count.1 t 40 400 h
  omega
end Go.Proofs.Ytndmjndokokmnaa
