import Derived.Test.YtndmjndokokmnaaRows
import Derived.Lib.IndexMore
namespace Go.Proofs.Ytndmjndokokmnaa
set_option linter.unusedSimpArgs false
set_option linter.unusedVariables false
/-- A set of bytes: four words of 64 bits. -/
structure S4 where
  a : BitVec 64
  b : BitVec 64
  c : BitVec 64
  d : BitVec 64
def S4.zero : S4 := ⟨0#64, 0#64, 0#64, 0#64⟩
def S4.or (s t : S4) : S4 := ⟨s.a ||| t.a, s.b ||| t.b, s.c ||| t.c, s.d ||| t.d⟩
def S4.not (s : S4) : S4 := ⟨~~~s.a, ~~~s.b, ~~~s.c, ~~~s.d⟩
/-- With the byte k. -/
def S4.bit (s : S4) (k : Nat) : S4 :=
  if k < 64 then ⟨s.a ||| 1#64 <<< k, s.b, s.c, s.d⟩
  else if k < 128 then ⟨s.a, s.b ||| 1#64 <<< (k - 64), s.c, s.d⟩
  else if k < 192 then ⟨s.a, s.b, s.c ||| 1#64 <<< (k - 128), s.d⟩
  else ⟨s.a, s.b, s.c, s.d ||| 1#64 <<< (k - 192)⟩
/-- With n bytes from f on. -/
def S4.run (s : S4) (f : Nat) : Nat → S4
  | 0 => s
  | n + 1 => (S4.run s f n).bit (f + n)
/-- With all bytes from f to t. -/
def S4.rng (s : S4) (f t : Nat) : S4 := s.run f (t + 1 - f)
def S4.has (s : S4) (k : Nat) : Bool :=
  if k < 64 then s.a.getLsbD k else if k < 128 then s.b.getLsbD (k - 64) else if k < 192 then s.c.getLsbD (k - 128) else s.d.getLsbD (k - 192)
theorem S4.same {s t : S4} (h : ∀ k, k < 256 → s.has k = t.has k) : s = t := by
  obtain ⟨a, b, c, d⟩ := s
  obtain ⟨a', b', c', d'⟩ := t
  have ha : a = a' := BitVec.eq_of_getLsbD_eq fun i hi => by
    have := h i (by omega); simpa [S4.has, hi] using this
  have hb : b = b' := BitVec.eq_of_getLsbD_eq fun i hi => by
    have := h (64 + i) (by omega)
    simpa [S4.has, show ¬ 64 + i < 64 by omega, show 64 + i < 128 by omega, show 64 + i - 64 = i by omega] using this
  have hc : c = c' := BitVec.eq_of_getLsbD_eq fun i hi => by
    have := h (128 + i) (by omega)
    simpa [S4.has, show ¬ 128 + i < 64 by omega, show ¬ 128 + i < 128 by omega, show 128 + i < 192 by omega, show 128 + i - 128 = i by omega] using this
  have hd : d = d' := BitVec.eq_of_getLsbD_eq fun i hi => by
    have := h (192 + i) (by omega)
    simpa [S4.has, show ¬ 192 + i < 64 by omega, show ¬ 192 + i < 128 by omega, show ¬ 192 + i < 192 by omega, show 192 + i - 192 = i by omega] using this
  rw [ha, hb, hc, hd]
theorem one_shl (k i : Nat) (hk : k < 64) (hi : i < 64) : (1#64 <<< k).getLsbD i = decide (i = k) := by
  rw [BitVec.getLsbD_shiftLeft]
  by_cases h : i < k
  · simp [hi, h]; omega
  · by_cases e : i = k
    · subst e; simp [hi]
    · simp [hi, h, e]; omega
theorem dsub {i k n : Nat} (h : n ≤ i) (h' : n ≤ k) : decide (i - n = k - n) = decide (i = k) := by
  rw [Bool.eq_iff_iff]; simp only [decide_eq_true_eq]; omega
theorem has_bit (s : S4) (k i : Nat) (hk : k < 256) (hi : i < 256) : (s.bit k).has i = (s.has i || decide (i = k)) := by
  unfold S4.bit S4.has
  by_cases k1 : k < 64
  · rw [if_pos k1]
    split
    · simp only [BitVec.getLsbD_or]; rw [one_shl _ _ (by omega) (by omega)]
    · rw [show decide (i = k) = false from decide_eq_false (by omega)]; simp
  · rw [if_neg k1]
    by_cases k2 : k < 128
    · rw [if_pos k2]
      split
      · rw [show decide (i = k) = false from decide_eq_false (by omega)]; simp
      · split
        · simp only [BitVec.getLsbD_or]; rw [one_shl _ _ (by omega) (by omega)]
          rw [dsub (by omega) (by omega)]
        · rw [show decide (i = k) = false from decide_eq_false (by omega)]; simp
    · rw [if_neg k2]
      by_cases k3 : k < 192
      · rw [if_pos k3]
        split
        · rw [show decide (i = k) = false from decide_eq_false (by omega)]; simp
        · split
          · rw [show decide (i = k) = false from decide_eq_false (by omega)]; simp
          · split
            · simp only [BitVec.getLsbD_or]; rw [one_shl _ _ (by omega) (by omega)]
              rw [dsub (by omega) (by omega)]
            · rw [show decide (i = k) = false from decide_eq_false (by omega)]; simp
      · rw [if_neg k3]
        split
        · rw [show decide (i = k) = false from decide_eq_false (by omega)]; simp
        · split
          · rw [show decide (i = k) = false from decide_eq_false (by omega)]; simp
          · split
            · rw [show decide (i = k) = false from decide_eq_false (by omega)]; simp
            · simp only [BitVec.getLsbD_or]; rw [one_shl _ _ (by omega) (by omega)]
              rw [dsub (by omega) (by omega)]
theorem has_run (s : S4) (f n i : Nat) (h : f + n ≤ 256) (hi : i < 256) : (s.run f n).has i = (s.has i || decide (f ≤ i ∧ i < f + n)) := by
  induction n with
  | zero => rw [show decide (f ≤ i ∧ i < f + 0) = false from decide_eq_false (by omega)]; simp [S4.run]
  | succ n ih =>
    show ((s.run f n).bit (f + n)).has i = _
    rw [has_bit _ _ _ (by omega) hi, ih (by omega), Bool.or_assoc]
    congr 1
    rw [Bool.eq_iff_iff]; simp; omega
theorem has_rng (s : S4) (f t i : Nat) (h : t < 256) (hi : i < 256) : (s.rng f t).has i = (s.has i || decide (f ≤ i ∧ i ≤ t)) := by
  unfold S4.rng
  by_cases hf : f ≤ t
  · rw [has_run _ _ _ _ (by omega) hi, show decide (f ≤ i ∧ i < f + (t + 1 - f)) = decide (f ≤ i ∧ i ≤ t) by rw [Bool.eq_iff_iff]; simp only [decide_eq_true_eq]; omega]
  · rw [show t + 1 - f = 0 by omega, show decide (f ≤ i ∧ i ≤ t) = false from decide_eq_false (by omega)]; simp [S4.run]
theorem has_or (s t : S4) (i : Nat) : (s.or t).has i = (s.has i || t.has i) := by
  unfold S4.or S4.has
  split
  · exact BitVec.getLsbD_or
  · split
    · exact BitVec.getLsbD_or
    · split
      · exact BitVec.getLsbD_or
      · exact BitVec.getLsbD_or
theorem has_not (s : S4) (i : Nat) (h : i < 256) : s.not.has i = !s.has i := by
  unfold S4.not S4.has
  split
  · rw [BitVec.getLsbD_not]; simp; omega
  · split
    · rw [BitVec.getLsbD_not]; simp; omega
    · split
      · rw [BitVec.getLsbD_not]; simp; omega
      · rw [BitVec.getLsbD_not]; simp; omega
theorem has_zero (i : Nat) : S4.zero.has i = false := by unfold S4.zero S4.has; simp
theorem or_zero (s : S4) : S4.zero.or s = s := by
  unfold S4.or S4.zero; simp
theorem not_not (s : S4) : s.not.not = s := by unfold S4.not; simp

/-- Does p stand first in l? -/
def pre (p l : List UInt8) : Bool := p.isPrefixOf l
/-- A byte that stands ahead of e: it, and what is behind e. -/
def byteA (e : List UInt8) : List UInt8 → Option (UInt8 × List UInt8)
  | [] => none
  | c :: t => if c = 10 then none else if pre e t then some (c, t.drop e.length) else none
def singleP (l : List UInt8) : Option (UInt8 × List UInt8) :=
  if pre [91, 46] l then byteA [46, 93] (l.drop 2) else if pre [92, 110] l then some (10, l.drop 2) else byteA [] l
def signP (l : List UInt8) : Option (UInt8 × List UInt8) := if pre [91, 61] l || pre [91, 58] l then none else singleP l
def classS (n : List UInt8) : Option S4 :=
  if n = [117, 112, 112, 101, 114] then some (S4.zero.rng 65 90)
  else if n = [108, 111, 119, 101, 114] then some (S4.zero.rng 97 122)
  else if n = [97, 108, 112, 104, 97] then some ((S4.zero.rng 65 90).rng 97 122)
  else if n = [100, 105, 103, 105, 116] then some (S4.zero.rng 48 57)
  else if n = [97, 108, 110, 117, 109] then some (((S4.zero.rng 65 90).rng 97 122).rng 48 57)
  else if n = [120, 100, 105, 103, 105, 116] then some (((S4.zero.rng 48 57).rng 65 70).rng 97 102)
  else if n = [98, 108, 97, 110, 107] then some ((S4.zero.rng 32 32).rng 9 9)
  else if n = [115, 112, 97, 99, 101] then some ((S4.zero.rng 9 13).rng 32 32)
  else if n = [99, 110, 116, 114, 108] then some ((S4.zero.rng 0 31).rng 127 127)
  else if n = [112, 114, 105, 110, 116] then some (S4.zero.rng 32 126)
  else if n = [103, 114, 97, 112, 104] then some (S4.zero.rng 33 126)
  else if n = [112, 117, 110, 99, 116] then some ((((S4.zero.rng 33 47).rng 58 64).rng 91 96).rng 123 126)
  else none
def classP (l : List UInt8) : Option (S4 × List UInt8) :=
  if (Lib.cut l [58, 93]).2.2 then (classS (Lib.cut l [58, 93]).1).map (fun s => (s, (Lib.cut l [58, 93]).2.1)) else none
/-- What stands behind a sign: nothing of its own, or a range's end. -/
def tailP (f : UInt8) (t : List UInt8) : Option (S4 × List UInt8) :=
  if pre [45, 93] t || !pre [45] t then some (S4.zero.rng f.toNat f.toNat, t)
  else match signP (t.drop 1) with
    | none => none
    | some (g, t2) => if g.toNat < f.toNat ∨ (pre [45] (t.drop 1) = true ∧ pre [93] t2 = false) then none else some (S4.zero.rng f.toNat g.toNat, t2)
def memberP (l : List UInt8) : Option (S4 × List UInt8) :=
  if pre [91, 61] l then (byteA [61, 93] (l.drop 2)).map (fun x => (S4.zero.rng x.1.toNat x.1.toNat, x.2))
  else if pre [91, 58] l then classP (l.drop 2)
  else match signP l with
    | none => none
    | some (f, t) => tailP f t
def membersP : Nat → Bool → S4 → List UInt8 → Option (S4 × List UInt8)
  | 0, _, _, _ => none
  | n + 1, first, acc, l =>
    if first = false ∧ pre [93] l = true then some (acc, l.drop 1)
    else match memberP l with
      | none => none
      | some (m, t) => membersP n false (acc.or m) t
def exprP (l : List UInt8) : Option (S4 × List UInt8) :=
  if pre [94] l then (membersP (l.length + 1) true S4.zero (l.drop 1)).map fun x => (x.1.not, x.2)
  else membersP (l.length + 1) true S4.zero l
theorem byteA_lt {e l : List UInt8} {c : UInt8} {t : List UInt8} (h : byteA e l = some (c, t)) : t.length + 1 + e.length ≤ l.length := by
  unfold byteA at h
  split at h
  · cases h
  · split at h
    · cases h
    · split at h
      · rename_i hp
        obtain ⟨q, rfl⟩ := List.isPrefixOf_iff_prefix.1 hp
        simp only [Option.some.injEq, Prod.mk.injEq] at h
        obtain ⟨_, rfl⟩ := h
        simp; omega
      · cases h
theorem pre_len {p l : List UInt8} (h : pre p l = true) : p.length ≤ l.length := (List.isPrefixOf_iff_prefix.1 h).length_le
theorem singleP_lt {l : List UInt8} {c : UInt8} {t : List UInt8} (h : singleP l = some (c, t)) : t.length < l.length := by
  unfold singleP at h
  split at h
  · rename_i hp
    have := pre_len hp
    have := byteA_lt h
    simp at *; omega
  · split at h
    · rename_i hp
      have := pre_len hp
      simp only [Option.some.injEq, Prod.mk.injEq] at h
      obtain ⟨_, rfl⟩ := h
      simp at *; omega
    · have := byteA_lt h
      omega
theorem signP_lt {l : List UInt8} {c : UInt8} {t : List UInt8} (h : signP l = some (c, t)) : t.length < l.length := by
  unfold signP at h
  split at h
  · cases h
  · exact singleP_lt h
theorem cut_lt (l : List UInt8) (h : (Lib.cut l [58, 93]).2.2 = true) : (Lib.cut l [58, 93]).2.1.length + 2 ≤ l.length := by
  unfold Lib.cut at h ⊢
  split
  · rename_i hp
    have := Lib.index_room l [58, 93] hp
    simp at *; omega
  · rename_i hp; simp [hp] at h
theorem tailP_lt {f : UInt8} {l : List UInt8} {m : S4} {t : List UInt8} (h : tailP f l = some (m, t)) : t.length ≤ l.length := by
  unfold tailP at h
  split at h
  · simp only [Option.some.injEq, Prod.mk.injEq] at h
    rw [h.2]; exact Nat.le_refl _
  · split at h
    · cases h
    · rename_i g t2 hs
      split at h
      · cases h
      · simp only [Option.some.injEq, Prod.mk.injEq] at h
        have := signP_lt hs
        rw [← h.2]; simp at this; omega
theorem memberP_lt {l : List UInt8} {m : S4} {t : List UInt8} (h : memberP l = some (m, t)) : t.length < l.length := by
  unfold memberP at h
  split at h
  · rename_i hp
    have := pre_len hp
    cases hb : byteA [61, 93] (l.drop 2) with
    | none => rw [hb] at h; cases h
    | some x =>
      rw [hb] at h
      simp only [Option.map_some, Option.some.injEq, Prod.mk.injEq] at h
      have := byteA_lt (c := x.1) (t := x.2) hb
      rw [← h.2]; simp at *; omega
  · split at h
    · rename_i hp
      have := pre_len hp
      unfold classP at h
      split at h
      · rename_i hf
        have := cut_lt _ hf
        cases hc : classS (Lib.cut (l.drop 2) [58, 93]).1 with
        | none => rw [hc] at h; cases h
        | some x =>
          rw [hc] at h
          simp only [Option.map_some, Option.some.injEq, Prod.mk.injEq] at h
          rw [← h.2]; simp at *; omega
      · cases h
    · split at h
      · cases h
      · rename_i f t' hs
        have := signP_lt hs
        have := tailP_lt h
        omega
theorem membersP_fuel : ∀ (n k : Nat) (first : Bool) (acc : S4) (l : List UInt8), l.length < n → l.length < k → membersP n first acc l = membersP k first acc l
  | 0, _, _, _, _, h, _ => absurd h (Nat.not_lt_zero _)
  | _ + 1, 0, _, _, _, _, h => absurd h (Nat.not_lt_zero _)
  | n + 1, k + 1, first, acc, l, h, h' => by
    unfold membersP
    split
    · rfl
    · split
      · rfl
      · rename_i m t hm
        have := memberP_lt hm
        exact membersP_fuel n k _ _ _ (by omega) (by omega)
/-- All members, from where l stands. -/
def restP (first : Bool) (acc : S4) (l : List UInt8) : Option (S4 × List UInt8) := membersP (l.length + 1) first acc l
theorem restP_end (acc : S4) (l : List UInt8) (h : pre [93] l = true) : restP false acc l = some (acc, l.drop 1) := by
  unfold restP membersP; simp [h]
theorem restP_none (first : Bool) (acc : S4) (l : List UInt8) (h : ¬ (first = false ∧ pre [93] l = true)) (hm : memberP l = none) : restP first acc l = none := by
  unfold restP membersP; rw [if_neg h, hm]
theorem restP_some (first : Bool) (acc : S4) (l : List UInt8) (h : ¬ (first = false ∧ pre [93] l = true)) {m : S4} {t : List UInt8} (hm : memberP l = some (m, t)) : restP first acc l = restP false (acc.or m) t := by
  have := memberP_lt hm
  unfold restP
  rw [show membersP (l.length + 1) first acc l = membersP l.length false (acc.or m) t by
    conv => lhs; unfold membersP
    rw [if_neg h, hm]]
  exact membersP_fuel _ _ _ _ _ (by omega) (by omega)
theorem exprP_eq (l : List UInt8) : exprP l = if pre [94] l then (restP true S4.zero (l.drop 1)).map fun x => (x.1.not, x.2) else restP true S4.zero l := by
  unfold exprP restP
  split
  · rw [membersP_fuel (l.length + 1) ((l.drop 1).length + 1) _ _ _ (by simp; omega) (by simp)]
  · rfl
end Go.Proofs.Ytndmjndokokmnaa
