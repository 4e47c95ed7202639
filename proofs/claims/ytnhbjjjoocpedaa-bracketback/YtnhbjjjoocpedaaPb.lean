import Derived.Test.YtnhbjjjoocpedaaPa
namespace Go.Proofs.Ytnhbjjjoocpedaa
set_option linter.unusedSimpArgs false
set_option linter.unusedVariables false
/-- A byte so that it means itself wherever it stands. -/
def signW (c : UInt8) : List UInt8 := if c = 10 then [92, 110] else if c = 91 ∨ c = 93 ∨ c = 94 ∨ c = 45 ∨ c = 92 then [91, 46, c, 46, 93] else [c]
def rangeW (f t : UInt8) : List UInt8 := if f = t then signW f else if f.toNat + 1 = t.toNat then signW f ++ signW t else signW f ++ 45 :: signW t
/-- The last byte of the run that t is in. -/
def endRun (s : S4) : Nat → Nat → Nat
  | 0, t => t
  | n + 1, t => if t < 255 ∧ s.has (t + 1) = true then endRun s n (t + 1) else t
/-- The members of s from f on. -/
def wr (s : S4) : Nat → Nat → List UInt8
  | 0, _ => []
  | n + 1, f => if f ≤ 255 then (if s.has f then rangeW (UInt8.ofNat f) (UInt8.ofNat (endRun s 256 f)) ++ wr s n (endRun s 256 f + 1) else wr s n (f + 1)) else []
def writtenP (s : S4) : List UInt8 := wr s 257 0
def printP (s : S4) : List UInt8 := if writtenP s = [] ∨ (writtenP s.not ≠ [] ∧ (writtenP s.not).length + 1 < (writtenP s).length) then 91 :: 94 :: writtenP s.not ++ [93] else 91 :: writtenP s ++ [93]

theorem sign_back (c : UInt8) (L : List UInt8) : signP (signW c ++ L) = some (c, L) := by
  unfold signW
  split
  · rename_i h; subst h; simp [signP, singleP, pre, List.isPrefixOf]
  · rename_i h
    split
    · simp [signP, singleP, pre, List.isPrefixOf, byteA, h]
    · rename_i h2
      simp only [not_or] at h2
      obtain ⟨h91, h93, h94, h45, h92⟩ := h2
      have e1 : (91 == c) = false := by rw [beq_eq_false_iff_ne]; exact fun e => h91 e.symm
      have e2 : (92 == c) = false := by rw [beq_eq_false_iff_ne]; exact fun e => h92 e.symm
      simp [signP, singleP, pre, List.isPrefixOf, byteA, h, e1, e2]
theorem sign_head (c : UInt8) (L : List UInt8) : pre [94] (signW c ++ L) = false ∧ pre [93] (signW c ++ L) = false ∧ pre [45] (signW c ++ L) = false ∧ pre [91, 61] (signW c ++ L) = false ∧ pre [91, 58] (signW c ++ L) = false := by
  unfold signW
  split
  · simp [pre, List.isPrefixOf]
  · split
    · simp [pre, List.isPrefixOf]
    · rename_i h h2
      simp only [not_or] at h2
      obtain ⟨h91, h93, h94, h45, h92⟩ := h2
      have e1 : (91 == c) = false := by rw [beq_eq_false_iff_ne]; exact fun e => h91 e.symm
      have e3 : (93 == c) = false := by rw [beq_eq_false_iff_ne]; exact fun e => h93 e.symm
      have e4 : (94 == c) = false := by rw [beq_eq_false_iff_ne]; exact fun e => h94 e.symm
      have e5 : (45 == c) = false := by rw [beq_eq_false_iff_ne]; exact fun e => h45 e.symm
      simp [pre, List.isPrefixOf, e1, e3, e4, e5]
theorem sign_ne (c : UInt8) : signW c ≠ [] := by
  unfold signW; split
  · simp
  · split <;> simp
theorem member_sign (f : UInt8) (L : List UInt8) : memberP (signW f ++ L) = tailP f L := by
  obtain ⟨_, _, _, h1, h2⟩ := sign_head f L
  unfold memberP; rw [h1, h2, sign_back]; simp
theorem tail_one (f : UInt8) (L : List UInt8) (h : pre [45] L = false) : tailP f L = some (S4.zero.rng f.toNat f.toNat, L) := by
  unfold tailP; simp [h]
theorem tail_range (f t : UInt8) (L : List UInt8) (h : f.toNat ≤ t.toNat) : tailP f (45 :: (signW t ++ L)) = some (S4.zero.rng f.toNat t.toNat, L) := by
  obtain ⟨_, h1, h2, _, _⟩ := sign_head t L
  have e1 : pre [45, 93] (45 :: (signW t ++ L)) = false := by
    have : pre [45, 93] (45 :: (signW t ++ L)) = pre [93] (signW t ++ L) := by simp [pre, List.isPrefixOf]
    rw [this, h1]
  have e2 : pre [45] (45 :: (signW t ++ L)) = true := by simp [pre, List.isPrefixOf]
  unfold tailP
  rw [e1, e2]
  simp only [Bool.not_true, Bool.or_self, Bool.false_eq_true, if_false, List.drop_succ_cons, List.drop_zero, sign_back, h2]
  rw [if_neg]
  rintro (q | ⟨q, _⟩)
  · omega
  · exact q
theorem range_back (f t : UInt8) (h : f.toNat ≤ t.toNat) (first : Bool) (acc : S4) (L : List UInt8) (hL : pre [45] L = false) :
    ∃ r, restP first acc (rangeW f t ++ L) = restP false r L ∧ ∀ i, i < 256 → r.has i = (acc.has i || decide (f.toNat ≤ i ∧ i ≤ t.toNat)) := by
  have hf := f.toNat_lt
  have ht := t.toNat_lt
  unfold rangeW
  split
  · rename_i e; subst e
    obtain ⟨_, h1, _, _, _⟩ := sign_head f L
    refine ⟨acc.or (S4.zero.rng f.toNat f.toNat), restP_some _ _ _ (by rw [h1]; simp) (by rw [member_sign, tail_one _ _ hL]), fun i hi => ?_⟩
    rw [has_or, has_rng _ _ _ _ (by omega) hi, has_zero]; simp
  · split
    · rename_i e1 e2
      obtain ⟨_, h1, h3, _, _⟩ := sign_head f (signW t ++ L)
      obtain ⟨_, h2, h4, _, _⟩ := sign_head t L
      refine ⟨(acc.or (S4.zero.rng f.toNat f.toNat)).or (S4.zero.rng t.toNat t.toNat), ?_, fun i hi => ?_⟩
      · rw [List.append_assoc, restP_some first acc _ (by rw [h1]; simp) (by rw [member_sign, tail_one _ _ h4])]
        exact restP_some _ _ _ (by rw [h2]; simp) (by rw [member_sign, tail_one _ _ hL])
      · rw [has_or, has_or, has_rng _ _ _ _ (by omega) hi, has_rng _ _ _ _ (by omega) hi, has_zero, Bool.false_or, Bool.false_or, Bool.or_assoc]
        congr 1
        rw [Bool.eq_iff_iff]; simp; omega
    · obtain ⟨_, h1, _, _, _⟩ := sign_head f (45 :: (signW t ++ L))
      refine ⟨acc.or (S4.zero.rng f.toNat t.toNat), ?_, fun i hi => ?_⟩
      · rw [List.append_assoc, List.cons_append]
        exact restP_some _ _ _ (by rw [h1]; simp) (by rw [member_sign, tail_range _ _ _ h])
      · rw [has_or, has_rng _ _ _ _ (by omega) hi, has_zero]; simp
theorem endRun_spec (s : S4) : ∀ n t, t ≤ 255 → t ≤ endRun s n t ∧ endRun s n t ≤ 255 ∧ ∀ i, t < i → i ≤ endRun s n t → s.has i = true
  | 0, t, h => ⟨Nat.le_refl _, h, fun i h1 h2 => absurd h2 (by unfold endRun; omega)⟩
  | n + 1, t, h => by
    unfold endRun
    split
    · rename_i hc
      obtain ⟨a, b, c⟩ := endRun_spec s n (t + 1) (by omega)
      refine ⟨by omega, b, fun i h1 h2 => ?_⟩
      by_cases e : i = t + 1
      · rw [e]; exact hc.2
      · exact c i (by omega) h2
    · exact ⟨Nat.le_refl _, h, fun i h1 h2 => absurd h2 (by omega)⟩
theorem rangeW_head (f t : UInt8) (L : List UInt8) : pre [94] (rangeW f t ++ L) = false ∧ pre [93] (rangeW f t ++ L) = false ∧ pre [45] (rangeW f t ++ L) = false := by
  unfold rangeW
  split
  · obtain ⟨a, b, c, _⟩ := sign_head f L; exact ⟨a, b, c⟩
  · split
    · rw [List.append_assoc]; obtain ⟨a, b, c, _⟩ := sign_head f (signW t ++ L); exact ⟨a, b, c⟩
    · rw [List.append_assoc]; obtain ⟨a, b, c, _⟩ := sign_head f (45 :: signW t ++ L); exact ⟨a, b, c⟩
theorem rangeW_ne (f t : UInt8) : rangeW f t ≠ [] := by
  unfold rangeW
  split
  · exact sign_ne f
  · split <;> simp [sign_ne]
theorem wr_head (s : S4) (B : List UInt8) : ∀ n f, pre [94] (wr s n f ++ 93 :: B) = false ∧ pre [45] (wr s n f ++ 93 :: B) = false
  | 0, f => by simp [wr, pre, List.isPrefixOf]
  | n + 1, f => by
    unfold wr
    split
    · split
      · rw [List.append_assoc]; obtain ⟨a, b, c⟩ := rangeW_head (UInt8.ofNat f) (UInt8.ofNat (endRun s 256 f)) (wr s n (endRun s 256 f + 1) ++ 93 :: B); exact ⟨a, c⟩
      · exact wr_head s B n (f + 1)
    · simp [pre, List.isPrefixOf]
theorem ofNat8 {f : Nat} (h : f < 256) : (UInt8.ofNat f).toNat = f := by simp; omega
theorem wr_nil (s : S4) : ∀ n f, 256 ≤ n + f → wr s n f = [] → ∀ i, f ≤ i → i < 256 → s.has i = false
  | 0, f, h, _, i, h1, h2 => absurd h2 (by omega)
  | n + 1, f, h, hw, i, h1, h2 => by
    unfold wr at hw
    rw [if_pos (by omega)] at hw
    split at hw
    · exact absurd (List.append_eq_nil_iff.1 hw).1 (rangeW_ne _ _)
    · rename_i hn
      by_cases e : i = f
      · rw [e]; simpa using hn
      · exact wr_nil s n (f + 1) (by omega) hw i (by omega) h2
theorem wr_back (s : S4) (B : List UInt8) : ∀ n f (first : Bool) (acc : S4), 256 ≤ n + f → (first = true → wr s n f ≠ []) →
    ∃ r, restP first acc (wr s n f ++ 93 :: B) = some (r, B) ∧ ∀ i, i < 256 → r.has i = (acc.has i || (decide (f ≤ i) && s.has i))
  | 0, f, first, acc, h, hf => by
    have h0 : first = false := by cases first with
      | false => rfl
      | true => exact absurd rfl (hf rfl)
    subst h0
    refine ⟨acc, by rw [show wr s 0 f = [] from rfl]; exact restP_end _ _ (by simp [pre, List.isPrefixOf]), fun i hi => ?_⟩
    rw [show decide (f ≤ i) = false from decide_eq_false (by omega)]; simp
  | n + 1, f, first, acc, h, hf => by
    by_cases hle : f ≤ 255
    · by_cases hh : s.has f = true
      · obtain ⟨e1, e2, e3⟩ := endRun_spec s 256 f hle
        have ew : wr s (n + 1) f = rangeW (UInt8.ofNat f) (UInt8.ofNat (endRun s 256 f)) ++ wr s n (endRun s 256 f + 1) := by
          conv => lhs; unfold wr
          rw [if_pos hle, if_pos hh]
        rw [ew, List.append_assoc]
        generalize endRun s 256 f = e at *
        have t1 : (UInt8.ofNat f).toNat = f := ofNat8 (by omega)
        have t2 : (UInt8.ofNat e).toNat = e := ofNat8 (by omega)
        obtain ⟨r, hr, hr2⟩ := range_back (UInt8.ofNat f) (UInt8.ofNat e) (by omega) first acc (wr s n (e + 1) ++ 93 :: B) (wr_head s B n (e + 1)).2
        obtain ⟨r', hr', hr3⟩ := wr_back s B n (e + 1) false r (by omega) (fun q => by cases q)
        refine ⟨r', by rw [hr, hr'], fun i hi => ?_⟩
        rw [hr3 i hi, hr2 i hi, t1, t2, Bool.or_assoc]
        congr 1
        by_cases c1 : i < f
        · rw [show decide (f ≤ i ∧ i ≤ e) = false from decide_eq_false (by omega), show decide (e + 1 ≤ i) = false from decide_eq_false (by omega), show decide (f ≤ i) = false from decide_eq_false (by omega)]
          simp
        · by_cases c2 : i ≤ e
          · have : s.has i = true := by
              by_cases c3 : i = f
              · rw [c3]; exact hh
              · exact e3 i (by omega) c2
            rw [show decide (f ≤ i ∧ i ≤ e) = true from decide_eq_true (by omega), show decide (f ≤ i) = true from decide_eq_true (by omega), this]
            simp
          · rw [show decide (f ≤ i ∧ i ≤ e) = false from decide_eq_false (by omega), show decide (e + 1 ≤ i) = true from decide_eq_true (by omega), show decide (f ≤ i) = true from decide_eq_true (by omega)]
            simp
      · have ew : wr s (n + 1) f = wr s n (f + 1) := by
          conv => lhs; unfold wr
          rw [if_pos hle, if_neg hh]
        rw [ew] at hf ⊢
        obtain ⟨r, hr, hr2⟩ := wr_back s B n (f + 1) first acc (by omega) hf
        refine ⟨r, hr, fun i hi => ?_⟩
        rw [hr2 i hi]
        congr 1
        by_cases c1 : i = f
        · subst c1; have : s.has i = false := by simpa using hh
          rw [this]; simp
        · rw [show decide (f + 1 ≤ i) = decide (f ≤ i) from decide_eq_decide.2 (by omega)]
    · have ew : wr s (n + 1) f = [] := by
        conv => lhs; unfold wr
        rw [if_neg hle]
      rw [ew] at hf ⊢
      have h0 : first = false := by cases first with
        | false => rfl
        | true => exact absurd rfl (hf rfl)
      subst h0
      refine ⟨acc, restP_end _ _ (by simp [pre, List.isPrefixOf]), fun i hi => ?_⟩
      rw [show decide (f ≤ i) = false from decide_eq_false (by omega)]; simp
theorem written_back (s : S4) (B : List UInt8) (h : writtenP s ≠ []) : restP true S4.zero (writtenP s ++ 93 :: B) = some (s, B) := by
  obtain ⟨r, hr, hr2⟩ := wr_back s B 257 0 true S4.zero (by omega) (fun _ => h)
  rw [show writtenP s = wr s 257 0 from rfl, hr]
  congr 2
  exact S4.same fun i hi => by rw [hr2 i hi, has_zero]; simp
/-- What is printed is read: as s, whole. -/
theorem print_back (s : S4) (B : List UInt8) : exprP ((printP s ++ B).drop 1) = some (s, B) := by
  unfold printP
  split
  · rename_i h
    have hne : writtenP s.not ≠ [] := by
      rcases h with h | h
      · intro hn
        have h0 := wr_nil s 257 0 (by omega) h 0 (Nat.le_refl _) (by omega)
        have h1 := wr_nil s.not 257 0 (by omega) hn 0 (Nat.le_refl _) (by omega)
        rw [has_not _ _ (by omega), h0] at h1
        cases h1
      · exact h.1
    have e : (91 :: 94 :: writtenP s.not ++ [93] ++ B).drop 1 = 94 :: (writtenP s.not ++ 93 :: B) := by simp
    rw [e, exprP_eq, show pre [94] (94 :: (writtenP s.not ++ 93 :: B)) = true by simp [pre, List.isPrefixOf]]
    simp only [if_true, List.drop_succ_cons, List.drop_zero]
    rw [written_back _ _ hne]
    simp [not_not]
  · rename_i h
    have hne : writtenP s ≠ [] := fun e => h (.inl e)
    have e : (91 :: writtenP s ++ [93] ++ B).drop 1 = writtenP s ++ 93 :: B := by simp
    rw [e, exprP_eq, show pre [94] (writtenP s ++ 93 :: B) = false from (wr_head s B 257 0).1]
    simp only [Bool.false_eq_true, if_false]
    exact written_back _ _ hne
def signL (c : Nat) : Nat := (signW (UInt8.ofNat c)).length
def signS : Nat → Nat
  | 0 => 0
  | n + 1 => signS n + signL n
theorem signS_mono : ∀ {a b : Nat}, a ≤ b → signS a ≤ signS b
  | a, 0, h => by rw [Nat.le_zero.1 h]; exact Nat.le_refl _
  | a, b + 1, h => by
    by_cases e : a = b + 1
    · rw [e]; exact Nat.le_refl _
    · have := signS_mono (a := a) (b := b) (by omega)
      show _ ≤ signS b + signL b
      omega
theorem signL_pos (c : Nat) : 1 ≤ signL c := List.length_pos_iff.2 (sign_ne _)
theorem rangeW_len (f e : Nat) (h : f ≤ e) (he : e ≤ 255) : (rangeW (UInt8.ofNat f) (UInt8.ofNat e)).length + signS f ≤ signS (e + 1) := by
  have t1 : (UInt8.ofNat f).toNat = f := ofNat8 (by omega)
  have t2 : (UInt8.ofNat e).toNat = e := ofNat8 (by omega)
  have a1 : signS (f + 1) = signS f + signL f := rfl
  have a2 : signS (e + 1) = signS e + signL e := rfl
  unfold rangeW
  split
  · rename_i q
    have : f = e := by rw [← t1, ← t2, q]
    subst this
    rw [show (signW (UInt8.ofNat f)).length = signL f from rfl]; omega
  · split
    · rename_i q1 q2
      have : e = f + 1 := by omega
      subst this
      rw [List.length_append, show (signW (UInt8.ofNat f)).length = signL f from rfl, show (signW (UInt8.ofNat (f + 1))).length = signL (f + 1) from rfl]; omega
    · rename_i q1 q2
      have : f ≠ e := fun q => q1 (by rw [q])
      have m := signS_mono (a := f + 2) (b := e) (by omega)
      have a3 : signS (f + 2) = signS (f + 1) + signL (f + 1) := rfl
      have := signL_pos (f + 1)
      rw [List.length_append, List.length_cons, show (signW (UInt8.ofNat f)).length = signL f from rfl, show (signW (UInt8.ofNat e)).length = signL e from rfl]; omega
theorem wr_len (s : S4) : ∀ n f, f ≤ 256 → (wr s n f).length + signS f ≤ signS 256
  | 0, f, h => by have := signS_mono h; simp [wr]; omega
  | n + 1, f, h => by
    unfold wr
    split
    · split
      · obtain ⟨e1, e2, e3⟩ := endRun_spec s 256 f (by omega)
        generalize endRun s 256 f = e at *
        have := rangeW_len f e e1 e2
        have := wr_len s n (e + 1) (by omega)
        rw [List.length_append]; omega
      · have := wr_len s n (f + 1) (by omega)
        have : signS (f + 1) = signS f + signL f := rfl
        omega
    · have := signS_mono h; simp; omega
theorem signS_all : signS 256 = 277 := by decide +kernel
theorem written_len (s : S4) : (writtenP s).length ≤ 277 := by
  have := wr_len s 257 0 (by omega)
  rw [signS_all] at this
  exact Nat.le_trans (Nat.le_add_right _ _) this
theorem print_len (s : S4) : (printP s).length ≤ 1100 := by
  have := written_len s
  have := written_len s.not
  unfold printP
  split <;> simp <;> omega
end Go.Proofs.Ytnhbjjjoocpedaa
