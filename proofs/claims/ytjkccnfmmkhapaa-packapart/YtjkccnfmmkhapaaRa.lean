import Derived.Test.YtjkccnfmmkhapaaQa
namespace Go.Proofs.Ytjkccnfmmkhapaa
set_option linter.unusedSimpArgs false
set_option linter.unusedVariables false
open Go.RowKit
/-- Are two items of one kind alike? -/
def eqIt (x y : It) : Bool :=
  if x.kind = 0 then decide (x.n = y.n) else if x.kind = 1 then x.b == y.b else if x.kind = 2 then decide (x.s = y.s) else decide (x.h = y.h)
def kindEq (x y : It) : Prop := x.kind = y.kind ∧ x.size = y.size
def sameB (a b : List It) : Bool := (a.zip b).all fun p => eqIt p.1 p.2
theorem sameB_take (a b : List It) (j : Nat) (x y : It) (hx : a[j]? = some x) (hy : b[j]? = some y) : sameB (a.take (j + 1)) (b.take (j + 1)) = (sameB (a.take j) (b.take j) && eqIt x y) := by
  have ha := (List.getElem?_eq_some_iff.1 hx).1
  have hb := (List.getElem?_eq_some_iff.1 hy).1
  unfold sameB
  rw [List.take_add_one, List.take_add_one, hx, hy]
  rw [List.zip_append (by simp; omega)]
  simp
theorem eq_of_app {k : Int} {x y : It} {l l' r r' : List Int} (hk : kindEq x y) (hx : x.Ok) (hy : y.Ok) (h1 : itSt x = some l) (h2 : itSt y = some l') (e : l ++ r = l' ++ r') : eqIt x y = true ∧ r = r' := by
  obtain ⟨e1, e2⟩ := hk
  unfold itSt at h1 h2
  unfold eqIt
  rw [← e1, ← e2] at h2
  by_cases k0 : x.kind = 0
  · rw [if_pos k0] at h1 h2 ⊢
    obtain ⟨p1, p2⟩ := num_back x.n x.size l r hx.n0 h1
    obtain ⟨q1, q2⟩ := num_back y.n x.size l' r' hy.n0 h2
    rw [e] at p1 p2
    rw [p1] at q1
    rw [p2] at q2
    injection q2 with q2
    exact ⟨by simpa using q1, q2⟩
  rw [if_neg k0] at h1 h2 ⊢
  by_cases k1 : x.kind = 1
  · rw [if_pos k1] at h1 h2 ⊢
    obtain ⟨p1, p2⟩ := truth_back x.b l r h1
    obtain ⟨q1, q2⟩ := truth_back y.b l' r' h2
    rw [e] at p1 p2
    rw [p1] at q1
    rw [p2] at q2
    injection q2 with q2
    exact ⟨by simpa using q1, q2⟩
  rw [if_neg k1] at h1 h2 ⊢
  by_cases k2 : x.kind = 2
  · rw [if_pos k2] at h1 h2 ⊢
    obtain ⟨p1, p2⟩ := text_back x.s l r h1
    obtain ⟨q1, q2⟩ := text_back y.s l' r' h2
    rw [e] at p1 p2
    rw [p1] at q1
    rw [p2] at q2
    injection q2 with q2
    have : x.s = y.s := by rw [← str_nB x.s, ← str_nB y.s, q1]
    exact ⟨by simpa using this, q2⟩
  rw [if_neg k2] at h1 h2 ⊢
  injection h1 with h1
  injection h2 with h2
  subst h1 h2
  obtain ⟨p1, p2⟩ := hash_back x.h r hx.hl
  obtain ⟨q1, q2⟩ := hash_back y.h r' hy.hl
  rw [e] at p1 p2
  rw [p1] at q1
  rw [p2] at q2
  injection q2 with q2
  exact ⟨by simpa using q1, q2⟩
theorem itSt_eq {x y : It} (hk : kindEq x y) (h : eqIt x y = true) : itSt x = itSt y := by
  obtain ⟨e1, e2⟩ := hk
  unfold eqIt at h
  unfold itSt
  rw [← e1, ← e2]
  by_cases k0 : x.kind = 0
  · rw [if_pos k0] at h ⊢; rw [if_pos k0]; simp at h; rw [h]
  rw [if_neg k0] at h ⊢
  rw [if_neg k0]
  by_cases k1 : x.kind = 1
  · rw [if_pos k1] at h ⊢; rw [if_pos k1]; simp at h; rw [h]
  rw [if_neg k1] at h ⊢
  rw [if_neg k1]
  by_cases k2 : x.kind = 2
  · rw [if_pos k2] at h ⊢; rw [if_pos k2]; simp at h; rw [h]
  rw [if_neg k2] at h ⊢
  rw [if_neg k2]
  simp at h; rw [h]
/-- Items of the same kinds and sizes have the same bytes just if they are alike. -/
theorem apart : ∀ (a b : List It), a.length = b.length → (∀ (i : Nat) (x y : It), a[i]? = some x → b[i]? = some y → kindEq x y) → (∀ x ∈ a, x.Ok) → (∀ x ∈ b, x.Ok) → (∀ x ∈ a, ∃ l, itSt x = some l) → (∀ x ∈ b, ∃ l, itSt x = some l) → ((allB a = allB b) ↔ sameB a b = true)
  | [], [], _, _, _, _, _, _ => by simp [sameB]
  | x :: a, [], h, _, _, _, _, _ => by simp at h
  | [], y :: b, h, _, _, _, _, _ => by simp at h
  | x :: a, y :: b, h, hk, ha, hb, sa, sb => by
    obtain ⟨l, hl⟩ := sa x (by simp)
    obtain ⟨l', hl'⟩ := sb y (by simp)
    have ih := apart a b (by simpa using h) (fun i u v hu hv => hk (i + 1) u v (by simpa using hu) (by simpa using hv)) (fun u hu => ha u (by simp [hu])) (fun u hu => hb u (by simp [hu])) (fun u hu => sa u (by simp [hu])) (fun u hu => sb u (by simp [hu]))
    have e1 : allB (x :: a) = l ++ allB a := by simp [allB, hl]
    have e2 : allB (y :: b) = l' ++ allB b := by simp [allB, hl']
    have e3 : sameB (x :: a) (y :: b) = (eqIt x y && sameB a b) := by simp [sameB]
    have hk0 := hk 0 x y rfl rfl
    rw [e1, e2, e3, Bool.and_eq_true]
    constructor
    · intro e
      obtain ⟨p1, p2⟩ := eq_of_app (k := 0) hk0 (ha x (by simp)) (hb y (by simp)) hl hl' e
      exact ⟨p1, ih.1 p2⟩
    · rintro ⟨p1, p2⟩
      have := itSt_eq hk0 p1
      rw [hl, hl'] at this
      injection this with this
      rw [this, ih.2 p2]
theorem str_inj (a b : List Int) (ha : Bytes a) (hb : Bytes b) : (strOfNums a = strOfNums b) ↔ a = b :=
  ⟨fun e => by rw [← nB_str a ha, ← nB_str b hb, e], fun e => by rw [e]⟩
end Go.Proofs.Ytjkccnfmmkhapaa
