import Derived.Test.YtjkccnfmmkhapaaPp
namespace Go.Proofs.Ytjkccnfmmkhapaa
set_option linter.unusedSimpArgs false
set_option linter.unusedVariables false
open Go.RowKit
/-- The state behind items. -/
def allSt (xs : List It) : Option (List Int) := xs.foldl (fun s x => addSt s (itSt x)) (some [])
theorem allSt_snoc (xs : List It) (x : It) : allSt (xs ++ [x]) = addSt (allSt xs) (itSt x) := by simp [allSt]
theorem allSt_take (xs : List It) (j : Nat) (x : It) (h : xs[j]? = some x) : allSt (xs.take (j + 1)) = addSt (allSt (xs.take j)) (itSt x) := by
  rw [← allSt_snoc, List.take_add_one, h]; rfl
/-- All items' bytes. -/
def allB (xs : List It) : List Int := (xs.map fun x => (itSt x).getD []).flatten
theorem allSt_some : ∀ (n : Nat) (xs : List It), xs.length = n → ∀ L, allSt xs = some L → L = allB xs ∧ ∀ x ∈ xs, ∃ l, itSt x = some l
  | 0, xs, h, L, hL => by
    obtain rfl := List.eq_nil_of_length_eq_zero h
    exact ⟨by injection hL with hL; rw [← hL]; rfl, fun x hx => by simp at hx⟩
  | n + 1, xs, h, L, hL => by
    have hne : xs ≠ [] := fun e => by rw [e] at h; simp at h
    have hd := List.dropLast_concat_getLast hne
    rw [← hd, allSt_snoc] at hL
    cases h1 : allSt xs.dropLast with
    | none => rw [h1] at hL; cases h2 : itSt (xs.getLast hne) <;> rw [h2] at hL <;> cases hL
    | some l1 =>
      cases h2 : itSt (xs.getLast hne) with
      | none => rw [h1, h2] at hL; cases hL
      | some l2 =>
        rw [h1, h2] at hL
        obtain ⟨ih1, ih2⟩ := allSt_some n xs.dropLast (by simp [h]) l1 h1
        injection hL with hL
        refine ⟨?_, fun x hx => ?_⟩
        · rw [← hL, ih1, ← hd]; simp [allB, h2]
        · rw [← hd] at hx
          rcases List.mem_append.1 hx with hx | hx
          · exact ih2 x hx
          · simp at hx; subst hx; exact ⟨l2, h2⟩
theorem stLen_truth (b : Bool) : stLen (truthSt b) ≤ 8 := stLen_num _ _
theorem stLen_text (s : ByteArray) : stLen (textSt s) ≤ 65543 := by
  unfold textSt
  cases h : numSt s.size 2 with
  | none => simp [addSt, stLen]
  | some l =>
    obtain ⟨m, em, hm, hf, el⟩ := numSt_some h
    have hf' := of_decide_eq_true hf
    obtain rfl : m = 2 := by omega
    have h8 := stLen_num s.size 2
    rw [h] at h8
    simp only [stLen] at h8
    have : (nB s).length = s.size := nB_length s
    simp only [addSt, stLen, List.length_append]
    omega
theorem stLen_item (x : It) (h : x.Ok) : stLen (itSt x) ≤ 70000 := by
  unfold itSt
  split
  · have := stLen_num x.n x.size; omega
  split
  · have := stLen_truth x.b; omega
  split
  · have := stLen_text x.s; omega
  · simp [stLen, h.hl]
theorem stLen_all : ∀ (n : Nat) (xs : List It), xs.length = n → (∀ x ∈ xs, x.Ok) → stLen (allSt xs) ≤ 70000 * n
  | 0, xs, h, _ => by obtain rfl := List.eq_nil_of_length_eq_zero h; simp [allSt, stLen]
  | n + 1, xs, h, hok => by
    have hne : xs ≠ [] := fun e => by rw [e] at h; simp at h
    have hd := List.dropLast_concat_getLast hne
    have ih := stLen_all n xs.dropLast (by simp [h]) (fun x hx => hok x (List.dropLast_subset _ hx))
    have hl := stLen_item _ (hok _ (List.getLast_mem hne))
    rw [← hd, allSt_snoc]
    have := stLen_add (allSt xs.dropLast) (itSt (xs.getLast hne))
    omega
theorem itSt_bytes (x : It) (h : x.Ok) (l : List Int) (hl : itSt x = some l) : Bytes l := by
  unfold itSt at hl
  split at hl
  · obtain ⟨m, _, _, _, rfl⟩ := numSt_some hl; exact numB_bytes _ _
  split at hl
  · obtain ⟨m, _, _, _, rfl⟩ := numSt_some hl; exact numB_bytes _ _
  split at hl
  · unfold textSt at hl
    cases h2 : numSt x.s.size 2 with
    | none => rw [h2] at hl; cases hl
    | some l2 =>
      rw [h2] at hl
      obtain ⟨m, _, _, _, rfl⟩ := numSt_some h2
      injection hl with hl
      rw [← hl]
      intro y hy
      rcases List.mem_append.1 hy with hy | hy
      · exact numB_bytes _ _ y hy
      · exact nB_bytes _ y hy
  · injection hl with hl; rw [← hl]; exact h.hb
theorem allB_bytes (xs : List It) (h : ∀ x ∈ xs, x.Ok) : Bytes (allB xs) := fun y hy => by
  unfold allB at hy
  obtain ⟨l, hl, hy⟩ := List.mem_flatten.1 hy
  obtain ⟨x, hx, rfl⟩ := List.mem_map.1 hl
  cases h2 : itSt x with
  | none => rw [h2] at hy; simp at hy
  | some l2 => rw [h2] at hy; exact itSt_bytes x (h x hx) l2 h2 y hy
theorem take_app {a r : List Int} {k : Nat} (h : a.length = k) : takeV (some (a ++ r)) k = a ∧ takeSt (some (a ++ r)) k = some r := by
  subst h
  unfold takeV takeSt
  simp
theorem pow_256 (m : Nat) : (2 : Int) ^ (8 * m) = 256 ^ m := by
  rw [Int.pow_mul]; rfl
theorem num_back (n k : Int) (l r : List Int) (h0 : 0 ≤ n) (h : numSt n k = some l) : rnumV (some (l ++ r)) k = n ∧ rnumSt (some (l ++ r)) k = some r := by
  obtain ⟨m, rfl, hm, hf, rfl⟩ := numSt_some h
  have hs : sizeB m = true := by rcases hm with rfl | rfl | rfl | rfl <;> rfl
  have ht := take_app (a := numB n m) (r := r) (numB_length n m)
  unfold rnumV rnumSt
  rw [hs]
  simp only [if_true, Int.toNat_natCast]
  rw [ht.1, ht.2]
  refine ⟨valB_numB m n (by omega) h0 ?_, rfl⟩
  have hf' := of_decide_eq_true hf
  rw [pow_256] at hf'
  have hp : (0 : Int) < 256 ^ m := Int.pow_pos (by omega)
  have := Int.lt_mul_ediv_self_add (x := n) hp
  rw [hf'] at this
  omega
theorem truth_back (b : Bool) (l r : List Int) (h : truthSt b = some l) : rtruthV (some (l ++ r)) = b ∧ rtruthSt (some (l ++ r)) = some r := by
  unfold truthSt at h
  obtain ⟨h1, h2⟩ := num_back _ 1 l r (by split <;> omega) h
  unfold rtruthV rtruthSt
  rw [h1, h2]
  cases b <;> simp
theorem text_back (s : ByteArray) (l r : List Int) (h : textSt s = some l) : rtextV (some (l ++ r)) = nB s ∧ rtextSt (some (l ++ r)) = some r := by
  unfold textSt at h
  cases h2 : numSt s.size 2 with
  | none => rw [h2] at h; cases h
  | some l2 =>
    rw [h2] at h
    injection h with h
    obtain ⟨e1, e2⟩ := num_back s.size 2 l2 (nB s ++ r) (by omega) h2
    unfold rtextV rtextSt
    rw [← h, List.append_assoc, e1, e2]
    exact take_app (by rw [nB_length]; rfl)
theorem hash_back (h r : List Int) (hl : h.length = 32) : rhashV (some (h ++ r)) = h ∧ takeSt (some (h ++ r)) 32 = some r := by
  obtain ⟨e1, e2⟩ := take_app (a := h) (r := r) hl
  unfold rhashV
  rw [e1, if_pos hl]
  exact ⟨rfl, e2⟩
theorem allB_cons (xs : List It) (j : Nat) (x : It) (l : List Int) (h : xs[j]? = some x) (hl : itSt x = some l) : allB (xs.drop j) = l ++ allB (xs.drop (j + 1)) := by
  have hj := (List.getElem?_eq_some_iff.1 h).1
  rw [List.drop_eq_getElem_cons hj, show xs[j] = x from (List.getElem?_eq_some_iff.1 h).2]
  simp [allB, hl]
end Go.Proofs.Ytjkccnfmmkhapaa
