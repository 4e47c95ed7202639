import Derived.Test.YtjkccnfmmkhapaaSd
namespace Go.Proofs.Ytjkccnfmmkhapaa
set_option linter.unusedSimpArgs false
set_option linter.unusedVariables false
open Go.RowKit
/-- A row of the call's own is written: a writer stays. -/
theorem WSt.own {w w' : World} {g : Nat} {st : Option (List Int)} (h : WSt w g st) {base : Nat} {v : Value} {l : List Int} (ho : OwnB w base v l) (hb : g < base) (hg : w.grownBy w' v.ownBlock) : WSt w' g st := by
  have hlt : g < w.heap.size := by obtain ⟨_, _, _, h1⟩ := h.cells; exact (Array.getElem?_eq_some_iff.1 h1).1
  refine h.keep (hg.block g hlt (fun e => ?_)) (fun k cs hk => ?_)
  · have := ho.row g e.symm; omega
  · rw [hg.block k (Array.getElem?_eq_some_iff.1 hk).1 (fun e => ?_)]
    · exact hk
    · rcases ho.2 with ⟨rfl, _⟩ | ⟨g', cap, cur, rfl, _, hh, _⟩
      · cases e
      · simp [Value.ownBlock] at e
        subst e
        rw [hk] at hh; injection hh with hh; injection hh with _ hh; cases hh
theorem OwnB.apart {w w' : World} {g : Nat} {base : Nat} {v : Value} {l : List Int} (ho : OwnB w base v l) (hb : g < base) (hg : w.grownBy w' (some g)) : OwnB w' base v l :=
  World.ownsRow.kept ho hg (Or.inr (fun e => by have := ho.row g e; omega))
theorem OwnB.below {w w' : World} {base : Nat} {v : Value} {l : List Int} (ho : OwnB w base v l) (hb : Below w.heap.size w w') : OwnB w' base v l := own_below' ho hb
/-- Behind j items: the writer, and what is wanted. -/
structure WrAt (w : World) (g : Nat) (st : Option (List Int)) (v : Value) (l : List Int) (wr : World) : Prop where
  wst : WSt wr g st
  own : OwnB wr (g + 1) v l
  bel : Below w.heap.size w wr
theorem WrAt.below {w : World} {g : Nat} {st : Option (List Int)} {v : Value} {l : List Int} {wr w' : World} (h : WrAt w g st v l wr) (hb : Below wr.heap.size wr w') : WrAt w g st v l w' :=
  ⟨h.wst.below hb, h.own.below hb, h.bel.trans (hb.mono h.bel.size)⟩
theorem WrAt.drew {w : World} {g : Nat} {st : Option (List Int)} {v : Value} {l : List Int} {wr : World} (h : WrAt w g st v l wr) : WrAt w g st v l wr.drew := h.below (Below.refl _ _).drew
theorem WrAt.conv {w : World} {g : Nat} {st : Option (List Int)} {v : Value} {l : List Int} {wr : World} (h : WrAt w g st v l wr) : (convert 28 9 v).run Try.prog wr = .ok (.string (strOfNums l)) wr :=
  (h.own.partG (by obtain ⟨_, _, _, h1⟩ := h.wst.cells; have := (Array.getElem?_eq_some_iff.1 h1).1; omega)).conv
theorem allB_take (xs : List It) (j : Nat) (x : It) (h : xs[j]? = some x) : allB (xs.take (j + 1)) = allB (xs.take j) ++ (itSt x).getD [] := by
  unfold allB; rw [List.take_add_one, h]; simp
theorem allB_len : ∀ (xs : List It), (∀ x ∈ xs, x.Ok) → (allB xs).length ≤ 70000 * xs.length
  | [], _ => by simp [allB]
  | x :: xs, h => by
    have ih := allB_len xs (fun y hy => h y (by simp [hy]))
    have h1 := stLen_item x (h x (by simp))
    have e : allB (x :: xs) = (itSt x).getD [] ++ allB xs := by simp [allB]
    have e2 : ((itSt x).getD []).length = stLen (itSt x) := by cases itSt x <;> rfl
    rw [e, List.length_append, e2, List.length_cons]
    omega
end Go.Proofs.Ytjkccnfmmkhapaa
