import Derived.Test.YtjhnnblilfddpaaDoorKe
namespace Go.Proofs.YtjhnnblilfddpaaDoor
set_option linter.unusedSimpArgs false
set_option linter.unusedVariables false
open Go.RowKit
def stLen : Option (List Int) → Nat
  | some l => l.length
  | none => 0
set_option maxRecDepth 100000 in
theorem sizeB_cases {k : Int} (h : sizeB k = true) : ∃ m : Nat, k = (m : Int) ∧ (m = 1 ∨ m = 2 ∨ m = 4 ∨ m = 8) := by
  have := of_decide_eq_true h
  exact ⟨k.toNat, by omega, by omega⟩
set_option maxRecDepth 100000 in
theorem isSize_false (k : Int) (h : sizeB k = false) (w : World) : Calls Tryd.prog 69 #[.int .i64 k] w fun e w' => e = .returned (.bool false) ∧ w' = w := by
  rw [← h]; exact isSize_any k w
set_option maxRecDepth 100000 in
set_option maxHeartbeats 400000 in
/-- Number, of what doesn't fit, down to the fail. -/
theorem number_fail (p : Value) (n : Int) (h0 : 0 ≤ n) (h1 : n ≤ 18446744073709551615) (k : Int) (hf : numSt n k = none) (w : World) (R : Ending → World → Prop)
    (hfail : Calls Tryd.prog 71 #[p] w fun e w' => e = .returned (.tuple #[]) ∧ R (.returned (.tuple #[])) w') :
    Calls Tryd.prog 49 #[p, .int .u64 n, .int .i64 k] w R := by
  by_cases hs : sizeB k = true
  · obtain ⟨m, rfl, hm⟩ := sizeB_cases hs
    have hft : fitsB n m = false := by
      cases h : fitsB n m with
      | false => rfl
      | true => unfold numSt at hf; rw [hs, show ((m : Int).toNat) = m by omega, h] at hf; simp at hf
    have F : Hid (∀ W : World, Calls Tryd.prog 70 #[.int .u64 n, .int .i64 m] W fun e w' => e = .returned (.bool false) ∧ w' = W) := fun W => by rw [← hft]; exact fits_any n m h0 h1 hm W
    have G : Hid (∀ W : World, Calls Tryd.prog 69 #[.int .i64 m] W fun e w' => e = .returned (.bool true) ∧ w' = W) := fun W => by rw [← hs]; exact isSize_any m W
    have X : Hid (Calls Tryd.prog 71 #[p] w fun e w' => e = .returned (.tuple #[]) ∧ R (.returned (.tuple #[])) w') := hfail
    clear hfail hm hs hft hf
    go_enter Tryd.func49, Tryd.ntmps49
    go_wp2_with (first | (go_at_call 69; refine (G.out _).mono ?_; rintro e w' ⟨rfl, h'⟩; have h'' := h'.symm; clear h'; subst h'') | (go_at_call 70; refine (F.out _).mono ?_; rintro e w' ⟨rfl, h'⟩; have h'' := h'.symm; clear h'; subst h''))
    refine X.out.mono ?_
    rintro e w3 ⟨rfl, hR⟩
    go_wp2
    exact fellR Tryd.results49 rfl hR
  · have G : Hid (∀ W : World, Calls Tryd.prog 69 #[.int .i64 k] W fun e w' => e = .returned (.bool false) ∧ w' = W) := fun W => isSize_false k (by simpa using hs) W
    have X : Hid (Calls Tryd.prog 71 #[p] w fun e w' => e = .returned (.tuple #[]) ∧ R (.returned (.tuple #[])) w') := hfail
    clear hfail hs hf
    go_enter Tryd.func49, Tryd.ntmps49
    go_wp2_with (first | (go_at_call 69; refine (G.out _).mono ?_; rintro e w' ⟨rfl, h'⟩; have h'' := h'.symm; clear h'; subst h''))
    refine X.out.mono ?_
    rintro e w3 ⟨rfl, hR⟩
    go_wp2
    exact fellR Tryd.results49 rfl hR
set_option maxRecDepth 100000 in
theorem numSt_some {n k : Int} {l : List Int} (h : numSt n k = some l) : ∃ m : Nat, k = (m : Int) ∧ (m = 1 ∨ m = 2 ∨ m = 4 ∨ m = 8) ∧ fitsB n m = true ∧ l = numB n m := by
  unfold numSt at h
  split at h
  · rename_i hc
    simp at hc
    obtain ⟨m, rfl, hm⟩ := sizeB_cases hc.1
    exact ⟨m, rfl, hm, by simpa using hc.2, by simpa using h.symm⟩
  · cases h
set_option maxRecDepth 100000 in
theorem add_any (g : Nat) (st : Option (List Int)) (s : List Int) (w : World) (h : WSt w g st) (hn : stLen st + s.length ≤ 140737488355328) :
    Calls Tryd.prog 72 #[.pointer (some ⟨g, 0, none⟩), .string (strOfNums s)] w fun e w' => e = .returned (.tuple #[]) ∧ WSt w' g (addSt st (some s)) ∧ w.grownBy w' (some g) := by
  cases st with
  | none => exact (add_bad g _ w h).mono fun e w' ⟨h1, h2⟩ => by subst h2; exact ⟨h1, h, World.grownBy.refl _ _⟩
  | some l => exact add_good g l s w h hn
set_option maxRecDepth 100000 in
theorem number_any (g : Nat) (st : Option (List Int)) (n : Int) (h0 : 0 ≤ n) (h1 : n ≤ 18446744073709551615) (k : Int) (w : World) (h : WSt w g st) (hn : stLen st ≤ 100000000) :
    Calls Tryd.prog 49 #[.pointer (some ⟨g, 0, none⟩), .int .u64 n, .int .i64 k] w fun e w' => e = .returned (.tuple #[]) ∧ WSt w' g (addSt st (numSt n k)) ∧ w.grownBy w' (some g) := by
  cases hs : numSt n k with
  | none =>
    refine number_fail _ n h0 h1 k hs w _ ((wFail_any g st w h).mono ?_)
    rintro e w' ⟨rfl, h1, h2⟩
    refine ⟨rfl, rfl, ?_, h2⟩
    cases st <;> exact h1
  | some l =>
    obtain ⟨m, rfl, hm, hf, rfl⟩ := numSt_some hs
    refine number_walk _ n h0 h1 m hm hf w _ (fun w1 hb => (add_any g st _ w1 (h.below hb) (by rw [numB_length]; omega)).mono ?_)
    rintro e w' ⟨rfl, h1, h2⟩
    exact ⟨rfl, rfl, h1, grown_trans (grown_below hb _) h2⟩
set_option maxRecDepth 100000 in
theorem number_nil (n : Int) (h0 : 0 ≤ n) (h1 : n ≤ 18446744073709551615) (k : Int) (w : World) :
    Calls Tryd.prog 49 #[.pointer none, .int .u64 n, .int .i64 k] w fun e w' => e = .returned (.tuple #[]) ∧ Below w.heap.size w w' := by
  cases hs : numSt n k with
  | none =>
    refine number_fail _ n h0 h1 k hs w _ ((wFail_nil w).mono ?_)
    rintro e w' ⟨rfl, rfl⟩
    exact ⟨rfl, rfl, Below.refl _ _⟩
  | some l =>
    obtain ⟨m, rfl, hm, hf, rfl⟩ := numSt_some hs
    refine number_walk _ n h0 h1 m hm hf w _ (fun w1 hb => (add_nil _ w1).mono ?_)
    rintro e w' ⟨rfl, rfl⟩
    exact ⟨rfl, rfl, hb⟩
end Go.Proofs.YtjhnnblilfddpaaDoor
