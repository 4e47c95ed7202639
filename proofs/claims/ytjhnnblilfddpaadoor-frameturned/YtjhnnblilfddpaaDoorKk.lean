import Derived.Test.YtjhnnblilfddpaaDoorKj
namespace Go.Proofs.YtjhnnblilfddpaaDoor
set_option linter.unusedSimpArgs false
set_option linter.unusedVariables false
open Go.RowKit
def takeV (st : Option (List Int)) (k : Nat) : List Int :=
  match st with
  | some l => if k ≤ l.length then l.take k else []
  | none => []
def takeSt (st : Option (List Int)) (k : Nat) : Option (List Int) :=
  match st with
  | some l => if k ≤ l.length then some (l.drop k) else none
  | none => none
set_option maxRecDepth 100000 in
set_option maxHeartbeats 400000 in
/-- take, where so many bytes aren't left, or the reader is bad. -/
theorem take_bad (p : Value) (st : Option (List Int)) (k : Nat) (hk : k ≤ 281474976710656) (w : World) (h : RHnd w p st) (ht : takeSt st k = none) : Calls Tryd.prog 84 #[p, .int .i64 k] w (Rread w p none (.string ⟨#[]⟩)) := by
  have hst : st = none ∨ stLen st < k := by
    cases st with
    | none => exact Or.inl rfl
    | some l => right; unfold takeSt at ht; simp only at ht; split at ht; · cases ht
                · rename_i hh; simp [stLen]; omega
  have C : Hid (∀ W, RHnd W p none → Calls Tryd.prog 88 #[p] W fun e w' => e = .returned (.bool true) ∧ w' = W) := fun W hW => rBad_h p none W hW
  have D : Hid (Calls Tryd.prog 89 #[p] w fun e w' => e = .returned (.int .i64 (stLen st)) ∧ w' = w) := left_h p st w h
  have F : Hid (Calls Tryd.prog 83 #[p] w (Rread w p none (.tuple #[]))) := rFail_h p st w h
  by_cases hlt : stLen st < k
  · have hlt' : (stLen st : Int) < (k : Int) := by omega
    clear h ht hst
    generalize stLen st = N at *
    go_enter Tryd.func84, Tryd.ntmps84
    go_wp2_with (first | (go_at_call 89; refine D.out.mono ?_; rintro e w' ⟨rfl, h'⟩; have h'' := h'.symm; clear h'; subst h'') | (go_at_call 83; refine F.out.mono ?_; rintro e w2 ⟨rfl, h2, g2⟩) | (go_at_call 88; refine (C.out _ h2).mono ?_; rintro e w' ⟨rfl, h'⟩; have h'' := h'.symm; clear h'; subst h''))
    go_ret
    exact ⟨rfl, h2, g2⟩
  · obtain rfl : st = none := by rcases hst with h | h; exact h; exact absurd h hlt
    have hk0 : k = 0 := by simp [stLen] at hlt; omega
    subst hk0
    have h2 := h
    clear h ht hst hlt
    go_enter Tryd.func84, Tryd.ntmps84
    go_wp2_with (first | (go_at_call 89; refine D.out.mono ?_; rintro e w' ⟨rfl, h'⟩; have h'' := h'.symm; clear h'; subst h''; rw [show stLen none = 0 from rfl]) | (go_at_call 88; refine (C.out _ h2).mono ?_; rintro e w' ⟨rfl, h'⟩; have h'' := h'.symm; clear h'; subst h''))
    go_ret
    exact ⟨rfl, h2, World.grownBy.refl _ _⟩
set_option maxRecDepth 100000 in
theorem extract_take (l : List Int) (k : Nat) : (strOfNums l).extract 0 k = strOfNums (l.take k) := by
  unfold strOfNums
  apply ByteArray.ext
  rw [ByteArray.data_extract]
  simp
set_option maxRecDepth 100000 in
theorem extract_drop (l : List Int) (k n : Nat) (hn : l.length ≤ n) : (strOfNums l).extract k n = strOfNums (l.drop k) := by
  unfold strOfNums
  apply ByteArray.ext
  rw [ByteArray.data_extract]
  simp [List.extract]
  rw [List.take_of_length_le (by simp; omega)]
set_option maxRecDepth 100000 in
set_option maxHeartbeats 400000 in
theorem take_good (g : Nat) (l : List Int) (k : Nat) (hk : k ≤ l.length) (w : World) (h : RSt w g (some l)) : Calls Tryd.prog 84 #[.pointer (some ⟨g, 0, none⟩), .int .i64 k] w (Rread w (.pointer (some ⟨g, 0, none⟩)) (some (l.drop k)) (.string (strOfNums (l.take k)))) := by
  have C : Hid (Calls Tryd.prog 88 #[.pointer (some ⟨g, 0, none⟩)] w fun e w' => e = .returned (.bool false) ∧ w' = w) := rBad_h _ (some l) w (Or.inr ⟨g, rfl, h⟩)
  have D : Hid (Calls Tryd.prog 89 #[.pointer (some ⟨g, 0, none⟩)] w fun e w' => e = .returned (.int .i64 l.length) ∧ w' = w) := left_h _ (some l) w (Or.inr ⟨g, rfl, h⟩)
  obtain ⟨h1, h2, h3⟩ := h
  have c0 : w.cell? ⟨g, 0, none⟩ = some (.string (strOfNums l)) := row_cell (j := 0) h1 rfl
  have f0 := unfrozen (j := 0) h1
  have hz := strOfNums_size l
  have hlt' : (k : Int) ≤ (l.length : Int) := by omega
  have H1 : Hid (w.heap[g]? = some (.cells #[.string (strOfNums l), .bool false] 122)) := h1
  have H2 : Hid (Bytes l) := h2
  clear h1 h2
  go_enter Tryd.func84, Tryd.ntmps84
  go_wp2_with (first | (go_at_call 89; refine D.out.mono ?_; rintro e w' ⟨rfl, h'⟩; have h'' := h'.symm; clear h'; subst h'') | (go_at_call 88; refine C.out.mono ?_; rintro e w' ⟨rfl, h'⟩; have h'' := h'.symm; clear h'; subst h''))
  go_ret
  rw [extract_take, extract_drop l k l.length (Nat.le_refl _)]
  refine ⟨rfl, Or.inr ⟨g, rfl, ?_, fun x hx => H2.out x (List.mem_of_mem_drop hx), ?_⟩, grown_setCell _ _ _ _⟩
  · rw [heap_setCell_same _ g 0 _ 122 _ H1.out]; rfl
  · simp; omega
set_option maxRecDepth 100000 in
theorem take_h (p : Value) (st : Option (List Int)) (k : Nat) (hk : k ≤ 281474976710656) (w : World) (h : RHnd w p st) : Calls Tryd.prog 84 #[p, .int .i64 k] w (Rread w p (takeSt st k) (.string (strOfNums (takeV st k)))) := by
  cases ht : takeSt st k with
  | none =>
    have hv : takeV st k = [] := by
      cases st with
      | none => rfl
      | some l => unfold takeSt at ht; unfold takeV; simp only at ht ⊢; split at ht; · cases ht
                  · rename_i hh; rw [if_neg hh]
    rw [hv]
    exact take_bad p st k hk w h ht
  | some l' =>
    cases st with
    | none => cases ht
    | some l =>
      have hkl : k ≤ l.length := by
        unfold takeSt at ht; simp only at ht; split at ht; · assumption
        · cases ht
      have e1 : takeV (some l) k = l.take k := by unfold takeV; simp only; rw [if_pos hkl]
      have e2 : l' = l.drop k := by unfold takeSt at ht; simp only at ht; rw [if_pos hkl] at ht; injection ht with ht; exact ht.symm
      rw [e1, e2]
      rcases h with ⟨_, h⟩ | ⟨g, rfl, h⟩
      · cases h
      · exact take_good g l k hkl w h
set_option maxRecDepth 100000 in
set_option maxHeartbeats 400000 in
theorem read_any (v : Value) (l : List Int) (hb : Bytes l) (hl : l.length ≤ 140737488355328) (w : World) (hv : (convert 22 9 v).run Tryd.prog w = .ok (.string (strOfNums l)) w) :
    Calls Tryd.prog 75 #[v] w fun e w' => ∃ g, e = .returned (.pointer (some ⟨g, 0, none⟩)) ∧ RSt w' g (some l) ∧ w.heap.size ≤ g ∧ Below w.heap.size w w' := by
  go_enter Tryd.func75, Tryd.ntmps75
  go_wp2
  go_ret
  exact ⟨_, rfl, ⟨heap_alloc_new _ _, hb, hl⟩, Nat.le_refl _, (Below.refl _ _).alloc (Nat.le_refl _) _⟩
end Go.Proofs.YtjhnnblilfddpaaDoor
