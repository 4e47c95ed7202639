import Derived.Test.YtjhnnblilfddpaaDoorKi
namespace Go.Proofs.YtjhnnblilfddpaaDoor
set_option linter.unusedSimpArgs false
set_option linter.unusedVariables false
open Go.RowKit
/-- A Reader of the bytes l; or a bad one. -/
def RSt (w : World) (g : Nat) : Option (List Int) → Prop
  | some l => w.heap[g]? = some (.cells #[.string (strOfNums l), .bool false] 122) ∧ Bytes l ∧ l.length ≤ 140737488355328
  | none => w.heap[g]? = some (.cells #[.string ⟨#[]⟩, .bool true] 122)
set_option maxRecDepth 100000 in
theorem RSt.lt {w : World} {g : Nat} {st : Option (List Int)} (h : RSt w g st) : g < w.heap.size := by
  cases st with
  | none => exact (Array.getElem?_eq_some_iff.1 h).1
  | some l => exact (Array.getElem?_eq_some_iff.1 h.1).1
set_option maxRecDepth 100000 in
theorem RSt.keep {w w' : World} {g : Nat} {st : Option (List Int)} (h : RSt w g st) (hg : w'.heap[g]? = w.heap[g]?) : RSt w' g st := by
  cases st with
  | none => unfold RSt at *; rw [hg]; exact h
  | some l => exact ⟨by rw [hg]; exact h.1, h.2⟩
set_option maxRecDepth 100000 in
theorem RSt.below {w w' : World} {g : Nat} {st : Option (List Int)} (h : RSt w g st) (hb : Below w.heap.size w w') : RSt w' g st := h.keep (hb.block g h.lt)
/-- A reader, or none. -/
def RHnd (w : World) (p : Value) (st : Option (List Int)) : Prop := (p = .pointer none ∧ st = none) ∨ ∃ g, p = .pointer (some ⟨g, 0, none⟩) ∧ RSt w g st
set_option maxRecDepth 100000 in
theorem RHnd.below {w w' : World} {p : Value} {st : Option (List Int)} (h : RHnd w p st) (hb : Below w.heap.size w w') : RHnd w' p st := by
  rcases h with h | ⟨g, h1, h2⟩
  · exact Or.inl h
  · exact Or.inr ⟨g, h1, h2.below hb⟩
set_option maxRecDepth 100000 in
set_option maxHeartbeats 400000 in
theorem rBad_h (p : Value) (st : Option (List Int)) (w : World) (h : RHnd w p st) : Calls Tryd.prog 88 #[p] w fun e w' => e = .returned (.bool (badB st)) ∧ w' = w := by
  rcases h with ⟨rfl, rfl⟩ | ⟨g, rfl, h⟩
  · go_enter Tryd.func88, Tryd.ntmps88; go_wp2; go_ret; exact ⟨rfl, rfl⟩
  · have hc : w.cell? ⟨g, 1, none⟩ = some (.bool (badB st)) := by
      cases st with
      | none => exact row_cell h rfl
      | some l => exact row_cell h.1 rfl
    clear h
    go_enter Tryd.func88, Tryd.ntmps88; go_wp2; go_ret; exact ⟨rfl, rfl⟩
set_option maxRecDepth 100000 in
set_option maxHeartbeats 400000 in
theorem left_h (p : Value) (st : Option (List Int)) (w : World) (h : RHnd w p st) : Calls Tryd.prog 89 #[p] w fun e w' => e = .returned (.int .i64 (stLen st)) ∧ w' = w := by
  rcases h with ⟨rfl, rfl⟩ | ⟨g, rfl, h⟩
  · go_enter Tryd.func89, Tryd.ntmps89; go_wp2; go_ret; exact ⟨rfl, rfl⟩
  · obtain ⟨S, hc, hs⟩ : ∃ S : ByteArray, w.cell? ⟨g, 0, none⟩ = some (.string S) ∧ S.size = stLen st := by
      cases st with
      | none => exact ⟨_, row_cell h rfl, rfl⟩
      | some l => exact ⟨_, row_cell h.1 rfl, strOfNums_size l⟩
    clear h
    go_enter Tryd.func89, Tryd.ntmps89; go_wp2; go_ret; exact ⟨rfl, rfl⟩
set_option maxRecDepth 100000 in
theorem grown_setRow' (w : World) (g : Nat) (cs : Array Value) : w.grownBy (w.setRow g cs) (some g) := grown_setRow w g cs
/-- What a call on a reader leaves. -/
def Rread (w : World) (p : Value) (st : Option (List Int)) (v : Value) (e : Ending) (w' : World) : Prop := e = .returned v ∧ RHnd w' p st ∧ w.grownBy w' (pb p)
section
variable {ops : Array Oper} {rest : List Oper} {o : Oper} {a : Act} {w : World} {Q : Exit → Act → World → Prop}
set_option maxRecDepth 100000 in
theorem store59 (hgd : o.guard = none) (x y : Operand) (ho : o.op = .store 122 x y) (g : Nat) (u0 u1 : Value) (hx : a.eval x = .pointer (some ⟨g, 0, none⟩)) (hy : a.eval y = .agg #[u0, u1]) (hone : (#[u0, u1] : Array Value).all (·.oneCell') = true) (v0 v1 : Value) (hg : w.heap[g]? = some (.cells #[v0, v1] 122))
    (h : wpList Tryd.prog ops Q rest (a.put o.dst undef) (w.setRow g #[u0, u1])) : wpList Tryd.prog ops Q (o :: rest) a w :=
  wpList_store_row hgd 122 x y ho g _ hx hy 122 _ hg (by kernel_rfl) rfl hone h
end
set_option maxRecDepth 100000 in
set_option maxHeartbeats 400000 in
theorem rFail_h (p : Value) (st : Option (List Int)) (w : World) (h : RHnd w p st) : Calls Tryd.prog 83 #[p] w (Rread w p none (.tuple #[])) := by
  rcases h with ⟨rfl, rfl⟩ | ⟨g, rfl, h⟩
  · go_enter Tryd.func83, Tryd.ntmps83; go_wp2
    exact fell Tryd.results83 rfl ⟨rfl, Or.inl ⟨rfl, rfl⟩, World.grownBy.refl _ _⟩
  · obtain ⟨v0, v1, hc⟩ : ∃ v0 v1, w.heap[g]? = some (.cells #[v0, v1] 122) := by
      cases st with
      | none => exact ⟨_, _, h⟩
      | some l => exact ⟨_, _, h.1⟩
    have hone : (#[.string ⟨#[]⟩, .bool true] : Array Value).all (·.oneCell') = true := by
      apply all_oneCell_toArray; intro v hv; simp at hv; rcases hv with rfl | rfl <;> rfl
    clear h
    go_enter Tryd.func83, Tryd.ntmps83
    go_wp2_with (first | (refine store59 rfl _ _ rfl g (.string ⟨#[]⟩) (.bool true) rfl rfl hone v0 v1 hc ?_))
    exact fell Tryd.results83 rfl ⟨rfl, Or.inr ⟨g, rfl, setRow_same hc⟩, grown_setRow _ _ _⟩
end Go.Proofs.YtjhnnblilfddpaaDoor
