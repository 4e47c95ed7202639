import Derived.Test.YtnpjknnalekdpaaDoorFf
namespace Go.Proofs.YtnpjknnalekdpaaDoor
set_option linter.unusedSimpArgs false
set_option linter.unusedVariables false
open Go.RowKit
section
variable {ops : Array Oper} {rest : List Oper} {o : Oper} {a : Act} {w : World} {Q : Exit → Act → World → Prop}
theorem store61 (hgd : o.guard = none) (x y : Operand) (ho : o.op = .store 46 x y) (g : Nat) (u0 u1 : Value) (hx : a.eval x = .pointer (some ⟨g, 0, none⟩)) (hy : a.eval y = .agg #[u0, u1]) (hone : (#[u0, u1] : Array Value).all (·.oneCell') = true) (v0 v1 : Value) (hg : w.heap[g]? = some (.cells #[v0, v1] 46))
    (h : wpList Tryd.prog ops Q rest (a.put o.dst undef) (w.setRow g #[u0, u1])) : wpList Tryd.prog ops Q (o :: rest) a w :=
  wpList_store_row hgd 46 x y ho g _ hx hy 46 _ hg (by kernel_rfl) rfl hone h
end
theorem one61 (t : Int) (a : Option Addr) (n c : Nat) : (#[.int .u8 t, .slice a n c] : Array Value).all (·.oneCell') = true := by
  apply all_oneCell_toArray; intro v hv; simp at hv; rcases hv with rfl | rfl <;> rfl
/-- The results of Decode, at its end. -/
theorem dec_end {R : Ending → World → Prop} {T : Array Value} {w : World} {B : Nat} {u0 u1 : Value} {m c : Int} (h2 : T[2]? = some (.pointer (some ⟨B, 0, none⟩))) (h3 : T[3]? = some (.int .i64 m)) (h4 : T[4]? = some (.int .i64 c)) (hg : w.heap[B]? = some (.cells #[u0, u1] 46)) (hR : R (.returned (.tuple #[.agg #[u0, u1], .int .i64 m, .int .i64 c])) w) : bodyPost Tryd.prog Tryd.f32 R .ret ⟨T, []⟩ w := by
  have c0 := row_cell (j := 0) hg rfl
  have c1 := row_cell (j := 1) hg rfl
  refine bodyPost_ret (v := .tuple #[.agg #[u0, u1], .int .i64 m, .int .i64 c]) ?_ rfl hR
  simp [results, Tryd.results32, go_sem, h2, h3, h4, c0, c1]
set_option maxHeartbeats 1000000 in
set_option maxRecDepth 100000 in
theorem decode_form (v : Value) (bs : List Int) (w : World) (hp : PartAt w v bs) (hb : Bytes bs) (h : beginsB bs = false) : Calls Tryd.prog 32 #[v] w fun e w' => e = .returned (.tuple #[.agg #[.int .u8 0, .slice none 0 0], .int .i64 0, .int .i64 2]) ∧ Below w.heap.size w w' := by
  have b1 : Below w.heap.size w (w.alloc (.cells #[.int .u8 0, .slice none 0 0] 46)) := (Below.refl _ _).alloc (Nat.le_refl _) _
  have BG : Hid (Calls Tryd.prog 35 #[v] (w.alloc (.cells #[.int .u8 0, .slice none 0 0] 46)) fun e w' => e = .returned (.bool false) ∧ Below w.heap.size w w' ∧ w'.heap[w.heap.size]? = some (.cells #[.int .u8 0, .slice none 0 0] 46)) := by
    have q := begins_any v bs _ (hp.below b1) hb
    rw [h] at q
    exact q.mono fun e w' ⟨r1, r2⟩ => ⟨r1, b1.trans (r2.mono (by simp)), by rw [r2.block _ (by simp)]; exact heap_alloc_new _ _⟩
  clear hp b1
  go_enter Tryd.func32, Tryd.ntmps32
  go_wp2_with fail
  refine BG.out.mono ?_
  rintro e w2 ⟨rfl, b2, k2⟩
  have K2 : Hid (w2.heap[w.heap.size]? = some (.cells #[.int .u8 0, .slice none 0 0] 46)) := k2
  clear k2 BG
  go_wp2_with (first | (refine store61 rfl _ _ rfl w.heap.size (.int .u8 0) (.slice none 0 0) rfl rfl (one61 _ _ _ _) (.int .u8 0) (.slice none 0 0) K2.out ?_))
  exact dec_end rfl rfl rfl (setRow_same K2.out) ⟨rfl, below_setRow b2 (Nat.le_refl _) _⟩
end Go.Proofs.YtnpjknnalekdpaaDoor
