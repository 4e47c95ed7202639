import Derived.Test.YtjkccnfmmkhapaaQa
namespace Go.Proofs.Ytjkccnfmmkhapaa
set_option linter.unusedSimpArgs false
set_option linter.unusedVariables false
open Go.RowKit
theorem itC_all (x : It) : (itC x).all (·.oneCell') = true := by
  have : (itC x) = (itC x).toList.toArray := by simp
  rw [this]
  apply all_oneCell_toArray; intro v hv
  simp [itC, vB] at hv
  rcases hv with rfl | rfl | rfl | rfl | rfl | ⟨y, _, rfl⟩ <;> rfl
theorem zero34 (W : World) : (zeroValue 34).run Try.prog W = .ok (.agg (itC it0)) W := by kernel_rfl
theorem it0_size : (itC it0).size = 37 := by simp [itC, it0, vB_size, zs]
section
variable {ops : Array Oper} {rest : List Oper} {o : Oper} {a : Act} {w : World} {Q : Exit → Act → World → Prop}
theorem load34m (hgd : o.guard = none) (x : Operand) (ho : o.op = .load 34 x) (g off : Nat) (hx : a.eval x = .pointer (some ⟨g, off, none⟩)) (it : It) (hok : it.Ok) (hg : w.rangeAt g off (itC it).toList)
    (h : wpList Try.prog ops Q rest (a.put o.dst (.agg (itC it))) w) : wpList Try.prog ops Q (o :: rest) a w :=
  wpList_load_mid hgd 34 x ho g off hx (itC it).toList _ hg Try.underlying34 rfl (by rw [Array.length_toList, itC_size it hok]; kernel_rfl) (by simpa using h)
theorem store34n {w0 : World} (hgd : o.guard = none) (x y : Operand) (ho : o.op = .store 34 x y) (it : It) (hok : it.Ok) (hx : a.eval x = .pointer (some ⟨w0.heap.size, 0, none⟩)) (hy : a.eval y = .agg (itC it))
    (h : wpList Try.prog ops Q rest (a.put o.dst undef) (w0.alloc (.cells (itC it) 34))) : wpList Try.prog ops Q (o :: rest) a (w0.alloc (.cells (itC it0) 34)) := by
  refine wpList_store_row hgd 34 x y ho w0.heap.size _ hx hy 34 _ (heap_alloc_new _ _) (by rw [itC_size it hok]; kernel_rfl) (by rw [itC_size it hok, it0_size]) (itC_all it) ?_
  rw [World.setRow_alloc_new]
  exact h
end
/-- Behind the first j items. -/
def PutAt (w : World) (g : Nat) (xs : List It) (j : Nat) (wr : World) : Prop := WSt wr g (allSt (xs.take j)) ∧ Below w.heap.size w wr
theorem put_step (w : World) (g : Nat) (hg : w.heap.size ≤ g) (xs : List It) (j : Nat) (x : It) (hx : xs[j]? = some x) (hok : ∀ x ∈ xs, x.Ok) (hl : xs.length ≤ 100) (wr : World) (h : PutAt w g xs j wr) :
    Calls Try.prog 8 #[.pointer (some ⟨g, 0, none⟩), .agg (itC x)] wr fun e w' => e = .returned (.tuple #[]) ∧ PutAt w g xs (j + 1) w' := by
  have hb := stLen_all _ (xs.take j) rfl (fun y hy => hok y (List.mem_of_mem_take hy))
  have hj : (xs.take j).length ≤ 100 := by simp; omega
  refine (put_h (.pointer (some ⟨g, 0, none⟩)) _ x (hok x (List.mem_of_getElem? hx)) wr (Or.inr ⟨g, rfl, h.1⟩) (by omega)).mono ?_
  rintro e w' ⟨rfl, h1, h2⟩
  refine ⟨rfl, ?_, h.2.grown h2 h.2.size (fun k hk => by injection hk with hk; subst hk; exact hg)⟩
  rcases h1 with ⟨e, _⟩ | ⟨g', e, h1⟩
  · cases e
  · injection e with e; injection e with e; injection e with e; subst e
    rw [allSt_take xs j x hx]; exact h1
theorem step_load_mid {P : Program} {ops : Array Oper} {op : Oper} {a : Act} {w : World} {K : Act → World → Prop} {Q : Exit → Act → World → Prop} {E : Prop} (hgd : op.guard = none) (ty : TypeId) (x : Operand) (ho : op.op = .load ty x)
    (b o : Nat) (hx : a.eval x = .pointer (some ⟨b, o, none⟩)) (cs : Array Value) (d : TypeDesc) (hc : w.rangeAt b o cs.toList)
    (hu : P.underlying ty = some d) (hd : d.isRow = true) (hi : (P.info? ty).map (·.size) = some cs.size)
    (h : K (a.put op.dst (.agg cs)) w) : if Region.wanted op (yielded ops a.tmps) = true then Oper.wp P op a w K Q else E := by
  have hw : Region.wanted op (yielded ops a.tmps) = true := by simp [Region.wanted, hgd]
  rw [if_pos hw]
  exact wp_load_mid ty x ho b o hx cs.toList d hc hu hd (by simpa using hi) (by simpa using h)
/-- The reader, when the first j items were read. -/
def ReadAt (w : World) (g : Nat) (xs : List It) (j : Nat) (wr : World) : Prop := RSt wr g (some (allB (xs.drop j))) ∧ Below w.heap.size w wr
/-- What a read of item j leaves, item j lying in block B. -/
def ReadBy (w : World) (g : Nat) (xs : List It) (j : Nat) (B : Nat) (x : It) (v : Value) (e : Ending) (w' : World) : Prop := e = .returned v ∧ ReadAt w g xs (j + 1) w' ∧ w'.heap[B]? = some (.cells (itC x) 34)
theorem read_by {w : World} {g : Nat} {xs : List It} {j B : Nat} {x : It} {v v' : Value} {st : Option (List Int)} {W : World} (hst : st = some (allB (xs.drop (j + 1)))) (hv : v = v') (hg : w.heap.size ≤ g) (hne : B ≠ g) (hW : ReadAt w g xs j W) (hB : W.heap[B]? = some (.cells (itC x) 34))
    {f : FuncId} {args : Array Value} (h : Calls Try.prog f args W (Rread W (.pointer (some ⟨g, 0, none⟩)) st v)) : Calls Try.prog f args W (ReadBy w g xs j B x v') := by
  refine h.mono ?_
  rintro e w' ⟨rfl, h1, h2⟩
  subst hst hv
  refine ⟨rfl, ⟨?_, hW.2.grown h2 hW.2.size (fun k hk => by injection hk with hk; subst hk; exact hg)⟩, ?_⟩
  · rcases h1 with ⟨e, _⟩ | ⟨g', e, h1⟩
    · cases e
    · injection e with e; injection e with e; injection e with e; subst e
      exact h1
  · rw [h2.block B (Array.getElem?_eq_some_iff.1 hB).1 (fun e => hne (by injection e))]; exact hB
end Go.Proofs.Ytjkccnfmmkhapaa
