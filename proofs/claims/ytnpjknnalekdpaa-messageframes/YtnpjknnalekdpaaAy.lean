import Derived.Test.YtnpjknnalekdpaaAx
import Derived.Lib.SlBytesConst
import Derived.Maps.AppendAt
import Derived.Laws.AppendOwnNone
import Derived.Laws.StructEq
import Derived.Laws.BytesArg
import Derived.Laws.Concat
namespace Go.Proofs.Ytnpjknnalekdpaa
set_option linter.unusedSimpArgs false
set_option linter.unusedVariables false
open Go.RowKit
end Go.Proofs.Ytnpjknnalekdpaa
namespace Go.Proofs.Ytnpjknnalekdpaa
set_option linter.unusedSimpArgs false
set_option linter.unusedVariables false
open Go.RowKit
/-- How long a slice is. -/
def sliceLen : Value → Nat
  | .slice _ n _ => n
  | _ => 0
theorem rangeB {w : World} {b o : Nat} {bs : List Int} (hr : w.rangeAt b o (vB bs).toList) (j : Nat) (hj : j < bs.length) : w.cell? ⟨b, o + j, none⟩ = some (.int .u8 (gi bs j)) :=
  hr j _ (by have := vB_at bs j hj; simpa using this)
end Go.Proofs.Ytnpjknnalekdpaa
namespace Go.Proofs.Ytnpjknnalekdpaa
set_option linter.unusedSimpArgs false
set_option linter.unusedVariables false
open Go.RowKit
theorem padL_length (n : Nat) : (padL n).length = padLen n := padTo_length n 8
/-- The hash of bytes. -/
def hashOf (all : List Int) : List Int := outB (wordsOf (all ++ padL all.length))
theorem hashOf_length (all : List Int) : (hashOf all).length = 32 := by unfold hashOf outB; exact outTo_length _ 8
section
variable {ops : Array Oper} {rest : List Oper} {o : Oper} {a : Act} {w : World} {Q : Exit → Act → World → Prop}
end
theorem setRow_alloc2 (w : World) (A : Obj) (c c' : Array Value) (t : TypeId) : ((w.alloc A).alloc (.cells c t)).setRow (w.heap.size + 1) c' = (w.alloc A).alloc (.cells c' t) := by
  have h := World.setRow_alloc_new (w.alloc A) c c' t
  rwa [show (w.alloc A).heap.size = w.heap.size + 1 by simp] at h
theorem range_of_block {w : World} {g : Nat} {l : List Int} {t : TypeId} (hg : w.heap[g]? = some (.cells (vB l) t)) : w.rangeAt g 0 (vB l).toList := fun j v hv => by
  rw [Nat.zero_add, cell_of_row w g j _ t (0, 0) hg]; simpa using hv
end Go.Proofs.Ytnpjknnalekdpaa
namespace Go.Proofs.Ytnpjknnalekdpaa
set_option linter.unusedSimpArgs false
set_option linter.unusedVariables false
open Go.RowKit
/-- The value v is a slice that holds the bytes bs, in memory that w has. -/
def PartAt (w : World) (v : Value) (bs : List Int) : Prop := ∃ (av : Option Addr) (b o cp : Nat), v = .slice av bs.length cp ∧ bs.length ≤ cp ∧ cp ≤ 9223372036854775807 ∧ (0 < bs.length → av = some ⟨b, o, none⟩) ∧ w.rangeAt b o (vB bs).toList ∧ b < w.heap.size ∧ (av = none → cp = 0)
theorem range_below {w w' : World} {b o : Nat} {cs : List Value} (h : w.rangeAt b o cs) (hb : Below w.heap.size w w') (hlt : b < w.heap.size) : w'.rangeAt b o cs := fun j v hv => by
  rw [hb.cell (show b < w.heap.size from hlt)]; exact h j v hv
theorem PartAt.below {w w' : World} {v : Value} {bs : List Int} (h : PartAt w v bs) (hb : Below w.heap.size w w') : PartAt w' v bs := by
  obtain ⟨av, b, o, cp, h1, h2, h3, h4, h5, h6, h7⟩ := h
  exact ⟨av, b, o, cp, h1, h2, h3, h4, range_below h5 hb h6, Nat.lt_of_lt_of_le h6 hb.size, h7⟩
end Go.Proofs.Ytnpjknnalekdpaa
namespace Go.Proofs.Ytnpjknnalekdpaa
set_option linter.unusedSimpArgs false
set_option linter.unusedVariables false
open Go.RowKit
theorem store24n {ops : Array Oper} {rest : List Oper} {o : Oper} {a : Act} {w0 : World} {Q : Exit → Act → World → Prop} (hgd : o.guard = none) (x y : Operand) (ho : o.op = .store 27 x y) (l : List Int) (hl : l.length = 32) (hx : a.eval x = .pointer (some ⟨w0.heap.size, 0, none⟩)) (hy : a.eval y = .agg (vB l))
    (h : ∀ w2 : World, w2.heap[w0.heap.size]? = some (.cells (vB l) 27) → Below w0.heap.size w0 w2 → w2.cell? ⟨w0.heap.size, 0, none⟩ = some (.int .u8 (gi l 0)) → w2.cell? ⟨w0.heap.size, 31, none⟩ = some (.int .u8 (gi l 31)) → wpList Try.prog ops Q rest (a.put o.dst undef) w2) : wpList Try.prog ops Q (o :: rest) a (w0.alloc (.cells (vB (zs 32)) 27)) := by
  refine store24 hgd x y ho w0.heap.size l hx hy hl 27 (zs 32) rfl (heap_alloc_new _ _) ?_
  rw [World.setRow_alloc_new]
  have f := heap_alloc_new w0 (.cells (vB l) 27)
  exact h _ f ((Below.refl _ _).alloc (Nat.le_refl _) _) (row_cell f (vB_at l 0 (by omega))) (row_cell f (vB_at l 31 (by omega)))
end Go.Proofs.Ytnpjknnalekdpaa
namespace Go.Proofs.Ytnpjknnalekdpaa
set_option linter.unusedSimpArgs false
set_option linter.unusedVariables false
open Go.RowKit
/-- The value v is a slice of the call's own, of the bytes l. -/
def OwnB (w : World) (base : Nat) (v : Value) (l : List Int) : Prop := w.ownsRow base 5 1 v l.length (vB l).toList
set_option maxRecDepth 100000 in
theorem info5 : (Try.prog.info? 5).map (fun i => (i.zero, i.size, i.bytes)) = some (some (.int .u8 0), 1, 1) := by kernel_rfl
set_option maxRecDepth 100000 in
theorem appendB {ops : Array Oper} {rest : List Oper} {o : Oper} {a : Act} {w : World} {Q : Exit → Act → World → Prop} (hgd : o.guard = none) (s x : Operand)
    (ho : o.op = .call { callee := .builtin .append, args := #[s, x], argTypes := #[22, 22] }) (base : Nat) (v : Value) (l : List Int) (hs : a.eval s = v) (hown : OwnB w base v l)
    (sv : Value) (ys : List Int) (hx : a.eval x = sv) (hp : PartAt w sv ys) (hlen : l.length + ys.length ≤ 140737488355328) (hbase : base ≤ w.heap.size)
    (h : ∀ v' w', OwnB w' base v' (l ++ ys) → w.grownBy w' v.ownBlock → (v'.ownBlock = v.ownBlock ∨ v'.ownBlock = some w.heap.size) → wpList Try.prog ops Q rest (a.put o.dst v') w') : wpList Try.prog ops Q (o :: rest) a w := by
  obtain ⟨i, hi, hz0, hz1, hz2⟩ := info_parts info5
  obtain ⟨av, b, off, cp, rfl, h1, h2, h3, h4, h5, h6⟩ := hp
  cases av with
  | none =>
    have hl0 : ys.length = 0 := by
      rcases Nat.eq_zero_or_pos ys.length with h0 | h0
      · exact h0
      · have := h3 h0; cases this
    have hy : ys = [] := List.eq_nil_of_length_eq_zero hl0
    subst hy
    have hc := h6 rfl
    subst hc
    refine wpList_append_own_none hgd s x 22 ho base 5 i 1 Try.underlying22 hi v l.length _ hs hown hx ?_
    refine h v w (by simpa using hown) (World.grownBy.refl _ _) (Or.inl rfl)
  | some ad =>
    have hn : ∀ j u, (vB ys).toList[j]? = some u → w.cell? (ad.add j) = some u := fun j u hu => by
      have hj : j < ys.length := by have := (List.getElem?_eq_some_iff.1 hu).1; rw [Array.length_toList, vB_size] at this; exact this
      have e := h3 (by omega)
      injection e with e; subst e
      rw [Addr.add_mid]; exact h4 j u hu
    refine wpList_append_own_at w hgd s x 22 ho base 5 i (.int .u8 0) 1 1 Try.underlying22 hi hz0 hz1 hz2 rfl (by omega) v l.length (vB l).toList hs hown ad ys.length cp (vB ys).toList hx (by rw [Array.length_toList, vB_size]; omega) hn
      (fun v hv => by simp [vB] at hv; obtain ⟨y, _, rfl⟩ := hv; rfl) (by unfold maxLen; omega) (by omega) hbase ?_
    intro v' w' h1 h2 _ h4
    refine h v' w' ?_ h2 h4
    unfold OwnB
    rw [List.length_append]
    simpa [vB] using h1
end Go.Proofs.Ytnpjknnalekdpaa
namespace Go.Proofs.Ytnpjknnalekdpaa
set_option linter.unusedSimpArgs false
set_option linter.unusedVariables false
open Go.RowKit
end Go.Proofs.Ytnpjknnalekdpaa
namespace Go.Proofs.Ytnpjknnalekdpaa
set_option linter.unusedSimpArgs false
set_option linter.unusedVariables false
open Go.RowKit
set_option maxRecDepth 100000 in
theorem ownB_new (w : World) : OwnB (w.alloc (.cells #[] 5)) w.heap.size (.slice (some ⟨w.heap.size, 0, none⟩) 0 0) [] :=
  ⟨rfl, Or.inr ⟨w.heap.size, 0, #[], rfl, Nat.le_refl _, heap_alloc_new _ _, Nat.le_refl _, by unfold maxLen; omega, rfl, rfl⟩⟩
set_option maxRecDepth 100000 in
theorem run_conv {w : World} {v : Value} {bs : List Int} (h : PartAt w v bs) : (convert 22 9 v).run Try.prog w = .ok (.string (strOfNums bs)) w := by
  obtain ⟨av, b, o, cp, rfl, h1, h2, h3, h4, h5, h6⟩ := h
  cases av with
  | none =>
    have hl0 : bs.length = 0 := by
      rcases Nat.eq_zero_or_pos bs.length with h0 | h0
      · exact h0
      · have := h3 h0; cases this
    have hy : bs = [] := List.eq_nil_of_length_eq_zero hl0
    subst hy
    rw [run_convert_bytes_nil w 22 5 Try.underlying22 Try.underlying5 _ _ 9 Try.underlying9]
    rfl
  | some ad =>
    rcases Nat.eq_zero_or_pos bs.length with h0 | h0
    · have hy : bs = [] := List.eq_nil_of_length_eq_zero h0
      subst hy
      rw [run_convert_bytes_string w 22 9 5 _ _ _ Try.underlying22 Try.underlying5 Try.underlying9]
      exact run_bytesToString w ad 0 cp [] (by simpa using run_loadCells_list (P := Try.prog) w ad [] (by simp))
    · have e := h3 h0
      injection e with e; subst e
      exact run_convert_bytes_arg w 22 5 Try.underlying22 Try.underlying5 b o bs.length cp bs rfl (fun i hi => rangeB h4 i hi) 9 Try.underlying9
set_option maxRecDepth 100000 in
theorem OwnB.alloc {w : World} {base : Nat} {v : Value} {l : List Int} (h : OwnB w base v l) (ob : Obj) : OwnB (w.alloc ob) base v l := by
  obtain ⟨h1, h2⟩ := h
  refine ⟨h1, ?_⟩
  rcases h2 with h2 | ⟨g, cap, cur, hv, hg, hh, r⟩
  · exact Or.inl h2
  · exact Or.inr ⟨g, cap, cur, hv, hg, by rw [Below.heap_alloc _ _ _ (Array.getElem?_eq_some_iff.1 hh).1]; exact hh, r⟩
set_option maxRecDepth 100000 in
theorem part_new (w : World) (l : List Int) (hl : l.length ≤ 9223372036854775807) : PartAt (w.alloc (.cells (vB l) 5)) (.slice (some ⟨w.heap.size, 0, none⟩) l.length l.length) l :=
  ⟨some ⟨w.heap.size, 0, none⟩, w.heap.size, 0, l.length, rfl, Nat.le_refl _, hl, fun _ => rfl, range_of_block (heap_alloc_new _ _), by simp, fun h => by cases h⟩
end Go.Proofs.Ytnpjknnalekdpaa
