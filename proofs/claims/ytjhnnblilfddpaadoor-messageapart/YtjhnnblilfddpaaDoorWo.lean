import Derived.Test.YtjhnnblilfddpaaDoorWn
import Derived.Laws.BytesArg
import Derived.Laws.Concat
namespace Go.Proofs.YtjhnnblilfddpaaDoor
set_option linter.unusedSimpArgs false
set_option linter.unusedVariables false
open Go.RowKit
set_option maxRecDepth 100000 in
set_option maxHeartbeats 400000 in
theorem reset_nil (w : World) : Calls Tryd.prog 23 #[.pointer none] w fun e w' => e = .returned (.tuple #[]) ∧ w' = w := by
  go_enter Tryd.func23, Tryd.ntmps23
  go_wp2
  exact bodyPost_ret (v := .tuple #[]) (by simp [results, Tryd.results23, go_sem]) rfl ⟨rfl, rfl⟩
set_option maxRecDepth 100000 in
set_option maxHeartbeats 400000 in
theorem len_nil (w : World) : Calls Tryd.prog 22 #[.pointer none] w fun e w' => e = .returned (.int .i64 0) ∧ w' = w := by
  go_enter Tryd.func22, Tryd.ntmps22
  go_wp2
  go_ret
  exact ⟨rfl, rfl⟩
set_option maxRecDepth 100000 in
theorem ownB_new (w : World) : OwnB (w.alloc (.cells #[] 5)) w.heap.size (.slice (some ⟨w.heap.size, 0, none⟩) 0 0) [] :=
  ⟨rfl, Or.inr ⟨w.heap.size, 0, #[], rfl, Nat.le_refl _, heap_alloc_new _ _, Nat.le_refl _, by unfold maxLen; omega, rfl, rfl⟩⟩
set_option maxRecDepth 100000 in
theorem run_conv {w : World} {v : Value} {bs : List Int} (h : PartAt w v bs) : (convert 22 9 v).run Tryd.prog w = .ok (.string (strOfNums bs)) w := by
  obtain ⟨av, b, o, cp, rfl, h1, h2, h3, h4, h5, h6⟩ := h
  cases av with
  | none =>
    have hl0 : bs.length = 0 := by
      rcases Nat.eq_zero_or_pos bs.length with h0 | h0
      · exact h0
      · have := h3 h0; cases this
    have hy : bs = [] := List.eq_nil_of_length_eq_zero hl0
    subst hy
    rw [run_convert_bytes_nil w 22 5 Tryd.underlying22 Tryd.underlying5 _ _ 9 Tryd.underlying9]
    rfl
  | some ad =>
    rcases Nat.eq_zero_or_pos bs.length with h0 | h0
    · have hy : bs = [] := List.eq_nil_of_length_eq_zero h0
      subst hy
      rw [run_convert_bytes_string w 22 9 5 _ _ _ Tryd.underlying22 Tryd.underlying5 Tryd.underlying9]
      exact run_bytesToString w ad 0 cp [] (by simpa using run_loadCells_list (P := Tryd.prog) w ad [] (by simp))
    · have e := h3 h0
      injection e with e; subst e
      exact run_convert_bytes_arg w 22 5 Tryd.underlying22 Tryd.underlying5 b o bs.length cp bs rfl (fun i hi => rangeB h4 i hi) 9 Tryd.underlying9
set_option maxRecDepth 100000 in
theorem eq24_zero (w : World) : (Op.equalIn 10000 24 (.agg (vB (zs 32))) (.agg #[.int .u8 0, .int .u8 0, .int .u8 0, .int .u8 0, .int .u8 0, .int .u8 0, .int .u8 0, .int .u8 0, .int .u8 0, .int .u8 0, .int .u8 0, .int .u8 0, .int .u8 0, .int .u8 0, .int .u8 0, .int .u8 0, .int .u8 0, .int .u8 0, .int .u8 0, .int .u8 0, .int .u8 0, .int .u8 0, .int .u8 0, .int .u8 0, .int .u8 0, .int .u8 0, .int .u8 0, .int .u8 0, .int .u8 0, .int .u8 0, .int .u8 0, .int .u8 0])).run Tryd.prog w = .ok true w := eq24_self 9998 (zs 32) rfl w
set_option maxRecDepth 100000 in
theorem str_add (bs : List Int) : strOfNums bs ++ (⟨#[7]⟩ : ByteArray) = strOfNums (bs ++ [7]) := by
  have h := ByteArray.mk_append_mk (bs.map fun n => UInt8.ofNat n.toNat) [7]
  unfold strOfNums
  rw [h]
  simp
set_option maxRecDepth 100000 in
theorem range_first {w : World} {b o : Nat} {x y : List Int} (h : w.rangeAt b o (vB (x ++ y)).toList) : w.rangeAt b o (vB x).toList := fun j v hv => by
  refine h j v ?_
  have hj : j < x.length := by have := (List.getElem?_eq_some_iff.1 hv).1; rw [Array.length_toList, vB_size] at this; exact this
  unfold vB at hv ⊢
  simp [List.getElem?_append, hj] at hv ⊢
  exact hv
set_option maxRecDepth 100000 in
theorem range_two {w : World} {x y : Value} {t : TypeId} (h : (w.alloc (Obj.cells #[x, y] t)).heap[w.heap.size]? = some (Obj.cells #[x, y] t)) : (w.alloc (Obj.cells #[x, y] t)).drew.rangeAt w.heap.size 0 [x, y] := fun j v hv => by
  rw [Nat.zero_add]
  show (w.alloc (Obj.cells #[x, y] t)).cell? _ = _
  rw [cell_of_row _ _ j _ t (0, 0) h]; simpa using hv
set_option maxRecDepth 100000 in
theorem two_parts {w : World} {x : Value} {bs : List Int} (h : PartAt w x bs) : ∀ (i : Nat) (v : Value) (l : List Int), [x, x][i]? = some v → [bs, bs][i]? = some l → PartAt w v l := fun i v l h1 h2 => by
  match i, h1, h2 with
  | 0, h1, h2 => simp at h1 h2; subst h1 h2; exact h
  | 1, h1, h2 => simp at h1 h2; subst h1 h2; exact h
set_option maxRecDepth 100000 in
theorem OwnB.alloc {w : World} {base : Nat} {v : Value} {l : List Int} (h : OwnB w base v l) (ob : Obj) : OwnB (w.alloc ob) base v l := by
  obtain ⟨h1, h2⟩ := h
  refine ⟨h1, ?_⟩
  rcases h2 with h2 | ⟨g, cap, cur, hv, hg, hh, r⟩
  · exact Or.inl h2
  · exact Or.inr ⟨g, cap, cur, hv, hg, by rw [Below.heap_alloc _ _ _ (Array.getElem?_eq_some_iff.1 hh).1]; exact hh, r⟩
set_option maxRecDepth 100000 in
theorem part_new (w : World) (l : List Int) (hl : l.length ≤ 9223372036854775807) : PartAt (w.alloc (.cells (vB l) 5)) (.slice (some ⟨w.heap.size, 0, none⟩) l.length l.length) l :=
  ⟨some ⟨w.heap.size, 0, none⟩, w.heap.size, 0, l.length, rfl, Nat.le_refl _, hl, fun _ => rfl, range_of_block (heap_alloc_new _ _), by simp, fun h => by cases h⟩
end Go.Proofs.YtjhnnblilfddpaaDoor
