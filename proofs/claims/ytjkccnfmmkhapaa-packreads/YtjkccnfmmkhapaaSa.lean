import Derived.Test.YtjkccnfmmkhapaaSg
import Derived.Maps.AppendAt
import Derived.Laws.AppendOwnNone
import Derived.Lib.AppendStr
namespace Go.Proofs.Ytjkccnfmmkhapaa
set_option linter.unusedSimpArgs false
set_option linter.unusedVariables false
open Go.RowKit
/-- The value v is a slice that holds the bytes bs, in memory that w has. -/
def PartAt (w : World) (v : Value) (bs : List Int) : Prop := ∃ (av : Option Addr) (b o cp : Nat), v = .slice av bs.length cp ∧ bs.length ≤ cp ∧ cp ≤ 9223372036854775807 ∧ (0 < bs.length → av = some ⟨b, o, none⟩) ∧ w.rangeAt b o (vB bs).toList ∧ b < w.heap.size ∧ (av = none → cp = 0)
theorem PartAt.below {w w' : World} {v : Value} {bs : List Int} (h : PartAt w v bs) (hb : Below w.heap.size w w') : PartAt w' v bs := by
  obtain ⟨av, b, o, cp, h1, h2, h3, h4, h5, h6, h7⟩ := h
  exact ⟨av, b, o, cp, h1, h2, h3, h4, range_below h5 hb h6, Nat.lt_of_lt_of_le h6 hb.size, h7⟩
theorem PartAt.conv {w : World} {v : Value} {bs : List Int} (h : PartAt w v bs) : (convert 28 9 v).run Try.prog w = .ok (.string (strOfNums bs)) w := by
  obtain ⟨av, b, o, cp, rfl, h2, h3, h4, h5, h6, h7⟩ := h
  rcases Nat.eq_zero_or_pos bs.length with h0 | h0
  · obtain rfl := List.eq_nil_of_length_eq_zero h0
    cases av with
    | none => rfl
    | some a => 
      have hl : (loadCells a 0).run Try.prog w = .ok (([] : List Int).map (Value.int .u8)).toArray w := run_loadCells_list (P := Try.prog) w a [] (fun j v hj => by simp at hj)
      show (convert 28 9 (.slice (some a) 0 cp)).run Try.prog w = _
      rw [run_convert_bytes_string w 28 9 5 _ 0 cp Try.underlying28 Try.underlying5 Try.underlying9, run_bytesToString w _ 0 cp [] hl]
      rfl
  · obtain rfl := h4 h0
    exact run_convert_bytes_arg w 28 5 Try.underlying28 Try.underlying5 b o bs.length cp bs rfl (fun i hi => rangeB h5 i (by omega)) 9 Try.underlying9
/-- The value v is a slice of the call's own, of the bytes l. -/
def OwnB (w : World) (base : Nat) (v : Value) (l : List Int) : Prop := w.ownsRow base 5 1 v l.length (vB l).toList
theorem info5 : (Try.prog.info? 5).map (fun i => (i.zero, i.size, i.bytes)) = some (some (.int .u8 0), 1, 1) := by kernel_rfl
theorem appendB {ops : Array Oper} {rest : List Oper} {o : Oper} {a : Act} {w : World} {Q : Exit → Act → World → Prop} (hgd : o.guard = none) (s x : Operand)
    (ho : o.op = .call { callee := .builtin .append, args := #[s, x], argTypes := #[28, 28] }) (base : Nat) (v : Value) (l : List Int) (hs : a.eval s = v) (hown : OwnB w base v l)
    (sv : Value) (ys : List Int) (hx : a.eval x = sv) (hp : PartAt w sv ys) (hlen : l.length + ys.length ≤ 140737488355328) (hbase : base ≤ w.heap.size)
    (h : ∀ v' w', OwnB w' base v' (l ++ ys) → w.grownBy w' v.ownBlock → (v'.ownBlock = v.ownBlock ∨ v'.ownBlock = some w.heap.size) → wpList Try.prog ops Q rest (a.put o.dst v') w') : wpList Try.prog ops Q (o :: rest) a w := by
  obtain ⟨i, hi, hz0, hz1, hz2⟩ := info_parts info5
  obtain ⟨av, b, off, cp, rfl, h1, h2, h3, h4, h5, h6⟩ := hp
  cases av with
  | none =>
    have hl0 : ys.length = 0 := by
      rcases Nat.eq_zero_or_pos ys.length with h0 | h0
      · exact h0
      · have := h3 h0; cases this
    have hy : ys = [] := List.eq_nil_of_length_eq_zero hl0
    subst hy
    have hc := h6 rfl
    subst hc
    refine wpList_append_own_none hgd s x 28 ho base 5 i 1 Try.underlying28 hi v l.length _ hs hown hx ?_
    refine h v w (by simpa using hown) (World.grownBy.refl _ _) (Or.inl rfl)
  | some ad =>
    have hn : ∀ j u, (vB ys).toList[j]? = some u → w.cell? (ad.add j) = some u := fun j u hu => by
      have hj : j < ys.length := by have := (List.getElem?_eq_some_iff.1 hu).1; rw [Array.length_toList, vB_size] at this; exact this
      have e := h3 (by omega)
      injection e with e; subst e
      rw [Addr.add_mid]; exact h4 j u hu
    refine wpList_append_own_at w hgd s x 28 ho base 5 i (.int .u8 0) 1 1 Try.underlying28 hi hz0 hz1 hz2 rfl (by omega) v l.length (vB l).toList hs hown ad ys.length cp (vB ys).toList hx (by rw [Array.length_toList, vB_size]; omega) hn
      (fun v hv => by simp [vB] at hv; obtain ⟨y, _, rfl⟩ := hv; rfl) (by unfold maxLen; omega) (by omega) hbase ?_
    intro v' w' h1 h2 _ h4
    refine h v' w' ?_ h2 h4
    unfold OwnB
    rw [List.length_append]
    simpa [vB] using h1
theorem OwnB.row {w : World} {base : Nat} {v : Value} {l : List Int} (h : OwnB w base v l) : ∀ k, v.ownBlock = some k → base ≤ k := fun k hk => by
  rcases h.2 with ⟨rfl, _⟩ | ⟨g, cap, cur, rfl, hg, _⟩
  · cases hk
  · simp [Value.ownBlock] at hk; omega
theorem OwnB.form {w : World} {base : Nat} {v : Value} {l : List Int} (h : OwnB w base v l) (hn : l ≠ []) : ∃ g cap, v = .slice (some ⟨g, 0, none⟩) l.length cap ∧ base ≤ g ∧ g < w.heap.size := by
  rcases h.2 with ⟨_, h0⟩ | ⟨g, cap, cur, rfl, hg, hh, _⟩
  · exact absurd (List.eq_nil_of_length_eq_zero h0) hn
  · exact ⟨g, cap, rfl, hg, (Array.getElem?_eq_some_iff.1 hh).1⟩
theorem OwnB.part {w : World} {base : Nat} {v : Value} {l : List Int} (h : OwnB w base v l) (hn : l ≠ []) : PartAt w v l := by
  rcases h.2 with ⟨_, h0⟩ | ⟨g, cap, cur, rfl, hg, hcur, hl, hc, hs, htk⟩
  · exact absurd (List.eq_nil_of_length_eq_zero h0) hn
  · refine ⟨some ⟨g, 0, none⟩, g, 0, cap, rfl, hl, hc, fun _ => rfl, fun j v hv => ?_, (Array.getElem?_eq_some_iff.1 hcur).1, fun h => by cases h⟩
    rw [Nat.zero_add, cell_of_row w g j cur 5 (0, 0) hcur]
    rw [← htk, List.getElem?_take] at hv
    split at hv
    · simpa using hv
    · cases hv
theorem OwnB.partG {w : World} {base : Nat} {v : Value} {l : List Int} (h : OwnB w base v l) (h0 : 0 < w.heap.size) : PartAt w v l := by
  by_cases hn : l = []
  · subst hn
    obtain ⟨h1, h2⟩ := h
    rcases h2 with ⟨rfl, _⟩ | ⟨g, cap, cur, hv, hg, hh, r1, r2, _⟩
    · exact ⟨none, 0, 0, 0, rfl, Nat.le_refl _, by omega, fun h => by simp at h, fun j v hv => by simp [vB] at hv, h0, fun _ => rfl⟩
    · exact ⟨some ⟨g, 0, none⟩, g, 0, cap, hv, by simp, r2, fun _ => rfl, fun j v hv => by simp [vB] at hv, (Array.getElem?_eq_some_iff.1 hh).1, fun h => by cases h⟩
  · exact h.part hn
theorem ownB_nil (w : World) (base : Nat) : OwnB w base (.slice none 0 0) [] := ⟨rfl, Or.inl ⟨rfl, rfl⟩⟩
theorem OwnB.alloc {w : World} {base : Nat} {v : Value} {l : List Int} (h : OwnB w base v l) (ob : Obj) : OwnB (w.alloc ob) base v l := by
  obtain ⟨h1, h2⟩ := h
  refine ⟨h1, ?_⟩
  rcases h2 with h2 | ⟨g, cap, cur, hv, hg, hh, r⟩
  · exact Or.inl h2
  · exact Or.inr ⟨g, cap, cur, hv, hg, by rw [Below.heap_alloc _ _ _ (Array.getElem?_eq_some_iff.1 hh).1]; exact hh, r⟩
theorem part_new (w : World) (l : List Int) (hl : l.length ≤ 9223372036854775807) : PartAt (w.alloc (.cells (vB l) 5)) (.slice (some ⟨w.heap.size, 0, none⟩) l.length l.length) l :=
  ⟨some ⟨w.heap.size, 0, none⟩, w.heap.size, 0, l.length, rfl, Nat.le_refl _, hl, fun _ => rfl, range_of_block (heap_alloc_new _ _), by simp, fun h => by cases h⟩
theorem OwnB.mono {w : World} {base base' : Nat} {v : Value} {l : List Int} (h : OwnB w base v l) (hb : base' ≤ base) : OwnB w base' v l := by
  obtain ⟨h1, h2⟩ := h
  refine ⟨h1, ?_⟩
  rcases h2 with h2 | ⟨g, cap, cur, hv, hg, r⟩
  · exact Or.inl h2
  · exact Or.inr ⟨g, cap, cur, hv, by omega, r⟩
theorem own_below' {W W' : World} {base e size : Nat} {v : Value} {n : Nat} {xs : List Value} (h : W.ownsRow base e size v n xs) (hb : Below W.heap.size W W') : W'.ownsRow base e size v n xs :=
  h.kept (grown_below hb none) (by
    rcases h.2 with ⟨rfl, _⟩ | ⟨g, cap, cur, rfl, _⟩
    · exact .inl rfl
    · exact .inr (by simp [Value.ownBlock]))
end Go.Proofs.Ytjkccnfmmkhapaa
