import Derived.Test.YtplihbncmmggjaaDoorAy
import Derived.Test.YtplihbncmmggjaaDoorTz
import Derived.Deep.Matrix
namespace Go.Proofs.YtplihbncmmggjaaDoor
set_option linter.unusedSimpArgs false
set_option linter.unusedVariables false
open Go.ChangeShapes Go.WideShapes Go.ChangeAt Go.RowKit
set_option maxRecDepth 100000 in
theorem all_weights {H : Type} {e : TypeId} : ∀ (l : List (DataW H)) (d : DataW H), d ∈ l → ∀ n ∈ d.weights Tryd.prog e, n ∈ DataW.weightsAll Tryd.prog e l
  | x :: r, d, hd, n, hn => by
    rw [DataW.weightsAll, List.mem_append]
    rcases List.mem_cons.1 hd with rfl | h
    · exact Or.inl hn
    · exact Or.inr (all_weights r d h n hn)
set_option maxRecDepth 100000 in
/-- The reach of a text within a slice of texts. -/
theorem sized_within {H : Type} {ts : List TypeId} {ds : List (DataW H)} (h : (DataW.weightsEach Tryd.prog ts ds).all (· ≤ reachBytes) = true) {j : Nat} {elems spare e' sp' : List (DataW H)}
    (ht : ts[j]? = some 29) (hd : ds[j]? = some (.slice elems spare)) (hx : DataW.slice e' sp' ∈ elems) : e'.length + sp'.length ≤ reachBytes := by
  have hm := DataW.weights_mem_each (P := Tryd.prog) ht hd ((e'.length + sp'.length) * Tryd.prog.bytesOf 5) (by
    simp only [DataW.weights, Tryd.underlying29, List.mem_cons, List.mem_append]
    exact Or.inr (Or.inl (all_weights elems _ hx _ (by simp [DataW.weights, Tryd.underlying22]))))
  have := of_decide_eq_true (List.all_eq_true.1 h _ hm)
  rw [show Tryd.prog.bytesOf 5 = 1 by kernel_rfl] at this
  omega
set_option maxRecDepth 100000 in
theorem cells22 : Tryd.prog.cellsOf 22 = 1 := by kernel_rfl
set_option maxRecDepth 100000 in
theorem cellsOf5 : Tryd.prog.cellsOf 5 = 1 := by kernel_rfl
set_option maxRecDepth 100000 in
/-- A slice of texts that came in. -/
theorem open_parts {H : Type} {enc : TypeId × Value → H} {W : World} {v : Value} {d : DataW H} {p : List MemPlace} (hL : Laid W) (h : DataW.Trod enc Tryd.prog W 0 (fun _ => true) true 29 v d p) (av : Option Addr) (len cap : Nat) (hv : v = .slice av len cap)
    (hw : ∀ elems spare, d = .slice elems spare → (elems.length + spare.length) * Tryd.prog.bytesOf 22 ≤ reachBytes) (hin : ∀ elems spare e' sp', d = .slice elems spare → DataW.slice e' sp' ∈ elems → e'.length + sp'.length ≤ reachBytes) :
    ∃ ls, PartsAt W v ls ∧ (∀ l ∈ ls, l.length ≤ 140737488351232) ∧ ls.length ≤ 140737488351232 ∧ ∀ l ∈ ls, Bytes l := by
  subst hv
  have h2 := hL.two
  obtain ⟨fuel, hf⟩ := h
  rcases Deep.open_int_rows Tryd.underlying29 Tryd.underlying22 Tryd.underlying5 cells22 cellsOf5 hf with ⟨hcs, _⟩ | ⟨a, l, c, A, L, C, Z, hcs, _, hl, hmx, hx, hrow⟩
  · simp [Value.cells] at hcs
    obtain ⟨rfl, rfl, rfl⟩ := hcs
    exact ⟨[], ⟨none, 0, 0, 0, [], rfl, Nat.le_refl _, by omega, fun h => by simp at h, rfl, fun j v hv => by simp at hv, by omega, fun i x l h => by simp at h⟩, by simp, by simp, by simp⟩
  · simp [Value.cells] at hcs
    obtain ⟨rfl, rfl, rfl⟩ := hcs
    have hd := congrArg Prod.fst hx
    dsimp only at hd
    have hcapb : cap ≤ 140737488351232 := by
      have h1 := hw _ _ hd
      rw [show Tryd.prog.bytesOf 22 = 24 by kernel_rfl] at h1
      simp at h1
      unfold reachBytes at h1
      omega
    have hlen : ∀ r, r < len → C r ≤ 140737488351232 := fun r hr => by
      obtain ⟨_, _, _, hz, _, hn, _⟩ := hrow r (by omega)
      cases hA : A r with
      | none => have := hn hA; omega
      | some a' =>
        have := hin _ _ (lits .u8 ((Z r).take (L r))) (lits .u8 ((Z r).drop (L r))) hd (List.mem_map.2 ⟨r, List.mem_range.2 hr, by simp [Deep.intRow, hA]⟩)
        simp [lits] at this
        unfold reachBytes at this
        omega
    have hpart : ∀ r, r < len → PartAt W (.slice (A r) (L r) (C r)) ((Z r).take (L r)) := fun r hr => by
      obtain ⟨_, hLC, hCm, hz, _, hn, hcell⟩ := hrow r (by omega)
      have htl : ((Z r).take (L r)).length = L r := by simp; omega
      cases hA : A r with
      | none =>
        have hc0 := hn hA
        have hl0 : L r = 0 := by omega
        exact ⟨none, 0, 0, C r, by rw [htl], by omega, by unfold maxLen at hCm; omega, fun h => by omega, fun j v hv => by rw [hl0] at hv; simp [vB] at hv, by omega, fun _ => hc0⟩
      | some a' =>
        obtain ⟨_, hcs⟩ := hcell a' hA
        rcases Nat.eq_zero_or_pos (L r) with h0 | h0
        · exact ⟨some a', 0, 0, C r, by rw [htl], by omega, by unfold maxLen at hCm; omega, fun h => by omega, fun j v hv => by rw [h0] at hv; simp [vB] at hv, by omega, fun h => by cases h⟩
        · obtain ⟨blk, off, spot⟩ := a'
          have hc0 := hcs 0 (by omega)
          have hspot : spot = none := by simpa [Addr.add] using World.cell?_spot hc0
          subst hspot
          refine ⟨some ⟨blk, off, none⟩, blk, off, C r, by rw [htl], by omega, by unfold maxLen at hCm; omega, fun _ => rfl, fun j v hv => ?_, ?_, fun h => by cases h⟩
          · have hj : j < L r := by have := (List.getElem?_eq_some_iff.1 hv).1; rw [Array.length_toList, vB_size, htl] at this; exact this
            have hc := hcs j (by omega)
            rw [Addr.add_mid] at hc
            rw [hc]
            have e := vB_at ((Z r).take (L r)) j (by omega)
            rw [Array.getElem?_toList, e] at hv
            injection hv with hv
            rw [← hv]
            unfold gi
            simp [hj]
          · have := block_lt_of_cell hc0
            simpa [Addr.add] using this
    have hvs : ∀ (i : Nat), i < len → ((List.range len).map fun r => Value.slice (A r) (L r) (C r))[i]? = some (.slice (A i) (L i) (C i)) := fun i hi => by simp [hi]
    have hls : ∀ (i : Nat), i < len → ((List.range len).map fun r => (Z r).take (L r))[i]? = some ((Z i).take (L i)) := fun i hi => by simp [hi]
    have hpp : ∀ (i : Nat) (x : Value) (l : List Int), ((List.range len).map fun r => Value.slice (A r) (L r) (C r))[i]? = some x → ((List.range len).map fun r => (Z r).take (L r))[i]? = some l → PartAt W x l := fun i x l h1 h3 => by
      have hi : i < len := by have := (List.getElem?_eq_some_iff.1 h1).1; simpa using this
      rw [hvs i hi] at h1
      rw [hls i hi] at h3
      injection h1 with h1
      injection h3 with h3
      subst h1 h3
      exact hpart i hi
    refine ⟨(List.range len).map fun r => (Z r).take (L r), ?_, fun l hl' => ?_, by simp; omega, fun l hl' => ?_⟩
    · rcases Nat.eq_zero_or_pos len with h0 | h0
      · subst h0
        exact ⟨some a, 0, 0, cap, [], by simp, by simp, by unfold maxLen at hmx; omega, fun h => by simp at h, rfl, fun j v hv => by simp at hv, by omega, fun i x l h => by simp at h⟩
      · obtain ⟨blk, off, spot⟩ := a
        have hc0 := (hrow 0 (by omega)).1
        have hspot : spot = none := by simpa [Addr.add] using World.cell?_spot hc0
        subst hspot
        refine ⟨some ⟨blk, off, none⟩, blk, off, cap, (List.range len).map fun r => Value.slice (A r) (L r) (C r), by simp, by simpa using hl, by unfold maxLen at hmx; omega, fun _ => rfl, by simp, fun j v hv => ?_, ?_, hpp⟩
        · have hj : j < len := by have := (List.getElem?_eq_some_iff.1 hv).1; simpa using this
          rw [hvs j hj] at hv
          have hc := (hrow j (by omega)).1
          rw [Addr.add_mid] at hc
          rw [hc]; exact hv
        · have := block_lt_of_cell hc0
          simpa [Addr.add] using this
    · obtain ⟨r, hr, rfl⟩ := List.mem_map.1 hl'
      have hr' := List.mem_range.1 hr
      have := hlen r hr'
      have hz := (hrow r (by omega)).2.2.2.1
      simp; omega
    · obtain ⟨r, hr, rfl⟩ := List.mem_map.1 hl'
      have hr' := List.mem_range.1 hr
      have hwf := (hrow r (by omega)).2.2.2.2.1
      exact fun x hx => bounds_u8 (hwf x (List.mem_of_mem_take hx))
end Go.Proofs.YtplihbncmmggjaaDoor
