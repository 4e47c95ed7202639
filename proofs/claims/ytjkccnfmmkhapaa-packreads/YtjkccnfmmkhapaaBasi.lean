import Derived.Test.YtjkccnfmmkhapaaBase
namespace Go.Proofs.Ytjkccnfmmkhapaa
set_option linter.unusedSimpArgs false
set_option linter.unusedVariables false
open Go.ChangeShapes Go.WideShapes Go.ChangeAt Go.RowKit
/-- A slice of items that came in. -/
theorem open_items {H : Type} {enc : TypeId × Value → H} {W : World} {v : Value} {d : DataW H} {p : List MemPlace} (h : DataW.Trod enc Try.prog W 0 (fun _ => true) true 22 v d p) (av : Option Addr) (len cap : Nat) (hv : v = .slice av len cap)
    (hw : ∀ elems spare, d = .slice elems spare → (elems.length + spare.length) * Try.prog.bytesOf 34 ≤ reachBytes) :
    ∃ xs, ItemsAt W v xs := by
  subst hv
  obtain ⟨fuel, hf⟩ := h
  rcases Deep.open_slice Try.underlying22 hf with ⟨hcs, _⟩ | ⟨a, l, c, m, n, D, Pl, hcs, _, hl, hmx, hm, hx, hE⟩
  · simp [Value.cells] at hcs
    obtain ⟨rfl, rfl, rfl⟩ := hcs
    exact ⟨[], none, 0, 0, 0, rfl, Nat.le_refl _, by omega, fun h => by simp at h, fun i x hx => by simp at hx, fun h => by simp at h, fun x hx => by simp at hx, by simp⟩
  · simp [Value.cells] at hcs
    obtain ⟨rfl, rfl, rfl⟩ := hcs
    simp only [if_true] at hm
    subst hm
    rw [cells34] at hE
    have hd : d = .slice ((List.range len).map D) ((List.range (m - len)).map fun j => D (len + j)) := congrArg Prod.fst hx
    have hbound : m ≤ 140737488351232 := by
      have h1 := hw _ _ hd
      have hby : Try.prog.bytesOf 34 = 80 := by kernel_rfl
      rw [hby] at h1
      simp at h1
      unfold reachBytes at h1
      omega
    have hall : ∀ i, i < len → ∃ x : It, x.Ok ∧ W.cells? 0 (a.add (i * 37)) 37 = some (itC x).toList := fun i hi => by
      obtain ⟨cs', hc, ht⟩ := hE i (by omega)
      obtain ⟨x, h1, rfl⟩ := trod_item ht
      exact ⟨x, h1, hc⟩
    have hch : ∃ xs : List It, xs.length = len ∧ (∀ x ∈ xs, x.Ok) ∧ ∀ i x, xs[i]? = some x → W.cells? 0 (a.add (i * 37)) 37 = some (itC x).toList := by
      clear hd hx hE hw hf
      induction len with
      | zero => exact ⟨[], rfl, fun h hh => by simp at hh, fun i x hi => by simp at hi⟩
      | succ k ih =>
        obtain ⟨xs, e1, e2, e3⟩ := ih (by omega) (fun i hi => hall i (by omega))
        obtain ⟨x, hx1, hx2⟩ := hall k (by omega)
        refine ⟨xs ++ [x], by simp [e1], fun y hy => ?_, fun i y hi => ?_⟩
        · rcases List.mem_append.1 hy with h | h
          · exact e2 y h
          · simp at h; subst h; exact hx1
        · rcases Nat.lt_or_ge i k with h | h
          · rw [List.getElem?_append_left (by omega)] at hi; exact e3 i y hi
          · have hi2 : i < k + 1 := by have := (List.getElem?_eq_some_iff.1 hi).1; simp [e1] at this; omega
            obtain rfl : i = k := by omega
            rw [List.getElem?_append_right (by omega), e1] at hi
            simp at hi; subst hi; exact hx2
    obtain ⟨xs, e1, e2, e3⟩ := hch
    refine ⟨xs, ?_⟩
    rcases Nat.eq_zero_or_pos len with h0 | h0
    · subst h0
      have : xs = [] := List.eq_nil_of_length_eq_zero e1
      subst this
      exact ⟨some a, 0, 0, m, by simp, by simp, by unfold maxLen at hmx; omega, fun h => by simp at h, fun i x hx => by simp at hx, fun h => by simp at h, fun x hx => by simp at hx, by simp⟩
    · obtain ⟨blk, off, spot⟩ := a
      have hcell : ∀ i x, xs[i]? = some x → ∀ j y, (itC x).toList[j]? = some y → W.cell? ((⟨blk, off, spot⟩ : Addr).add (i * 37) |>.add j) = some y := fun i x hi j y hy => by
        have hj : j < 37 := by have := (List.getElem?_eq_some_iff.1 hy).1; rw [Array.length_toList, itC_size x (e2 x (List.mem_of_getElem? hi))] at this; exact this
        have h1 := (World.cells?_some (e3 i x hi)).2.2 j hj
        rw [h1]; exact hy
      obtain ⟨x0, hx0⟩ : ∃ x, xs[0]? = some x := ⟨xs[0], List.getElem?_eq_getElem (by omega)⟩
      have hc00 := hcell 0 x0 hx0 0 _ (by rw [Array.getElem?_toList]; exact itC_0 x0)
      have hspot : spot = none := by simpa [Addr.add] using World.cell?_spot hc00
      subst hspot
      have hblk : blk < W.heap.size := by
        rw [Addr.add_mid, Addr.add_mid] at hc00
        exact block_lt_of_cell hc00
      refine ⟨some ⟨blk, off, none⟩, blk, off, m, by rw [e1], by omega, by unfold maxLen at hmx; omega, fun _ => rfl, fun i x hi j y hy => ?_, fun _ => hblk, e2, by omega⟩
      have := hcell i x hi j y hy
      rw [Addr.add_mid, Addr.add_mid] at this
      exact this
end Go.Proofs.Ytjkccnfmmkhapaa
