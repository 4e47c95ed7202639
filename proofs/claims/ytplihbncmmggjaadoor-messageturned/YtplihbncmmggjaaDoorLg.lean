import Derived.Test.YtplihbncmmggjaaDoorLe
namespace Go.Proofs.YtplihbncmmggjaaDoor
set_option linter.unusedSimpArgs false
set_option linter.unusedVariables false
open Go.RowKit
theorem enc_drop (t : Int) (b : List Int) (h : b.length ≤ 1000) : (encB t b).drop 10 = b ∧ gi (encB t b) 3 = t := by
  obtain ⟨a, c, d, e, hs⟩ := four4 (sum4 t b) (sum4_length t b)
  rw [encB_eq t b h, hs]
  exact ⟨rfl, rfl⟩
/-- A byte is put behind a slice of memory of the call's own. -/
theorem append1 (W : World) (B g cap M s : Nat) (body : List Int) (y : Int) (cur : Array Value) (hB : B ≤ g) (hBW : B ≤ W.heap.size) (hg : W.heap[g]? = some (.cells cur 5)) (hsz : cur.size = cap) (hM : body.length = M) (hM1 : M ≤ 1000) (hcap : M + 10 ≤ cap) (hc63 : cap ≤ 9223372036854775807)
    (hr : W.rangeAt g 10 (vB body).toList) (hy : W.cell? ⟨s, 0, none⟩ = some (.int .u8 y)) :
    ∃ v' w', (Builtin.append_ #[22, 22] 22 #[.slice (some ⟨g, 10, none⟩) M (cap - 10), .slice (some ⟨s, 0, none⟩) 1 1]).run Tryd.prog W = .ok v' w' ∧ PartAt w' v' (body ++ [y]) ∧ Below B W w' := by
  have hz : (Tryd.prog.info? 5).map (·.zero) = some (some (.int .u8 0)) := by kernel_rfl
  have hs1 : (Tryd.prog.info? 5).map (·.size) = some 1 := by kernel_rfl
  have hs2 : (Tryd.prog.info? 5).map (·.bytes) = some 1 := by kernel_rfl
  cases hi : Tryd.prog.info? 5 with
  | none => simp [hi] at hs1
  | some i =>
    have z0 : i.zero = some (.int .u8 0) := by simpa [hi] using hz
    have z1 : i.size = 1 := by simpa [hi] using hs1
    have z2 : i.bytes = 1 := by simpa [hi] using hs2
    have hnews : ∀ j u, ([.int .u8 y] : List Value)[j]? = some u → W.cell? ((⟨s, 0, none⟩ : Addr).add j) = some u := by
      intro j u hj
      match j, hj with
      | 0, hj => simp at hj; subst hj; rw [Addr.add_mid]; exact hy
      | j + 1, hj => simp at hj
    by_cases hroom : M + 1 ≤ cap - 10
    · have hcell : (W.cell? ⟨g, 10 + M, none⟩).isSome = true := by
        simp only [World.cell?, hg]
        rw [Array.getElem?_eq_getElem (by omega)]; rfl
      have r := run_append_room_cells (P := Tryd.prog) (w := W) 22 22 5 i Tryd.underlying22 hi g 10 M (cap - 10) ⟨s, 0, none⟩ 1 1 [.int .u8 y] (by rw [z1]; rfl) hnews (by intro u hu; simp at hu; subst hu; rfl) hroom
        (by intro j hj; simp at hj; subst hj; rw [z1, Nat.mul_one, Nat.add_zero]; exact hcell) (by intro j hj; simp at hj; subst hj; exact unfrozen hg)
      rw [z1, Nat.mul_one] at r
      refine ⟨_, _, r, ⟨some ⟨g, 10, none⟩, g, 10, cap - 10, by rw [List.length_append, hM]; rfl, by rw [List.length_append, hM]; exact hroom, by omega, fun _ => rfl, ?_, ?_, fun h => by cases h⟩, ?_⟩
      · intro j v hv
        show (W.setCell ⟨g, 10 + M, none⟩ (.int .u8 y)).cell? ⟨g, 10 + j, none⟩ = some v
        have hj : j < M + 1 := by have := (List.getElem?_eq_some_iff.1 hv).1; simpa [vB, hM] using this
        by_cases e : j = M
        · subst e
          have : v = .int .u8 y := by
            simp only [vB, List.getElem?_map] at hv
            rw [List.getElem?_append_right (by omega), hM] at hv
            simpa using hv.symm
          rw [this]
          rw [World.cell?_setCell_same' _ _ _ hcell]
        · have hv' : (vB body).toList[j]? = some v := by
            simp only [vB, List.getElem?_map] at hv ⊢
            rw [List.getElem?_append_left (by omega)] at hv
            exact hv
          rw [World.cell?_setCell_other _ _ _ _ (by intro h; injection h with h1 h2; omega)]
          exact hr j v hv'
      · show g < (W.setCell ⟨g, 10 + M, none⟩ (.int .u8 y)).heap.size
        have := (Array.getElem?_eq_some_iff.1 hg).1
        simp [World.setCell]; exact this
      · show Below B W (W.setCell ⟨g, 10 + M, none⟩ (.int .u8 y))
        exact (Below.refl _ _).setCell hB _
    · have r := run_append_grow (P := Tryd.prog) W 22 22 5 i (.int .u8 0) Tryd.underlying22 hi z0 ⟨g, 10, none⟩ M (cap - 10) (vB body).toList (by rw [vBl, hM, z1, Nat.mul_one]) (by intro j v hj; rw [Addr.add_mid]; exact hr j v hj) ⟨s, 0, none⟩ 1 1 [.int .u8 y] (by rw [z1]; rfl) hnews (by omega) (by omega) (growslice_fits (by omega) (by rw [z2]; omega))
      have hge := grownCap_ge W (M + 1) (cap - 10) 5
      have hcm : grownCap W (M + 1) (cap - 10) 5 ≤ maxLen := grownCap_le_maxLen W (M + 1) (cap - 10) 5 (by unfold maxLen; omega)
      generalize grownCap W (M + 1) (cap - 10) 5 = cp at r hge hcm
      refine ⟨_, _, r, ⟨_, W.heap.size, 0, cp, by rw [List.length_append, hM]; rfl, by rw [List.length_append, hM]; exact hge, by unfold maxLen at hcm; omega, fun _ => rfl, ?_, by simp, fun h => by cases h⟩, ((Below.refl _ _).drew).alloc hBW _⟩
      intro j v hv
      have := World.cell?_alloc_mark W.drew ((vB body).toList.toArray ++ ([.int .u8 y] : List Value).toArray ++ Builtin.zeroCells (Value.int IntKind.u8 0).cells (cp - (M + 1))) 5 (0, 0) j
      rw [show W.drew.heap.size = W.heap.size from rfl] at this
      rw [Nat.zero_add, this]
      have hv' : ((vB body).toList ++ [.int .u8 y])[j]? = some v := by
        simpa [vB] using hv
      have hj : j < ((vB body).toList ++ [Value.int .u8 y]).length := (List.getElem?_eq_some_iff.1 hv').1
      have e : ((vB body).toList.toArray ++ ([Value.int .u8 y] : List Value).toArray) = ((vB body).toList ++ [Value.int .u8 y]).toArray := List.append_toArray _ _
      rw [e, Array.getElem?_append_left (by rw [List.size_toArray]; exact hj)]
      simpa using hv'
/-- A byte is put into a slice of memory of the call's own. -/
theorem part_set (W : World) (B g cap M K : Nat) (body : List Int) (z : Int) (cur : Array Value) (hB : B ≤ g) (hg : W.heap[g]? = some (.cells cur 5)) (hM : body.length = M) (hK : K < M) (hcap : M + 10 ≤ cap) (hc63 : cap ≤ 9223372036854775807)
    (hr : W.rangeAt g 10 (vB body).toList) : PartAt (W.setCell ⟨g, 10 + K, none⟩ (.int .u8 z)) (.slice (some ⟨g, 10, none⟩) M (cap - 10)) (body.set K z) ∧ Below B W (W.setCell ⟨g, 10 + K, none⟩ (.int .u8 z)) := by
  refine ⟨⟨some ⟨g, 10, none⟩, g, 10, cap - 10, by rw [List.length_set, hM], by rw [List.length_set, hM]; omega, by omega, fun _ => rfl, ?_, ?_, fun h => by cases h⟩, (Below.refl _ _).setCell hB _⟩
  · intro j v hv
    have hcell : (W.cell? ⟨g, 10 + K, none⟩).isSome = true := by rw [cell_at hr K (by omega)]; rfl
    simp only [vB, List.getElem?_map] at hv
    by_cases e : j = K
    · subst e
      rw [World.cell?_setCell_same' _ _ _ hcell]
      rw [List.getElem?_set_self (by omega)] at hv
      simpa using hv
    · rw [World.cell?_setCell_other _ _ _ _ (by intro h; injection h with h1 h2; omega)]
      rw [List.getElem?_set_ne (by omega)] at hv
      exact hr j v (by simp only [vB, List.getElem?_map]; exact hv)
  · have := (Array.getElem?_eq_some_iff.1 hg).1
    simp [World.setCell]; exact this
end Go.Proofs.YtplihbncmmggjaaDoor
