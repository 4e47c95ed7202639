import Derived.Test.YtnpjknnalekdpaaDoorTb
namespace Go.Proofs.YtnpjknnalekdpaaDoor
set_option linter.unusedSimpArgs false
set_option linter.unusedVariables false
open Go.RowKit
theorem range_append {w : World} {b : Nat} {A B : List Value} (h : w.rangeAt b 0 A) (k : w.rangeAt b A.length B) : w.rangeAt b 0 (A ++ B) := fun j v hv => by
  rcases Nat.lt_or_ge j A.length with hj | hj
  · rw [List.getElem?_append_left hj] at hv; exact h j v hv
  · rw [List.getElem?_append_right hj] at hv
    have := k (j - A.length) v hv
    rw [show A.length + (j - A.length) = 0 + j by omega] at this
    exact this
set_option maxRecDepth 100000 in
/-- A text as bytes, and bytes behind it. -/
theorem append_conv (w : World) (wl ys : List Int) (hwb : Bytes wl) (hwl : wl.length ≤ 1000000) (v : Value) (hp : PartAt w v ys) (hl : ys.length ≤ 1000000) :
    ∃ cap, (convert 9 22 (.string (strOfNums wl))).run Tryd.prog w = .ok (.slice (some ⟨w.heap.size, 0, none⟩) wl.length cap) (Lib.bytesWorld w 5 (strOfNums wl)) ∧
      ∃ v' w', (Builtin.append_ #[22, 22] 22 #[.slice (some ⟨w.heap.size, 0, none⟩) wl.length cap, v]).run Tryd.prog (Lib.bytesWorld w 5 (strOfNums wl)) = .ok v' w' ∧ PartT w' v' (wl ++ ys) ∧ Below w.heap.size w w' := by
  have hz : (Tryd.prog.info? 5).map (·.zero) = some (some (.int .u8 0)) := by kernel_rfl
  have hs1 : (Tryd.prog.info? 5).map (·.size) = some 1 := by kernel_rfl
  have hs2 : (Tryd.prog.info? 5).map (·.bytes) = some 1 := by kernel_rfl
  have hsz : (strOfNums wl).size = wl.length := strOfNums_size _
  obtain ⟨cap, hc, pc⟩ := conv_text (strOfNums wl) (by rw [hsz]; exact hwl) w
  rw [hsz] at hc pc
  rw [nB_str wl hwb] at pc
  have hrun := Lib.run_convert_string_bytes (P := Tryd.prog) w 9 22 5 (strOfNums wl) Tryd.underlying9 Tryd.underlying22 Tryd.underlying5
  rw [hc] at hrun
  have hcap : cap = grownCap w (strOfNums wl).size 0 5 := by injection hrun with hrun _; injection hrun
  have hge := grownCap_ge w (strOfNums wl).size 0 5
  have hat := Lib.bytesWorld_at_new w 5 (strOfNums wl)
  have hbs : (Lib.bytesCells w 5 (strOfNums wl)).size = cap := by
    have e : (strOfNums wl).data.size = (strOfNums wl).size := rfl
    unfold Lib.bytesCells; rw [Array.size_append, Array.size_map, Array.size_replicate, e, hcap]; omega
  have bW := below_bytesWorld w 5 (strOfNums wl)
  have hWs := Lib.bytesWorld_size w 5 (strOfNums wl)
  refine ⟨cap, hc, ?_⟩
  generalize Lib.bytesWorld w 5 (strOfNums wl) = W at *
  have hpW := hp.below bW
  obtain ⟨av, b, off, cp, rfl, h1, h2, h3, h4, h5, h6⟩ := hpW
  obtain ⟨av0, b0, o0, cp0, e0, k1, k2, k3, k4, k5, k6⟩ := pc
  injection e0 with e0 _ e1
  subst e1
  have hr0 : W.rangeAt w.heap.size 0 (vB wl).toList := by
    intro j x hx
    have hpos : 0 < wl.length := by have := (List.getElem?_eq_some_iff.1 hx).1; rw [vBl] at this; omega
    have := k3 hpos
    rw [this] at e0
    injection e0 with e0
    injection e0 with e2 e3
    rw [e2, e3]
    exact k4 j x hx
  clear hrun hc k1 k3 k4 k5 k6 e0
  cases hi : Tryd.prog.info? 5 with
  | none => simp [hi] at hs1
  | some i =>
    have z0 : i.zero = some (.int .u8 0) := by simpa [hi] using hz
    have z1 : i.size = 1 := by simpa [hi] using hs1
    have z2 : i.bytes = 1 := by simpa [hi] using hs2
    rcases Nat.eq_zero_or_pos ys.length with h0 | h0
    · have hy : ys = [] := List.eq_nil_of_length_eq_zero h0
      subst hy
      refine ⟨.slice (some ⟨w.heap.size, 0, none⟩) wl.length cap, W, ?_, ⟨some ⟨w.heap.size, 0, none⟩, w.heap.size, 0, cap, by simp, by simp; rw [← hsz, hcap]; exact hge, k2, fun _ => rfl, by simpa using hr0, by omega, (fun h => by cases h), fun _ => ⟨_, _, hat⟩⟩, bW⟩
      have hroom : wl.length + 0 ≤ cap := by rw [← hsz, hcap]; exact hge
      cases av <;> simp [Builtin.append_, run_underlying Tryd.underlying22, sizeOf, typeInfo, hi, Builtin.lenOf, Builtin.firstCells, storeCells, loadCells, loadCellsFrom] <;> omega
    · obtain rfl := h3 h0
      have hnews : ∀ j u, ((vB ys).toList)[j]? = some u → W.cell? ((⟨b, off, none⟩ : Addr).add j) = some u := fun j u hj => by rw [Addr.add_mid]; exact h4 j u hj
      have hnl : (vB ys).toList.length = ys.length * i.size := by rw [vBl, z1, Nat.mul_one]
      by_cases hroom : wl.length + ys.length ≤ cap
      · have hcell : ∀ j, j < ys.length → (W.cell? ⟨w.heap.size, wl.length + j, none⟩).isSome = true ∧ W.frozen? ⟨w.heap.size, wl.length + j, none⟩ = false := fun j hj => by
          constructor
          · simp only [World.cell?, hat]
            rw [Array.getElem?_eq_getElem (by omega)]; rfl
          · simp only [World.frozen?, hat]
            simp; omega
        have r := run_append_room_cells (P := Tryd.prog) (w := W) 22 22 5 i Tryd.underlying22 hi w.heap.size 0 wl.length cap ⟨b, off, none⟩ ys.length cp (vB ys).toList hnl hnews (vB_one ys) hroom
          (by intro j hj; rw [vBl] at hj; rw [z1, Nat.mul_one, Nat.zero_add]; exact (hcell j hj).1) (by intro j hj; rw [vBl] at hj; rw [z1, Nat.mul_one, Nat.zero_add]; exact (hcell j hj).2)
        rw [z1, Nat.mul_one, Nat.zero_add] at r
        have ht : W.there w.heap.size wl.length (vB ys).toList.length := fun j hj => by rw [vBl] at hj; exact hcell j hj
        have ra := World.rangeAt_setCells_apart hr0 w.heap.size wl.length (vB ys).toList (.inr (.inl (by rw [vBl]; omega)))
        have rb := World.rangeAt_setCells_same W w.heap.size wl.length (vB ys).toList ht
        have ee : (vB (wl ++ ys)).toList = (vB wl).toList ++ (vB ys).toList := by simp [vB]
        refine ⟨_, _, r, ⟨some ⟨w.heap.size, 0, none⟩, w.heap.size, 0, cap, by rw [List.length_append], by rw [List.length_append]; exact hroom, k2, fun _ => rfl, ?_, ?_, (fun h => by cases h), fun _ => five_setCells _ _ _ _ _ ⟨_, _, hat⟩⟩, below_cells bW (Nat.le_refl _) bW.size⟩
        · rw [ee]
          refine range_append ra ?_
          rw [vBl]; exact rb
        · rw [setCells_size]; omega
      · have r := run_append_grow (P := Tryd.prog) W 22 22 5 i (.int .u8 0) Tryd.underlying22 hi z0 ⟨w.heap.size, 0, none⟩ wl.length cap (vB wl).toList (by rw [vBl, z1, Nat.mul_one]) (by intro j x hj; rw [Addr.add_mid]; exact hr0 j x hj) ⟨b, off, none⟩ ys.length cp (vB ys).toList hnl hnews (by omega) (by omega) (growslice_fits (by omega) (by rw [z2]; omega))
        have hge2 := grownCap_ge W (wl.length + ys.length) cap 5
        have hcm : grownCap W (wl.length + ys.length) cap 5 ≤ maxLen := grownCap_le_maxLen W (wl.length + ys.length) cap 5 (by unfold maxLen; omega)
        generalize grownCap W (wl.length + ys.length) cap 5 = cq at r hge2 hcm
        refine ⟨_, _, r, ⟨_, W.heap.size, 0, cq, by rw [List.length_append], by rw [List.length_append]; exact hge2, by unfold maxLen at hcm; omega, fun _ => rfl, ?_, by simp, (fun h => by cases h), fun _ => ⟨_, _, heap_alloc_new W.drew _⟩⟩, (bW.drew).alloc bW.size _⟩
        intro j x hx
        have := World.cell?_alloc_mark W.drew ((vB wl).toList.toArray ++ (vB ys).toList.toArray ++ Builtin.zeroCells (Value.int IntKind.u8 0).cells (cq - (wl.length + ys.length))) 5 (0, 0) j
        rw [show W.drew.heap.size = W.heap.size from rfl] at this
        rw [Nat.zero_add, this]
        have hv' : ((vB wl).toList ++ (vB ys).toList)[j]? = some x := by simpa [vB] using hx
        have hj : j < ((vB wl).toList ++ (vB ys).toList).length := (List.getElem?_eq_some_iff.1 hv').1
        have e : ((vB wl).toList.toArray ++ (vB ys).toList.toArray) = ((vB wl).toList ++ (vB ys).toList).toArray := List.append_toArray _ _
        rw [e, Array.getElem?_append_left (by rw [List.size_toArray]; exact hj)]
        simpa using hv'
end Go.Proofs.YtnpjknnalekdpaaDoor
