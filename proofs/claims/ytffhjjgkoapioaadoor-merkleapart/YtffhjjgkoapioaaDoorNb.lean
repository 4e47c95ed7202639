import Derived.Test.YtffhjjgkoapioaaDoorNa
namespace Go.Proofs.YtffhjjgkoapioaaDoor
set_option linter.unusedSimpArgs false
set_option linter.unusedVariables false
open Go.RowKit
set_option maxRecDepth 100000 in
set_option maxHeartbeats 1000000 in
/-- A slice of one hash. -/
theorem buildH32 (a0 a1 a2 a3 a4 a5 a6 a7 a8 a9 a10 a11 a12 a13 a14 a15 a16 a17 a18 a19 a20 a21 a22 a23 a24 a25 a26 a27 a28 a29 a30 a31 : Int) (w : World) : (Instr.buildSlice 44 1 #[(0, .agg (vB [a0, a1, a2, a3, a4, a5, a6, a7, a8, a9, a10, a11, a12, a13, a14, a15, a16, a17, a18, a19, a20, a21, a22, a23, a24, a25, a26, a27, a28, a29, a30, a31]))]).run Tryd.prog w = .ok (.slice (some ⟨w.heap.size, 0, none⟩) 1 1) (w.alloc (.cells (vB [a0, a1, a2, a3, a4, a5, a6, a7, a8, a9, a10, a11, a12, a13, a14, a15, a16, a17, a18, a19, a20, a21, a22, a23, a24, a25, a26, a27, a28, a29, a30, a31]) 24)) := by
  kernel_rfl
set_option maxRecDepth 100000 in
theorem buildH (h : List Int) (hl : h.length = 32) (w : World) : (Instr.buildSlice 44 1 #[(0, .agg (vB h))]).run Tryd.prog w = .ok (.slice (some ⟨w.heap.size, 0, none⟩) 1 1) (w.alloc (.cells (vB h) 24)) := by
  match h, hl with
  | [a0, a1, a2, a3, a4, a5, a6, a7, a8, a9, a10, a11, a12, a13, a14, a15, a16, a17, a18, a19, a20, a21, a22, a23, a24, a25, a26, a27, a28, a29, a30, a31], _ => exact buildH32 a0 a1 a2 a3 a4 a5 a6 a7 a8 a9 a10 a11 a12 a13 a14 a15 a16 a17 a18 a19 a20 a21 a22 a23 a24 a25 a26 a27 a28 a29 a30 a31 w
set_option maxRecDepth 100000 in
theorem info24 : (Tryd.prog.info? 24).map (fun i => (i.zero, i.size, i.bytes)) = some (some (.agg (vB (zs 32))), 32, 32) := by kernel_rfl
/-- The slice u has the hashes hs, in a row of its own. -/
def HashRow (base : Nat) (hs : List (List Int)) (u : Value) (W : World) : Prop := W.ownsRow base 24 32 u hs.length (vB hs.flatten).toList
set_option maxRecDepth 100000 in
theorem HashRow.list {base : Nat} {hs : List (List Int)} {u : Value} {W : World} (h : HashRow base hs u W) (h0 : 0 < W.heap.size) : ListAt W u hs := by
  obtain ⟨hl, h2⟩ := h
  rcases h2 with ⟨rfl, hn0⟩ | ⟨g, cap, cur, rfl, _, hgb, r1, r2, r3, r4⟩
  · have : hs = [] := List.eq_nil_of_length_eq_zero hn0
    subst this
    exact ⟨none, 0, 0, 0, rfl, Nat.le_refl _, by omega, fun h => by simp at h, fun j v hv => by simp [vB] at hv, h0, fun _ => rfl⟩
  · refine ⟨some ⟨g, 0, none⟩, g, 0, cap, rfl, r1, r2, fun _ => rfl, fun j x hx => ?_, (Array.getElem?_eq_some_iff.1 hgb).1, fun h => by cases h⟩
    rw [Nat.zero_add, cell_of_row W g j cur 24 (0, 0) hgb]
    rw [← r4, List.getElem?_take] at hx
    split at hx
    · simpa using hx
    · cases hx
set_option maxRecDepth 100000 in
theorem HashRow.nil (base : Nat) (W : World) : HashRow base [] (.slice none 0 0) W := ⟨rfl, Or.inl ⟨rfl, rfl⟩⟩
set_option maxRecDepth 100000 in
theorem HashRow.below {base : Nat} {hs : List (List Int)} {u : Value} {W W' : World} (h : HashRow base hs u W) (hb : Below W.heap.size W W') : HashRow base hs u W' :=
  World.ownsRow.kept h (grown_below hb none) (by
    rcases h.2 with ⟨rfl, _⟩ | ⟨g, cap, cur, rfl, _⟩
    · exact .inl rfl
    · exact .inr (by simp [Value.ownBlock]))
set_option maxRecDepth 100000 in
theorem cells_of_new {w : World} {h : List Int} : ∀ j u, (vB h).toList[j]? = some u → (w.alloc (.cells (vB h) 24)).cell? ((⟨w.heap.size, 0, none⟩ : Addr).add j) = some u := fun j u hu => by
  rw [Addr.add_mid, Nat.zero_add, cell_of_row _ _ j _ 24 (0, 0) (heap_alloc_new _ _)]
  simpa using hu
set_option maxRecDepth 100000 in
/-- A hash more. -/
theorem appendH {ops : Array Oper} {rest : List Oper} {o : Oper} {a : Act} {w : World} {Q : Exit → Act → World → Prop} (hgd : o.guard = none) (s x : Operand)
    (ho : o.op = .call { callee := .builtin .append, args := #[s, x], argTypes := #[44, 44] }) (base : Nat) (v : Value) (hs : List (List Int)) (hv : a.eval s = v) (hown : HashRow base hs v w)
    (h : List Int) (hl : h.length = 32) (hx : a.eval x = .slice (some ⟨w.heap.size, 0, none⟩) 1 1) (hn : hs.length ≤ 1000000000000) (hbase : base ≤ w.heap.size)
    (K : ∀ v' w', HashRow base (hs ++ [h]) v' w' → (w.alloc (.cells (vB h) 24)).grownBy w' v.ownBlock → wpList Tryd.prog ops Q rest (a.put o.dst v') w') : wpList Tryd.prog ops Q (o :: rest) a (w.alloc (.cells (vB h) 24)) := by
  obtain ⟨i, hi, hz0, hz1, hz2⟩ := info_parts info24
  have hh : (vB h).toList.length = 1 * 32 := by rw [Array.length_toList, vB_size, hl]
  refine wpList_append_own_at _ hgd s x 44 ho base 24 i (.agg (vB (zs 32))) 32 32 Tryd.underlying44 hi hz0 hz1 hz2 rfl (by omega) v hs.length (vB hs.flatten).toList hv (own_alloc hown _) ⟨w.heap.size, 0, none⟩ 1 1 (vB h).toList hx hh cells_of_new
    (fun v hv => by simp [vB] at hv; obtain ⟨y, _, rfl⟩ := hv; rfl) (by unfold maxLen; omega) (by omega) (by simp; omega) ?_
  intro v' w' o' g' _ _
  refine K v' w' ?_ g'
  unfold HashRow
  simpa [vB] using o'
end Go.Proofs.YtffhjjgkoapioaaDoor
