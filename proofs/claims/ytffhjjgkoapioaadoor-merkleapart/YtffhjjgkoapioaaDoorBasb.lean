import Derived.Test.YtffhjjgkoapioaaDoorBase
import Derived.Test.YtffhjjgkoapioaaDoorSpeh
import Derived.Deep.Slices
import Derived.DataReads
namespace Go.Proofs.YtffhjjgkoapioaaDoor
set_option linter.unusedSimpArgs false
set_option linter.unusedVariables false
open Go.ChangeShapes Go.WideShapes Go.ChangeAt Go.RowKit
set_option maxRecDepth 100000 in
theorem cells24 : Tryd.prog.cellsOf 24 = 32 := by kernel_rfl
set_option maxRecDepth 100000 in
theorem cells5 : Tryd.prog.cellsOf 5 = 1 := by kernel_rfl
set_option maxRecDepth 100000 in
theorem trod_hash {H : Type} {enc : TypeId × Value → H} {w : World} {base : Nat} {spare : Nat → Bool} {held : Bool} {fuel : Nat} {cs : List Value} {x : DataW H × List MemPlace} (h : DataW.trod enc Tryd.prog w base spare held fuel 24 cs = some x) :
    ∃ l : List Int, l.length = 32 ∧ Bytes l ∧ cs = l.map (Value.int .u8) := by
  obtain ⟨xs, m, _, ex, hcl, hl, hel⟩ := DataW.trod_array Tryd.underlying24 h
  rw [cells24] at hcl
  have hz : ∀ i, i < 32 → ∃ z : Int, cs[i]? = some (.int .u8 z) ∧ 0 ≤ z ∧ z ≤ 255 := fun i hi => by
    have hE := hel i hi
    rw [cells5, Nat.mul_one, List.getElem?_eq_getElem (by omega)] at hE
    obtain ⟨z, e1, e2, e3⟩ := DataW.trod_int Tryd.underlying5 hE
    have h0 : ((cs.drop i).take 1)[0]? = some (.int .u8 z) := by rw [e1]; rfl
    exact ⟨z, by simpa using h0, bounds_u8 e3⟩
  refine ⟨cs.map intOf, by simp [hcl], fun y hy => ?_, ?_⟩
  · obtain ⟨v, hv, rfl⟩ := List.mem_map.1 hy
    obtain ⟨i, hi, rfl⟩ := List.getElem_of_mem hv
    obtain ⟨z, e, b⟩ := hz i (by omega)
    rw [List.getElem?_eq_getElem hi] at e
    injection e with e
    rw [e]; exact b
  · apply List.ext_getElem
    · simp
    · intro i h1 h2
      obtain ⟨z, e, b⟩ := hz i (by omega)
      rw [List.getElem?_eq_getElem h1] at e
      injection e with e
      simp [e, intOf]
set_option maxRecDepth 100000 in
theorem flat_at (hs : List (List Int)) (h : Hashes hs) (i j : Nat) (hi : i < hs.length) (hj : j < 32) : hs.flatten[i * 32 + j]? = (hs[i]?.getD [])[j]? := by
  induction hs generalizing i with
  | nil => simp at hi
  | cons x l ih =>
    have hx := (h x (by simp)).1
    cases i with
    | zero => rw [Nat.zero_mul, Nat.zero_add, List.flatten_cons, List.getElem?_append_left (by omega)]; rfl
    | succ i =>
      rw [List.flatten_cons, List.getElem?_append_right (by omega), show (i + 1) * 32 + j - x.length = i * 32 + j by omega, ih (fun y hy => h y (by simp [hy])) i (by simpa using hi)]
      rfl
set_option maxRecDepth 100000 in
/-- A slice of hashes that came in. -/
theorem open_hashes {H : Type} {enc : TypeId × Value → H} {W : World} {v : Value} {d : DataW H} {p : List MemPlace} (hL : Laid W) (h : DataW.Trod enc Tryd.prog W 0 (fun _ => true) true 44 v d p) (av : Option Addr) (len cap : Nat) (hv : v = .slice av len cap)
    (hw : ∀ elems spare, d = .slice elems spare → (elems.length + spare.length) * Tryd.prog.bytesOf 24 ≤ reachBytes) :
    ∃ hs, ListAt W v hs ∧ Hashes hs ∧ hs.length ≤ 140737488351232 := by
  subst hv
  have h2 := hL.two
  obtain ⟨fuel, hf⟩ := h
  rcases Deep.open_slice Tryd.underlying44 hf with ⟨hcs, _⟩ | ⟨a, l, c, m, n, D, Pl, hcs, _, hl, hmx, hm, hx, hE⟩
  · simp [Value.cells] at hcs
    obtain ⟨rfl, rfl, rfl⟩ := hcs
    exact ⟨[], ⟨none, 0, 0, 0, rfl, Nat.le_refl _, by omega, fun h => by simp at h, fun j v hv => by simp [vB] at hv, by omega, fun _ => rfl⟩, fun h hh => by simp at hh, by simp⟩
  · simp [Value.cells] at hcs
    obtain ⟨rfl, rfl, rfl⟩ := hcs
    simp only [if_true] at hm
    subst hm
    rw [cells24] at hE
    have hd : d = .slice ((List.range len).map D) ((List.range (m - len)).map fun j => D (len + j)) := congrArg Prod.fst hx
    have hbound : m ≤ 140737488351232 := by
      have h1 := hw _ _ hd
      have hby : Tryd.prog.bytesOf 24 = 32 := by kernel_rfl
      rw [hby] at h1
      simp at h1
      unfold reachBytes at h1
      omega
    have hall : ∀ i, i < len → ∃ x : List Int, (x.length = 32 ∧ Bytes x) ∧ W.cells? 0 (a.add (i * 32)) 32 = some (x.map (Value.int .u8)) := fun i hi => by
      obtain ⟨cs', hc, ht⟩ := hE i (by omega)
      obtain ⟨x, h1, h3, rfl⟩ := trod_hash ht
      exact ⟨x, ⟨h1, h3⟩, hc⟩
    have hch : ∃ hs : List (List Int), hs.length = len ∧ Hashes hs ∧ ∀ i, i < len → W.cells? 0 (a.add (i * 32)) 32 = some ((hs[i]?.getD []).map (Value.int .u8)) := by
      clear hd hx hE hw hf
      induction len with
      | zero => exact ⟨[], rfl, fun h hh => by simp at hh, fun i hi => by omega⟩
      | succ k ih =>
        obtain ⟨hs, e1, e2, e3⟩ := ih (by omega) (fun i hi => hall i (by omega))
        obtain ⟨x, hx1, hx2⟩ := hall k (by omega)
        refine ⟨hs ++ [x], by simp [e1], fun y hy => ?_, fun i hi => ?_⟩
        · rcases List.mem_append.1 hy with h | h
          · exact e2 y h
          · simp at h; subst h; exact hx1
        · rcases Nat.lt_or_ge i k with h | h
          · rw [List.getElem?_append_left (by omega)]; exact e3 i h
          · obtain rfl : i = k := by omega
            rw [List.getElem?_append_right (by omega), e1]; simpa using hx2
    obtain ⟨hs, e1, e2, e3⟩ := hch
    refine ⟨hs, ?_, e2, by omega⟩
    rcases Nat.eq_zero_or_pos len with h0 | h0
    · subst h0
      have : hs = [] := List.eq_nil_of_length_eq_zero e1
      subst this
      exact ⟨some a, 0, 0, m, by simp, by simp, by unfold maxLen at hmx; omega, fun h => by simp at h, fun j v hv => by simp [vB] at hv, by omega, fun h => by cases h⟩
    · obtain ⟨blk, off, spot⟩ := a
      have hfl := flat_length hs e2
      have hspot : spot = none := by
        have h1 := (World.cells?_some (e3 0 h0)).2.2 0 (by omega)
        have h3 := flat_at hs e2 0 0 (by omega) (by omega)
        rw [List.getElem?_map, ← h3, List.getElem?_eq_getElem (by omega)] at h1
        simpa [Addr.add] using World.cell?_spot h1
      subst hspot
      have hcell : ∀ t, t < 32 * len → (W.cell? ⟨blk, off + t, none⟩) = some (.int .u8 (gi hs.flatten t)) := fun t ht => by
        have h1 := (World.cells?_some (e3 (t / 32) (by omega))).2.2 (t % 32) (by omega)
        have h3 := flat_at hs e2 (t / 32) (t % 32) (by omega) (by omega)
        rw [show t / 32 * 32 + t % 32 = t by omega] at h3
        rw [List.getElem?_map, ← h3, Addr.add_mid, Addr.add_mid, show off + t / 32 * 32 + t % 32 = off + t by omega] at h1
        rw [h1]
        unfold gi
        rw [List.getD_eq_getElem?_getD, List.getElem?_eq_getElem (by omega)]
        rfl
      have hc0 := hcell 0 (by omega)
      refine ⟨some ⟨blk, off, none⟩, blk, off, m, by rw [e1], by omega, by unfold maxLen at hmx; omega, fun _ => rfl, fun j v hv => ?_, block_lt_of_cell hc0, fun h => by cases h⟩
      have hj : j < hs.flatten.length := by have := (List.getElem?_eq_some_iff.1 hv).1; rw [Array.length_toList, vB_size] at this; exact this
      rw [hcell j (by omega)]
      have e := vB_at hs.flatten j hj
      rw [Array.getElem?_toList, e] at hv
      exact hv
set_option maxRecDepth 100000 in
/-- A hash that came in. -/
theorem open_hash {H : Type} {enc : TypeId × Value → H} {W : World} {base : Nat} {v : Value} {d : DataW H} {p : List MemPlace} (hv : Value.okWide Tryd.prog W .any base 24 v) (h : DataW.Trod enc Tryd.prog W 0 (fun _ => true) true 24 v d p) :
    ∃ l, v = .agg (vB l) ∧ l.length = 32 ∧ Bytes l := by
  obtain ⟨fuel, hf⟩ := h
  obtain ⟨l, h1, h2, h3⟩ := trod_hash hf
  simp only [Value.okWide, Tryd.underlying24] at hv
  obtain ⟨cs, rfl, _⟩ := hv
  refine ⟨l, ?_, h1, h2⟩
  have : cs.toList = l.map (Value.int .u8) := h3
  congr 1
  apply Array.ext'
  rw [this]; rfl
end Go.Proofs.YtffhjjgkoapioaaDoor
