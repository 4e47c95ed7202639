import Derived.Test.YtnpjknnalekdpaaDoorTa
import Derived.Test.YtnpjknnalekdpaaDoorFz
import Derived.Test.YtnpjknnalekdpaaDoorHz
namespace Go.Proofs.YtnpjknnalekdpaaDoor
set_option linter.unusedSimpArgs false
set_option linter.unusedVariables false
open Go.RowKit
theorem own_keep {w w' : World} {base e size : Nat} {v : Value} {n : Nat} {xs : List Value} (h : w.ownsRow base e size v n xs) (hk : ∀ g cur, base ≤ g → w.heap[g]? = some (.cells cur e) → v.ownBlock = some g → w'.heap[g]? = w.heap[g]?) : w'.ownsRow base e size v n xs := by
  obtain ⟨h1, h2⟩ := h
  refine ⟨h1, ?_⟩
  rcases h2 with h2 | ⟨g, cap, cur, q1, q2, q3, q⟩
  · exact .inl h2
  · exact .inr ⟨g, cap, cur, q1, q2, by rw [hk g cur q2 q3 (by rw [q1]; rfl)]; exact q3, q⟩
theorem own_belowR {w w' : World} {base e size : Nat} {v : Value} {n : Nat} {xs : List Value} (h : w.ownsRow base e size v n xs) (b : Below w.heap.size w w') : w'.ownsRow base e size v n xs :=
  own_keep h fun g cur _ hg _ => b.block _ (Array.getElem?_eq_some_iff.1 hg).1
/-- Frames in a row of the call's own, their bodies in rows of their own. -/
structure FrO (w : World) (base : Nat) (v : Value) (fs : List (Int × List Int)) (us : List Value) : Prop where
  len : us.length = fs.length
  own : w.ownsRow base 46 2 v fs.length (cellsF fs us)
  part : ∀ (i : Nat) (u : Value) (f : Int × List Int), us[i]? = some u → fs[i]? = some f → OwnB w base u f.2
theorem FrO.nil (w : World) (base : Nat) : FrO w base (.slice none 0 0) [] [] := ⟨rfl, ⟨rfl, .inl ⟨rfl, rfl⟩⟩, fun i u f h => by simp at h⟩
theorem FrO.below {w w' : World} {base : Nat} {v : Value} {fs : List (Int × List Int)} {us : List Value} (h : FrO w base v fs us) (b : Below w.heap.size w w') : FrO w' base v fs us :=
  ⟨h.len, own_belowR h.own b, fun i u f h1 h2 => own_belowR (h.part i u f h1 h2) b⟩
/-- A store into a stream's box. -/
theorem FrO.box {w : World} {base : Nat} {v : Value} {fs : List (Int × List Int)} {us : List Value} (h : FrO w base v fs us) {g : Nat} (hg : g < base) (o : Nat) (x : Value) : FrO (w.setCell ⟨g, o, none⟩ x) base v fs us :=
  ⟨h.len, own_keep h.own fun k cur hk _ _ => Below.heap_setCell _ _ _ _ (by show k ≠ g; omega), fun i u f h1 h2 => own_keep (h.part i u f h1 h2) fun k cur hk _ _ => Below.heap_setCell _ _ _ _ (by show k ≠ g; omega)⟩
/-- A frame is put behind the others. -/
theorem FrO.snoc {w w' : World} {base : Nat} {v v' : Value} {fs : List (Int × List Int)} {us : List Value} (h : FrO w base v fs us) (t : Int) (bd : List Int) (u : Value) (hu : OwnB w base u bd)
    (ho : w'.ownsRow base 46 2 v' (fs.length + 1) (cellsF fs us ++ [.int .u8 t, u])) (gr : w.grownBy w' v.ownBlock) : FrO w' base v' (fs ++ [(t, bd)]) (us ++ [u]) := by
  have keep : ∀ (x : Value) (l : List Int), OwnB w base x l → OwnB w' base x l := fun x l hx => own_keep hx fun g cur hbg hg _ => by
    refine gr.block g (Array.getElem?_eq_some_iff.1 hg).1 fun e => ?_
    rcases h.own.2 with ⟨q, _⟩ | ⟨g0, cap, cur0, q1, q2, q3, _⟩
    · rw [q] at e; cases e
    · rw [q1] at e
      have e : some g = some g0 := e
      injection e with e
      subst e
      rw [hg] at q3
      injection q3 with q3
      injection q3 with _ q3
      cases q3
  refine ⟨by rw [List.length_append, List.length_append, h.len]; rfl, ?_, fun i x f h1 h2 => ?_⟩
  · rw [cellsF_snoc fs us (t, bd) u h.len, List.length_append]; exact ho
  · rcases Nat.lt_or_ge i fs.length with hi | hi
    · rw [List.getElem?_append_left (by rw [h.len]; exact hi)] at h1
      rw [List.getElem?_append_left hi] at h2
      exact keep _ _ (h.part i x f h1 h2)
    · rw [List.getElem?_append_right (by rw [h.len]; exact hi), h.len] at h1
      rw [List.getElem?_append_right hi] at h2
      match hk : i - fs.length, h1, h2 with
      | 0, h1, h2 =>

        simp at h1 h2
        rw [← h1, ← h2]; exact keep _ _ hu
      | j + 1, h1, h2 => simp at h1
theorem FrO.five {w : World} {base : Nat} {v : Value} {fs : List (Int × List Int)} {us : List Value} (h : FrO w base v fs us) (b : Nat) (C : Array Value) (m : Nat × Nat) (hC : w.heap[b]? = some (Obj.cells C 5 m)) : some b ≠ v.ownBlock := by
  intro e
  rcases h.own.2 with ⟨q, _⟩ | ⟨g0, cap, cur0, q1, q2, q3, _⟩
  · rw [q] at e; cases e
  · rw [q1] at e
    have e : some b = some g0 := e
    injection e with e
    subst e
    rw [hC] at q3
    injection q3 with q3
    injection q3 with _ q3
    cases q3
theorem FrO.low {w : World} {base : Nat} {v : Value} {fs : List (Int × List Int)} {us : List Value} (h : FrO w base v fs us) (b : Nat) (hb : v.ownBlock = some b) : base ≤ b := by
  rcases h.own.2 with ⟨q, _⟩ | ⟨g0, cap, cur0, q1, q2, q3, _⟩
  · rw [q] at hb; cases hb
  · rw [q1] at hb
    have hb : some g0 = some b := hb
    injection hb with hb
    omega
theorem grown_own {w w4 w5 : World} {g : Nat} {row : Option Nat} (h : w.grownBy w4 (some g)) (k : w4.grownBy w5 row) (hr : ∀ b, row = some b → w.heap.size ≤ b) : w.grownBy w5 (some g) :=
  ⟨k.os.trans h.os, k.tape.trans h.tape, k.output.trans h.output, Nat.le_trans h.size k.size, fun j hj e => (k.block j (Nat.lt_of_lt_of_le hj h.size) (fun q => by have := hr j q.symm; omega)).trans (h.block j hj e)⟩
def lenV : Value → Nat
  | .slice _ n _ => n
  | _ => 0
/-- A stream's box. -/
def SBox (w : World) (g : Nat) (wl : List Int) (d : Int) : Prop := w.heap[g]? = some (.cells #[.string (strOfNums wl), .int .i64 d] 78)
theorem SBox.lt {w : World} {g : Nat} {wl : List Int} {d : Int} (h : SBox w g wl d) : g < w.heap.size := (Array.getElem?_eq_some_iff.1 h).1
theorem SBox.below {w w' : World} {g : Nat} {wl : List Int} {d : Int} (h : SBox w g wl d) (b : Below w.heap.size w w') : SBox w' g wl d := by
  unfold SBox; rw [b.block _ h.lt]; exact h
theorem SBox.c0 {w : World} {g : Nat} {wl : List Int} {d : Int} (h : SBox w g wl d) : w.cell? ⟨g, 0, none⟩ = some (.string (strOfNums wl)) := row_cell (j := 0) h rfl
theorem SBox.c1 {w : World} {g : Nat} {wl : List Int} {d : Int} (h : SBox w g wl d) : w.cell? ⟨g, 1, none⟩ = some (.int .i64 d) := row_cell (j := 1) h rfl
theorem SBox.drop {w : World} {g : Nat} {wl : List Int} {d : Int} (h : SBox w g wl d) (d' : Int) : SBox (w.setCell ⟨g, 1, none⟩ (.int .i64 d')) g wl d' := by
  unfold SBox; exact heap_setCell_same _ g 1 _ 78 _ h
theorem SBox.wait {w : World} {g : Nat} {wl : List Int} {d : Int} (h : SBox w g wl d) (wl' : List Int) : SBox (w.setCell ⟨g, 0, none⟩ (.string (strOfNums wl'))) g wl' d := by
  unfold SBox; exact heap_setCell_same _ g 0 _ 78 _ h
theorem range_subT {w : World} {b o : Nat} {bs : List Int} (h : w.rangeAt b o (vB bs).toList) (k n : Nat) : w.rangeAt b (o + k) (vB ((bs.drop k).take n)).toList := fun j v hv => by
  have : (vB bs).toList[k + j]? = some v := by
    simp only [vB, List.getElem?_map, List.getElem?_take, List.getElem?_drop] at hv ⊢
    by_cases q : j < n
    · rw [if_pos q] at hv; exact hv
    · rw [if_neg q] at hv; simp at hv
  have r := h (k + j) v this
  rw [Nat.add_assoc]; exact r
theorem cell_at0 (l : List Int) (j : Nat) (h : j < l.length) : (vB l).toList[j]? = some (.int .u8 (gi l j)) := by
  simp only [vB, List.getElem?_map]
  rw [List.getElem?_eq_getElem h]
  unfold gi
  rw [List.getD_eq_getElem?_getD, List.getElem?_eq_getElem h]; rfl
/-- A slice of bytes stays when a stream's box is written. -/
theorem PartAt.sbox {w : World} {v : Value} {l : List Int} (h : PartAt w v l) {g : Nat} {wl : List Int} {d : Int} (hg : SBox w g wl d) (o : Nat) (x : Value) : PartAt (w.setCell ⟨g, o, none⟩ x) v l := by
  obtain ⟨av, b, oo, cp, h1, h2, h3, h4, h5, h6, h7⟩ := h
  refine ⟨av, b, oo, cp, h1, h2, h3, h4, fun j y hj => ?_, by simp [World.setCell]; exact h6, h7⟩
  have hc := h5 j y hj
  by_cases hb : b = g
  · exfalso
    subst hb
    have hjl : j < l.length := by have := (List.getElem?_eq_some_iff.1 hj).1; rw [vBl] at this; exact this
    have hy : y = .int .u8 (gi l j) := by
      have := cell_at0 l j hjl
      rw [this] at hj; injection hj with hj; exact hj.symm
    subst hy
    unfold SBox at hg
    simp only [World.cell?, hg] at hc
    match oo + j, hc with
    | 0, hc => simp at hc
    | 1, hc => simp at hc
    | k + 2, hc => simp at hc
  · rw [World.cell?_setCell_other _ _ _ _ (by intro e; injection e with e1 _; exact hb e1.symm)]
    exact hc
theorem PartT.keep {w w' : World} {v : Value} {l : List Int} (h : PartT w v l) (hsz : w.heap.size ≤ w'.heap.size) (hk : ∀ (b : Nat) (C : Array Value) (m : Nat × Nat), w.heap[b]? = some (Obj.cells C 5 m) → w'.heap[b]? = w.heap[b]?) : PartT w' v l := by
  obtain ⟨av, b, o, cp, h1, h2, h3, h4, h5, h6, h7, h8⟩ := h
  rcases Nat.eq_zero_or_pos l.length with h0 | h0
  · refine ⟨av, b, o, cp, h1, h2, h3, h4, fun j y hj => ?_, by omega, h7, fun q => by omega⟩
    have := (List.getElem?_eq_some_iff.1 hj).1; rw [vBl] at this; omega
  · obtain ⟨C, m, hC⟩ := h8 h0
    have e := hk b C m hC
    exact ⟨av, b, o, cp, h1, h2, h3, h4, fun j y hj => by rw [World.cell?_of_block (w := w) e]; exact h5 j y hj, by omega, h7, fun _ => ⟨C, m, by rw [e]; exact hC⟩⟩
theorem PartT.sbox {w : World} {v : Value} {l : List Int} (h : PartT w v l) {g : Nat} {wl : List Int} {d : Int} (hg : SBox w g wl d) (o : Nat) (x : Value) : PartT (w.setCell ⟨g, o, none⟩ x) v l :=
  h.keep (by simp [World.setCell]) fun b C m hC => Below.heap_setCell _ _ _ _ (by
    intro e
    have e : b = g := e
    subst e
    unfold SBox at hg
    rw [hC] at hg
    injection hg with hg
    injection hg with _ hg
    cases hg)
theorem five_setCell {w : World} {g : Nat} {a : Addr} {x : Value} (h : ∃ C m, w.heap[g]? = some (.cells C 5 m)) : ∃ C m, (w.setCell a x).heap[g]? = some (.cells C 5 m) := by
  obtain ⟨C, m, h⟩ := h
  by_cases e : g = a.block
  · refine ⟨(if a.spot.isSome = true then C else C.setIfInBounds a.off x), m, ?_⟩
    simp only [World.setCell, Array.getElem?_modify, if_pos e.symm]
    rw [h]; rfl
  · exact ⟨C, m, by rw [Below.heap_setCell _ _ _ _ e]; exact h⟩
theorem five_setCells (g b : Nat) : ∀ (vs : List Value) (o : Nat) (w : World), (∃ C m, w.heap[g]? = some (.cells C 5 m)) → ∃ C m, (w.setCells b o vs).heap[g]? = some (.cells C 5 m)
  | [], _, _, h => h
  | v :: r, o, w, h => by rw [World.setCells]; exact five_setCells g b r (o + 1) _ (five_setCell h)
end Go.Proofs.YtnpjknnalekdpaaDoor
