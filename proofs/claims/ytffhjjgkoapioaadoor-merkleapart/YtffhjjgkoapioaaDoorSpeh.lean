/- Roots over hashes, as plain lists. -/
import Derived.Test.YtffhjjgkoapioaaDoorMd
namespace Go.Proofs.YtffhjjgkoapioaaDoor
set_option linter.unusedSimpArgs false
set_option linter.unusedVariables false
open Go.RowKit
def overF : Nat → List (List Int) → List Int
  | 0, _ => hashOf [2]
  | f + 1, hs => if hs.length = 0 then hashOf [2] else if hs.length = 1 then hs.headD [] else nodeH (overF f (hs.take (halfN hs.length))) (overF f (hs.drop (halfN hs.length)))
theorem overF_more (f g : Nat) (hs : List (List Int)) (hf : hs.length ≤ f) (hg : hs.length ≤ g) : overF f hs = overF g hs := by
  induction f generalizing g hs with
  | zero =>
    cases g with
    | zero => rfl
    | succ g => rw [overF, overF, if_pos (by omega)]
  | succ f ih =>
    cases g with
    | zero => rw [overF, overF, if_pos (by omega)]
    | succ g =>
      rw [overF, overF]
      by_cases h0 : hs.length = 0
      · rw [if_pos h0, if_pos h0]
      · by_cases h1 : hs.length = 1
        · rw [if_neg h0, if_neg h0, if_pos h1, if_pos h1]
        · have hp := halfN_pos hs.length
          have hl := halfN_lt hs.length (by omega)
          rw [if_neg h0, if_neg h0, if_neg h1, if_neg h1, ih g (hs.take (halfN hs.length)) (by simp; omega) (by simp; omega), ih g (hs.drop (halfN hs.length)) (by simp; omega) (by simp; omega)]
/-- The root over a list of hashes. -/
def overH (hs : List (List Int)) : List Int := overF hs.length hs
theorem overH_nil (hs : List (List Int)) (h : hs.length = 0) : overH hs = hashOf [2] := by
  unfold overH
  rw [h]; rfl
theorem overH_one (hs : List (List Int)) (h : hs.length = 1) : overH hs = hs.headD [] := by
  unfold overH
  rw [h, overF, if_neg (by omega), if_pos h]
theorem overH_more (hs : List (List Int)) (h : 2 ≤ hs.length) : overH hs = nodeH (overH (hs.take (halfN hs.length))) (overH (hs.drop (halfN hs.length))) := by
  have hp := halfN_pos hs.length
  have hl := halfN_lt hs.length h
  unfold overH
  obtain ⟨m, hm⟩ : ∃ m, hs.length = m + 1 := ⟨hs.length - 1, by omega⟩
  conv => lhs; rw [hm, overF, if_neg (by omega), if_neg (by omega)]
  rw [overF_more m (hs.take (halfN hs.length)).length _ (by simp; omega) (Nat.le_refl _), overF_more m (hs.drop (halfN hs.length)).length _ (by simp; omega) (Nat.le_refl _)]
/-- All of them are hashes. -/
def Hashes (hs : List (List Int)) : Prop := ∀ h ∈ hs, h.length = 32 ∧ Bytes h
theorem Hashes.take {hs : List (List Int)} (h : Hashes hs) (k : Nat) : Hashes (hs.take k) := fun x hx => h x (List.mem_of_mem_take hx)
theorem Hashes.drop {hs : List (List Int)} (h : Hashes hs) (k : Nat) : Hashes (hs.drop k) := fun x hx => h x (List.mem_of_mem_drop hx)
theorem overH_hash (hs : List (List Int)) (h : Hashes hs) : (overH hs).length = 32 ∧ Bytes (overH hs) := by
  rcases Nat.lt_or_ge hs.length 2 with h2 | h2
  · rcases Nat.lt_or_ge hs.length 1 with h1 | h1
    · rw [overH_nil hs (by omega)]; exact ⟨hashOf_length _, hashOf_bytes _⟩
    · rw [overH_one hs (by omega)]
      cases hs with
      | nil => simp at h1
      | cons x l => exact h x (by simp)
  · rw [overH_more hs h2]; exact ⟨hashOf_length _, hashOf_bytes _⟩
theorem flat_length (hs : List (List Int)) (h : Hashes hs) : hs.flatten.length = 32 * hs.length := by
  induction hs with
  | nil => rfl
  | cons x l ih =>
    have := (h x (by simp)).1
    rw [List.flatten_cons, List.length_append, ih (fun y hy => h y (by simp [hy])), List.length_cons]; omega
theorem flat_take (hs : List (List Int)) (h : Hashes hs) (k : Nat) (hk : k ≤ hs.length) : (hs.take k).flatten = hs.flatten.take (32 * k) := by
  have e : hs.flatten = (hs.take k).flatten ++ (hs.drop k).flatten := by rw [← List.flatten_append, List.take_append_drop]
  have hl := flat_length (hs.take k) (h.take k)
  rw [e, List.take_left']
  rw [hl, List.length_take]; omega
theorem flat_drop (hs : List (List Int)) (h : Hashes hs) (k : Nat) (hk : k ≤ hs.length) : (hs.drop k).flatten = hs.flatten.drop (32 * k) := by
  have e : hs.flatten = (hs.take k).flatten ++ (hs.drop k).flatten := by rw [← List.flatten_append, List.take_append_drop]
  have hl := flat_length (hs.take k) (h.take k)
  rw [e, List.drop_left']
  rw [hl, List.length_take]; omega
/-- The value v is a slice that holds the hashes hs, in memory that w has. -/
def ListAt (w : World) (v : Value) (hs : List (List Int)) : Prop := ∃ (av : Option Addr) (b o cp : Nat), v = .slice av hs.length cp ∧ hs.length ≤ cp ∧ cp ≤ 9223372036854775807 ∧ (0 < hs.length → av = some ⟨b, o, none⟩) ∧ w.rangeAt b o (vB hs.flatten).toList ∧ b < w.heap.size ∧ (av = none → cp = 0)
theorem ListAt.below {w w' : World} {v : Value} {hs : List (List Int)} (h : ListAt w v hs) (hb : Below w.heap.size w w') : ListAt w' v hs := by
  obtain ⟨av, b, o, cp, h1, h2, h3, h4, h5, h6, h7⟩ := h
  exact ⟨av, b, o, cp, h1, h2, h3, h4, range_below h5 hb h6, Nat.lt_of_lt_of_le h6 hb.size, h7⟩
theorem range_take {w : World} {b o : Nat} {l : List Int} (h : w.rangeAt b o (vB l).toList) (k : Nat) : w.rangeAt b o (vB (l.take k)).toList := fun j v hv => by
  refine h j v ?_
  simp [vB, List.getElem?_take] at hv ⊢
  exact hv.2
theorem range_drop {w : World} {b o : Nat} {l : List Int} (h : w.rangeAt b o (vB l).toList) (k : Nat) : w.rangeAt b (o + k) (vB (l.drop k)).toList := fun j v hv => by
  have := h (k + j) v (by simp [vB] at hv ⊢; exact hv)
  rw [Nat.add_assoc]; exact this
theorem ListAt.take {w : World} {b o n cp : Nat} {hs : List (List Int)} (hn : hs.length = n) (h : w.rangeAt b o (vB hs.flatten).toList) (hH : Hashes hs) (hb : b < w.heap.size) (hcp : cp ≤ 9223372036854775807) (hle : n ≤ cp) (k : Nat) (hk : k ≤ n) : ListAt w (.slice (some ⟨b, o, none⟩) k cp) (hs.take k) := by
  have e : (hs.take k).length = k := by simp; omega
  exact ⟨some ⟨b, o, none⟩, b, o, cp, by rw [e], by omega, hcp, fun _ => rfl, by rw [flat_take hs hH k (by omega)]; exact range_take h _, hb, fun h => by cases h⟩
theorem ListAt.drop {w : World} {b o n cp : Nat} {hs : List (List Int)} (hn : hs.length = n) (h : w.rangeAt b o (vB hs.flatten).toList) (hH : Hashes hs) (hb : b < w.heap.size) (hcp : cp ≤ 9223372036854775807) (hle : n ≤ cp) (k : Nat) (hk : k ≤ n) : ListAt w (.slice (some ⟨b, o + k * 32, none⟩) (n - k) (cp - k)) (hs.drop k) := by
  have e : (hs.drop k).length = n - k := by simp; omega
  rw [Nat.mul_comm k 32]
  exact ⟨some ⟨b, o + 32 * k, none⟩, b, o + 32 * k, cp - k, by rw [e], by omega, by omega, fun _ => rfl, by rw [flat_drop hs hH k (by omega)]; exact range_drop h _, hb, fun h => by cases h⟩
/-- While a function carries on: all that lay ahead of it, and its answer's place. -/
def OneIn (w : World) (w' : World) : Prop := Below w.heap.size w w' ∧ ∃ c : List Int, c.length = 32 ∧ w'.heap[w.heap.size]? = some (.cells (vB c) 24)
theorem OneIn.lt {w w' : World} (h : OneIn w w') : w.heap.size < w'.heap.size := by obtain ⟨_, c, _, h5⟩ := h; exact (Array.getElem?_eq_some_iff.1 h5).1
theorem OneIn.new (w : World) : OneIn w (w.alloc (.cells (vB (zs 32)) 24)) := ⟨(Below.refl _ _).alloc (Nat.le_refl _) _, zs 32, rfl, heap_alloc_new _ _⟩
theorem OneIn.alloc {w w' : World} (h : OneIn w w') (o : Obj) : OneIn w (w'.alloc o) := by
  have hl := h.lt
  obtain ⟨h1, c, hc, h5⟩ := h
  exact ⟨h1.alloc h1.size _, c, hc, by rw [Below.heap_alloc _ _ _ hl]; exact h5⟩
theorem OneIn.drew {w w' : World} (h : OneIn w w') : OneIn w w'.drew := ⟨⟨h.1.os, h.1.tape, h.1.output, h.1.size, h.1.block⟩, h.2⟩
theorem OneIn.below {w w' w'' : World} (h : OneIn w w') (k : Below w'.heap.size w' w'') : OneIn w w'' := by
  have hl := h.lt
  obtain ⟨h1, c, hc, h5⟩ := h
  exact ⟨h1.trans (k.mono h1.size), c, hc, by rw [k.block _ hl]; exact h5⟩
theorem OneIn.store {w w' : World} (h : OneIn w w') (l : List Int) (hl : l.length = 32) : OneIn w (w'.setCells w.heap.size 0 (vB l).toList) := by
  obtain ⟨h1, c, hc, h5⟩ := h
  exact ⟨below_setCells h1 (Nat.le_refl _) _, l, hl, setCells_whole h5 (by omega)⟩
theorem OneIn.st {w w' : World} (h : OneIn w w') : OneIn w w' ∧ w'.there w.heap.size 0 32 := ⟨h, by obtain ⟨_, c, hc, h5⟩ := h; exact there_of_block h5 (by rw [vB_size]; omega)⟩
end Go.Proofs.YtffhjjgkoapioaaDoor
