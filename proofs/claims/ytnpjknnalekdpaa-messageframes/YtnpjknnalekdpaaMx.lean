import Derived.Test.YtnpjknnalekdpaaAy
import Derived.Deep.RegionHeld3
import Derived.Deep.DrawnRows
import Derived.Test.YtnpjknnalekdpaaRy
namespace Go.Proofs.Ytnpjknnalekdpaa
set_option linter.unusedSimpArgs false
set_option linter.unusedVariables false
open Go.RowKit
attribute [local go_sem ↓] Go.wp_at_zero Go.wp_at_succ
/-- What lies in memory while Node's one region is carried out: both hashes, the answer's place, and all that was there. -/
def NodeIn (w : World) (a b : List Int) (w' : World) : Prop :=
  Below w.heap.size w w' ∧ w.heap.size + 3 ≤ w'.heap.size ∧ w'.heap[w.heap.size]? = some (.cells (vB a) 27) ∧ w'.heap[w.heap.size + 1]? = some (.cells (vB b) 27) ∧ ∃ c : List Int, c.length = 32 ∧ w'.heap[w.heap.size + 2]? = some (.cells (vB c) 27)
set_option maxRecDepth 100000 in
theorem NodeIn.alloc {w w' : World} {a b : List Int} (h : NodeIn w a b w') (o : Obj) : NodeIn w a b (w'.alloc o) := by
  obtain ⟨h1, h2, h3, h4, c, hc, h5⟩ := h
  refine ⟨h1.alloc h1.size _, by simp; omega, ?_, ?_, c, hc, ?_⟩ <;> rw [Below.heap_alloc _ _ _ (by omega)] <;> assumption
set_option maxRecDepth 100000 in
theorem NodeIn.drew {w w' : World} {a b : List Int} (h : NodeIn w a b w') : NodeIn w a b w'.drew := ⟨⟨h.1.os, h.1.tape, h.1.output, h.1.size, h.1.block⟩, h.2.1, h.2.2.1, h.2.2.2.1, h.2.2.2.2⟩
set_option maxRecDepth 100000 in
theorem NodeIn.below {w w' w'' : World} {a b : List Int} (h : NodeIn w a b w') (k : Below w'.heap.size w' w'') : NodeIn w a b w'' := by
  obtain ⟨h1, h2, h3, h4, c, hc, h5⟩ := h
  have := k.size
  refine ⟨h1.trans (k.mono (by omega)), by omega, ?_, ?_, c, hc, ?_⟩ <;> rw [k.block _ (by omega)] <;> assumption
set_option maxRecDepth 100000 in
theorem below_setCells {B : Nat} {a w : World} (h : Below B a w) {g o : Nat} (hg : B ≤ g) (vs : List Value) : Below B a (w.setCells g o vs) := by
  obtain ⟨e1, e2, e3⟩ := setCells_os g vs o w
  exact h.trans ⟨e1, e2, e3, by rw [setCells_size]; exact Nat.le_refl _, fun k hk => setCells_far _ _ _ _ _ (by omega)⟩
set_option maxRecDepth 100000 in
theorem setCells_whole {w : World} {g : Nat} {c l : List Int} {t : TypeId} (hg : w.heap[g]? = some (.cells (vB c) t)) (h : l.length = c.length) : (w.setCells g 0 (vB l).toList).heap[g]? = some (.cells (vB l) t) := by
  rw [setCells_block g t _ 0 w _ hg (by rw [Array.length_toList, vB_size, vB_size]; omega)]
  congr 2
  apply Array.ext'
  simp [vB, h]
set_option maxRecDepth 100000 in
theorem NodeIn.store {w w' : World} {a b : List Int} (h : NodeIn w a b w') (l : List Int) (hl : l.length = 32) : NodeIn w a b (w'.setCells (w.heap.size + 2) 0 (vB l).toList) := by
  obtain ⟨h1, h2, h3, h4, c, hc, h5⟩ := h
  refine ⟨below_setCells h1 (by omega) _, by rw [setCells_size]; exact h2, ?_, ?_, l, hl, setCells_whole h5 (by omega)⟩ <;> rw [setCells_far _ _ _ _ _ (by omega)] <;> assumption
set_option maxRecDepth 100000 in
theorem there_of_block {w : World} {g n : Nat} {cs : Array Value} {t : TypeId} (hg : w.heap[g]? = some (.cells cs t)) (h : n ≤ cs.size) : w.there g 0 n := fun j hj => by
  rw [Nat.zero_add]
  exact ⟨by rw [cell_of_row w g j cs t (0, 0) hg]; simp; omega, frozen_of_row _ _ _ _ _ hg⟩
set_option maxRecDepth 100000 in
theorem NodeIn.st {w w' : World} {a b : List Int} (h : NodeIn w a b w') : NodeIn w a b w' ∧ w'.there (w.heap.size + 1 + 1) 0 32 := ⟨h, by obtain ⟨_, _, _, _, c, hc, h5⟩ := h; exact there_of_block h5 (by rw [vB_size]; omega)⟩
set_option maxRecDepth 100000 in
theorem PartAt.alloc {w : World} {v : Value} {bs : List Int} (h : PartAt w v bs) (o : Obj) : PartAt (w.alloc o) v bs := h.below ((Below.refl _ _).alloc (Nat.le_refl _) _)
set_option maxRecDepth 100000 in
theorem PartAt.drew {w : World} {v : Value} {bs : List Int} (h : PartAt w v bs) : PartAt w.drew v bs := h.below ⟨rfl, rfl, rfl, Nat.le_refl _, fun _ _ => rfl⟩
set_option maxRecDepth 100000 in
theorem Laid.drew {w : World} (h : Laid w) : Laid w.drew := ⟨fun i hi => h.start i hi, fun i hi => h.round i hi⟩
end Go.Proofs.Ytnpjknnalekdpaa
namespace Go.Proofs.Ytnpjknnalekdpaa
set_option linter.unusedSimpArgs false
set_option linter.unusedVariables false
open Go.RowKit
attribute [local go_sem ↓] Go.wp_at_zero Go.wp_at_succ
set_option maxRecDepth 100000 in
theorem OwnB.partG {w : World} {base : Nat} {v : Value} {l : List Int} (h : OwnB w base v l) (h0 : 0 < w.heap.size) : PartAt w v l := by
  by_cases hn : l = []
  · subst hn
    obtain ⟨h1, h2⟩ := h
    rcases h2 with ⟨rfl, _⟩ | ⟨g, cap, cur, hv, hg, hh, r1, r2, _⟩
    · exact ⟨none, 0, 0, 0, rfl, Nat.le_refl _, by omega, fun h => by simp at h, fun j v hv => by simp [vB] at hv, h0, fun _ => rfl⟩
    · exact ⟨some ⟨g, 0, none⟩, g, 0, cap, hv, by simp, r2, fun _ => rfl, fun j v hv => by simp [vB] at hv, (Array.getElem?_eq_some_iff.1 hh).1, fun h => by cases h⟩
  · exact h.part hn
set_option maxRecDepth 100000 in
theorem ownB_nil (w : World) (base : Nat) : OwnB w base (.slice none 0 0) [] := ⟨rfl, Or.inl ⟨rfl, rfl⟩⟩
set_option maxRecDepth 100000 in
set_option maxHeartbeats 1000000 in
theorem join_any (pb po n pc : Nat) (vs : List Value) (bss : List (List Int)) (hvn : vs.length = n) (hbn : bss.length = n) (w : World) (h0 : 0 < w.heap.size) (hr : w.rangeAt pb po vs) (hpb : pb < w.heap.size)
    (hp : ∀ (i : Nat) (v : Value) (bs : List Int), vs[i]? = some v → bss[i]? = some bs → PartAt w v bs) (hn : bss.flatten.length ≤ 140737488355328) (hn63 : n ≤ 4611686018427387904) :
    Calls Try.prog 28 #[.slice (some ⟨pb, po, none⟩) n pc] w fun e w' => ∃ v, e = .returned v ∧ OwnB w' w.heap.size v bss.flatten ∧ Below w.heap.size w w' := by
  go_enter Try.func28, Try.ntmps28
  go_wp2
  go_loopw [3, 7] (fun v i wr => ∃ k : Nat, k ≤ n ∧ i = .int .i64 k ∧ Below w.heap.size w wr ∧ OwnB wr w.heap.size v (bss.take k).flatten) (fun _ i _ => n - (intOf i).toNat)
  case atStart => exact ⟨0, by omega, rfl, Below.refl _ _, by rw [List.take_zero, List.flatten_nil]; exact ownB_nil _ _⟩
  case round =>
    obtain ⟨k, hk, rfl, hbl, ho⟩ := hrel
    by_cases hlt : k < n
    · obtain ⟨x, hv⟩ : ∃ v, vs[k]? = some v := ⟨vs[k], List.getElem?_eq_getElem (by omega)⟩
      obtain ⟨bs, hbs⟩ : ∃ bs, bss[k]? = some bs := ⟨bss[k], List.getElem?_eq_getElem (by omega)⟩
      have hpk := (hp k x bs hv hbs).below hbl
      have htk : (bss.take (k + 1)).flatten = (bss.take k).flatten ++ bs := by
        rw [List.take_add_one, hbs]; simp
      have hlk : (bss.take k).flatten.length + bs.length ≤ 140737488355328 := by
        have e : bss.flatten = (bss.take (k + 1)).flatten ++ (bss.drop (k + 1)).flatten := by rw [← List.flatten_append, List.take_append_drop]
        rw [e, htk] at hn
        simp only [List.length_append] at hn
        omega
      have hc : wr.cell? ⟨pb, po + k, none⟩ = some x := by rw [hbl.cell (show pb < w.heap.size from hpb)]; exact hr k x hv
      have HTK : Hid ((bss.take (k + 1)).flatten = (bss.take k).flatten ++ bs) := htk
      have hbs' := hbl.size
      clear htk hv hbs hp hn
      go_wp2_with (first | (at_builtin; refine appendB rfl _ _ rfl w.heap.size u3 (bss.take k).flatten rfl ho x bs rfl hpk hlk hbs' ?_; intro v' w' o' g' d'))
      go_roundw
      case rel => exact ⟨k + 1, by omega, by go_num, hbl.grown g' hbs' ho.row, by rw [HTK.out]; exact o'⟩
      case measure => simp [intOf]; omega
    · have ek : (bss.take k).flatten = bss.flatten := by rw [List.take_of_length_le (by omega)]
      rw [ek] at ho
      clear ek
      go_wp2
      go_ret
      exact ⟨_, rfl, ho, hbl⟩
end Go.Proofs.Ytnpjknnalekdpaa
namespace Go.Proofs.Ytnpjknnalekdpaa
set_option linter.unusedSimpArgs false
set_option linter.unusedVariables false
open Go.RowKit
attribute [local go_sem ↓] Go.wp_at_zero Go.wp_at_succ
/-- All of them are bytes. -/
def Bytes (l : List Int) : Prop := ∀ x ∈ l, 0 ≤ x ∧ x ≤ 255
set_option maxRecDepth 100000 in
theorem Bytes.cons {x : Int} {l : List Int} (h : 0 ≤ x ∧ x ≤ 255) (hl : Bytes l) : Bytes (x :: l) := fun y hy => by
  rcases List.mem_cons.1 hy with rfl | h'
  · exact h
  · exact hl y h'
set_option maxRecDepth 100000 in
theorem Bytes.append {a b : List Int} (ha : Bytes a) (hb : Bytes b) : Bytes (a ++ b) := fun y hy => by
  rcases List.mem_append.1 hy with h | h
  · exact ha y h
  · exact hb y h
set_option maxRecDepth 100000 in
theorem Bytes.set {l : List Int} (h : Bytes l) (i : Nat) {x : Int} (hx : 0 ≤ x ∧ x ≤ 255) : Bytes (l.set i x) := fun y hy => by
  rcases List.mem_or_eq_of_mem_set hy with h' | h'
  · exact h y h'
  · subst h'; exact hx
set_option maxRecDepth 100000 in
theorem outTo_bytes (ws : List Int) (k : Nat) : Bytes (outTo ws k) := by
  induction k with
  | zero => intro x hx; simp [outTo, zs] at hx; omega
  | succ k ih => exact Bytes.set (Bytes.set (Bytes.set (Bytes.set ih _ (by omega)) _ (by omega)) _ (by omega)) _ (by omega)
set_option maxRecDepth 100000 in
theorem hashOf_bytes (l : List Int) : Bytes (hashOf l) := by unfold hashOf outB; exact outTo_bytes _ 8
end Go.Proofs.Ytnpjknnalekdpaa
