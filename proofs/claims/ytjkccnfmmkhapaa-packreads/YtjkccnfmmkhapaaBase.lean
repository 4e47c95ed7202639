import Derived.Test.YtjkccnfmmkhapaaPp
import Derived.ProofKit
import Derived.OpenShut
import Derived.ChangeOld
import Derived.Deep.DeepHandedRow
import Derived.SizedLaws
import Derived.Deep.Slices
import Derived.DataReads
import Derived.ChangeArms
namespace Go.Proofs.Ytjkccnfmmkhapaa
set_option linter.unusedSimpArgs false
set_option linter.unusedVariables false
open Go.ChangeShapes Go.WideShapes Go.ChangeAt Go.RowKit
theorem own : ownKnob Try.prog.godebug = none := by kernel_rfl
theorem laidOut : laidOutB Try.prog = true := by kernel_rfl
theorem cells32 : Try.prog.cellsOf 32 = 32 := by kernel_rfl
theorem cells34 : Try.prog.cellsOf 34 = 37 := by kernel_rfl
theorem cells31 : Try.prog.cellsOf 31 = 1 := by kernel_rfl
theorem cells3 : Try.prog.cellsOf 3 = 1 := by kernel_rfl
theorem cells4 : Try.prog.cellsOf 4 = 1 := by kernel_rfl
theorem cells9 : Try.prog.cellsOf 9 = 1 := by kernel_rfl
theorem trod_hash {H : Type} {enc : TypeId × Value → H} {w : World} {base : Nat} {spare : Nat → Bool} {held : Bool} {fuel : Nat} {cs : List Value} {x : DataW H × List MemPlace} (h : DataW.trod enc Try.prog w base spare held fuel 32 cs = some x) :
    ∃ l : List Int, l.length = 32 ∧ Bytes l ∧ cs = l.map (Value.int .u8) := by
  obtain ⟨xs, m, _, ex, hcl, hl, hel⟩ := DataW.trod_array Try.underlying32 h
  rw [cells32] at hcl
  have hz : ∀ i, i < 32 → ∃ z : Int, cs[i]? = some (.int .u8 z) ∧ 0 ≤ z ∧ z ≤ 255 := fun i hi => by
    have hE := hel i hi
    rw [cells5, Nat.mul_one, List.getElem?_eq_getElem (by omega)] at hE
    obtain ⟨z, e1, e2, e3⟩ := DataW.trod_int Try.underlying5 hE
    have h0 : ((cs.drop i).take 1)[0]? = some (.int .u8 z) := by rw [e1]; rfl
    exact ⟨z, by simpa using h0, bounds_u8 e3⟩
  refine ⟨cs.map intOf, by simp [hcl], fun y hy => ?_, ?_⟩
  · obtain ⟨v, hv, rfl⟩ := List.mem_map.1 hy
    obtain ⟨i, hi, rfl⟩ := List.getElem_of_mem hv
    obtain ⟨z, e, b⟩ := hz i (by omega)
    rw [List.getElem?_eq_getElem hi] at e
    injection e with e
    rw [e]; exact b
  · apply List.ext_getElem
    · simp
    · intro i h1 h2
      obtain ⟨z, e, b⟩ := hz i (by omega)
      rw [List.getElem?_eq_getElem h1] at e
      injection e with e
      simp [e, intOf]
/-- An item that is read: its cells. -/
theorem trod_item {H : Type} {enc : TypeId × Value → H} {w : World} {base : Nat} {spare : Nat → Bool} {held : Bool} {fuel : Nat} {cs : List Value} {y : DataW H × List MemPlace} (h : DataW.trod enc Try.prog w base spare held fuel 34 cs = some y) :
    ∃ x : It, x.Ok ∧ cs = (itC x).toList := by
  obtain ⟨xs, m, _, ex, hcl, hl, hf⟩ := DataW.trod_struct Try.underlying34 h
  rw [cells34] at hcl
  have hl6 : xs.length = 6 := hl
  have h0 : DataW.trod enc Try.prog w base spare held m 5 ((cs.drop 0).take (Try.prog.cellsOf 5)) = xs[0]? := hf 0 _ rfl
  have h1 : DataW.trod enc Try.prog w base spare held m 31 ((cs.drop 1).take (Try.prog.cellsOf 31)) = xs[1]? := hf 1 _ rfl
  have h2 : DataW.trod enc Try.prog w base spare held m 3 ((cs.drop 2).take (Try.prog.cellsOf 3)) = xs[2]? := hf 2 _ rfl
  have h3 : DataW.trod enc Try.prog w base spare held m 4 ((cs.drop 3).take (Try.prog.cellsOf 4)) = xs[3]? := hf 3 _ rfl
  have h4 : DataW.trod enc Try.prog w base spare held m 9 ((cs.drop 4).take (Try.prog.cellsOf 9)) = xs[4]? := hf 4 _ rfl
  have h5 : DataW.trod enc Try.prog w base spare held m 32 ((cs.drop 5).take (Try.prog.cellsOf 32)) = xs[5]? := hf 5 _ rfl
  rw [List.getElem?_eq_getElem (by omega)] at h0 h1 h2 h3 h4 h5
  rw [cells5] at h0; rw [cells31] at h1; rw [cells3] at h2; rw [cells4] at h3; rw [cells9] at h4; rw [cells32] at h5
  obtain ⟨k, e0, _, w0⟩ := DataW.trod_int Try.underlying5 h0
  obtain ⟨n, e1, _, w1⟩ := DataW.trod_int Try.underlying31 h1
  obtain ⟨z, e2, _, w2⟩ := DataW.trod_int Try.underlying3 h2
  obtain ⟨b, e3, _⟩ := DataW.trod_bool Try.underlying4 h3
  obtain ⟨s, e4, _, w4⟩ := DataW.trod_string Try.underlying9 h4
  obtain ⟨l, hl32, hb, e5⟩ := trod_hash h5
  have wn := bounds_u64 w1
  have wz := bounds_i64 w2
  refine ⟨⟨k, n, z, b, s, l⟩, ⟨wn.1, wn.2, by unfold maxLen at w4; omega, hl32, hb, wz.1, wz.2⟩, ?_⟩
  have d0 : cs = (cs.drop 0).take 1 ++ ((cs.drop 1).take 1 ++ ((cs.drop 2).take 1 ++ ((cs.drop 3).take 1 ++ ((cs.drop 4).take 1 ++ (cs.drop 5).take 32)))) := by
    have hs : ∀ j, cs.drop j = (cs.drop j).take 1 ++ cs.drop (j + 1) := fun j => by
      conv => lhs; rw [← List.take_append_drop 1 (cs.drop j)]
      rw [List.drop_drop]
    have hlast : (cs.drop 5).take 32 = cs.drop 5 := List.take_of_length_le (by simp; omega)
    rw [hlast, ← hs 4, ← hs 3, ← hs 2, ← hs 1, ← hs 0, List.drop_zero]
  rw [d0]
  have e0' : (cs.drop 0).take 1 = [.int .u8 k] := e0
  have e1' : (cs.drop 1).take 1 = [.int .u64 n] := e1
  have e2' : (cs.drop 2).take 1 = [.int .i64 z] := e2
  have e3' : (cs.drop 3).take 1 = [.bool b] := e3
  have e4' : (cs.drop 4).take 1 = [.string s] := e4
  have e5' : (cs.drop 5).take 32 = l.map (Value.int .u8) := e5
  rw [e0', e1', e2', e3', e4', e5']
  simp [itC, vB]
/-- An item that came in. -/
theorem open_item {H : Type} {enc : TypeId × Value → H} {W : World} {base : Nat} {v : Value} {d : DataW H} {p : List MemPlace} (hv : Value.okWide Try.prog W .any base 34 v) (h : DataW.Trod enc Try.prog W 0 (fun _ => true) true 34 v d p) :
    ∃ x : It, v = .agg (itC x) ∧ x.Ok := by
  obtain ⟨fuel, hf⟩ := h
  obtain ⟨x, hx, hc⟩ := trod_item hf
  obtain ⟨cs, rfl, _⟩ := okWide_struct Try.underlying34 hv
  refine ⟨x, ?_, hx⟩
  have : cs.toList = (itC x).toList := hc
  congr 1
  exact Array.ext' this
end Go.Proofs.Ytjkccnfmmkhapaa
