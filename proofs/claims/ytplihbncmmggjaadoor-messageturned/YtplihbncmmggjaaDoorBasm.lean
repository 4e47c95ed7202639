import Derived.Test.YtplihbncmmggjaaDoorAy
import Derived.Test.YtplihbncmmggjaaDoorGa
namespace Go.Proofs.YtplihbncmmggjaaDoor
set_option linter.unusedSimpArgs false
set_option linter.unusedVariables false
set_option maxRecDepth 100000
open Go.ChangeShapes Go.WideShapes Go.ChangeAt Go.RowKit
theorem cells24 : Tryd.prog.cellsOf 24 = 32 := by kernel_rfl
theorem cells65 : Tryd.prog.cellsOf 65 = 107 := by kernel_rfl
theorem cells63 : Tryd.prog.cellsOf 63 = 35 := by kernel_rfl
theorem cells61 : Tryd.prog.cellsOf 61 = 2 := by kernel_rfl
theorem cells59 : Tryd.prog.cellsOf 59 = 1 := by kernel_rfl
theorem cells42 : Tryd.prog.cellsOf 42 = 1 := by kernel_rfl
theorem cells3 : Tryd.prog.cellsOf 3 = 1 := by kernel_rfl
theorem cells4 : Tryd.prog.cellsOf 4 = 1 := by kernel_rfl
theorem cells9 : Tryd.prog.cellsOf 9 = 1 := by kernel_rfl
theorem trod_hash {H : Type} {enc : TypeId × Value → H} {w : World} {base : Nat} {spare : Nat → Bool} {held : Bool} {fuel : Nat} {cs : List Value} {x : DataW H × List MemPlace} (h : DataW.trod enc Tryd.prog w base spare held fuel 24 cs = some x) :
    ∃ l : List Int, l.length = 32 ∧ Bytes l ∧ cs = (vB l).toList := by
  obtain ⟨xs, m, _, ex, hcl, hl, hel⟩ := DataW.trod_array Tryd.underlying24 h
  rw [cells24] at hcl
  have hz : ∀ i, i < 32 → ∃ z : Int, cs[i]? = some (.int .u8 z) ∧ 0 ≤ z ∧ z ≤ 255 := fun i hi => by
    have hE := hel i hi
    rw [cells5, Nat.mul_one, List.getElem?_eq_getElem (by omega)] at hE
    obtain ⟨z, e1, e2, e3⟩ := DataW.trod_int Tryd.underlying5 hE
    have h0 : ((cs.drop i).take 1)[0]? = some (.int .u8 z) := by rw [e1]; rfl
    exact ⟨z, by simpa using h0, bounds_u8 e3⟩
  refine ⟨cs.map intOf, by simp [hcl], fun y hy => ?_, ?_⟩
  · obtain ⟨v, hv, rfl⟩ := List.mem_map.1 hy
    obtain ⟨i, hi, rfl⟩ := List.getElem_of_mem hv
    obtain ⟨z, e, b⟩ := hz i (by omega)
    rw [List.getElem?_eq_getElem hi] at e
    injection e with e
    rw [e]; exact b
  · unfold vB
    rw [List.toList_toArray]
    apply List.ext_getElem
    · simp
    · intro i h1 h2
      obtain ⟨z, e, b⟩ := hz i (by omega)
      rw [List.getElem?_eq_getElem h1] at e
      injection e with e
      simp [e, intOf]
theorem dropped {α : Type} (cs : List α) (j k : Nat) (T R : List α) (h1 : (cs.drop j).take k = T) (h2 : cs.drop (j + k) = R) : cs.drop j = T ++ R := by
  rw [← List.take_append_drop k (cs.drop j), List.drop_drop, h1, h2]
theorem trod_flags {H : Type} {enc : TypeId × Value → H} {w : World} {base : Nat} {spare : Nat → Bool} {held : Bool} {fuel : Nat} {cs : List Value} {y : DataW H × List MemPlace} (h : DataW.trod enc Tryd.prog w base spare held fuel 61 cs = some y) :
    ∃ q x : Bool, cs = [.bool q, .bool x] := by
  obtain ⟨xs, m, _, ex, hcl, hl, hf⟩ := DataW.trod_struct Tryd.underlying61 h
  rw [cells61] at hcl
  have hl2 : xs.length = 2 := hl
  have h0 : DataW.trod enc Tryd.prog w base spare held m 4 ((cs.drop 0).take (Tryd.prog.cellsOf 4)) = xs[0]? := hf 0 _ rfl
  have h1 : DataW.trod enc Tryd.prog w base spare held m 4 ((cs.drop 1).take (Tryd.prog.cellsOf 4)) = xs[1]? := hf 1 _ rfl
  rw [List.getElem?_eq_getElem (by omega), cells4] at h0 h1
  obtain ⟨q, e0, _⟩ := DataW.trod_bool Tryd.underlying4 h0
  obtain ⟨x, e1, _⟩ := DataW.trod_bool Tryd.underlying4 h1
  have d2 : cs.drop (1 + 1) = [] := List.drop_eq_nil_of_le (by omega)
  have d0 := dropped cs 0 1 _ _ e0 (dropped cs 1 1 _ _ e1 d2)
  rw [List.drop_zero] at d0
  exact ⟨q, x, d0⟩
theorem trod_edit {H : Type} {enc : TypeId × Value → H} {w : World} {base : Nat} {spare : Nat → Bool} {held : Bool} {fuel : Nat} {cs : List Value} {y : DataW H × List MemPlace} (h : DataW.trod enc Tryd.prog w base spare held fuel 63 cs = some y) :
    ∃ (s : ByteArray) (q x : Bool) (l : List Int), s.size ≤ maxLen ∧ l.length = 32 ∧ Bytes l ∧ cs = [.string s, .bool q, .bool x] ++ (vB l).toList := by
  obtain ⟨xs, m, _, ex, hcl, hl, hf⟩ := DataW.trod_struct Tryd.underlying63 h
  rw [cells63] at hcl
  have hl3 : xs.length = 3 := hl
  have h0 : DataW.trod enc Tryd.prog w base spare held m 9 ((cs.drop 0).take (Tryd.prog.cellsOf 9)) = xs[0]? := hf 0 _ rfl
  have h1 : DataW.trod enc Tryd.prog w base spare held m 61 ((cs.drop 1).take (Tryd.prog.cellsOf 61)) = xs[1]? := hf 1 _ rfl
  have h2 : DataW.trod enc Tryd.prog w base spare held m 24 ((cs.drop 3).take (Tryd.prog.cellsOf 24)) = xs[2]? := hf 2 _ rfl
  rw [List.getElem?_eq_getElem (by omega)] at h0 h1 h2
  rw [cells9] at h0; rw [cells61] at h1; rw [cells24] at h2
  obtain ⟨s, e0, _, w0⟩ := DataW.trod_string Tryd.underlying9 h0
  obtain ⟨q, x, e1⟩ := trod_flags h1
  obtain ⟨l, hl32, hb, e2⟩ := trod_hash h2
  have d3 : cs.drop (3 + 32) = [] := List.drop_eq_nil_of_le (by omega)
  have d0 := dropped cs 0 1 _ _ e0 (dropped cs 1 2 _ _ e1 (dropped cs 3 32 _ _ e2 d3))
  rw [List.drop_zero] at d0
  exact ⟨s, q, x, l, w0, hl32, hb, by rw [d0]; simp⟩
theorem trod_msg {H : Type} {enc : TypeId × Value → H} {w : World} {base : Nat} {spare : Nat → Bool} {held : Bool} {fuel : Nat} {cs : List Value} {y : DataW H × List MemPlace} (h : DataW.trod enc Tryd.prog w base spare held fuel 65 cs = some y) :
    ∃ x : Msg, x.Ok ∧ cs = mC x := by
  obtain ⟨xs, m, _, ex, hcl, hl, hf⟩ := DataW.trod_struct Tryd.underlying65 h
  rw [cells65] at hcl
  have hl11 : xs.length = 11 := hl
  have h0 : DataW.trod enc Tryd.prog w base spare held m 3 ((cs.drop 0).take (Tryd.prog.cellsOf 3)) = xs[0]? := hf 0 _ rfl
  have h1 : DataW.trod enc Tryd.prog w base spare held m 3 ((cs.drop 1).take (Tryd.prog.cellsOf 3)) = xs[1]? := hf 1 _ rfl
  have h2 : DataW.trod enc Tryd.prog w base spare held m 3 ((cs.drop 2).take (Tryd.prog.cellsOf 3)) = xs[2]? := hf 2 _ rfl
  have h3 : DataW.trod enc Tryd.prog w base spare held m 59 ((cs.drop 3).take (Tryd.prog.cellsOf 59)) = xs[3]? := hf 3 _ rfl
  have h4 : DataW.trod enc Tryd.prog w base spare held m 59 ((cs.drop 4).take (Tryd.prog.cellsOf 59)) = xs[4]? := hf 4 _ rfl
  have h5 : DataW.trod enc Tryd.prog w base spare held m 63 ((cs.drop 5).take (Tryd.prog.cellsOf 63)) = xs[5]? := hf 5 _ rfl
  have h6 : DataW.trod enc Tryd.prog w base spare held m 4 ((cs.drop 40).take (Tryd.prog.cellsOf 4)) = xs[6]? := hf 6 _ rfl
  have h7 : DataW.trod enc Tryd.prog w base spare held m 42 ((cs.drop 41).take (Tryd.prog.cellsOf 42)) = xs[7]? := hf 7 _ rfl
  have h8 : DataW.trod enc Tryd.prog w base spare held m 24 ((cs.drop 42).take (Tryd.prog.cellsOf 24)) = xs[8]? := hf 8 _ rfl
  have h9 : DataW.trod enc Tryd.prog w base spare held m 24 ((cs.drop 74).take (Tryd.prog.cellsOf 24)) = xs[9]? := hf 9 _ rfl
  have h10 : DataW.trod enc Tryd.prog w base spare held m 4 ((cs.drop 106).take (Tryd.prog.cellsOf 4)) = xs[10]? := hf 10 _ rfl
  rw [List.getElem?_eq_getElem (by omega)] at h0 h1 h2 h3 h4 h5 h6 h7 h8 h9 h10
  rw [cells3] at h0 h1 h2; rw [cells59] at h3 h4; rw [cells63] at h5; rw [cells4] at h6 h10; rw [cells42] at h7; rw [cells24] at h8 h9
  obtain ⟨k, e0, _, w0⟩ := DataW.trod_int Tryd.underlying3 h0
  obtain ⟨f, e1, _, w1⟩ := DataW.trod_int Tryd.underlying3 h1
  obtain ⟨t, e2, _, w2⟩ := DataW.trod_int Tryd.underlying3 h2
  obtain ⟨i, e3, _, w3⟩ := DataW.trod_int Tryd.underlying59 h3
  obtain ⟨b, e4, _, w4⟩ := DataW.trod_int Tryd.underlying59 h4
  obtain ⟨s, q, x, l, w5, l5, b5, e5⟩ := trod_edit h5
  obtain ⟨yy, e6, _⟩ := DataW.trod_bool Tryd.underlying4 h6
  obtain ⟨c, e7, _, w7⟩ := DataW.trod_int Tryd.underlying42 h7
  obtain ⟨v, l8, b8, e8⟩ := trod_hash h8
  obtain ⟨r, l9, b9, e9⟩ := trod_hash h9
  obtain ⟨z, e10, _⟩ := DataW.trod_bool Tryd.underlying4 h10
  refine ⟨⟨k, f, t, i, b, s, q, x, l, yy, c, v, r, z⟩, ⟨bounds_i64 w0, bounds_i64 w1, bounds_i64 w2, bounds_u64 w3, bounds_u64 w4, bounds_i64 w7, by unfold maxLen at w5; omega, l5, l8, l9, b5, b8, b9⟩, ?_⟩
  have d11 : cs.drop (106 + 1) = [] := List.drop_eq_nil_of_le (by omega)
  have d0 := dropped cs 0 1 _ _ e0 (dropped cs 1 1 _ _ e1 (dropped cs 2 1 _ _ e2 (dropped cs 3 1 _ _ e3 (dropped cs 4 1 _ _ e4 (dropped cs 5 35 _ _ e5 (dropped cs 40 1 _ _ e6 (dropped cs 41 1 _ _ e7 (dropped cs 42 32 _ _ e8 (dropped cs 74 32 _ _ e9 (dropped cs 106 1 _ _ e10 d11))))))))))
  rw [List.drop_zero] at d0
  rw [d0]
  unfold mC eC
  simp
/-- A message that came in. -/
theorem open_msg {H : Type} {enc : TypeId × Value → H} {W : World} {base : Nat} {v : Value} {d : DataW H} {p : List MemPlace} (hv : Value.okWide Tryd.prog W .any base 65 v) (h : DataW.Trod enc Tryd.prog W 0 (fun _ => true) true 65 v d p) :
    ∃ x : Msg, v = .agg (mC x).toArray ∧ x.Ok := by
  obtain ⟨fuel, hf⟩ := h
  obtain ⟨x, hx, hc⟩ := trod_msg hf
  obtain ⟨cs, rfl, _⟩ := okWide_struct Tryd.underlying65 hv
  refine ⟨x, ?_, hx⟩
  have : cs.toList = mC x := hc
  rw [← this]
end Go.Proofs.YtplihbncmmggjaaDoor
