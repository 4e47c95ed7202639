import Derived.Test.YtaoobmpjlagkpaaTb
import Derived.ProofKit
import Derived.OpenShut
import Derived.ChangeOld
import Derived.Deep.DeepHandedRow
import Derived.SizedLaws
import Derived.DataReads
import Derived.ChangeArms
import Derived.Deep.Slices
import Derived.Lib.LaidTab
import Derived.Shelf.Vars
namespace Go.Proofs.Ytaoobmpjlagkpaa
set_option linter.unusedSimpArgs false
set_option linter.unusedVariables false
open Go.ChangeShapes Go.WideShapes Go.ChangeAt Go.RowKit
open Go.Deep
set_option maxRecDepth 100000 in
theorem own : ownKnob Try.prog.godebug = none := by kernel_rfl
set_option maxRecDepth 100000 in
theorem laidOut : laidOutB Try.prog = true := by kernel_rfl
set_option maxRecDepth 100000 in
theorem cells51 : Try.prog.cellsOf 51 = 10 := by kernel_rfl
set_option maxRecDepth 100000 in
theorem cells49 : Try.prog.cellsOf 49 = 1 := by kernel_rfl
set_option maxRecDepth 100000 in
theorem cells24 : Try.prog.cellsOf 24 = 4 := by kernel_rfl
set_option maxRecDepth 100000 in
theorem cells22 : Try.prog.cellsOf 22 = 1 := by kernel_rfl
set_option maxRecDepth 100000 in
theorem cells3 : Try.prog.cellsOf 3 = 1 := by kernel_rfl
set_option maxRecDepth 100000 in
theorem cells5 : Try.prog.cellsOf 5 = 1 := by kernel_rfl
set_option maxRecDepth 100000 in
theorem dropped {α : Type} (cs : List α) (j k : Nat) (T R : List α) (h1 : (cs.drop j).take k = T) (h2 : cs.drop (j + k) = R) : cs.drop j = T ++ R := by
  rw [← List.take_append_drop k (cs.drop j), List.drop_drop, h1, h2]
set_option maxRecDepth 100000 in
theorem trod_set {H : Type} {enc : TypeId × Value → H} {W : World} {base : Nat} {spare : Nat → Bool} {held : Bool} {fuel : Nat} {cs : List Value} {y : DataW H × List MemPlace} (h : DataW.trod enc Try.prog W base spare held fuel 24 cs = some y) :
    ∃ (x0 : Nat) (x1 x2 x3 : Int), cs = [.int .u64 (x0 : Int), .int .u64 x1, .int .u64 x2, .int .u64 x3] := by
  obtain ⟨xs, m, _, ex, hcl, hl, hel⟩ := DataW.trod_array Try.underlying24 h
  rw [cells24] at hcl
  have hz : ∀ i, i < 4 → ∃ z : Int, cs[i]? = some (.int .u64 z) ∧ 0 ≤ z ∧ z ≤ 18446744073709551615 := fun i hi => by
    have hE := hel i hi
    rw [cells22, Nat.mul_one, List.getElem?_eq_getElem (by omega)] at hE
    obtain ⟨z, e1, e2, e3⟩ := DataW.trod_int Try.underlying22 hE
    have h0 : ((cs.drop i).take 1)[0]? = some (.int .u64 z) := by rw [e1]; rfl
    exact ⟨z, by simpa using h0, bounds_u64 e3⟩
  obtain ⟨z0, a0, b0, c0⟩ := hz 0 (by omega)
  obtain ⟨z1, a1, b1, c1⟩ := hz 1 (by omega)
  obtain ⟨z2, a2, b2, c2⟩ := hz 2 (by omega)
  obtain ⟨z3, a3, b3, c3⟩ := hz 3 (by omega)
  refine ⟨z0.toNat, z1, z2, z3, ?_⟩
  match cs, hcl, a0, a1, a2, a3 with
  | [y0, y1, y2, y3], _, a0, a1, a2, a3 =>
    simp at a0 a1 a2 a3
    rw [a0, a1, a2, a3, show ((z0.toNat : Nat) : Int) = z0 by omega]
set_option maxRecDepth 100000 in
theorem trod_node {H : Type} {enc : TypeId × Value → H} {W : World} {spare : Nat → Bool} {held : Bool} (fuel : Nat) : ∀ {cs : List Value} {y : DataW H × List MemPlace}, DataW.trod enc Try.prog W 0 spare held fuel 51 cs = some y →
    ∃ (h : Hd) (l : List T) (u : Value), cs = cN h u ∧ SV AnyB W u l := by
  induction fuel using Nat.strongRecOn with
  | ind fuel ih =>
    intro cs y h
    obtain ⟨xs, m, hfu, ex, hcl, hl, hf⟩ := DataW.trod_struct Try.underlying51 h
    rw [cells51] at hcl
    have hl7 : xs.length = 7 := hl
    have h0 : DataW.trod enc Try.prog W 0 spare held m 3 ((cs.drop 0).take (Try.prog.cellsOf 3)) = xs[0]? := hf 0 _ rfl
    have h1 : DataW.trod enc Try.prog W 0 spare held m 5 ((cs.drop 1).take (Try.prog.cellsOf 5)) = xs[1]? := hf 1 _ rfl
    have h2 : DataW.trod enc Try.prog W 0 spare held m 24 ((cs.drop 2).take (Try.prog.cellsOf 24)) = xs[2]? := hf 2 _ rfl
    have h3 : DataW.trod enc Try.prog W 0 spare held m 3 ((cs.drop 6).take (Try.prog.cellsOf 3)) = xs[3]? := hf 3 _ rfl
    have h4 : DataW.trod enc Try.prog W 0 spare held m 3 ((cs.drop 7).take (Try.prog.cellsOf 3)) = xs[4]? := hf 4 _ rfl
    have h5 : DataW.trod enc Try.prog W 0 spare held m 3 ((cs.drop 8).take (Try.prog.cellsOf 3)) = xs[5]? := hf 5 _ rfl
    have h6 : DataW.trod enc Try.prog W 0 spare held m 49 ((cs.drop 9).take (Try.prog.cellsOf 49)) = xs[6]? := hf 6 _ rfl
    rw [List.getElem?_eq_getElem (by omega)] at h0 h1 h2 h3 h4 h5 h6
    rw [cells3] at h0 h3 h4 h5; rw [cells5] at h1; rw [cells24] at h2; rw [cells49] at h6
    obtain ⟨k, e0, _, _⟩ := DataW.trod_int Try.underlying3 h0
    obtain ⟨c, e1, _, w1⟩ := DataW.trod_int Try.underlying5 h1
    obtain ⟨x0, x1, x2, x3, e2⟩ := trod_set h2
    obtain ⟨n, e3, _, _⟩ := DataW.trod_int Try.underlying3 h3
    obtain ⟨lo, e4, _, _⟩ := DataW.trod_int Try.underlying3 h4
    obtain ⟨hi, e5, _, _⟩ := DataW.trod_int Try.underlying3 h5
    have hc0 : 0 ≤ c := (bounds_u8 w1).1
    have key : ∀ u, (cs.drop 9).take 1 = [u] → cs = cN ⟨k, c.toNat, x0, x1, x2, x3, n, lo, hi⟩ u := fun u e6 => by
      have d10 : cs.drop (9 + 1) = [] := List.drop_eq_nil_of_le (by omega)
      have d0 := dropped cs 0 1 _ _ e0 (dropped cs 1 1 _ _ e1 (dropped cs 2 4 _ _ e2 (dropped cs 6 1 _ _ e3 (dropped cs 7 1 _ _ e4 (dropped cs 8 1 _ _ e5 (dropped cs 9 1 _ _ e6 d10))))))
      rw [List.drop_zero] at d0
      rw [d0]
      unfold cN
      simp only [List.cons_append, List.nil_append]
      rw [show ((c.toNat : Nat) : Int) = c by omega]
    rcases DataW.trod_slice Try.underlying49 h6 with ⟨hcs, _⟩ | ⟨a, len, cap, elems, rest, n2, hmn, hcs, _, _, hlc, hcm, hlen, hel, _, _⟩
    · exact ⟨_, [], _, key _ hcs, SV.nil _ _⟩
    · refine ⟨⟨k, c.toNat, x0, x1, x2, x3, n, lo, hi⟩, ?_⟩
      have hcm' : cap ≤ 9223372036854775807 := by unfold maxLen at hcm; exact hcm
      rcases Nat.eq_zero_or_pos len with hz | hz
      · subst hz
        exact ⟨[], _, key _ hcs, some a, cap, 0, 0, rfl, Nat.zero_le _, hcm', fun q => by simp at q, trivial⟩
      · have hE : ∀ i, i < len → ∃ cs', W.cells? 0 (a.add (i * 10)) 10 = some cs' ∧ ∃ y', DataW.trod enc Try.prog W 0 spare held n2 51 cs' = some y' := fun i hi => by
          have q := hel i hi
          rw [cells51, List.getElem?_eq_getElem (by omega)] at q
          obtain ⟨cs', q1, q2⟩ := Option.bind_eq_some_iff.1 q
          exact ⟨cs', q1, _, q2⟩
        obtain ⟨c0', hc0', _⟩ := hE 0 hz
        have hcell0 := (World.cells?_some hc0').2.2 0 (by omega)
        obtain ⟨b, o, sp⟩ := a
        have hsp : sp = none := by
          have hlen0 : c0'.length = 10 := (World.cells?_some hc0').2.1
          rw [List.getElem?_eq_getElem (by omega)] at hcell0
          simpa [Addr.add] using World.cell?_spot hcell0
        subst hsp
        have hN : ∀ i, i < len → ∃ t : T, NAt AnyB W b (o + i * 10) t := fun i hi => by
          obtain ⟨cs', q1, y', q2⟩ := hE i hi
          obtain ⟨hd', l', u', e', s'⟩ := ih n2 (by omega) q2
          have hb := World.cells?_block q1 (by omega)
          rw [Addr.add_mid] at q1 hb
          refine ⟨T.mk hd' l', NAt.mk (u := u') (fun j v hv => ?_) trivial hb s'⟩
          have hj : j < 10 := by have := (List.getElem?_eq_some_iff.1 hv).1; simpa [cN] using this
          have := (World.cells?_some q1).2.2 j hj
          rw [Addr.add_mid, e', hv] at this
          exact this
        haveI : Inhabited T := ⟨T.mk ⟨0, 0, 0, 0, 0, 0, 0, 0, 0⟩ []⟩
        obtain ⟨f, hf'⟩ := Deep.choose_lt hN
        have hll : ((List.range len).map f).length = len := by simp
        refine ⟨(List.range len).map f, _, key _ hcs, some ⟨b, o, none⟩, cap, b, o, by rw [hll], by rw [hll]; exact hlc, hcm', fun _ => rfl, LAt.of fun k' t ht => ?_⟩
        have hk : k' < len := by have := (List.getElem?_eq_some_iff.1 ht).1; omega
        have : t = f k' := by
          rw [List.getElem?_map, List.getElem?_range hk] at ht
          injection ht with ht; exact ht.symm
        rw [this]
        exact hf' k' hk
set_option maxRecDepth 100000 in
theorem open_node {H : Type} {enc : TypeId × Value → H} {W : World} {base : Nat} {v : Value} {d : DataW H} {p : List MemPlace} (hv : Value.okWide Try.prog W .any base 51 v) (h : DataW.Trod enc Try.prog W 0 (fun _ => true) true 51 v d p) :
    ∃ (t : T) (u : Value), v = vN t.hd u ∧ SV AnyB W u t.kids := by
  obtain ⟨fuel, hf⟩ := h
  obtain ⟨hd, l, u, e, s⟩ := trod_node fuel hf
  obtain ⟨cs, rfl, _⟩ := okWide_struct Try.underlying51 hv
  refine ⟨T.mk hd l, u, ?_, by rw [T.kids_mk]; exact s⟩
  have : cs.toList = cN hd u := e
  rw [T.hd_mk]
  unfold vN
  congr 1
  apply Array.ext'
  rw [this]; rfl
set_option maxRecDepth 100000 in
theorem open_nodes {H : Type} {enc : TypeId × Value → H} {W : World} {v : Value} {d : DataW H} {p : List MemPlace} (h : DataW.Trod enc Try.prog W 0 (fun _ => true) true 49 v d p) (av : Option Addr) (len cap : Nat) (hv : v = .slice av len cap) :
    ∃ l : List T, SV AnyB W v l := by
  obtain ⟨fuel, hf⟩ := h
  subst hv
  rcases DataW.trod_slice Try.underlying49 hf with ⟨hcs, _⟩ | ⟨a, len', cap', elems, rest, n2, hmn, hcs, _, _, hlc, hcm, hlen, hel, _, _⟩
  · simp [Value.cells] at hcs
    obtain ⟨rfl, rfl, rfl⟩ := hcs
    exact ⟨[], SV.nil _ _⟩
  · simp [Value.cells] at hcs
    obtain ⟨rfl, rfl, rfl⟩ := hcs
    have hcm' : cap ≤ 9223372036854775807 := by unfold maxLen at hcm; exact hcm
    rcases Nat.eq_zero_or_pos len with hz | hz
    · subst hz
      exact ⟨[], some a, cap, 0, 0, rfl, Nat.zero_le _, hcm', fun q => by simp at q, trivial⟩
    · have hE : ∀ i, i < len → ∃ cs', W.cells? 0 (a.add (i * 10)) 10 = some cs' ∧ ∃ y', DataW.trod enc Try.prog W 0 (fun _ => true) true n2 51 cs' = some y' := fun i hi => by
        have q := hel i hi
        rw [cells51, List.getElem?_eq_getElem (by omega)] at q
        obtain ⟨cs', q1, q2⟩ := Option.bind_eq_some_iff.1 q
        exact ⟨cs', q1, _, q2⟩
      obtain ⟨c0', hc0', _⟩ := hE 0 hz
      have hcell0 := (World.cells?_some hc0').2.2 0 (by omega)
      obtain ⟨b, o, sp⟩ := a
      have hsp : sp = none := by
        have hlen0 : c0'.length = 10 := (World.cells?_some hc0').2.1
        rw [List.getElem?_eq_getElem (by omega)] at hcell0
        simpa [Addr.add] using World.cell?_spot hcell0
      subst hsp
      have hN : ∀ i, i < len → ∃ t : T, NAt AnyB W b (o + i * 10) t := fun i hi => by
        obtain ⟨cs', q1, y', q2⟩ := hE i hi
        obtain ⟨hd', l', u', e', s'⟩ := trod_node n2 q2
        have hb := World.cells?_block q1 (by omega)
        rw [Addr.add_mid] at q1 hb
        refine ⟨T.mk hd' l', NAt.mk (u := u') (fun j v hv => ?_) trivial hb s'⟩
        have hj : j < 10 := by have := (List.getElem?_eq_some_iff.1 hv).1; simpa [cN] using this
        have := (World.cells?_some q1).2.2 j hj
        rw [Addr.add_mid, e', hv] at this
        exact this
      haveI : Inhabited T := ⟨T.mk ⟨0, 0, 0, 0, 0, 0, 0, 0, 0⟩ []⟩
      obtain ⟨f, hf'⟩ := Deep.choose_lt hN
      have hll : ((List.range len).map f).length = len := by simp
      refine ⟨(List.range len).map f, some ⟨b, o, none⟩, cap, b, o, by rw [hll], by rw [hll]; exact hlc, hcm', fun _ => rfl, LAt.of fun k' t ht => ?_⟩
      have hk : k' < len := by have := (List.getElem?_eq_some_iff.1 ht).1; omega
      have : t = f k' := by
        rw [List.getElem?_map, List.getElem?_range hk] at ht
        injection ht with ht; exact ht.symm
      rw [this]
      exact hf' k' hk
end Go.Proofs.Ytaoobmpjlagkpaa
