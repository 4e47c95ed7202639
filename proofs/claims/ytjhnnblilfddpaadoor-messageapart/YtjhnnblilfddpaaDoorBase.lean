import Derived.Test.YtjhnnblilfddpaaDoorWo
import Derived.ProofKit
import Derived.OpenShut
import Derived.ChangeOld
import Derived.Deep.DeepHandedRow
import Derived.Lib.LaidTab
import Derived.SizedLaws
namespace Go.Proofs.YtjhnnblilfddpaaDoor
set_option linter.unusedSimpArgs false
set_option linter.unusedVariables false
open Go.ChangeShapes Go.WideShapes Go.ChangeAt Go.RowKit
set_option maxRecDepth 100000 in
theorem own : ownKnob Tryd.prog.godebug = none := by kernel_rfl
set_option maxRecDepth 100000 in
theorem laidOut : laidOutB Tryd.prog = true := by kernel_rfl
set_option maxRecDepth 100000 in
theorem gStart : Tryd.prog.globalNamed "redactor/sha.startWords" = some 0 := by kernel_rfl
set_option maxRecDepth 100000 in
theorem gStartType : (Tryd.prog.globals[0]?).map (·.type) = some 34 := by kernel_rfl
set_option maxRecDepth 100000 in
theorem gRound : Tryd.prog.globalNamed "redactor/sha.roundWords" = some 1 := by kernel_rfl
set_option maxRecDepth 100000 in
theorem gRoundType : (Tryd.prog.globals[1]?).map (·.type) = some 77 := by kernel_rfl
set_option maxRecDepth 100000 in
theorem cells35 : Tryd.prog.cellsOf 34 = 8 := by kernel_rfl
set_option maxRecDepth 100000 in
theorem cells44 : Tryd.prog.cellsOf 77 = 64 := by kernel_rfl
set_option maxRecDepth 100000 in
theorem cells34 : Tryd.prog.cellsOf 33 = 1 := by kernel_rfl
set_option maxRecDepth 100000 in
theorem laid_of {W : World} (h : laidMetH Tryd.prog [("redactor/sha.startWords", Rows.laid_redactor_sha_startWords), ("redactor/sha.roundWords", Rows.laid_redactor_sha_roundWords)] W) : Laid W := by
  have h' : laidMet Tryd.prog [("redactor/sha.startWords", Lib.tabData .u32 hWords), ("redactor/sha.roundWords", Lib.tabData .u32 kWords)] W := h
  have t0 : Lib.TabIs Tryd.prog W "redactor/sha.startWords" .u32 hWords := Lib.tabIs_of_head gStart gStartType Tryd.underlying34 Tryd.underlying33 cells34 cells35 h'
  have t1 : Lib.TabIs Tryd.prog W "redactor/sha.roundWords" .u32 kWords := by
    obtain ⟨ps, ⟨g', t', cs, fuel, p, q, _, _, _, _, hq, _⟩, _⟩ := h'
    obtain ⟨g2, t2, cs2, fuel2, p2, q2, hg2, ht2, hvar, hd, _, _⟩ := hq
    obtain rfl := Option.some.inj (gRound.symm.trans hg2)
    obtain rfl := Option.some.inj (gRoundType.symm.trans ht2)
    unfold Lib.TabIs
    rw [hvar, ← Lib.cells_of_tab Tryd.underlying77 Tryd.underlying33 cells34 cells44 hd]
  exact ⟨fun i hi => t0.cell gStart i hi, fun i hi => t1.cell gRound i hi⟩
set_option maxRecDepth 100000 in
/-- A slice of bytes that came in: its bytes lie in memory; there are at most so many; each is one. -/
theorem open_part {H : Type} {enc : TypeId × Value → H} {W : World} {v : Value} {d : DataW H} {p : List MemPlace} (hL : Laid W) (h : DataW.Trod enc Tryd.prog W 0 (fun _ => true) true 22 v d p) (av : Option Addr) (len cap : Nat) (hv : v = .slice av len cap)
    (hw : ∀ elems spare, d = .slice elems spare → (elems.length + spare.length) * Tryd.prog.bytesOf 5 ≤ reachBytes) :
    ∃ bs, PartAt W v bs ∧ bs.length ≤ 140737488351232 ∧ ∀ x ∈ bs, 0 ≤ x ∧ x ≤ 255 := by
  subst hv
  have h2 := hL.two
  obtain ⟨fuel, hf⟩ := h
  rcases open_ints Tryd.underlying22 Tryd.underlying5 (by kernel_rfl) hf with ⟨hcs, _⟩ | ⟨a, l, c, zs, hcs, _, hl, hm, hz, hx, hcell, hwz⟩
  · simp [Value.cells] at hcs
    obtain ⟨rfl, rfl, rfl⟩ := hcs
    exact ⟨[], ⟨none, 0, 0, 0, rfl, Nat.le_refl _, by omega, fun h => by simp at h, fun j v hv => by simp [vB] at hv, by omega, fun _ => rfl⟩, by simp, by simp⟩
  · simp [Value.cells] at hcs
    obtain ⟨rfl, rfl, rfl⟩ := hcs
    have hzl : zs.length = cap := by simpa using hz
    have hd : d = .slice (lits .u8 (zs.take len)) (lits .u8 (zs.drop len)) := congrArg Prod.fst hx
    have hby : Tryd.prog.bytesOf 5 = 1 := by kernel_rfl
    have hbound : cap ≤ 140737488351232 := by
      have h1 := hw _ _ hd
      rw [hby] at h1
      have e1 : (lits (H := H) .u8 (zs.take len)).length = len := by simp [lits]; omega
      have e2 : (lits (H := H) .u8 (zs.drop len)).length = cap - len := by simp [lits]; omega
      rw [e1, e2] at h1
      unfold reachBytes at h1
      omega
    have htl : (zs.take len).length = len := by simp; omega
    refine ⟨zs.take len, ?_, by omega, fun x hx => bounds_u8 (hwz x (List.mem_of_mem_take hx))⟩
    rcases Nat.eq_zero_or_pos len with h0 | h0
    · subst h0
      exact ⟨some a, 0, 0, cap, by simp, by simp, by omega, fun h => by simp at h, fun j v hv => by simp [vB] at hv, by omega, fun h => by cases h⟩
    · obtain ⟨blk, off, spot⟩ := a
      have hc0 := hcell 0 (by omega)
      have hspot : spot = none := by simpa [Addr.add] using World.cell?_spot hc0
      subst hspot
      refine ⟨some ⟨blk, off, none⟩, blk, off, cap, by rw [htl], by omega, by omega, fun _ => rfl, fun j v hv => ?_, ?_, fun h => by cases h⟩
      · have hj : j < len := by have := (List.getElem?_eq_some_iff.1 hv).1; rw [Array.length_toList, vB_size, htl] at this; exact this
        have hc := hcell j (by omega)
        rw [Addr.add_mid] at hc
        rw [hc]
        have e := vB_at (zs.take len) j (by omega)
        rw [Array.getElem?_toList, e] at hv
        injection hv with hv
        rw [← hv]
        unfold gi
        simp [hj]
      · have := block_lt_of_cell hc0
        simpa [Addr.add] using this
end Go.Proofs.YtjhnnblilfddpaaDoor
