import Derived.Test.YtjkccnfmmkhapaaVc
import Derived.Test.YtjkccnfmmkhapaaBasi
import Derived.OpenShut
namespace Go.Proofs.Ytjkccnfmmkhapaa
set_option linter.unusedSimpArgs false
set_option linter.unusedVariables false
open Go.ChangeShapes Go.WideShapes Go.ChangeAt Go.RowKit
theorem open_bytes {H : Type} {enc : TypeId × Value → H} {W : World} {v : Value} {d : DataW H} {p : List MemPlace} (hpos : 0 < W.heap.size) (h : DataW.Trod enc Try.prog W 0 (fun _ => true) true 28 v d p) (av : Option Addr) (len cap : Nat) (hv : v = .slice av len cap)
    (hw : ∀ elems spare, d = .slice elems spare → (elems.length + spare.length) * Try.prog.bytesOf 5 ≤ reachBytes) :
    ∃ bs, PartAt W v bs ∧ bs.length ≤ 140737488351232 ∧ ∀ x ∈ bs, 0 ≤ x ∧ x ≤ 255 := by
  subst hv
  obtain ⟨fuel, hf⟩ := h
  rcases open_ints Try.underlying28 Try.underlying5 (by kernel_rfl) hf with ⟨hcs, _⟩ | ⟨a, l, c, zs, hcs, _, hl, hm, hz, hx, hcell, hwz⟩
  · simp [Value.cells] at hcs
    obtain ⟨rfl, rfl, rfl⟩ := hcs
    exact ⟨[], ⟨none, 0, 0, 0, rfl, Nat.le_refl _, by omega, fun h => by simp at h, fun j v hv => by simp [vB] at hv, by omega, fun _ => rfl⟩, by simp, by simp⟩
  · simp [Value.cells] at hcs
    obtain ⟨rfl, rfl, rfl⟩ := hcs
    have hzl : zs.length = cap := by simpa using hz
    have hd : d = .slice (lits .u8 (zs.take len)) (lits .u8 (zs.drop len)) := congrArg Prod.fst hx
    have hby : Try.prog.bytesOf 5 = 1 := by kernel_rfl
    have hbound : cap ≤ 140737488351232 := by
      have h1 := hw _ _ hd
      rw [hby] at h1
      have e1 : (lits (H := H) .u8 (zs.take len)).length = len := by simp [lits]; omega
      have e2 : (lits (H := H) .u8 (zs.drop len)).length = cap - len := by simp [lits]; omega
      rw [e1, e2] at h1
      unfold reachBytes at h1
      omega
    have htl : (zs.take len).length = len := by simp; omega
    refine ⟨zs.take len, ?_, by omega, fun x hx => bounds_u8 (hwz x (List.mem_of_mem_take hx))⟩
    rcases Nat.eq_zero_or_pos len with h0 | h0
    · subst h0
      exact ⟨some a, 0, 0, cap, by simp, by simp, by omega, fun h => by simp at h, fun j v hv => by simp [vB] at hv, by omega, fun h => by cases h⟩
    · obtain ⟨blk, off, spot⟩ := a
      have hc0 := hcell 0 (by omega)
      have hspot : spot = none := by simpa [Addr.add] using World.cell?_spot hc0
      subst hspot
      refine ⟨some ⟨blk, off, none⟩, blk, off, cap, by rw [htl], by omega, by omega, fun _ => rfl, fun j v hv => ?_, ?_, fun h => by cases h⟩
      · have hj : j < len := by have := (List.getElem?_eq_some_iff.1 hv).1; rw [Array.length_toList, vB_size, htl] at this; exact this
        have hc := hcell j (by omega)
        rw [Addr.add_mid] at hc
        rw [hc]
        have e := vB_at (zs.take len) j (by omega)
        rw [Array.getElem?_toList, e] at hv
        injection hv with hv
        rw [← hv]
        unfold gi
        simp [hj]
      · have := block_lt_of_cell hc0
        simpa [Addr.add] using this
/-- A slice of bytes that came in, in a memory of no blocks: it has none. -/
theorem open_bytes0 {H : Type} {enc : TypeId × Value → H} {W : World} {v : Value} {d : DataW H} {p : List MemPlace} (hpos : W.heap.size = 0) (h : DataW.Trod enc Try.prog W 0 (fun _ => true) true 28 v d p) (av : Option Addr) (len cap : Nat) (hv : v = .slice av len cap) : len = 0 := by
  subst hv
  obtain ⟨fuel, hf⟩ := h
  rcases open_ints Try.underlying28 Try.underlying5 (by kernel_rfl) hf with ⟨hcs, _⟩ | ⟨a, l, c, zs, hcs, _, hl, hm, hz, hx, hcell, hwz⟩
  · simp [Value.cells] at hcs
    exact hcs.2.1
  · simp [Value.cells] at hcs
    obtain ⟨rfl, rfl, rfl⟩ := hcs
    rcases Nat.eq_zero_or_pos len with h0 | h0
    · exact h0
    · have hzl : zs.length = cap := by simpa using hz
      have hc0 := hcell 0 (by omega)
      have := World.block_lt_of_cell? W _ hc0
      omega
theorem convE (w : World) (av : Option Addr) (cp : Nat) : (convert 28 9 (.slice av 0 cp)).run Try.prog w = .ok (.string ⟨#[]⟩) w := by
  cases av with
  | none => exact run_convert_bytes_nil w 28 5 Try.underlying28 Try.underlying5 0 cp 9 Try.underlying9
  | some a =>
    have hl : (loadCells a 0).run Try.prog w = .ok (([] : List Int).map (Value.int .u8)).toArray w := run_loadCells_list (P := Try.prog) w a [] (fun j v hj => by simp at hj)
    rw [run_convert_bytes_string w 28 9 5 _ 0 cp Try.underlying28 Try.underlying5 Try.underlying9, run_bytesToString w _ 0 cp [] hl]
    rfl
set_option maxHeartbeats 1000000 in
set_option maxRecDepth 100000 in
theorem packReads_zero (avb : Option Addr) (cpb : Nat) (av : Option Addr) (cp : Nat) (hcp : cp ≤ 9223372036854775807) (w : World) : Calls Try.prog 4 #[.slice avb 0 cpb, .slice av 0 cp] w fun e w' => e = .returned (.bool true) ∧ Below w.heap.size w w' := by
  have AW : Hid (∀ W : World, Below w.heap.size w W → Calls Try.prog 6 #[] W fun e w' => e = .returned (.bool true) ∧ Below w.heap.size w w') := fun W hW =>
    (awake_any W).mono fun e w' ⟨h1, h2⟩ => ⟨h1, hW.trans (h2.mono hW.size)⟩
  have FX : Hid (∀ W : World, Calls Try.prog 7 #[.slice av 0 cp] W (FewRes [] W)) := fun W => few_any _ [] W ⟨av, 0, 0, cp, rfl, by simp, hcp, fun h => by simp at h, fun i x hx => by simp at hx, fun h => by simp at h, fun x hx => by simp at hx, by simp⟩
  have RD : Hid (∀ W : World, Below w.heap.size w W → Calls Try.prog 12 #[.slice avb 0 cpb] W fun e w' => ∃ g, e = .returned (.pointer (some ⟨g, 0, none⟩)) ∧ Below w.heap.size w w') := fun W hW => (read_any _ [] (fun x hx => by simp at hx) (by simp) W (convE W avb cpb)).mono fun e w' ⟨g, r1, r2, r3, r4⟩ => ⟨g, r1, hW.trans (r4.mono hW.size)⟩
  go_enter Try.func4, Try.ntmps4
  go_wp2_with fail
  refine (AW.out _ (Below.refl _ _)).mono ?_
  rintro e w1 ⟨rfl, b1⟩
  go_wp2_with fail
  refine (FX.out _).mono ?_
  rintro e w2 ⟨c, rfl, hc, h'⟩
  have h'' := h'.symm; clear h'; subst h''
  cases c
  · go_wp2_with fail
    refine (AW.out _ b1).mono ?_
    rintro e w3 ⟨rfl, b3⟩
    go_wp2
    go_ret
    exact ⟨rfl, b3⟩
  go_wp2_with fail
  refine (RD.out _ b1).mono ?_
  rintro e w3 ⟨gr, rfl, b3⟩
  go_wp2_with fail
  go_loopw [33] (fun i wr => i = .int .i64 0 ∧ Below w.heap.size w wr) (fun _ _ => 0)
  case atStart => exact ⟨rfl, b3.alloc b3.size _⟩
  case round =>
    obtain ⟨rfl, hb⟩ := hrel
    go_wp2
    go_ret
    exact ⟨rfl, hb⟩
theorem packReads_all {H : Type} {enc : TypeId × Value → H} {d : DataW H} {p : List MemPlace} (av : Option Addr) (len cap : Nat) (v1 : Value) (xs : List It) (w : World) (h : DataW.Trod enc Try.prog w 0 (fun _ => true) true 28 (.slice av len cap) d p)
    (hw : ∀ elems spare, d = .slice elems spare → (elems.length + spare.length) * Try.prog.bytesOf 5 ≤ reachBytes) (hi : ItemsAt w v1 xs) : Calls Try.prog 4 #[.slice av len cap, v1] w fun e w' => e = .returned (.bool true) ∧ Below w.heap.size w w' := by
  rcases Nat.eq_zero_or_pos w.heap.size with hz | hz
  · obtain rfl := open_bytes0 hz h av len cap rfl
    obtain ⟨av', b, o, cp, rfl, h1, h2, h3, h4, h5, h6, h7⟩ := hi
    have hx : xs = [] := by
      rcases Nat.eq_zero_or_pos xs.length with q | q
      · exact List.eq_nil_of_length_eq_zero q
      · have := h5 q; omega
    subst hx
    exact packReads_zero av cap av' cp h2 w
  · obtain ⟨bs, hp, hn, hb⟩ := open_bytes hz h av len cap rfl hw
    exact packReads_walk _ v1 bs xs w hp hb hn hi
end Go.Proofs.Ytjkccnfmmkhapaa
