import Derived.Test.YtjhnnblilfddpaaDoorDecodesWalk
import Derived.Test.YtjhnnblilfddpaaDoorFr
namespace Go.Proofs.YtjhnnblilfddpaaDoor
set_option linter.unusedSimpArgs false
set_option linter.unusedVariables false
open Go.RowKit
set_option maxHeartbeats 1000000 in
set_option maxRecDepth 100000 in
theorem turned_out (t at' by' : Int) (av : Option Addr) (n cp : Nat) (hn2 : n ≤ 140737488351232) (h : 1000 < n ∨ t = 0) (w : World) (hL : Laid w) : Calls Tryd.prog 9 #[.int .u8 t, .slice av n cp, .int .u64 at', .int .u8 by'] w fun e w' => e = .returned (.bool true) ∧ Below w.heap.size w w' := by
  have h2 := hL.two
  have AW : Hid (∀ W, Below w.heap.size w W → Calls Tryd.prog 24 #[] W fun e w' => e = .returned (.bool true) ∧ Below w.heap.size w w') := fun W q =>
    (awake4_any W (hL.below q h2)).mono fun e w' ⟨r1, r2⟩ => ⟨r1, q.trans (r2.mono q.size)⟩
  have b0 : Below w.heap.size w w := Below.refl _ _
  clear hL h2
  by_cases g1 : (1000 : Int) < (n : Int)
  · clear h
    go_enter Tryd.func9, Tryd.ntmps9
    go_wp2_with fail
    refine (AW.out _ b0).mono ?_
    rintro e w1 ⟨rfl, b1⟩
    clear b0
    go_wp2_with fail
    refine (AW.out _ b1).mono ?_
    rintro e w2 ⟨rfl, b2⟩
    clear b1
    go_wp2
    go_ret
    exact ⟨rfl, b2⟩
  · obtain rfl : t = 0 := by omega
    clear h
    go_enter Tryd.func9, Tryd.ntmps9
    go_wp2_with fail
    refine (AW.out _ b0).mono ?_
    rintro e w1 ⟨rfl, b1⟩
    clear b0
    go_wp2_with fail
    refine (AW.out _ b1).mono ?_
    rintro e w2 ⟨rfl, b2⟩
    clear b1
    go_wp2
    go_ret
    exact ⟨rfl, b2⟩
/-- A byte of a slice of the call's own is turned. -/
theorem own_set {w : World} {g cap : Nat} {cur : Array Value} {E : List Int} {n : Nat} (hE : E.length = n) (hg : w.heap[g]? = some (.cells cur 5)) (hn : n ≤ cap) (hcap : cap ≤ maxLen) (hs : cur.size = cap * 1) (ht : cur.toList.take (n * 1) = (vB E).toList) (k : Nat) (hk : k < n) (x : Int) :
    w.cell? ⟨g, k, none⟩ = some (.int .u8 (gi E k)) ∧ w.frozen? ⟨g, k, none⟩ = false ∧ PartAt (w.setCell ⟨g, k, none⟩ (.int .u8 x)) (.slice (some ⟨g, 0, none⟩) n cap) (E.set k x) := by
  have hc : ∀ j, j < n → cur[j]? = some (.int .u8 (gi E j)) := fun j hj => by
    have h1 : (cur.toList.take (n * 1))[j]? = cur[j]? := by rw [List.getElem?_take_of_lt (by omega), Array.getElem?_toList]
    rw [← h1, ht, Array.getElem?_toList]
    exact (vB_at E j (by omega)) ▸ rfl
  refine ⟨row_cell hg (hc k hk), unfrozen hg, some ⟨g, 0, none⟩, g, 0, cap, by rw [List.length_set, hE], by rw [List.length_set, hE]; exact hn, by unfold maxLen at hcap; omega, fun _ => rfl, ?_, by simpa using (Array.getElem?_eq_some_iff.1 hg).1, fun h => by cases h⟩
  intro j v hv
  have hg2 := heap_setCell_same w g k cur 5 (.int .u8 x) hg
  rw [Nat.zero_add, cell_of_row _ _ j _ 5 (0, 0) hg2]
  have hj : j < n := by have := (List.getElem?_eq_some_iff.1 hv).1; simpa [vB, hE] using this
  rw [Array.getElem?_toList] at hv
  simp only [vB, List.getElem?_toArray, List.getElem?_map, List.getElem?_set] at hv
  rw [Array.getElem?_setIfInBounds]
  by_cases hjk : k = j
  · subst hjk
    have hks : k < cur.size := by omega
    have hkE : k < E.length := by omega
    simp [hkE] at hv
    simp [hks, hv]
  · rw [if_neg hjk, hc j hj]
    rw [if_neg hjk, List.getElem?_eq_getElem (show j < E.length by omega)] at hv
    simp at hv
    rw [← hv]
    unfold gi
    rw [List.getD_eq_getElem?_getD, List.getElem?_eq_getElem (show j < E.length by omega)]; rfl
set_option maxHeartbeats 1000000 in
set_option maxRecDepth 100000 in
theorem turned_in (t at' by' : Int) (av : Option Addr) (n cp : Nat) (b : List Int) (hbn : b.length = n) (hn : n ≤ 1000) (ht : 0 < t ∧ t ≤ 255) (ha : 0 ≤ at' ∧ at' ≤ 18446744073709551615) (hy : 0 ≤ by' ∧ by' ≤ 255) (w : World) (hL : Laid w) (hp : PartAt w (.slice av n cp) b) (hb : Bytes b) : Calls Tryd.prog 9 #[.int .u8 t, .slice av n cp, .int .u64 at', .int .u8 by'] w fun e w' => e = .returned (.bool true) ∧ Below w.heap.size w w' := by
  have h2 := hL.two
  have AW : Hid (Calls Tryd.prog 24 #[] w fun e w' => e = .returned (.bool true) ∧ Below w.heap.size w w') := awake4_any w hL
  have hlen : (encB t b).length = n + 10 := by rw [encB_length, hbn]
  have RE : Hid (∀ W, Below w.heap.size w W → Calls Tryd.prog 26 #[.agg #[.int .u8 t, .slice av n cp]] W fun e w' => ∃ g cap cur, e = .returned (.tuple #[.slice (some ⟨g, 0, none⟩) (n + 10) cap, .int .i64 0]) ∧ (w.heap.size ≤ g ∧ w'.heap[g]? = some (.cells cur 5) ∧ n + 10 ≤ cap ∧ cap ≤ maxLen ∧ cur.size = cap * 1 ∧ cur.toList.take ((n + 10) * 1) = (vB (encB t b)).toList) ∧ Below w.heap.size w w') := fun W q =>
    (rencode_own t ht av n cp b hbn hn hb W (by have := q.size; omega) (hp.below q)).mono fun e w' ⟨u, r1, r2, r3⟩ => by
      obtain ⟨s1, s2⟩ := r2
      rw [hlen] at s2
      rcases s2 with ⟨_, s2⟩ | ⟨g, cap, cur, rfl, s3, s4⟩
      · omega
      · exact ⟨g, cap, cur, r1, ⟨Nat.le_trans q.size s3, s4⟩, q.trans (r3.mono q.size)⟩
  have DW : Hid (∀ (W : World) (v : Value) (l : List Int), Below w.heap.size w W → PartAt W v l → Bytes l → l.length ≤ 3000 → Calls Tryd.prog 7 #[v] W fun e w' => e = .returned (.bool true) ∧ Below w.heap.size w w') := fun W v l q p hb hl =>
    (frameDecodes_walk v l W (hL.below q h2) p (by omega) hb).mono fun e w' ⟨r1, r2⟩ => ⟨r1, q.trans (r2.mono q.size)⟩
  have HEB : Hid (Bytes (encB t b)) := encB_bytes t ht b (by omega) hb
  have HLEN : Hid ((encB t b).length = n + 10) := hlen
  have g1 : ¬ (1000 : Int) < (n : Int) := by omega
  have g3 : (t == 0) = false := by simp; omega
  have g10 : ((n + 10 : Nat) : Int) = (n : Int) + 10 := by omega
  obtain ⟨k, hk⟩ : ∃ k : Nat, at' % ((n : Int) + 10) = (k : Int) := ⟨(at' % ((n : Int) + 10)).toNat, by have := Int.emod_nonneg at' (show (n : Int) + 10 ≠ 0 by omega); omega⟩
  have hk1 : k < n + 10 := by have := Int.emod_lt_of_pos at' (show (0 : Int) < (n : Int) + 10 by omega); omega
  have HK1 : Hid (k < n + 10) := hk1
  have hk2 : (k : Int) < (n : Int) + 10 := by omega
  have hk3 : (0 : Int) ≤ (k : Int) := by omega
  have hkt : at'.tmod ((n : Int) + 10) = (k : Int) := by rw [Int.tmod_eq_emod_of_nonneg ha.1]; exact hk
  have hw2 : IntKind.u64.wrap ((n : Int) + 10) = (n : Int) + 10 := by rw [show IntKind.u64.wrap ((n : Int) + 10) = ((n : Int) + 10) % 18446744073709551616 from rfl]; omega
  have hw3 : ((n : Int) + 10) % 18446744073709551616 = (n : Int) + 10 := by omega
  have hnz : ((n : Int) + 10 == 0) = false := by simp; omega
  generalize encB t b = E at *
  clear hL hp hb hbn h2 ht hk1 hlen
  go_enter Tryd.func9, Tryd.ntmps9
  go_wp2_with fail
  refine AW.out.mono ?_
  rintro e w1 ⟨rfl, b1⟩
  have RH : Hid (Calls Tryd.prog 26 #[.agg #[.int .u8 t, .slice av n cp]] w1 fun e w' => ∃ g cap cur, e = .returned (.tuple #[.slice (some ⟨g, 0, none⟩) (n + 10) cap, .int .i64 0]) ∧ (w.heap.size ≤ g ∧ w'.heap[g]? = some (.cells cur 5) ∧ n + 10 ≤ cap ∧ cap ≤ maxLen ∧ cur.size = cap * 1 ∧ cur.toList.take ((n + 10) * 1) = (vB E).toList) ∧ Below w.heap.size w w') := RE.out w1 b1
  clear AW RE b1
  go_wp2_with fail
  refine RH.out.mono ?_
  rintro e w2 ⟨g, cap, cur, rfl, ⟨s1, s2, s3, s4, s5, s6⟩, b2⟩
  obtain ⟨c1, c2, c3⟩ := own_set HLEN.out s2 s3 s4 s5 s6 k HK1.out ((gi E k + by') % 256)
  have hX : 0 ≤ gi E k ∧ gi E k ≤ 255 := HEB.out _ (by unfold gi; rw [List.getD_eq_getElem?_getD, List.getElem?_eq_getElem (show k < E.length by have := HLEN.out; have := HK1.out; omega)]; exact List.getElem_mem _)
  have B3 : Below w.heap.size w (w2.setCell ⟨g, k, none⟩ (.int .u8 ((gi E k + by') % 256))) := b2.setCell s1 _
  have DH : Hid (Calls Tryd.prog 7 #[.slice (some ⟨g, 0, none⟩) (n + 10) cap] (w2.setCell ⟨g, k, none⟩ (.int .u8 ((gi E k + by') % 256))) fun e w' => e = .returned (.bool true) ∧ Below w.heap.size w w') :=
    DW.out _ _ (E.set k ((gi E k + by') % 256)) B3 c3 (fun y hy => by
      rcases List.mem_or_eq_of_mem_set hy with h | h
      · exact HEB.out y h
      · rw [h]; omega) (by rw [List.length_set, HLEN.out]; omega)
  have hcap : (n : Int) + 10 ≤ (cap : Int) := by omega
  generalize gi E k = X at *
  clear RH DW s1 s2 s3 s4 s5 s6 b2 c3 B3 HEB HLEN
  go_wp2_with (first | (go_at_call 7; refine DH.out.mono ?_; rintro e w4 ⟨rfl, b4⟩))
  go_ret
  exact ⟨rfl, b4⟩
/-- FrameTurned, of whatever arguments. -/
theorem frameTurned_walk (t : Int) (v : Value) (b : List Int) (at' by' : Int) (w : World) (hL : Laid w) (ht : 0 ≤ t ∧ t ≤ 255) (hp : PartAt w v b) (hn : b.length ≤ 140737488351232) (hb : Bytes b) (ha : 0 ≤ at' ∧ at' ≤ 18446744073709551615) (hy : 0 ≤ by' ∧ by' ≤ 255) : Calls Tryd.prog 9 #[.int .u8 t, v, .int .u64 at', .int .u8 by'] w fun e w' => e = .returned (.bool true) ∧ Below w.heap.size w w' := by
  have p := hp
  obtain ⟨av, b1, o1, cp, rfl, _⟩ := hp
  by_cases h : 1000 < b.length ∨ t = 0
  · exact turned_out t at' by' av _ cp hn h w hL
  · exact turned_in t at' by' av _ cp b rfl (by omega) (by omega) ha hy w hL p hb
end Go.Proofs.YtjhnnblilfddpaaDoor
