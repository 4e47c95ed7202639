import Derived.Test.YtjhnnblilfddpaaDoorKw
import Derived.Test.YtjhnnblilfddpaaDoorFa
namespace Go.Proofs.YtjhnnblilfddpaaDoor
set_option linter.unusedSimpArgs false
set_option linter.unusedVariables false
open Go.RowKit
set_option maxHeartbeats 1000000 in
set_option maxRecDepth 100000 in
/-- The reference's Number, of few bytes. -/
theorem rnumk_any (n : Int) (h0 : 0 ≤ n) (h1 : n ≤ 18446744073709551615) (k : Nat) (hk1 : 1 ≤ k) (hk8 : k ≤ 8) (w : World) :
    Calls Tryd.prog 43 #[.int .u64 n, .int .i64 k] w fun e w' => ∃ g, e = .returned (.slice (some ⟨g, 0, none⟩) k k) ∧ w.heap.size ≤ g ∧ w'.heap[g]? = some (.cells (vB (numB n k)) 5) ∧ Below w.heap.size w w' := by
  have hmk := fun W : World => makeB k (by omega) W
  go_enter Tryd.func43, Tryd.ntmps43
  go_wp2
  go_loopw [10] (fun i wr => ∃ j : Nat, j ≤ k ∧ i = .int .i64 j ∧ wr.heap[w.heap.size]? = some (.cells (vB (knumTo n k j)) 5) ∧ Below w.heap.size w wr) (fun i _ => k - (intOf i).toNat)
  case atStart =>
    exact ⟨0, by omega, rfl, by rw [knumTo_zero]; exact heap_alloc_new _ _, (Below.refl _ _).alloc (Nat.le_refl _) _⟩
  case round =>
    obtain ⟨j, hj, rfl, hg, hb⟩ := hrel
    by_cases hlt : j < k
    · have hlen := knumTo_length n k j
      have hidx : ((k : Int) - 1 - (j : Int)).toNat = k - 1 - j := by omega
      have hc : wr.cell? ⟨w.heap.size, k - 1 - j, none⟩ = some (.int .u8 (gi (knumTo n k j) (k - 1 - j))) := row_cell hg (vB_at _ _ (by omega))
      have hfz := unfrozen (j := k - 1 - j) hg
      have e1 : (k : Int) - 1 - (j : Int) < (k : Int) := by omega
      have e2 : 0 ≤ (k : Int) - 1 - (j : Int) := by omega
      have e3 : (8 * (j : Int)).toNat = 8 * j := by omega
      have e4 : 0 ≤ 8 * (j : Int) := by omega
      go_wp2
      go_roundw
      case rel =>
        refine ⟨j + 1, by omega, by go_num, ?_, ?_⟩
        · rw [heap_setCell_same _ _ _ _ 5 _ hg, vB_set, knumTo_set n k j hlt]
        · exact hb.grown (grown_setCell _ _ _ _) hb.size (fun k hk => by injection hk; omega)
      case measure => simp [intOf]; omega
    · have ej : j = k := by omega
      subst ej
      rw [knumTo_all] at hg
      have HG : Hid (wr.heap[w.heap.size]? = some (.cells (vB (numB n j)) 5)) := hg
      clear hg
      go_wp2
      go_ret
      exact ⟨_, rfl, Nat.le_refl _, HG.out, hb⟩
set_option maxHeartbeats 1000000 in
set_option maxRecDepth 100000 in
/-- The reference's Of, of few bytes. -/
theorem rofk_any (b o cp : Nat) (V : List Int) (w : World) (hl : V.length ≤ 8) (hcp : V.length ≤ cp) (hV : Bytes V) (hr : w.rangeAt b o (vB V).toList) : Calls Tryd.prog 44 #[.slice (some ⟨b, o, none⟩) V.length cp] w fun e w' => e = .returned (.int .u64 (valB V)) ∧ w' = w := by
  have CELL : Hid (∀ j, j < V.length → w.cell? ⟨b, o + j, none⟩ = some (.int .u8 (gi V j))) := fun j hj => rangeB hr j hj
  have HBV : Hid (Bytes V) := hV
  clear hV hr
  go_enter Tryd.func44, Tryd.ntmps44
  go_wp2
  go_loop [7, 3] (fun i n => ∃ j : Nat, j ≤ V.length ∧ i = .int .i64 j ∧ n = .int .u64 (valB (V.take j))) (fun i _ => V.length - (intOf i).toNat)
  case atStart => exact ⟨0, by omega, rfl, rfl⟩
  case round =>
    obtain ⟨j, hj, rfl, rfl⟩ := hrel
    by_cases hlt : j < V.length
    · have hc := CELL.out j hlt
      have hji : (j : Int) < (V.length : Int) := by omega
      have HS : Hid (stepB (valB (V.take j)) (gi V j) = valB (V.take (j + 1))) := by
        unfold Hid
        rw [← valB_snoc, List.take_add_one]
        congr 2
        unfold gi; simp [hlt]
      have hbj := HBV.out (gi V j) (by unfold gi; simp [hlt])
      have hgm : gi V j % 18446744073709551616 = gi V j := by omega
      generalize valB (V.take j) = N at *
      generalize gi V j = X at *
      go_wp2
      exact ⟨⟨j + 1, by omega, by go_num, by rw [← HS.out]; rfl⟩, by simp [intOf]; omega⟩
    · have ej : j = V.length := by omega
      subst ej
      rw [List.take_length]
      go_wp2
      go_ret
      exact ⟨rfl, rfl⟩
theorem val1 (a : Int) (h0 : 0 ≤ a) (h1 : a ≤ 255) : valB [a] = a := by
  have := stepB_eq 0 a (by omega) (by omega) h0 h1
  simpa [valB] using this
theorem val2 (a b : Int) (h0 : 0 ≤ a) (h1 : a ≤ 255) (h2 : 0 ≤ b) (h3 : b ≤ 255) : valB [a, b] = a * 256 + b := by
  have e : valB [a, b] = stepB (valB [a]) b := by simp [valB]
  rw [e, val1 a h0 h1, stepB_eq a b h0 (by omega) h2 h3]
set_option maxHeartbeats 1000000 in
set_option maxRecDepth 100000 in
/-- readLabel. -/
theorem label_any (v : Value) (t a b : Int) (w : World) (hp : PartAt w v [t, a, b]) (hb : Bytes [t, a, b]) : Calls Tryd.prog 54 #[v] w fun e w' => e = .returned (.tuple #[.int .u8 t, .int .i64 (a * 256 + b)]) ∧ Below w.heap.size w w' := by
  have ht := hb t (by simp)
  have ha := hb a (by simp)
  have hb2 := hb b (by simp)
  have RD : Hid (Calls Tryd.prog 75 #[v] w fun e w' => ∃ g, e = .returned (.pointer (some ⟨g, 0, none⟩)) ∧ RSt w' g (some [t, a, b]) ∧ w.heap.size ≤ g ∧ Below w.heap.size w w') := read_any v _ hb (by simp) w (run_conv hp)
  have N1 : Hid (∀ (W : World) (g : Nat), RSt W g (some [t, a, b]) → Calls Tryd.prog 76 #[.pointer (some ⟨g, 0, none⟩), .int .i64 1] W fun e w' => e = .returned (.int .u64 t) ∧ RSt w' g (some [a, b]) ∧ W.grownBy w' (some g)) := fun W g q => (rnumber_h _ (some [t, a, b]) 1 W (Or.inr ⟨g, rfl, q⟩)).mono fun e w' ⟨r1, r2, r3⟩ => by
    refine ⟨by rw [r1, show rnumV (some [t, a, b]) 1 = valB [t] from rfl, val1 t ht.1 ht.2], ?_, r3⟩
    rcases r2 with ⟨e, _⟩ | ⟨g', e, r2⟩
    · cases e
    · injection e with e; injection e with e; injection e with e; subst e; exact r2
  have N2 : Hid (∀ (W : World) (g : Nat), RSt W g (some [a, b]) → Calls Tryd.prog 76 #[.pointer (some ⟨g, 0, none⟩), .int .i64 2] W fun e w' => e = .returned (.int .u64 (a * 256 + b)) ∧ W.grownBy w' (some g)) := fun W g q => (rnumber_h _ (some [a, b]) 2 W (Or.inr ⟨g, rfl, q⟩)).mono fun e w' ⟨r1, r2, r3⟩ => ⟨by rw [r1, show rnumV (some [a, b]) 2 = valB [a, b] from rfl, val2 a b ha.1 ha.2 hb2.1 hb2.2], r3⟩
  have c1 : t % 256 = t := by omega
  obtain ⟨M, hM⟩ : ∃ M : Nat, a * 256 + b = (M : Int) := ⟨(a * 256 + b).toNat, by omega⟩
  have hM2 : M ≤ 65535 := by omega
  rw [hM] at N2 ⊢
  clear hp hb hM
  go_enter Tryd.func54, Tryd.ntmps54
  go_wp2_with fail
  refine RD.out.mono ?_
  rintro e w1 ⟨g, rfl, r1, s1, b1⟩
  have R1 : Hid (RSt w1 g (some [t, a, b])) := r1
  clear r1
  go_wp2_with fail
  refine (N1.out _ _ R1.out).mono ?_
  rintro e w2 ⟨rfl, r2, g2⟩
  have R2 : Hid (RSt w2 g (some [a, b])) := r2
  clear r2
  go_wp2_with fail
  refine (N2.out _ _ R2.out).mono ?_
  rintro e w3 ⟨rfl, g3⟩
  go_wp2
  go_ret2
  have b2 : Below w.heap.size w w2 := b1.grown g2 b1.size (fun k hk => by injection hk with hk; omega)
  exact ⟨rfl, b2.grown g3 b2.size (fun k hk => by injection hk with hk; omega)⟩
end Go.Proofs.YtjhnnblilfddpaaDoor
