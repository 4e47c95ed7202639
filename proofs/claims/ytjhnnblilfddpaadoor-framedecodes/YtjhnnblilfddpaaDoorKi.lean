import Derived.Test.YtjhnnblilfddpaaDoorKg
namespace Go.Proofs.YtjhnnblilfddpaaDoor
set_option linter.unusedSimpArgs false
set_option linter.unusedVariables false
open Go.RowKit
set_option maxRecDepth 100000 in
set_option maxHeartbeats 400000 in
theorem bytes_none (p : Value) (w : World) (h : Hnd w p none) : Calls Tryd.prog 50 #[p] w fun e w' => e = .returned (.slice none 0 0) ∧ w' = w := by
  have C : Hid (Calls Tryd.prog 73 #[p] w fun e w' => e = .returned (.bool true) ∧ w' = w) := by
    rcases h with ⟨rfl, _⟩ | ⟨g, rfl, h⟩
    · exact wBad_nil w
    · exact wBad_any g none w h
  clear h
  go_enter Tryd.func50, Tryd.ntmps50
  go_wp2_with fail
  refine C.out.mono ?_
  rintro e w' ⟨rfl, h'⟩
  have h'' := h'.symm; clear h'; subst h''
  go_wp2
  go_ret
  exact ⟨rfl, rfl⟩
set_option maxRecDepth 100000 in
theorem vB_toList (l : List Int) : (vB l).toList = l.map (Value.int .u8) := by simp [vB]
set_option maxRecDepth 100000 in
theorem copy_piece (w : World) (B e n c : Nat) (s D : List Int) (hb : Bytes s) (he : s.length ≤ n) (hg : w.heap[B]? = some (.cells (vB (zs (e + s.length) ++ D)) 5)) :
    (Builtin.copy_ #[22, 9] 3 #[.slice (some ⟨B, e, none⟩) n c, .string (strOfNums s)]).run Tryd.prog w = .ok (.int .i64 s.length) (w.setRow B (vB (zs e ++ (s ++ D)))) := by
  have hz := strOfNums_size s
  rw [Lib.run_copy_row_string (P := Tryd.prog) w 22 9 3 5 B e n c (strOfNums s) _ 5 Tryd.underlying22 size5 hg (by rw [hz]; omega) (by rw [hz, vB_size]; simp [zs_length])]
  rw [byteCells_nB, nB_str s hb, hz]
  congr 2
  unfold vB
  congr 1
  simp only [List.map_append, List.append_assoc]
  rw [List.take_append_of_le_length (by simp [zs_length]), List.drop_append, List.drop_eq_nil_of_le (by simp [zs_length])]
  simp [zs, List.map_replicate, List.take_replicate]
set_option maxHeartbeats 1000000 in
set_option maxRecDepth 100000 in
theorem bytes_good (g : Nat) (l : List Int) (w : World) (h : WSt w g (some l)) (hb : Bytes l) :
    Calls Tryd.prog 50 #[.pointer (some ⟨g, 0, none⟩)] w fun e w' => ∃ G, e = .returned (.slice (some ⟨G, 0, none⟩) l.length l.length) ∧ w'.heap[G]? = some (.cells (vB l) 5) ∧ w.heap.size ≤ G ∧ Below w.heap.size w w' := by
  have C : Hid (Calls Tryd.prog 73 #[.pointer (some ⟨g, 0, none⟩)] w fun e w' => e = .returned (.bool false) ∧ w' = w) := wBad_any g (some l) w h
  obtain ⟨v, ps, h1, h2, h3, h4⟩ := h
  have c0 := row_cell (j := 0) h1 rfl
  have c1 := row_cell (j := 1) h1 rfl
  have hlt := (Array.getElem?_eq_some_iff.1 h1).1
  have c0' : (w.alloc (.cells (vB (zs l.length)) 5)).cell? ⟨g, 0, none⟩ = some v := by rw [((Below.refl w.heap.size w).alloc (Nat.le_refl _) _).cell (show g < w.heap.size from hlt)]; exact c0
  have hmk := fun W : World => makeB l.length (by omega) W
  clear h1 c0
  go_enter Tryd.func50, Tryd.ntmps50
  go_wp2_with fail
  refine C.out.mono ?_
  rintro e w' ⟨rfl, h'⟩
  have h'' := h'.symm; clear h'; subst h''
  go_wp2_with fail
  go_loopw [4, 5] (fun e p wr => ∃ rest D : List (List Int), ps = D ++ rest ∧ ChainAt w p rest ∧ e = .int .i64 (rest.reverse.flatten.length : Nat) ∧ wr.heap[w.heap.size]? = some (.cells (vB (zs rest.reverse.flatten.length ++ D.reverse.flatten)) 5) ∧ Below w.heap.size w wr) (fun _ p _ => pn p)
  case atStart =>
    exact ⟨ps, [], rfl, h2, by rw [h3], by rw [h3, List.reverse_nil, List.flatten_nil, List.append_nil]; exact heap_alloc_new _ _, (Below.refl _ _).alloc (Nat.le_refl _) _⟩
  case round =>
    obtain ⟨rest, D, hps, hch, rfl, hg, hbl⟩ := hrel
    cases rest with
    | nil =>
      obtain rfl := hch
      have hD : D.reverse.flatten = l := by rw [← h3, hps]; simp
      rw [hD] at hg
      clear hD hps h3 h2
      go_wp2
      go_ret
      exact ⟨_, rfl, by simpa [zs] using hg, Nat.le_refl _, hbl⟩
    | cons s r =>
      obtain ⟨gp, b, rfl, hgp, hpn, hr⟩ := hch
      have hgl := (Array.getElem?_eq_some_iff.1 hgp).1
      have hlen : l.length = r.reverse.flatten.length + s.length + D.reverse.flatten.length := by
        rw [← h3, hps]; simp; omega
      have hbs : Bytes s := fun x hx => hb x (by rw [← h3, hps]; simp [hx])
      have hz := strOfNums_size s
      have q0 : wr.cell? ⟨gp, 0, none⟩ = some b := by rw [hbl.cell (show gp < w.heap.size from hgl)]; exact row_cell hgp rfl
      have q1 : wr.cell? ⟨gp, 1, none⟩ = some (.string (strOfNums s)) := by rw [hbl.cell (show gp < w.heap.size from hgl)]; exact row_cell hgp rfl
      have el : (s :: r).reverse.flatten.length = r.reverse.flatten.length + s.length := by simp
      rw [el] at hg ⊢
      generalize hE : r.reverse.flatten.length = E at *
      generalize hDD : D.reverse.flatten = DD at *
      have e1 : ((E + s.length : Nat) : Int) - (s.length : Int) = (E : Int) := by omega
      have e2 : (E : Int) ≤ (l.length : Int) := by omega
      have HPS : Hid (ps = D ++ s :: r) := hps
      have HR : Hid (ChainAt w b r) := hr
      have HB : Hid (Below w.heap.size w wr) := hbl
      have HG : Hid (wr.heap[w.heap.size]? = some (.cells (vB (zs (E + s.length) ++ DD)) 5)) := hg
      by_cases hA : E + s.length + DD.length = E
      · have hs0 : s = [] := List.eq_nil_of_length_eq_zero (by omega)
        have hcp := Lib.run_copy_empty_string (P := Tryd.prog) wr.drew 22 9 3 5 (some ⟨w.heap.size, 0, none⟩) 0 0 (strOfNums s) Tryd.underlying22 (by rw [size5]; rfl) (by omega)
        have HS0 : Hid (s = []) := hs0
        have HM : Hid (pn b ≤ gp) := hpn
        clear hb hbs hr hps h2 h3 hgp hg hbl hs0 hpn
        go_wp2
        go_region
        go_wp2
        go_roundw
        case rel =>
          refine ⟨r, D ++ [s], by rw [HPS.out]; simp, HR.out, by rw [hE], ?_, HB.out.drew⟩
          have h6 := HG.out
          rw [HS0.out] at h6
          rw [hE, List.reverse_append, List.flatten_append, hDD, HS0.out]
          refine Eq.trans (show _ = wr.heap[w.heap.size]? from rfl) ?_
          simpa using h6
        case measure => have := HM.out; simp [pn]; simp only [pn] at this; omega
      · have hcp := copy_piece wr.drew w.heap.size E (E + s.length + DD.length - E) (E + s.length + DD.length - E) s DD hbs (by omega) hg
        have q2 : (wr.drew.setRow w.heap.size (vB (zs E ++ (s ++ DD)))).cell? ⟨gp, 0, none⟩ = some b := by
          rw [World.cell?_of_block (w := wr.drew) (setRow_far _ _ _ _ (show gp ≠ w.heap.size by omega))]; exact q0
        have HM : Hid (pn b ≤ gp) := hpn
        clear hb hbs hr hps h2 h3 hgp hg hbl hpn
        go_wp2
        go_region
        go_wp2
        go_roundw
        case rel =>
          refine ⟨r, D ++ [s], by rw [HPS.out]; simp, HR.out, by rw [hE], ?_, below_setRow HB.out.drew (Nat.le_refl _) _⟩
          rw [hE, List.reverse_append, List.flatten_append, hDD, setRow_same (w := wr.drew) HG.out]
          simp
        case measure => have := HM.out; simp [pn]; simp only [pn] at this; omega
end Go.Proofs.YtjhnnblilfddpaaDoor
