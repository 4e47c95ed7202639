import Derived.Test.YtplihbncmmggjaaDoorBb
import Derived.Test.YtplihbncmmggjaaDoorFs
import Derived.Lib.SlFresh
namespace Go.Proofs.YtplihbncmmggjaaDoor
set_option linter.unusedSimpArgs false
set_option linter.unusedVariables false
open Go.RowKit
theorem wpAnyH_monoA {P : Program} {ops : Array Oper} {Q : Exit → Act → World → Prop} {md : Region.Mode} {S S' : World → Prop} (hSS : ∀ w, S' w → S w) : ∀ (fuel : Nat) (listed : Array Bool) (a : Act) (w : World), wpAnyH P md ops Q S' fuel listed a w → wpAnyH P md ops Q S fuel listed a w
  | 0, _, _, _, h => h
  | fuel + 1, _, _, _, h => ⟨h.1, fun i hi => wpOp_mono (fun a' w' h' => ⟨hSS w' h'.1, wpAnyH_monoA hSS fuel _ a' w' h'.2⟩) (h.2 i hi)⟩
/-- The condition grows behind a call. -/
theorem wpAnyH_grow {P : Program} {ops : Array Oper} {Q : Exit → Act → World → Prop} {md : Region.Mode} {S S' : World → Prop} (hSS : ∀ w, S' w → S w) {fuel : Nat} {listed : Array Bool} {a : Act} {w : World} (hS : S' w) (h : S' w → wpAnyH P md ops Q S' fuel listed a w) : wpAnyH P md ops Q S fuel listed a w :=
  wpAnyH_monoA hSS fuel listed a w (h hS)
/-- Bytes in a row of bytes. -/
def PartT (w : World) (v : Value) (bs : List Int) : Prop := ∃ (av : Option Addr) (b o cp : Nat), v = .slice av bs.length cp ∧ bs.length ≤ cp ∧ cp ≤ 9223372036854775807 ∧ (0 < bs.length → av = some ⟨b, o, none⟩) ∧ w.rangeAt b o (vB bs).toList ∧ b < w.heap.size ∧ (av = none → cp = 0) ∧ (0 < bs.length → ∃ C m, w.heap[b]? = some (.cells C 5 m))
theorem PartT.part {w : World} {v : Value} {bs : List Int} (h : PartT w v bs) : PartAt w v bs := by
  obtain ⟨av, b, o, cp, h1, h2, h3, h4, h5, h6, h7, _⟩ := h
  exact ⟨av, b, o, cp, h1, h2, h3, h4, h5, h6, h7⟩
theorem PartT.below {w w' : World} {v : Value} {bs : List Int} (h : PartT w v bs) (hb : Below w.heap.size w w') : PartT w' v bs := by
  obtain ⟨av, b, o, cp, h1, h2, h3, h4, h5, h6, h7, h8⟩ := h
  exact ⟨av, b, o, cp, h1, h2, h3, h4, range_below h5 hb h6, Nat.lt_of_lt_of_le h6 hb.size, h7, fun q => by rw [hb.block b h6]; exact h8 q⟩
theorem PartT.set48 {w : World} {v : Value} {bs : List Int} (h : PartT w v bs) {g : Nat} {old : Array Value} (hg : w.heap[g]? = some (.cells old 48)) (cs : Array Value) : PartT (w.setRow g cs) v bs := by
  obtain ⟨av, b, o, cp, h1, h2, h3, h4, h5, h6, h7, h8⟩ := h
  rcases Nat.eq_zero_or_pos bs.length with h0 | h0
  · have hl : bs = [] := List.eq_nil_of_length_eq_zero h0
    subst hl
    exact ⟨av, b, o, cp, h1, h2, h3, h4, fun j v hv => by simp [vB] at hv, by simpa using h6, h7, fun q => by simp at q⟩
  · have hne : b ≠ g := fun e => by
      obtain ⟨C, m, q⟩ := h8 h0
      rw [e, hg] at q
      simp at q
    have hb := setRow_far w g b cs hne
    exact ⟨av, b, o, cp, h1, h2, h3, h4, fun j v hv => by rw [World.cell?_of_block (w := w) hb]; exact h5 j v hv, by simpa using h6, h7, fun q => by rw [hb]; exact h8 q⟩
set_option maxHeartbeats 1000000 in
set_option maxRecDepth 100000 in
/-- append onto a slice without room: a row of its own. -/
theorem append_empty (W : World) (b0 : Addr) (sv : Value) (ys : List Int) (hp : PartAt W sv ys) (hl : ys.length ≤ 1000000) :
    ∃ av cp w', (Builtin.append_ #[22, 22] 22 #[.slice (some b0) 0 0, sv]).run Tryd.prog W = .ok (.slice av ys.length cp) w' ∧ PartT w' (.slice av ys.length cp) ys ∧ Below W.heap.size W w' := by
  obtain ⟨i, hi, hz0, hz1, hz2⟩ := info_parts info5
  obtain ⟨av, b, off, cp, rfl, h1, h2, h3, h4, h5, h6⟩ := hp
  rcases Nat.eq_zero_or_pos ys.length with h0 | h0
  · have hy : ys = [] := List.eq_nil_of_length_eq_zero h0
    subst hy
    refine ⟨some b0, 0, W, ?_, ⟨some b0, b, off, 0, rfl, by simp, by omega, fun h => by simp at h, fun j v hv => by simp [vB] at hv, h5, (fun h => by cases h), (fun h => by simp at h)⟩, Below.refl _ _⟩
    cases av <;> simp [Builtin.append_, run_underlying Tryd.underlying22, sizeOf, typeInfo, hi, Builtin.lenOf, Builtin.firstCells, storeCells, loadCells, loadCellsFrom]
  · obtain rfl := h3 h0
    have hr := run_append_grow (P := Tryd.prog) W 22 22 5 i (.int .u8 0) Tryd.underlying22 hi hz0 b0 0 0 [] (by simp) (by intro j v hj; simp at hj) ⟨b, off, none⟩ ys.length cp (vB ys).toList (by rw [Array.length_toList, vB_size, hz1, Nat.mul_one])
      (fun j v hj => by rw [Addr.add_mid]; exact h4 j v hj) (by omega) (by omega) (growslice_fits (by omega) (by rw [hz2]; omega))
    simp only [Nat.zero_add] at hr
    have hge := grownCap_ge W ys.length 0 5
    have hcm : grownCap W ys.length 0 5 ≤ maxLen := grownCap_le_maxLen W ys.length 0 5 (by unfold maxLen; omega)
    generalize grownCap W ys.length 0 5 = cap at hr hge hcm
    refine ⟨_, _, _, hr, ⟨_, W.heap.size, 0, cap, rfl, hge, by unfold maxLen at hcm; omega, fun _ => rfl, ?_, by simp, (fun h => by cases h), (fun _ => ⟨_, _, heap_alloc_new W.drew _⟩)⟩, ?_⟩
    · intro j v hv
      have := World.cell?_alloc_mark W.drew (([] : List Value).toArray ++ (vB ys).toList.toArray ++ Builtin.zeroCells (Value.int IntKind.u8 0).cells (cap - ys.length)) 5 (0, 0) j
      rw [show W.drew.heap.size = W.heap.size from rfl] at this
      rw [Nat.zero_add, this]
      have hj : j < (vB ys).toList.toArray.size := by have := (List.getElem?_eq_some_iff.1 hv).1; simpa using this
      rw [show (([] : List Value).toArray ++ (vB ys).toList.toArray) = (vB ys).toList.toArray by simp, Array.getElem?_append_left hj]
      simpa using hv
    · exact ((Below.refl _ _).drew).alloc (Nat.le_refl _) _
section
variable {ops : Array Oper} {rest : List Oper} {o : Oper} {a : Act} {w : World} {Q : Exit → Act → World → Prop}
theorem store63 (hgd : o.guard = none) (x y : Operand) (ho : o.op = .store 48 x y) (g : Nat) (u0 u1 : Value) (hx : a.eval x = .pointer (some ⟨g, 0, none⟩)) (hy : a.eval y = .agg #[u0, u1]) (hone : (#[u0, u1] : Array Value).all (·.oneCell') = true) (v0 v1 : Value) (hg : w.heap[g]? = some (.cells #[v0, v1] 48))
    (h : wpList Tryd.prog ops Q rest (a.put o.dst undef) (w.setRow g #[u0, u1])) : wpList Tryd.prog ops Q (o :: rest) a w :=
  wpList_store_row hgd 48 x y ho g _ hx hy 48 _ hg (by kernel_rfl) rfl hone h
theorem store63w {K : Act → World → Prop} (x y : Operand) (ho : o.op = .store 48 x y) (g : Nat) (u0 u1 : Value) (hx : a.eval x = .pointer (some ⟨g, 0, none⟩)) (hy : a.eval y = .agg #[u0, u1]) (hone : (#[u0, u1] : Array Value).all (·.oneCell') = true) (v0 v1 : Value) (hg : w.heap[g]? = some (.cells #[v0, v1] 48))
    (h : K (a.put o.dst undef) (w.setRow g #[u0, u1])) : o.wp Tryd.prog a w K Q :=
  wp_store_row 48 x y ho g _ hx hy 48 _ hg (by kernel_rfl) rfl hone h
end
/-- The results of the reference's Decode, at its end. -/
theorem rdec_end {R : Ending → World → Prop} {T : Array Value} {w : World} {B : Nat} {u0 u1 : Value} {m c : Int} (h2 : T[2]? = some (.pointer (some ⟨B, 0, none⟩))) (h3 : T[3]? = some (.int .i64 m)) (h4 : T[4]? = some (.int .i64 c)) (hg : w.heap[B]? = some (.cells #[u0, u1] 48)) (hR : R (.returned (.tuple #[.agg #[u0, u1], .int .i64 m, .int .i64 c])) w) : bodyPost Tryd.prog Tryd.f33 R .ret ⟨T, []⟩ w := by
  have c0 := row_cell (j := 0) hg rfl
  have c1 := row_cell (j := 1) hg rfl
  refine bodyPost_ret (v := .tuple #[.agg #[u0, u1], .int .i64 m, .int .i64 c]) ?_ rfl hR
  simp [results, Tryd.results33, go_sem, h2, h3, h4, c0, c1]
/-- Begins, behind the result's box. -/
theorem rbegins_box (v : Value) (bs : List Int) (w : World) (hp : PartAt w v bs) (hb : Bytes bs) (q : Bool) (h : beginsB bs = q) : Calls Tryd.prog 36 #[v] (w.alloc (.cells #[.int .u8 0, .slice none 0 0] 48)) fun e w' => e = .returned (.bool q) ∧ Below w.heap.size w w' ∧ w'.heap[w.heap.size]? = some (.cells #[.int .u8 0, .slice none 0 0] 48) := by
  have b1 : Below w.heap.size w (w.alloc (.cells #[.int .u8 0, .slice none 0 0] 48)) := (Below.refl _ _).alloc (Nat.le_refl _) _
  have r := rbegins_any v bs _ (hp.below b1) hb
  rw [h] at r
  exact r.mono fun e w' ⟨r1, r2⟩ => ⟨r1, b1.trans (r2.mono (by simp)), by rw [r2.block _ (by simp)]; exact heap_alloc_new _ _⟩
set_option maxHeartbeats 1000000 in
set_option maxRecDepth 100000 in
theorem rdec_form (v : Value) (bs : List Int) (w : World) (hp : PartAt w v bs) (hb : Bytes bs) (h : beginsB bs = false) : Calls Tryd.prog 33 #[v] w fun e w' => e = .returned (.tuple #[.agg #[.int .u8 0, .slice none 0 0], .int .i64 0, .int .i64 2]) ∧ Below w.heap.size w w' := by
  have BG : Hid (Calls Tryd.prog 36 #[v] (w.alloc (.cells #[.int .u8 0, .slice none 0 0] 48)) fun e w' => e = .returned (.bool false) ∧ Below w.heap.size w w' ∧ w'.heap[w.heap.size]? = some (.cells #[.int .u8 0, .slice none 0 0] 48)) := rbegins_box v bs w hp hb false h
  clear hp
  go_enter Tryd.func33, Tryd.ntmps33
  go_wp2_with fail
  refine BG.out.mono ?_
  rintro e w2 ⟨rfl, b2, k2⟩
  have K2 : Hid (w2.heap[w.heap.size]? = some (.cells #[.int .u8 0, .slice none 0 0] 48)) := k2
  clear k2 BG
  go_wp2_with (first | (refine store63 rfl _ _ rfl w.heap.size (.int .u8 0) (.slice none 0 0) rfl rfl (one61 _ _ _ _) (.int .u8 0) (.slice none 0 0) K2.out ?_))
  exact rdec_end rfl rfl rfl (setRow_same K2.out) ⟨rfl, below_setRow b2 (Nat.le_refl _) _⟩
set_option maxHeartbeats 1000000 in
set_option maxRecDepth 100000 in
theorem rdec_short (av : Option Addr) (n cp : Nat) (bs : List Int) (w : World) (hn : n < 10) (hp : PartAt w (.slice av n cp) bs) (hb : Bytes bs) (h : beginsB bs = true) : Calls Tryd.prog 33 #[.slice av n cp] w fun e w' => e = .returned (.tuple #[.agg #[.int .u8 0, .slice none 0 0], .int .i64 0, .int .i64 4]) ∧ Below w.heap.size w w' := by
  have BG : Hid (Calls Tryd.prog 36 #[.slice av n cp] (w.alloc (.cells #[.int .u8 0, .slice none 0 0] 48)) fun e w' => e = .returned (.bool true) ∧ Below w.heap.size w w' ∧ w'.heap[w.heap.size]? = some (.cells #[.int .u8 0, .slice none 0 0] 48)) := rbegins_box _ bs w hp hb true h
  have g : (n : Int) < 10 := by omega
  clear hp
  go_enter Tryd.func33, Tryd.ntmps33
  go_wp2_with fail
  refine BG.out.mono ?_
  rintro e w2 ⟨rfl, b2, k2⟩
  have K2 : Hid (w2.heap[w.heap.size]? = some (.cells #[.int .u8 0, .slice none 0 0] 48)) := k2
  clear k2 BG
  go_wp2_with (first | (refine store63 rfl _ _ rfl w.heap.size (.int .u8 0) (.slice none 0 0) rfl rfl (one61 _ _ _ _) (.int .u8 0) (.slice none 0 0) K2.out ?_))
  exact rdec_end rfl rfl rfl (setRow_same K2.out) ⟨rfl, below_setRow b2 (Nat.le_refl _) _⟩
/-- The length, read by the reference's Of. -/
theorem rof_at (b o L cp : Nat) (bs : List Int) (M : Nat) (w : World) (hL : bs.length = L) (h6 : 6 ≤ L) (hr : w.rangeAt b o (vB bs).toList) (hbl : b < w.heap.size) (hcp : L ≤ cp) (h63 : cp ≤ 9223372036854775807) (hb : Bytes bs) (hM : gi bs 4 * 256 + gi bs 5 = (M : Int)) (W : World) (q : Below w.heap.size w W) : Calls Tryd.prog 56 #[.slice (some ⟨b, o + 4, none⟩) 2 (cp - 4)] W fun e w' => e = .returned (.int .u64 M) ∧ W = w' := by
  have hby2 : Bytes [gi bs 4, gi bs 5] := fun y hy => by
    rw [← two_at bs (by omega)] at hy
    exact hb y (List.mem_of_mem_drop (List.mem_of_mem_take hy))
  have r := sub_part hL hcp h63 (range_below hr q hbl) (Nat.lt_of_lt_of_le hbl q.size) 4 2 (by omega)
  rw [two_at bs (by omega)] at r
  obtain ⟨av, b', o', cp', e, r1, r2, r3, r4, r5, r6⟩ := r
  have r3' := r3 (by simp)
  injection e with e1 e2 e3
  rw [← e1] at r3'
  injection r3' with r3'
  injection r3' with a1 a2
  subst a1 a2
  have h := rofk_any b (o + 4) (cp - 4) [gi bs 4, gi bs 5] W (by simp) (by simp; omega) hby2 r4
  rw [val2 _ _ (hby2 _ (by simp)).1 (hby2 _ (by simp)).2 (hby2 _ (by simp)).1 (hby2 _ (by simp)).2, hM] at h
  exact h.mono fun e w' ⟨r1, r2⟩ => ⟨r1, r2.symm⟩
set_option maxHeartbeats 1000000 in
set_option maxRecDepth 100000 in
theorem rdec_short2 (b o L cp : Nat) (bs : List Int) (M : Nat) (w : World) (hp : PartAt w (.slice (some ⟨b, o, none⟩) L cp) bs) (hL : bs.length = L) (hb : Bytes bs) (h : beginsB bs = true) (hl : 10 ≤ L) (hM : gi bs 4 * 256 + gi bs 5 = (M : Int)) (hM1 : M ≤ 1000) (hs : L < 10 + M) (hr : w.rangeAt b o (vB bs).toList) (hbl : b < w.heap.size) (hcp : L ≤ cp) (h63 : cp ≤ 9223372036854775807) : Calls Tryd.prog 33 #[.slice (some ⟨b, o, none⟩) L cp] w fun e w' => e = .returned (.tuple #[.agg #[.int .u8 0, .slice none 0 0], .int .i64 0, .int .i64 4]) ∧ Below w.heap.size w w' := by
  have BG : Hid (Calls Tryd.prog 36 #[.slice (some ⟨b, o, none⟩) L cp] (w.alloc (.cells #[.int .u8 0, .slice none 0 0] 48)) fun e w' => e = .returned (.bool true) ∧ Below w.heap.size w w' ∧ w'.heap[w.heap.size]? = some (.cells #[.int .u8 0, .slice none 0 0] 48)) := rbegins_box _ bs w hp hb true h
  have OF : Hid (∀ W, Below w.heap.size w W → Calls Tryd.prog 56 #[.slice (some ⟨b, o + 4, none⟩) 2 (cp - 4)] W fun e w' => e = .returned (.int .u64 M) ∧ W = w') := rof_at b o L cp bs M w hL (by omega) hr hbl hcp h63 hb hM
  have g1 : ¬ (L : Int) < 10 := by omega
  have g2 : (6 : Int) ≤ (cp : Int) := by omega
  have g3 : ¬ cp = 4 := by omega
  have g4 : (L : Int) < 10 + (M : Int) := by omega
  clear hp hr hM
  go_enter Tryd.func33, Tryd.ntmps33
  go_wp2_with fail
  refine BG.out.mono ?_
  rintro e w2 ⟨rfl, b2, k2⟩
  have K2 : Hid (w2.heap[w.heap.size]? = some (.cells #[.int .u8 0, .slice none 0 0] 48)) := k2
  have B2 : Hid (Below w.heap.size w w2) := b2
  clear k2 BG b2
  go_wp2_with (first | (go_at_call 56; refine (OF.out _ B2.out).mono ?_; rintro e w5 ⟨rfl, q5⟩; subst q5) | (refine store63 rfl _ _ rfl w.heap.size (.int .u8 0) (.slice none 0 0) rfl rfl (one61 _ _ _ _) (.int .u8 0) (.slice none 0 0) K2.out ?_))
  exact rdec_end rfl rfl rfl (setRow_same K2.out) ⟨rfl, below_setRow B2.out (Nat.le_refl _) _⟩
end Go.Proofs.YtplihbncmmggjaaDoor
