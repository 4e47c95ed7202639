import Derived.Test.YtndmjndokokmnaaRk
import Derived.Test.YtndmjndokokmnaaFg
namespace Go.Proofs.Ytndmjndokokmnaa
set_option linter.unusedSimpArgs false
set_option linter.unusedVariables false
open Go.RowKit
open Go.Deep
/-- What Parse hands back: the tree as a value, the place, the error. -/
def ParR (p : T × Int × Int) (w : World) (e : Ending) (w' : World) : Prop := ∃ u, e = .returned (.tuple #[vN p.1.hd u, .int .i64 p.2.1, .int .i64 p.2.2]) ∧ SV (fun b => w.heap.size ≤ b) w' u p.1.kids ∧ Below w.heap.size w w'
theorem below_of_grown {w W w' : World} (h : Below w.heap.size w W) (k : W.grownBy w' (some w.heap.size)) : Below w.heap.size w w' :=
  ⟨k.os.trans h.os, k.tape.trans h.tape, k.output.trans h.output, Nat.le_trans h.size k.size, fun i hi => (k.block i (Nat.lt_of_lt_of_le hi h.size) (by intro q; injection q with q; omega)).trans (h.block i hi)⟩
theorem below_of_grown1 {w W w' : World} (h : Below w.heap.size w W) (k : W.grownBy w' (some (w.heap.size + 1))) : Below w.heap.size w w' :=
  ⟨k.os.trans h.os, k.tape.trans h.tape, k.output.trans h.output, Nat.le_trans h.size k.size, fun i hi => (k.block i (Nat.lt_of_lt_of_le hi h.size) (by intro q; injection q with q; omega)).trans (h.block i hi)⟩
theorem below_rowS {B : Nat} {a w : World} (h : Below B a w) (g : Nat) (hg : B ≤ g) (cs : Array Value) : Below B a (w.setRow g cs) := below_row h hg cs
theorem step_storeB55x {ops : Array Oper} {o : Oper} {a : Act} {w : World} {K : Act → World → Prop} {Q : Exit → Act → World → Prop} {Z : Prop} (hgd : o.guard = none) (x y : Operand) (ho : o.op = .store 55 x y) (g : Nat) (hx : a.eval x = .pointer (some ⟨g, 0, none⟩)) (hd : Hd) (u : Value) (hu : u.oneCell' = true) (hy : a.eval y = vN hd u) (h0 : Hd) (u0 : Value) (hb : BoxN 55 w g h0 u0)
    (h : K (a.put o.dst undef) (w.setRow g (cN hd u).toArray)) : if Region.wanted o (yielded ops a.tmps) = true then Oper.wp Try.prog o a w K Q else Z := by
  have hw : Region.wanted o (yielded ops a.tmps) = true := by simp [Region.wanted, hgd]
  rw [if_pos hw]
  exact wp_store_row 55 x y ho g _ hx hy 55 _ hb size55 rfl (all_oneCell_toArray (cN_ok hu)) h
set_option maxHeartbeats 4000000 in
set_option maxRecDepth 100000 in
theorem parse_bre (s : ByteArray) (hs : s.size ≤ 900000) (w : World) (hM : MaxL w) : Calls Try.prog 52 #[.string s] w (ParR (parseB (some 200) s.data.toList) w) := by
  obtain ⟨l, hl⟩ : ∃ l, l = s.data.toList := ⟨_, rfl⟩
  have hsz : l.length = s.size := by rw [hl]; exact (Lib.size_eq s).symm
  rw [← hl]
  obtain ⟨R, hR⟩ : ∃ R, R = parseB (some 200) l := ⟨_, rfl⟩
  rw [← hR]
  have HF := (loop_fine (some 200) (l.length + 1)).2 0 l (by omega)
  have HRR : Hid (R = match patN (some 200) (l.length + 1) 0 l with
    | .error r => (tNone, (l.length : Int) - r.length, 10)
    | .ok (t, g, r) => if r = [] then (if formedT t then (t, 0, 0) else (tNone, (l.length : Int), 10)) else (tNone, (l.length : Int) - r.length, 10)) := hR
  have hz1 : (w.alloc (.cells (cN hd0 (.slice none 0 0)).toArray 55)).heap.size = w.heap.size + 1 := by simp
  have B1 : Hid (Below w.heap.size w ((w.alloc (.cells (cN hd0 (.slice none 0 0)).toArray 55)).alloc (.cells #[.string s, .int .i64 0] 95))) := ((Below.refl _ _).alloc (Nat.le_refl _) _).alloc (by rw [hz1]; omega) _
  have Y1 : Hid (BoxN 55 ((w.alloc (.cells (cN hd0 (.slice none 0 0)).toArray 55)).alloc (.cells #[.string s, .int .i64 0] 95)) w.heap.size hd0 (.slice none 0 0)) := (BoxN.new 55 w hd0 (.slice none 0 0)).blk (Below.heap_alloc _ _ _ (by rw [hz1]; omega))
  have hlast : ((w.alloc (.cells (cN hd0 (.slice none 0 0)).toArray 55)).alloc (.cells #[.string s, .int .i64 0] 95)).heap[w.heap.size + 1]? = some (.cells #[.string s, .int .i64 0] 95) := by
    have := heap_alloc_last (w.alloc (.cells (cN hd0 (.slice none 0 0)).toArray 55)) (.cells #[.string s, .int .i64 0] 95)
    rw [hz1] at this; exact this
  have Z1 : Hid (((w.alloc (.cells (cN hd0 (.slice none 0 0)).toArray 55)).alloc (.cells #[.string s, .int .i64 0] 95)).heap.size = w.heap.size + 1 + 1) := by unfold Hid; simp
  have R1 : Hid (RG ((w.alloc (.cells (cN hd0 (.slice none 0 0)).toArray 55)).alloc (.cells #[.string s, .int .i64 0] 95)) (w.heap.size + 1) l 0) := ⟨s, row_cell hlast rfl, hl.symm, row_cell hlast rfl, unfrozen hlast, unfrozen hlast, by rw [Z1.out]; omega⟩
  have PT : Hid (∀ W, RG W (w.heap.size + 1) l 0 → MaxL W → Calls Try.prog 73 #[.pointer (some ⟨w.heap.size + 1, 0, none⟩)] W (TreO (fun b => W.heap.size ≤ b) (patN (some 200) (l.length + 1) 0 l) W (w.heap.size + 1))) := fun W h1 h2 => pattern_any (l.length + 1) (w.heap.size + 1) 0 l W h1 (by omega) (by omega) h2 (by omega) (by omega)
  have M1 : Hid (MaxL ((w.alloc (.cells (cN hd0 (.slice none 0 0)).toArray 55)).alloc (.cells #[.string s, .int .i64 0] 95))) := (hM.alloc _).alloc _
  have HLZ : Hid (l.length = s.size) := hsz
  have HSS : Hid (s.size ≤ 900000) := hs
  have HN : Hid (vN tNone.hd (.slice none 0 0) = vN hd0 (.slice none 0 0)) := rfl
  have HNK : Hid (tNone.kids = []) := T.kids_mk _ _
  have hss : (s.size : Int) ≤ 900000 := by omega
  clear hR hz1 hlast hM hl hsz hs
  generalize patN (some 200) (l.length + 1) 0 l = A at *
  go_enter Try.func52, Try.ntmps52
  go_wp2_with fail
  refine (PT.out _ R1.out M1.out).mono ?_
  rintro e w2 h2
  cases A with
  | error r =>
    obtain ⟨k', rfl, r2, g2⟩ := h2
    have y2 : BoxN 55 w2 w.heap.size hd0 (.slice none 0 0) := Y1.out.blk (g2.block _ (by rw [Z1.out]; omega) (by intro q; injection q with q; omega))
    have R3 : Hid (RG (w2.alloc (.cells (cN (Hd.of 0) (.slice none 0 0)).toArray 55)) (w.heap.size + 1) r k') := r2.alloc _
    have Y3 : Hid (BoxN 55 (w2.alloc (.cells (cN (Hd.of 0) (.slice none 0 0)).toArray 55)) w.heap.size hd0 (.slice none 0 0)) := y2.blk (Below.heap_alloc _ _ _ y2.lt)
    have B3 : Hid (Below w.heap.size w (w2.alloc (.cells (cN (Hd.of 0) (.slice none 0 0)).toArray 55))) := (below_of_grown1 B1.out g2).alloc (by have := (below_of_grown1 B1.out g2).size; omega) _
    obtain ⟨s', hc, hs', hc1, hf, hf1, hg'⟩ := R3.out.out
    have HZ' : Hid (s'.size = r.length) := by unfold Hid; rw [Lib.size_eq, hs']
    have hsr : (s'.size : Int) ≤ s.size := by have : r.length ≤ l.length := HF; have := HZ'.out; have := HLZ.out; omega
    have HE : Hid (R = (tNone, (s.size : Int) - s'.size, 10)) := by unfold Hid; rw [HRR.out, HZ'.out, ← HLZ.out]
    clear hs' r2 g2 y2 HRR HF
    go_wp2_with (refine storeN55 rfl _ _ rfl rfl (Hd.of 0) none 0 0 rfl ?_)
    refine wp_region_noPanic ?_
    refine wp_region_held_drew (S := fun W => W.cell? ⟨w.heap.size + 1, 0, none⟩ = some (.string s')) (by kernel_rfl) (hc) (fun hHeld => ?_)
    try simp only [Act.put, List.setIfInBounds_toArray, List.set_cons_zero, List.set_cons_succ]
    refine wpAnyH_take (i := 0) (oi := { dst := some 21, op := Go.Op.build 55 #[], type := 55, pos := "bre.go:26", after := #[], guard := none }) (v := ?_) rfl (by kernel_rfl) (by kernel_rfl) (by kernel_rfl) (fun _ _ _ h => h) (Or.inl ⟨by rfl, ?_⟩) hHeld ?_
    rotate_left 1
    · (intro wq hSq; (try dsimp only at hSq); go_simp; first | done | with_reducible rfl)
    try simp only [Act.put, List.setIfInBounds_toArray, List.set_cons_zero, List.set_cons_succ]
    refine wpAnyH_take (i := 1) (oi := { dst := some 22, op := Go.Op.move (Go.Operand.tmp 0), type := 9, pos := "bre.go:26", after := #[], guard := none }) (v := ?_) rfl (by kernel_rfl) (by kernel_rfl) (by kernel_rfl) (fun _ _ _ h => h) (Or.inl ⟨by rfl, ?_⟩) hHeld ?_
    rotate_left 1
    · (intro wq hSq; (try dsimp only at hSq); go_simp; first | done | with_reducible rfl)
    try simp only [Act.put, List.setIfInBounds_toArray, List.set_cons_zero, List.set_cons_succ]
    refine wpAnyH_take (i := 2) (oi := { dst := some 23, op := Go.Op.call { callee := Go.Callee.builtin Go.Builtin.len, args := #[Go.Operand.tmp 22], argTypes := #[9] }, type := 3, pos := "bre.go:26", after := #[{ on := 1, ground := Go.Ground.data }], guard := none }) (v := ?_) rfl (by kernel_rfl) (by kernel_rfl) (by kernel_rfl) (fun _ _ _ h => h) (Or.inl ⟨by rfl, ?_⟩) hHeld ?_
    rotate_left 1
    · (intro wq hSq; (try dsimp only at hSq); go_simp; first | done | with_reducible rfl)
    try simp only [Act.put, List.setIfInBounds_toArray, List.set_cons_zero, List.set_cons_succ]
    refine wpAnyH_take (i := 3) (oi := { dst := some 24, op := Go.Op.fieldAddr 95 (Go.Operand.tmp 5) 0, type := 0, pos := "bre.go:26", after := #[], guard := none }) (v := ?_) rfl (by kernel_rfl) (by kernel_rfl) (by kernel_rfl) (fun _ _ _ h => h) (Or.inl ⟨by rfl, ?_⟩) hHeld ?_
    rotate_left 1
    · (intro wq hSq; (try dsimp only at hSq); go_simp; first | done | with_reducible rfl)
    try simp only [Act.put, List.setIfInBounds_toArray, List.set_cons_zero, List.set_cons_succ]
    refine wpAnyH_take (i := 4) (oi := { dst := some 25, op := Go.Op.load 9 (Go.Operand.tmp 24), type := 9, pos := "bre.go:26", after := #[{ on := 3, ground := Go.Ground.data }], guard := none }) (v := ?_) rfl (by kernel_rfl) (by kernel_rfl) (by kernel_rfl) (fun _ _ _ h => h) (Or.inl ⟨by rfl, ?_⟩) hHeld ?_
    rotate_left 1
    · (intro wq hSq; (try dsimp only at hSq); go_simp; first | done | with_reducible rfl)
    try simp only [Act.put, List.setIfInBounds_toArray, List.set_cons_zero, List.set_cons_succ]
    refine wpAnyH_take (i := 5) (oi := { dst := some 26, op := Go.Op.call { callee := Go.Callee.builtin Go.Builtin.len, args := #[Go.Operand.tmp 25], argTypes := #[9] }, type := 3, pos := "bre.go:26", after := #[{ on := 4, ground := Go.Ground.data }], guard := none }) (v := ?_) rfl (by kernel_rfl) (by kernel_rfl) (by kernel_rfl) (fun _ _ _ h => h) (Or.inl ⟨by rfl, ?_⟩) hHeld ?_
    rotate_left 1
    · (intro wq hSq; (try dsimp only at hSq); go_simp; first | done | with_reducible rfl)
    try simp only [Act.put, List.setIfInBounds_toArray, List.set_cons_zero, List.set_cons_succ]
    refine wpAnyH_take (i := 6) (oi := { dst := some 27, op := Go.Op.binOp Go.BinOp.sub 3 (Go.Operand.tmp 23) (Go.Operand.tmp 26) 3, type := 3, pos := "bre.go:26", after := #[{ on := 2, ground := Go.Ground.data }, { on := 5, ground := Go.Ground.data }, { on := 7, ground := Go.Ground.gcOnly Go.Departure.lateStores }], guard := none }) (v := .int .i64 ((s.size : Int) - s'.size)) rfl (by kernel_rfl) (by kernel_rfl) (by kernel_rfl) (fun _ _ _ h => h) (Or.inl ⟨by rfl, ?_⟩) hHeld ?_
    · (intro wq hSq; (try dsimp only at hSq); have hwr : IntKind.i64.wrap ((s.size : Int) - s'.size) = (s.size : Int) - s'.size := (by rw [IntKind.wrap_i64]; omega); go_simp; first | done | with_reducible rfl)
    try simp only [Act.put, List.setIfInBounds_toArray, List.set_cons_zero, List.set_cons_succ]
    refine wpAnyH_ready (rs := [7]) (by kernel_rfl) (by simp) ?_
    refine AllReadyH.cons (o := { dst := none, op := Go.Op.store 55 (Go.Operand.tmp 2) (Go.Operand.tmp 21), type := 0, pos := "bre.go:26", after := #[{ on := 0, ground := Go.Ground.data }, { on := 0, ground := Go.Ground.phase }, { on := 1, ground := Go.Ground.textOnly Go.Departure.lateStores }, { on := 2, ground := Go.Ground.textOnly Go.Departure.lateStoresUnsure }, { on := 3, ground := Go.Ground.textOnly Go.Departure.lateStores }, { on := 4, ground := Go.Ground.textOnly Go.Departure.lateStores }, { on := 5, ground := Go.Ground.textOnly Go.Departure.lateStoresUnsure }, { on := 6, ground := Go.Ground.textOnly Go.Departure.lateStores }], guard := none }) rfl (fun K hK => ?_) AllReadyH.nil
    refine step_storeB55x rfl _ _ rfl w.heap.size rfl hd0 (.slice none 0 0) rfl rfl hd0 _ Y3.out ?_
    refine hK.out _ _ ((World.cell?_of_block (setRow_other _ _ _ _ (by show w.heap.size + 1 ≠ w.heap.size; omega))).trans hc) (fun hHeld1 => ?_)
    clear hK K hHeld
    try simp only [Act.put, List.setIfInBounds_toArray, List.set_cons_zero, List.set_cons_succ]
    refine wpAnyH_take (i := 8) (oi := { dst := some 3, op := Go.Op.assign (Go.Operand.tmp 27), type := 3, pos := "bre.go:26", after := #[{ on := 6, ground := Go.Ground.data }, { on := 7, ground := Go.Ground.chain }, { on := 0, ground := Go.Ground.phase }, { on := 1, ground := Go.Ground.phase }, { on := 2, ground := Go.Ground.phase }, { on := 3, ground := Go.Ground.phase }, { on := 4, ground := Go.Ground.phase }, { on := 5, ground := Go.Ground.phase }, { on := 6, ground := Go.Ground.phase }, { on := 7, ground := Go.Ground.phase }], guard := none }) (v := ?_) rfl (by kernel_rfl) (by kernel_rfl) (by kernel_rfl) (fun _ _ _ h => h) (Or.inl ⟨by rfl, ?_⟩) hHeld1 ?_
    rotate_left 1
    · (intro wq hSq; (try dsimp only at hSq); go_simp; first | done | with_reducible rfl)
    try simp only [Act.put, List.setIfInBounds_toArray, List.set_cons_zero, List.set_cons_succ]
    refine wpAnyH_take (i := 9) (oi := { dst := some 4, op := Go.Op.assign (Go.Operand.const (Go.Value.int Go.IntKind.i64 10)), type := 39, pos := "bre.go:26", after := #[{ on := 8, ground := Go.Ground.chain }, { on := 0, ground := Go.Ground.phase }, { on := 1, ground := Go.Ground.phase }, { on := 2, ground := Go.Ground.phase }, { on := 3, ground := Go.Ground.phase }, { on := 4, ground := Go.Ground.phase }, { on := 5, ground := Go.Ground.phase }, { on := 6, ground := Go.Ground.phase }, { on := 7, ground := Go.Ground.phase }, { on := 8, ground := Go.Ground.phase }], guard := none }) (v := ?_) rfl (by kernel_rfl) (by kernel_rfl) (by kernel_rfl) (fun _ _ _ h => h) (Or.inl ⟨by rfl, ?_⟩) hHeld1 ?_
    rotate_left 1
    · (intro wq hSq; (try dsimp only at hSq); go_simp; first | done | with_reducible rfl)
    try simp only [Act.put, List.setIfInBounds_toArray, List.set_cons_zero, List.set_cons_succ]
    refine wpAnyH_done (by kernel_rfl) ?_ _
    refine NoPanic.normal ?_
    go_wp2
    exact bodyPost_ret (v := .tuple #[vN hd0 (.slice none 0 0), .int .i64 ((s.size : Int) - s'.size), .int .i64 10]) (res55c 2 3 4 Try.results52 _ _ w.heap.size _ _ _ _ rfl rfl rfl (BoxN.row Y3.out _ _)) rfl (by
      rw [HE.out]
      exact ⟨.slice none 0 0, rfl, by rw [HNK.out]; exact SV.nil _ _, below_row B3.out.drew (Nat.le_refl _) _⟩)
  | ok x =>
    obtain ⟨t, k', r⟩ := x
    obtain ⟨hh, ll, rfl⟩ := t.out
    obtain ⟨u, rfl, s2, r2, g2⟩ := h2
    rw [T.kids_mk] at s2
    rw [T.hd_mk]
    obtain ⟨av, cp, b, o, hu, hq⟩ := id s2
    clear hq
    subst hu
    have y2 : BoxN 55 w2 w.heap.size hd0 (.slice none 0 0) := Y1.out.blk (g2.block _ (by rw [Z1.out]; omega) (by intro q; injection q with q; omega))
    have R3 : Hid (RG (w2.alloc (.cells (cN hh (.slice av ll.length cp)).toArray 55)) (w.heap.size + 1) r k') := r2.alloc _
    have Y3 : Hid (BoxN 55 (w2.alloc (.cells (cN hh (.slice av ll.length cp)).toArray 55)) w.heap.size hd0 (.slice none 0 0)) := y2.blk (Below.heap_alloc _ _ _ y2.lt)
    have N3 : Hid (BoxN 55 (w2.alloc (.cells (cN hh (.slice av ll.length cp)).toArray 55)) w2.heap.size hh (.slice av ll.length cp)) := BoxN.new _ _ _ _
    have B3 : Hid (Below w.heap.size w (w2.alloc (.cells (cN hh (.slice av ll.length cp)).toArray 55))) := (below_of_grown1 B1.out g2).alloc (by have := (below_of_grown1 B1.out g2).size; omega) _
    have S3 : Hid (SV (fun b => w.heap.size + 1 ≤ b) (w2.alloc (.cells (cN hh (.slice av ll.length cp)).toArray 55)) (.slice av ll.length cp) ll) := (s2.weak fun b q _ => by rw [Z1.out] at q; omega).below ((Below.refl _ _).alloc (Nat.le_refl _) _)
    obtain ⟨s', hc, hs', hc1, hf, hf1, hg'⟩ := R3.out.out
    have HZ' : Hid (s'.size = r.length) := by unfold Hid; rw [Lib.size_eq, hs']
    have hsr : (s'.size : Int) ≤ s.size := by have : r.length ≤ l.length := HF.1; have := HZ'.out; have := HLZ.out; omega
    have hsl : s'.toList = r := by rw [Lib.toList_data, hs']
    clear r2 g2 y2 HF s2 PT R1 M1 Y1 B1
    by_cases h0 : r = []
    · have e1 : s'.toList = [] := by rw [hsl, h0]
      have e2 : s'.toList.isEmpty = true := by rw [e1]; rfl
      have FO : Hid (∀ W, Below (w2.alloc (.cells (cN hh (.slice av ll.length cp)).toArray 55)).heap.size (w2.alloc (.cells (cN hh (.slice av ll.length cp)).toArray 55)) W → Calls Try.prog 34 #[vN hh (.slice av ll.length cp)] W fun e w' => e = .returned (.bool (formedT (.mk hh ll))) ∧ Below W.heap.size W w') := fun W hW => by
        have q := formed_any (.mk hh ll) W (.slice av ll.length cp) (by rw [T.kids_mk]; exact (S3.out.below hW).any)
        rw [T.hd_mk] at q; exact q
      have BR : Hid (∀ W : World, Below W.heap.size W W) := fun W => Below.refl _ _
      cases hfo : formedT (.mk hh ll) with
      | true =>
        rw [hfo] at FO
        have HE : Hid (R = (.mk hh ll, 0, 0)) := by unfold Hid; rw [HRR.out]; simp only [h0, if_true, hfo]
        clear hs' hsl HRR h0 hfo
        go_wp2_with (first | (refine storeN55 rfl _ _ rfl rfl hh av ll.length cp rfl ?_) | (refine loadN55 rfl _ rfl w2.heap.size 0 rfl hh _ N3.out.range ?_) | (go_at_call 34; refine (FO.out _ (BR.out _)).mono ?_; rintro e w6 ⟨rfl, b6⟩; have Y6 : Hid (BoxN 55 w6 w.heap.size hd0 (.slice none 0 0)) := Y3.out.below b6 Y3.out.lt; have N6 : Hid (BoxN 55 w6 w2.heap.size hh (.slice av ll.length cp)) := N3.out.below b6 N3.out.lt; have S6 : Hid (SV (fun b => w.heap.size + 1 ≤ b) w6 (.slice av ll.length cp) ll) := S3.out.below b6; have B6 : Hid (Below w.heap.size w w6) := B3.out.trans (b6.mono B3.out.size); clear b6) | (refine loadN55 rfl _ rfl w2.heap.size 0 rfl hh _ N6.out.range ?_) | (refine storeB55 rfl _ _ rfl w.heap.size rfl hh (.slice av ll.length cp) rfl rfl hd0 _ Y6.out ?_))
        exact bodyPost_ret (v := .tuple #[vN hh (.slice av ll.length cp), .int .i64 0, .int .i64 0]) (res55c 2 3 4 Try.results52 _ _ w.heap.size _ _ _ _ rfl rfl rfl (BoxN.row Y6.out _ _)) rfl (by
          rw [HE.out]
          refine ⟨.slice av ll.length cp, rfl, ?_, below_row B6.out (Nat.le_refl _) _⟩
          rw [T.kids_mk]
          exact S6.out.keep (by simp [World.setRow]) fun b q _ => ⟨by omega, setRow_other _ _ _ _ (by omega)⟩)
      | false =>
        rw [hfo] at FO
        have HE : Hid (R = (tNone, (s.size : Int), 10)) := by unfold Hid; rw [HRR.out, ← HLZ.out]; simp only [h0, if_true, hfo, Bool.false_eq_true, if_false]
        clear hs' hsl HRR h0 hfo
        go_wp2_with (first | (refine storeN55 rfl _ _ rfl rfl hh av ll.length cp rfl ?_) | (refine loadN55 rfl _ rfl w2.heap.size 0 rfl hh _ N3.out.range ?_) | (go_at_call 34; refine (FO.out _ (BR.out _)).mono ?_; rintro e w6 ⟨rfl, b6⟩; have Y6 : Hid (BoxN 55 w6 w.heap.size hd0 (.slice none 0 0)) := Y3.out.below b6 Y3.out.lt; have B6 : Hid (Below w.heap.size w w6) := B3.out.trans (b6.mono B3.out.size); clear b6) | (refine storeB55 rfl _ _ rfl w.heap.size rfl hd0 (.slice none 0 0) rfl rfl hd0 _ Y6.out ?_))
        exact bodyPost_ret (v := .tuple #[vN hd0 (.slice none 0 0), .int .i64 (s.size : Int), .int .i64 10]) (res55c 2 3 4 Try.results52 _ _ w.heap.size _ _ _ _ rfl rfl rfl (BoxN.row Y6.out _ _)) rfl (by
          rw [HE.out]
          exact ⟨.slice none 0 0, rfl, by rw [HNK.out]; exact SV.nil _ _, below_row B6.out (Nat.le_refl _) _⟩)
    · have e1 : ¬ s'.toList = [] := by rw [hsl]; exact h0
      have e2 : s'.toList.isEmpty = false := by rw [List.isEmpty_eq_false_iff]; exact e1
      have HE : Hid (R = (tNone, (s.size : Int) - s'.size, 10)) := by unfold Hid; rw [HRR.out, HZ'.out, ← HLZ.out]; simp only [if_neg h0]
      clear hs' hsl HRR h0
      go_wp2_with (refine storeN55 rfl _ _ rfl rfl hh av ll.length cp rfl ?_)
      refine wp_region_noPanic ?_
      refine wp_region_held_drew (S := fun W => W.cell? ⟨w.heap.size + 1, 0, none⟩ = some (.string s')) (by kernel_rfl) (hc) (fun hHeld => ?_)
      try simp only [Act.put, List.setIfInBounds_toArray, List.set_cons_zero, List.set_cons_succ]
      refine wpAnyH_take (i := 0) (oi := { dst := some 21, op := Go.Op.build 55 #[], type := 55, pos := "bre.go:26", after := #[], guard := none }) (v := ?_) rfl (by kernel_rfl) (by kernel_rfl) (by kernel_rfl) (fun _ _ _ h => h) (Or.inl ⟨by rfl, ?_⟩) hHeld ?_
      rotate_left 1
      · (intro wq hSq; (try dsimp only at hSq); go_simp; first | done | with_reducible rfl)
      try simp only [Act.put, List.setIfInBounds_toArray, List.set_cons_zero, List.set_cons_succ]
      refine wpAnyH_take (i := 1) (oi := { dst := some 22, op := Go.Op.move (Go.Operand.tmp 0), type := 9, pos := "bre.go:26", after := #[], guard := none }) (v := ?_) rfl (by kernel_rfl) (by kernel_rfl) (by kernel_rfl) (fun _ _ _ h => h) (Or.inl ⟨by rfl, ?_⟩) hHeld ?_
      rotate_left 1
      · (intro wq hSq; (try dsimp only at hSq); go_simp; first | done | with_reducible rfl)
      try simp only [Act.put, List.setIfInBounds_toArray, List.set_cons_zero, List.set_cons_succ]
      refine wpAnyH_take (i := 2) (oi := { dst := some 23, op := Go.Op.call { callee := Go.Callee.builtin Go.Builtin.len, args := #[Go.Operand.tmp 22], argTypes := #[9] }, type := 3, pos := "bre.go:26", after := #[{ on := 1, ground := Go.Ground.data }], guard := none }) (v := ?_) rfl (by kernel_rfl) (by kernel_rfl) (by kernel_rfl) (fun _ _ _ h => h) (Or.inl ⟨by rfl, ?_⟩) hHeld ?_
      rotate_left 1
      · (intro wq hSq; (try dsimp only at hSq); go_simp; first | done | with_reducible rfl)
      try simp only [Act.put, List.setIfInBounds_toArray, List.set_cons_zero, List.set_cons_succ]
      refine wpAnyH_take (i := 3) (oi := { dst := some 24, op := Go.Op.fieldAddr 95 (Go.Operand.tmp 5) 0, type := 0, pos := "bre.go:26", after := #[], guard := none }) (v := ?_) rfl (by kernel_rfl) (by kernel_rfl) (by kernel_rfl) (fun _ _ _ h => h) (Or.inl ⟨by rfl, ?_⟩) hHeld ?_
      rotate_left 1
      · (intro wq hSq; (try dsimp only at hSq); go_simp; first | done | with_reducible rfl)
      try simp only [Act.put, List.setIfInBounds_toArray, List.set_cons_zero, List.set_cons_succ]
      refine wpAnyH_take (i := 4) (oi := { dst := some 25, op := Go.Op.load 9 (Go.Operand.tmp 24), type := 9, pos := "bre.go:26", after := #[{ on := 3, ground := Go.Ground.data }], guard := none }) (v := ?_) rfl (by kernel_rfl) (by kernel_rfl) (by kernel_rfl) (fun _ _ _ h => h) (Or.inl ⟨by rfl, ?_⟩) hHeld ?_
      rotate_left 1
      · (intro wq hSq; (try dsimp only at hSq); go_simp; first | done | with_reducible rfl)
      try simp only [Act.put, List.setIfInBounds_toArray, List.set_cons_zero, List.set_cons_succ]
      refine wpAnyH_take (i := 5) (oi := { dst := some 26, op := Go.Op.call { callee := Go.Callee.builtin Go.Builtin.len, args := #[Go.Operand.tmp 25], argTypes := #[9] }, type := 3, pos := "bre.go:26", after := #[{ on := 4, ground := Go.Ground.data }], guard := none }) (v := ?_) rfl (by kernel_rfl) (by kernel_rfl) (by kernel_rfl) (fun _ _ _ h => h) (Or.inl ⟨by rfl, ?_⟩) hHeld ?_
      rotate_left 1
      · (intro wq hSq; (try dsimp only at hSq); go_simp; first | done | with_reducible rfl)
      try simp only [Act.put, List.setIfInBounds_toArray, List.set_cons_zero, List.set_cons_succ]
      refine wpAnyH_take (i := 6) (oi := { dst := some 27, op := Go.Op.binOp Go.BinOp.sub 3 (Go.Operand.tmp 23) (Go.Operand.tmp 26) 3, type := 3, pos := "bre.go:26", after := #[{ on := 2, ground := Go.Ground.data }, { on := 5, ground := Go.Ground.data }, { on := 7, ground := Go.Ground.gcOnly Go.Departure.lateStores }], guard := none }) (v := .int .i64 ((s.size : Int) - s'.size)) rfl (by kernel_rfl) (by kernel_rfl) (by kernel_rfl) (fun _ _ _ h => h) (Or.inl ⟨by rfl, ?_⟩) hHeld ?_
      · (intro wq hSq; (try dsimp only at hSq); have hwr : IntKind.i64.wrap ((s.size : Int) - s'.size) = (s.size : Int) - s'.size := (by rw [IntKind.wrap_i64]; omega); go_simp; first | done | with_reducible rfl)
      try simp only [Act.put, List.setIfInBounds_toArray, List.set_cons_zero, List.set_cons_succ]
      refine wpAnyH_ready (rs := [7]) (by kernel_rfl) (by simp) ?_
      refine AllReadyH.cons (o := { dst := none, op := Go.Op.store 55 (Go.Operand.tmp 2) (Go.Operand.tmp 21), type := 0, pos := "bre.go:26", after := #[{ on := 0, ground := Go.Ground.data }, { on := 0, ground := Go.Ground.phase }, { on := 1, ground := Go.Ground.textOnly Go.Departure.lateStores }, { on := 2, ground := Go.Ground.textOnly Go.Departure.lateStoresUnsure }, { on := 3, ground := Go.Ground.textOnly Go.Departure.lateStores }, { on := 4, ground := Go.Ground.textOnly Go.Departure.lateStores }, { on := 5, ground := Go.Ground.textOnly Go.Departure.lateStoresUnsure }, { on := 6, ground := Go.Ground.textOnly Go.Departure.lateStores }], guard := none }) rfl (fun K hK => ?_) AllReadyH.nil
      refine step_storeB55x rfl _ _ rfl w.heap.size rfl hd0 (.slice none 0 0) rfl rfl hd0 _ Y3.out ?_
      refine hK.out _ _ ((World.cell?_of_block (setRow_other _ _ _ _ (by show w.heap.size + 1 ≠ w.heap.size; omega))).trans hc) (fun hHeld1 => ?_)
      clear hK K hHeld
      try simp only [Act.put, List.setIfInBounds_toArray, List.set_cons_zero, List.set_cons_succ]
      refine wpAnyH_take (i := 8) (oi := { dst := some 3, op := Go.Op.assign (Go.Operand.tmp 27), type := 3, pos := "bre.go:26", after := #[{ on := 6, ground := Go.Ground.data }, { on := 7, ground := Go.Ground.chain }, { on := 0, ground := Go.Ground.phase }, { on := 1, ground := Go.Ground.phase }, { on := 2, ground := Go.Ground.phase }, { on := 3, ground := Go.Ground.phase }, { on := 4, ground := Go.Ground.phase }, { on := 5, ground := Go.Ground.phase }, { on := 6, ground := Go.Ground.phase }, { on := 7, ground := Go.Ground.phase }], guard := none }) (v := ?_) rfl (by kernel_rfl) (by kernel_rfl) (by kernel_rfl) (fun _ _ _ h => h) (Or.inl ⟨by rfl, ?_⟩) hHeld1 ?_
      rotate_left 1
      · (intro wq hSq; (try dsimp only at hSq); go_simp; first | done | with_reducible rfl)
      try simp only [Act.put, List.setIfInBounds_toArray, List.set_cons_zero, List.set_cons_succ]
      refine wpAnyH_take (i := 9) (oi := { dst := some 4, op := Go.Op.assign (Go.Operand.const (Go.Value.int Go.IntKind.i64 10)), type := 39, pos := "bre.go:26", after := #[{ on := 8, ground := Go.Ground.chain }, { on := 0, ground := Go.Ground.phase }, { on := 1, ground := Go.Ground.phase }, { on := 2, ground := Go.Ground.phase }, { on := 3, ground := Go.Ground.phase }, { on := 4, ground := Go.Ground.phase }, { on := 5, ground := Go.Ground.phase }, { on := 6, ground := Go.Ground.phase }, { on := 7, ground := Go.Ground.phase }, { on := 8, ground := Go.Ground.phase }], guard := none }) (v := ?_) rfl (by kernel_rfl) (by kernel_rfl) (by kernel_rfl) (fun _ _ _ h => h) (Or.inl ⟨by rfl, ?_⟩) hHeld1 ?_
      rotate_left 1
      · (intro wq hSq; (try dsimp only at hSq); go_simp; first | done | with_reducible rfl)
      try simp only [Act.put, List.setIfInBounds_toArray, List.set_cons_zero, List.set_cons_succ]
      refine wpAnyH_done (by kernel_rfl) ?_ _
      refine NoPanic.normal ?_
      go_wp2
      exact bodyPost_ret (v := .tuple #[vN hd0 (.slice none 0 0), .int .i64 ((s.size : Int) - s'.size), .int .i64 10]) (res55c 2 3 4 Try.results52 _ _ w.heap.size _ _ _ _ rfl rfl rfl (BoxN.row Y3.out _ _)) rfl (by
        rw [HE.out]
        exact ⟨.slice none 0 0, rfl, by rw [HNK.out]; exact SV.nil _ _, below_row B3.out.drew (Nat.le_refl _) _⟩)
end Go.Proofs.Ytndmjndokokmnaa
