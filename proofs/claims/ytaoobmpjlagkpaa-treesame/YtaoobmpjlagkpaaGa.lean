import Derived.Test.YtaoobmpjlagkpaaFg
import Derived.Test.YtaoobmpjlagkpaaTj
import Derived.Test.YtaoobmpjlagkpaaTg
import Derived.Test.YtaoobmpjlagkpaaEd
import Derived.Test.YtaoobmpjlagkpaaBt
namespace Go.Proofs.Ytaoobmpjlagkpaa
set_option linter.unusedSimpArgs false
set_option linter.unusedVariables false
open Go.RowKit
open Go.Deep
theorem vN_inj {h h' : Hd} {u u' : Value} (e : vN h u = vN h' u') : u = u' := by
  unfold vN at e
  injection e with e
  injection e with e
  simp only [List.cons.injEq] at e
  exact e.2.2.2.2.2.2.2.2.2.1
def Phi3 (ha hb : Hd) (la lb : List T) (n0 d : Nat) (v : Value) (W : World) : Prop :=
  match d with
  | 21 => ∃ u, v = vN ha u ∧ SV AnyB W u la
  | 23 => ∃ u, v = vN hb u ∧ SV AnyB W u lb
  | 5 => ∃ g, v = .pointer (some ⟨g, 0, none⟩) ∧ n0 ≤ g ∧ BoxN 55 W g hd0 (.slice none 0 0)
  | 6 => ∃ g, v = .pointer (some ⟨g, 0, none⟩) ∧ n0 ≤ g ∧ BoxN 55 W g hd0 (.slice none 0 0)
  | _ => True
def Fr3 (ha hb : Hd) (la lb : List T) (d : Nat) (v : Value) (w w' : World) : Prop :=
  match d with
  | 21 => ∀ u, v = vN ha u → SV (fun b => w.heap.size ≤ b) w' u la
  | 23 => ∀ u, v = vN hb u → SV (fun b => w.heap.size ≤ b) w' u lb
  | 5 => ∀ g, v = .pointer (some ⟨g, 0, none⟩) → w.heap.size ≤ g
  | 6 => ∀ g, v = .pointer (some ⟨g, 0, none⟩) → w.heap.size ≤ g
  | _ => True
def X3 (ha hb : Hd) (la lb : List T) (d d' : Nat) (v v' : Value) (W : World) : Prop :=
  (d = 5 → d' = 6 → ∀ g g', v = .pointer (some ⟨g, 0, none⟩) → v' = .pointer (some ⟨g', 0, none⟩) → g ≠ g') ∧
  ((d = 5 ∨ d = 6) → d' = 21 → ∀ g u, v = .pointer (some ⟨g, 0, none⟩) → v' = vN ha u → ∃ S : Nat → Prop, SV S W u la ∧ ¬ S g) ∧
  ((d = 5 ∨ d = 6) → d' = 23 → ∀ g u, v = .pointer (some ⟨g, 0, none⟩) → v' = vN hb u → ∃ S : Nat → Prop, SV S W u lb ∧ ¬ S g)
theorem phi3_below (ha hb : Hd) (la lb : List T) (n0 d : Nat) (v : Value) (w w' : World) (h : Phi3 ha hb la lb n0 d v w) (k : Below w.heap.size w w') : Phi3 ha hb la lb n0 d v w' := by
  unfold Phi3 at h ⊢
  split
  · obtain ⟨u, h1, h2⟩ := h; exact ⟨u, h1, h2.below k⟩
  · obtain ⟨u, h1, h2⟩ := h; exact ⟨u, h1, h2.below k⟩
  · obtain ⟨g, h1, h2, h3⟩ := h; exact ⟨g, h1, h2, h3.below k h3.lt⟩
  · obtain ⟨g, h1, h2, h3⟩ := h; exact ⟨g, h1, h2, h3.below k h3.lt⟩
  · trivial
theorem x3_below (ha hb : Hd) (la lb : List T) (d d' : Nat) (v v' : Value) (w w' : World) (h : X3 ha hb la lb d d' v v' w) (k : Below w.heap.size w w') : X3 ha hb la lb d d' v v' w' :=
  ⟨h.1, fun q1 q2 g u e1 e2 => by obtain ⟨S, s1, s2⟩ := h.2.1 q1 q2 g u e1 e2; exact ⟨S, s1.below k, s2⟩, fun q1 q2 g u e1 e2 => by obtain ⟨S, s1, s2⟩ := h.2.2 q1 q2 g u e1 e2; exact ⟨S, s1.below k, s2⟩⟩
theorem ptr_inj {g g' : Nat} (e : Value.pointer (some ⟨g, 0, none⟩) = .pointer (some ⟨g', 0, none⟩)) : g = g' := by
  injection e with e; injection e with e; injection e
theorem phi_box {ha hb : Hd} {la lb : List T} {n0 d : Nat} {v : Value} {w : World} (hd : d = 5 ∨ d = 6) (h : Phi3 ha hb la lb n0 d v w) : ∃ g, v = .pointer (some ⟨g, 0, none⟩) ∧ n0 ≤ g ∧ BoxN 55 w g hd0 (.slice none 0 0) := by
  rcases hd with rfl | rfl <;> exact h
theorem fr_box {ha hb : Hd} {la lb : List T} {d : Nat} {v : Value} {w w' : World} (hd : d = 5 ∨ d = 6) (h : Fr3 ha hb la lb d v w w') : ∀ g, v = .pointer (some ⟨g, 0, none⟩) → w.heap.size ≤ g := by
  rcases hd with rfl | rfl <;> exact h
theorem x3_new (ha hb : Hd) (la lb : List T) (n0 d d' : Nat) (v v' : Value) (w w' : World) (k : Below w.heap.size w w') (h1 : Phi3 ha hb la lb n0 d v w) (h2 : Phi3 ha hb la lb n0 d' v' w') (h3 : Fr3 ha hb la lb d' v' w w') :
    X3 ha hb la lb d d' v v' w' ∧ X3 ha hb la lb d' d v' v w' := by
  refine ⟨⟨fun q1 q2 g g' e1 e2 => ?_, fun q1 q2 g u e1 e2 => ?_, fun q1 q2 g u e1 e2 => ?_⟩, ⟨fun q1 q2 g g' e1 e2 => ?_, fun q1 q2 g u e1 e2 => ?_, fun q1 q2 g u e1 e2 => ?_⟩⟩
  · obtain ⟨g0, a1, a2, a3⟩ := phi_box (.inl q1) h1
    have := ptr_inj (e1.symm.trans a1); subst this
    have := fr_box (.inr q2) h3 g' e2
    have := a3.lt; omega
  · obtain ⟨g0, a1, a2, a3⟩ := phi_box q1 h1
    have := ptr_inj (e1.symm.trans a1); subst this
    subst q2
    exact ⟨_, h3 u e2, by have := a3.lt; omega⟩
  · obtain ⟨g0, a1, a2, a3⟩ := phi_box q1 h1
    have := ptr_inj (e1.symm.trans a1); subst this
    subst q2
    exact ⟨_, h3 u e2, by have := a3.lt; omega⟩
  · obtain ⟨g0, a1, a2, a3⟩ := phi_box (.inr q2) h1
    have := ptr_inj (e2.symm.trans a1); subst this
    have := fr_box (.inl q1) h3 g e1
    have := a3.lt; omega
  · have hg := fr_box q1 h3 g e1
    subst q2
    obtain ⟨u0, b1, b2⟩ := h1
    have := vN_inj (e2.symm.trans b1); subst this
    exact ⟨fun b => b < w.heap.size, (b2.weak (S' := fun b => b < w.heap.size) fun b _ hb => hb).below k, by omega⟩
  · have hg := fr_box q1 h3 g e1
    subst q2
    obtain ⟨u0, b1, b2⟩ := h1
    have := vN_inj (e2.symm.trans b1); subst this
    exact ⟨fun b => b < w.heap.size, (b2.weak (S' := fun b => b < w.heap.size) fun b _ hb => hb).below k, by omega⟩
theorem step_storeB55 {ops : Array Oper} {o : Oper} {a : Act} {w : World} {K : Act → World → Prop} {Q : Exit → Act → World → Prop} {Z : Prop} (hgd : o.guard = none) (x y : Operand) (ho : o.op = .store 55 x y) (g : Nat) (hx : a.eval x = .pointer (some ⟨g, 0, none⟩)) (hd : Hd) (u : Value) (hu : u.oneCell' = true) (hy : a.eval y = vN hd u) (h0 : Hd) (u0 : Value) (hb : BoxN 55 w g h0 u0)
    (h : K (a.put o.dst undef) (w.setRow g (cN hd u).toArray)) : if Region.wanted o (yielded ops a.tmps) = true then Oper.wp Try.prog o a w K Q else Z := by
  have hw : Region.wanted o (yielded ops a.tmps) = true := by simp [Region.wanted, hgd]
  rw [if_pos hw]
  exact wp_store_row 55 x y ho g _ hx hy 55 _ hb size55 rfl (all_oneCell_toArray (cN_ok hu)) h
theorem SV.setRow {S : Nat → Prop} {w : World} {u : Value} {l : List T} (h : SV S w u l) {g : Nat} (hg : ¬ S g) (cs : Array Value) : SV S (w.setRow g cs) u l :=
  h.keep (by simp [World.setRow]) fun b h1 h2 => ⟨h1, setRow_other _ _ _ _ (fun e => hg (e ▸ h1))⟩
/-- TreeSame's memory. -/
structure SameW (w W : World) (ha hb : Hd) (la lb : List T) (u v u1 u2 : Value) (g5 g6 : Nat) : Prop where
  a : BoxN 51 W w.heap.size ha u
  b : BoxN 51 W (w.heap.size + 1) hb v
  x : BoxN 55 W g5 ha u1
  y : BoxN 55 W g6 hb u2
  sa : SV AnyB W u la
  sb : SV AnyB W v lb
  sx : SV AnyB W u1 la
  sy : SV AnyB W u2 lb
  bel : Below w.heap.size w W
theorem SameW.below {w W W' : World} {ha hb : Hd} {la lb : List T} {u v u1 u2 : Value} {g5 g6 : Nat} (h : SameW w W ha hb la lb u v u1 u2 g5 g6) (k : Below W.heap.size W W') : SameW w W' ha hb la lb u v u1 u2 g5 g6 :=
  ⟨h.a.below k h.a.lt, h.b.below k h.b.lt, h.x.below k h.x.lt, h.y.below k h.y.lt, h.sa.below k, h.sb.below k, h.sx.below k, h.sy.below k, h.bel.trans (k.mono h.bel.size)⟩
theorem boxes2 (E : TypeId) (w : World) (h g : Hd) (u v : Value) : BoxN E ((w.alloc (.cells (cN h u).toArray E)).alloc (.cells (cN g v).toArray E)) w.heap.size h u ∧ BoxN E ((w.alloc (.cells (cN h u).toArray E)).alloc (.cells (cN g v).toArray E)) (w.heap.size + 1) g v ∧ Below w.heap.size w ((w.alloc (.cells (cN h u).toArray E)).alloc (.cells (cN g v).toArray E)) ∧ ((w.alloc (.cells (cN h u).toArray E)).alloc (.cells (cN g v).toArray E)).heap.size = w.heap.size + 1 + 1 := by
  have hz1 : (w.alloc (.cells (cN h u).toArray E)).heap.size = w.heap.size + 1 := by simp
  refine ⟨(BoxN.new E w h u).blk (Below.heap_alloc _ _ _ (by simp)), ?_, ((Below.refl _ _).alloc (Nat.le_refl _) _).alloc (by rw [hz1]; omega) _, by simp⟩
  have := BoxN.new E (w.alloc (.cells (cN h u).toArray E)) g v
  rw [hz1] at this; exact this
theorem andBoth {S1 S2 : Nat → Prop} {w : World} : (∀ t : T, ∀ b o, NAt S1 w b o t → NAt S2 w b o t → NAt (fun x => S1 x ∧ S2 x) w b o t) ∧ ∀ l : List T, ∀ b o, LAt S1 w b o l → LAt S2 w b o l → LAt (fun x => S1 x ∧ S2 x) w b o l := by
  refine T.both (p := fun t => ∀ b o, NAt S1 w b o t → NAt S2 w b o t → NAt (fun x => S1 x ∧ S2 x) w b o t) (q := fun l => ∀ b o, LAt S1 w b o l → LAt S2 w b o l → LAt (fun x => S1 x ∧ S2 x) w b o l) (fun h l q b o h1 h2 => ?_) (fun b o _ _ => trivial) (fun t r x y b o h1 h2 => ?_)
  · rw [NAt_mk] at h1 h2 ⊢
    obtain ⟨av, cp, b2, o2, r1, r2, r3, r4, r5, r6, r7⟩ := h1
    obtain ⟨av', cp', b2', o2', s1, s2, s3, s4, s5, s6, s7⟩ := h2
    have e1 := r1 9 _ rfl
    have e2 := s1 9 _ rfl
    rw [e1] at e2
    injection e2 with e2
    injection e2 with e3 _ e4
    subst e3 e4
    refine ⟨av, cp, b2, o2, r1, ⟨r2, s2⟩, r3, r4, r5, r6, ?_⟩
    rcases Nat.eq_zero_or_pos l.length with h0 | h0
    · have : l = [] := List.eq_nil_of_length_eq_zero h0
      subst this; trivial
    · have a1 := r6 h0
      have a2 := s6 h0
      rw [a1] at a2
      injection a2 with a2; injection a2 with a2 a3
      subst a2 a3
      exact q _ _ r7 s7
  · rw [LAt_cons] at h1 h2 ⊢
    exact ⟨x _ _ h1.1 h2.1, y _ _ h1.2 h2.2⟩
theorem svAnd {S1 S2 : Nat → Prop} {w : World} {u : Value} {l : List T} (h1 : SV S1 w u l) (h2 : SV S2 w u l) : SV (fun x => S1 x ∧ S2 x) w u l := by
  obtain ⟨av, cp, b, o, rfl, r4, r5, r6, r7⟩ := h1
  obtain ⟨av', cp', b', o', e, s4, s5, s6, s7⟩ := h2
  injection e with e3 _ e4
  subst e3 e4
  refine ⟨av, cp, b, o, rfl, r4, r5, r6, ?_⟩
  rcases Nat.eq_zero_or_pos l.length with h0 | h0
  · have : l = [] := List.eq_nil_of_length_eq_zero h0
    subst this; trivial
  · have a1 := r6 h0
    have a2 := s6 h0
    rw [a1] at a2
    injection a2 with a2; injection a2 with a2 a3
    subst a2 a3
    exact andBoth.2 l _ _ r7 s7
/-- Known twice of one slice, in blocks of S and in blocks of S': a store into two blocks, one not of S, one not of S', leaves it. -/
theorem sv12 {S1 S2 : Nat → Prop} {w : World} {u : Value} {l : List T} {g5 g6 : Nat} {c5 c6 : Array Value} (h1 : SV S1 w u l) (n1 : ¬ S1 g5) (h2 : SV S2 w u l) (n2 : ¬ S2 g6) : SV AnyB ((w.setRow g5 c5).setRow g6 c6) u l := by
  have both := svAnd h1 h2
  exact ((both.setRow (g := g5) (fun q => n1 q.1) c5).setRow (g := g6) (fun q => n2 q.2) c6).any
theorem sameW_end {w wB : World} {ha hb : Hd} {la lb : List T} {u v u1 u2 : Value} {g5 g6 : Nat} (a : BoxN 51 wB w.heap.size ha u) (b : BoxN 51 wB (w.heap.size + 1) hb v) (bel : Below w.heap.size w wB) (k5 : BoxN 55 wB g5 hd0 (.slice none 0 0)) (k6 : BoxN 55 wB g6 hd0 (.slice none 0 0))
    (n5 : w.heap.size + 1 + 1 ≤ g5) (n6 : w.heap.size + 1 + 1 ≤ g6) (x56 : g5 ≠ g6) {S1 S2 S3 S4 : Nat → Prop} (sv1 : SV S1 wB u1 la) (ns1 : ¬ S1 g5) (sv2 : SV S2 wB u1 la) (ns2 : ¬ S2 g6) (sv3 : SV S3 wB u2 lb) (ns3 : ¬ S3 g5) (sv4 : SV S4 wB u2 lb) (ns4 : ¬ S4 g6) (hu : SV AnyB w u la) (hv : SV AnyB w v lb) :
    SameW w ((wB.setRow g5 (cN ha u1).toArray).setRow g6 (cN hb u2).toArray) ha hb la lb u v u1 u2 g5 g6 := by
  have bel2 : Below w.heap.size w ((wB.setRow g5 (cN ha u1).toArray).setRow g6 (cN hb u2).toArray) := below_row (below_row bel (by omega) _) (by omega) _
  refine ⟨(a.blk (setRow_other _ _ _ _ (by omega))).blk (setRow_other _ _ _ _ (by omega)), (b.blk (setRow_other _ _ _ _ (by omega))).blk (setRow_other _ _ _ _ (by omega)), (k5.row ha u1).blk (setRow_other _ _ _ _ x56), (k6.blk (setRow_other _ _ _ _ (fun e => x56 e.symm))).row hb u2, hu.below bel2, hv.below bel2, ?_, ?_, bel2⟩
  · exact (sv12 sv1 ns1 sv2 ns2)
  · exact (sv12 sv3 ns3 sv4 ns4)
set_option maxHeartbeats 8000000 in
set_option maxRecDepth 100000 in
theorem treeSame_walk (t t' : T) (w : World) (u v : Value) (hu : SV AnyB w u t.kids) (hv : SV AnyB w v t'.kids) : Calls Try.prog 11 #[vN t.hd u, vN t'.hd v] w fun e w' => e = .returned (.bool true) ∧ Below w.heap.size w w' := by
  obtain ⟨h, la, rfl⟩ := t.out
  obtain ⟨g, lb, rfl⟩ := t'.out
  rw [T.kids_mk] at hu hv
  rw [T.hd_mk, T.hd_mk]
  have HUV : Hid (SV AnyB w u la ∧ SV AnyB w v lb) := ⟨hu, hv⟩
  have AW : Hid (∀ W, Calls Try.prog 28 #[] W fun e w' => e = .returned (.bool true) ∧ Below W.heap.size W w') := fun W => awake_any W
  have FA : Hid (∀ W, Below w.heap.size w W → Calls Try.prog 29 #[vN h u] W fun e w' => e = .returned (.bool (fewT (.mk h la))) ∧ Below W.heap.size W w') := fun W hW => by
    have q := few_any (.mk h la) W u (by rw [T.kids_mk]; exact hu.below hW); rw [T.hd_mk] at q; exact q
  have FB : Hid (∀ W, Below w.heap.size w W → Calls Try.prog 29 #[vN g v] W fun e w' => e = .returned (.bool (fewT (.mk g lb))) ∧ Below W.heap.size W w') := fun W hW => by
    have q := few_any (.mk g lb) W v (by rw [T.kids_mk]; exact hv.below hW); rw [T.hd_mk] at q; exact q
  obtain ⟨bx1, bx2, bx3, bx4⟩ := boxes2 51 w h g u v
  have TAc : fewT (.mk h la) = true → ∀ W, Below w.heap.size w W → Calls Try.prog 30 #[vN h u] W fun e w' => ∃ u', e = .returned (vN h u') ∧ SV (fun b => W.heap.size ≤ b) w' u' la ∧ Below W.heap.size W w' := fun hf W hW => by
    have q := theirs_any (.mk h la) W u (by rw [T.kids_mk]; exact hu.below hW) (by have := few_count hf; omega); rw [T.hd_mk, T.kids_mk] at q; exact q
  have TBc : fewT (.mk g lb) = true → ∀ W, Below w.heap.size w W → Calls Try.prog 30 #[vN g v] W fun e w' => ∃ u', e = .returned (vN g u') ∧ SV (fun b => W.heap.size ≤ b) w' u' lb ∧ Below W.heap.size W w' := fun hf W hW => by
    have q := theirs_any (.mk g lb) W v (by rw [T.kids_mk]; exact hv.below hW) (by have := few_count hf; omega); rw [T.hd_mk, T.kids_mk] at q; exact q
  have HW0 : Hid (BoxN 51 ((w.alloc (.cells (cN h u).toArray 51)).alloc (.cells (cN g v).toArray 51)) w.heap.size h u ∧ BoxN 51 ((w.alloc (.cells (cN h u).toArray 51)).alloc (.cells (cN g v).toArray 51)) (w.heap.size + 1) g v ∧ Below w.heap.size w ((w.alloc (.cells (cN h u).toArray 51)).alloc (.cells (cN g v).toArray 51))) := ⟨bx1, bx2, bx3⟩
  have HZ0 : Hid (w.heap.size + 1 + 1 ≤ ((w.alloc (.cells (cN h u).toArray 51)).alloc (.cells (cN g v).toArray 51)).heap.size) := by unfold Hid; omega
  clear bx1 bx2 bx3 bx4
  cases hfa : fewT (.mk h la) with
  | false =>
    rw [hfa] at FA
    clear hfa TAc TBc hu hv
    obtain ⟨k, c, x0, x1, x2, x3, nn, lo, hi⟩ := h
    obtain ⟨k', c', y0, y1, y2, y3, nn', lo', hi'⟩ := g
    change Calls Try.prog 11 #[.agg #[.int .i64 k, .int .u8 (c : Int), .int .u64 (x0 : Int), .int .u64 x1, .int .u64 x2, .int .u64 x3, .int .i64 nn, .int .i64 lo, .int .i64 hi, u], .agg #[.int .i64 k', .int .u8 (c' : Int), .int .u64 (y0 : Int), .int .u64 y1, .int .u64 y2, .int .u64 y3, .int .i64 nn', .int .i64 lo', .int .i64 hi', v]] w _
    go_enter Try.func11, Try.ntmps11
    go_wp2_with (first | (go_at_call 28; refine (AW.out _).mono ?_; rintro e w1 ⟨rfl, b1⟩; have S1 : Hid ((fun W => BoxN 51 W w.heap.size ⟨k, c, x0, x1, x2, x3, nn, lo, hi⟩ u ∧ BoxN 51 W (w.heap.size + 1) ⟨k', c', y0, y1, y2, y3, nn', lo', hi'⟩ v ∧ Below w.heap.size w W) w1) := ⟨HW0.out.1.below b1 HW0.out.1.lt, HW0.out.2.1.below b1 HW0.out.2.1.lt, HW0.out.2.2.trans (b1.mono HW0.out.2.2.size)⟩; have R1 : Hid (w1.rangeAt w.heap.size 0 (cN ⟨k, c, x0, x1, x2, x3, nn, lo, hi⟩ u)) := S1.out.1.range; clear b1) | (refine loadN51g rfl _ rfl w.heap.size 0 rfl ⟨k, c, x0, x1, x2, x3, nn, lo, hi⟩ _ R1.out ?_) | (go_at_call 29; refine (FA.out _ S1.out.2.2).mono ?_; rintro e w2 ⟨rfl, b2⟩; have B2 : Hid (Below w.heap.size w w2) := S1.out.2.2.trans (b2.mono S1.out.2.2.size); clear b2))
    all_goals (try (refine (AW.out _).mono ?_; rintro e w3 ⟨rfl, b3⟩))
    go_wp2_with fail
    all_goals (try (refine (AW.out _).mono ?_; rintro e w3 ⟨rfl, b3⟩))
    go_wp2
    go_ret
    exact ⟨rfl, B2.out.trans (b3.mono B2.out.size)⟩
  | true =>
    rw [hfa] at FA
    have TA : Hid (∀ W, Below w.heap.size w W → Calls Try.prog 30 #[vN h u] W fun e w' => ∃ u', e = .returned (vN h u') ∧ SV (fun b => W.heap.size ≤ b) w' u' la ∧ Below W.heap.size W w') := TAc hfa
    cases hfb : fewT (.mk g lb) with
    | false =>
      rw [hfb] at FB
      clear hfa hfb TAc TBc hu hv TA
      obtain ⟨k, c, x0, x1, x2, x3, nn, lo, hi⟩ := h
      obtain ⟨k', c', y0, y1, y2, y3, nn', lo', hi'⟩ := g
      change Calls Try.prog 11 #[.agg #[.int .i64 k, .int .u8 (c : Int), .int .u64 (x0 : Int), .int .u64 x1, .int .u64 x2, .int .u64 x3, .int .i64 nn, .int .i64 lo, .int .i64 hi, u], .agg #[.int .i64 k', .int .u8 (c' : Int), .int .u64 (y0 : Int), .int .u64 y1, .int .u64 y2, .int .u64 y3, .int .i64 nn', .int .i64 lo', .int .i64 hi', v]] w _
      go_enter Try.func11, Try.ntmps11
      go_wp2_with (first | (go_at_call 28; refine (AW.out _).mono ?_; rintro e w1 ⟨rfl, b1⟩; have S1 : Hid ((fun W => BoxN 51 W w.heap.size ⟨k, c, x0, x1, x2, x3, nn, lo, hi⟩ u ∧ BoxN 51 W (w.heap.size + 1) ⟨k', c', y0, y1, y2, y3, nn', lo', hi'⟩ v ∧ Below w.heap.size w W) w1) := ⟨HW0.out.1.below b1 HW0.out.1.lt, HW0.out.2.1.below b1 HW0.out.2.1.lt, HW0.out.2.2.trans (b1.mono HW0.out.2.2.size)⟩; have R1 : Hid (w1.rangeAt w.heap.size 0 (cN ⟨k, c, x0, x1, x2, x3, nn, lo, hi⟩ u)) := S1.out.1.range; clear b1) | (refine loadN51g rfl _ rfl w.heap.size 0 rfl ⟨k, c, x0, x1, x2, x3, nn, lo, hi⟩ _ R1.out ?_) | (go_at_call_of 29 (vN ⟨k, c, x0, x1, x2, x3, nn, lo, hi⟩ u); refine (FA.out _ S1.out.2.2).mono ?_; rintro e w2 ⟨rfl, b2⟩; have S2 : Hid ((fun W => BoxN 51 W w.heap.size ⟨k, c, x0, x1, x2, x3, nn, lo, hi⟩ u ∧ BoxN 51 W (w.heap.size + 1) ⟨k', c', y0, y1, y2, y3, nn', lo', hi'⟩ v ∧ Below w.heap.size w W) w2) := ⟨S1.out.1.below b2 S1.out.1.lt, S1.out.2.1.below b2 S1.out.2.1.lt, S1.out.2.2.trans (b2.mono S1.out.2.2.size)⟩; have R2 : Hid (w2.rangeAt (w.heap.size + 1) 0 (cN ⟨k', c', y0, y1, y2, y3, nn', lo', hi'⟩ v)) := S2.out.2.1.range; clear b2) | (refine loadN51g rfl _ rfl (w.heap.size + 1) 0 rfl ⟨k', c', y0, y1, y2, y3, nn', lo', hi'⟩ _ R2.out ?_) | (go_at_call 29; refine (FB.out _ S2.out.2.2).mono ?_; rintro e w4 ⟨rfl, b4⟩; have B2 : Hid (Below w.heap.size w w4) := S2.out.2.2.trans (b4.mono S2.out.2.2.size); clear b4))
      all_goals (try (refine (AW.out _).mono ?_; rintro e w3 ⟨rfl, b3⟩))
      go_wp2_with fail
      all_goals (try (refine (AW.out _).mono ?_; rintro e w3 ⟨rfl, b3⟩))
      go_wp2
      go_ret
      exact ⟨rfl, B2.out.trans (b3.mono B2.out.size)⟩
    | true =>
      rw [hfb] at FB
      have TB : Hid (∀ W, Below w.heap.size w W → Calls Try.prog 30 #[vN g v] W fun e w' => ∃ u', e = .returned (vN g u') ∧ SV (fun b => W.heap.size ≤ b) w' u' lb ∧ Below W.heap.size W w') := TBc hfb
      obtain ⟨R, hR⟩ : ∃ R, R = sameT (.mk h la) (.mk g lb) := ⟨_, rfl⟩
      have SM1 : Hid (∀ (W : World) (u1 u2 : Value), SV AnyB W u1 la → SV AnyB W u2 lb → Calls Try.prog 47 #[vN h u1, vN g u2] W fun e w' => e = .returned (.bool R) ∧ Below W.heap.size W w') := fun W u1 u2 q1 q2 => by
        have q := same_any (.mk h la) (.mk g lb) W u1 u2 (by rw [T.kids_mk]; exact q1) (by rw [T.kids_mk]; exact q2); rw [T.hd_mk, T.hd_mk, ← hR] at q; exact q
      have SM2 : Hid (∀ (W : World) (u1 u2 : Value), SV AnyB W u1 la → SV AnyB W u2 lb → Calls Try.prog 47 #[vN g u2, vN h u1] W fun e w' => e = .returned (.bool R) ∧ Below W.heap.size W w') := fun W u1 u2 q1 q2 => by
        have q := same_any (.mk g lb) (.mk h la) W u2 u1 (by rw [T.kids_mk]; exact q2) (by rw [T.kids_mk]; exact q1); rw [T.hd_mk, T.hd_mk, sameT_comm, ← hR] at q; exact q
      have SM3 : Hid (∀ (W : World) (u1 u2 : Value), SV AnyB W u1 la → SV AnyB W u2 la → Calls Try.prog 47 #[vN h u1, vN h u2] W fun e w' => e = .returned (.bool true) ∧ Below W.heap.size W w') := fun W u1 u2 q1 q2 => by
        have q := same_any (.mk h la) (.mk h la) W u1 u2 (by rw [T.kids_mk]; exact q1) (by rw [T.kids_mk]; exact q2); rw [T.hd_mk, same_refl.1] at q; exact q
      have SM4 : Hid (∀ (W : World), SV AnyB W u la → SV AnyB W v lb → Calls Try.prog 41 #[vN h u, vN g v] W fun e w' => e = .returned (.bool R) ∧ Below W.heap.size W w') := fun W q1 q2 => by
        have q := rsame_any (.mk h la) (.mk g lb) W u v (by rw [T.kids_mk]; exact q1) (by rw [T.kids_mk]; exact q2); rw [T.hd_mk, T.hd_mk, ← hR] at q; exact q
      clear hfa hfb TAc TBc hu hv hR
      obtain ⟨k, c, x0, x1, x2, x3, nn, lo, hi⟩ := h
      obtain ⟨k', c', y0, y1, y2, y3, nn', lo', hi'⟩ := g
      change Calls Try.prog 11 #[.agg #[.int .i64 k, .int .u8 (c : Int), .int .u64 (x0 : Int), .int .u64 x1, .int .u64 x2, .int .u64 x3, .int .i64 nn, .int .i64 lo, .int .i64 hi, u], .agg #[.int .i64 k', .int .u8 (c' : Int), .int .u64 (y0 : Int), .int .u64 y1, .int .u64 y2, .int .u64 y3, .int .i64 nn', .int .i64 lo', .int .i64 hi', v]] w _
      go_enter Try.func11, Try.ntmps11
      go_wp2_with (first | (go_at_call 28; refine (AW.out _).mono ?_; rintro e w1 ⟨rfl, b1⟩; have S1 : Hid ((fun W => BoxN 51 W w.heap.size ⟨k, c, x0, x1, x2, x3, nn, lo, hi⟩ u ∧ BoxN 51 W (w.heap.size + 1) ⟨k', c', y0, y1, y2, y3, nn', lo', hi'⟩ v ∧ Below w.heap.size w W) w1) := ⟨HW0.out.1.below b1 HW0.out.1.lt, HW0.out.2.1.below b1 HW0.out.2.1.lt, HW0.out.2.2.trans (b1.mono HW0.out.2.2.size)⟩; have R1 : Hid (w1.rangeAt w.heap.size 0 (cN ⟨k, c, x0, x1, x2, x3, nn, lo, hi⟩ u)) := S1.out.1.range; have Z1 : Hid (w.heap.size + 1 + 1 ≤ w1.heap.size) := Nat.le_trans HZ0.out b1.size; clear b1) | (refine loadN51g rfl _ rfl w.heap.size 0 rfl ⟨k, c, x0, x1, x2, x3, nn, lo, hi⟩ _ R1.out ?_) | (go_at_call_of 29 (vN ⟨k, c, x0, x1, x2, x3, nn, lo, hi⟩ u); refine (FA.out _ S1.out.2.2).mono ?_; rintro e w2 ⟨rfl, b2⟩; have S2 : Hid ((fun W => BoxN 51 W w.heap.size ⟨k, c, x0, x1, x2, x3, nn, lo, hi⟩ u ∧ BoxN 51 W (w.heap.size + 1) ⟨k', c', y0, y1, y2, y3, nn', lo', hi'⟩ v ∧ Below w.heap.size w W) w2) := ⟨S1.out.1.below b2 S1.out.1.lt, S1.out.2.1.below b2 S1.out.2.1.lt, S1.out.2.2.trans (b2.mono S1.out.2.2.size)⟩; have R2 : Hid (w2.rangeAt (w.heap.size + 1) 0 (cN ⟨k', c', y0, y1, y2, y3, nn', lo', hi'⟩ v)) := S2.out.2.1.range; have Z2 : Hid (w.heap.size + 1 + 1 ≤ w2.heap.size) := Nat.le_trans Z1.out b2.size; clear b2) | (refine loadN51g rfl _ rfl (w.heap.size + 1) 0 rfl ⟨k', c', y0, y1, y2, y3, nn', lo', hi'⟩ _ R2.out ?_) | (go_at_call 29; refine (FB.out _ S2.out.2.2).mono ?_; rintro e w4 ⟨rfl, b4⟩; have SS3 : Hid ((fun W => BoxN 51 W w.heap.size ⟨k, c, x0, x1, x2, x3, nn, lo, hi⟩ u ∧ BoxN 51 W (w.heap.size + 1) ⟨k', c', y0, y1, y2, y3, nn', lo', hi'⟩ v ∧ Below w.heap.size w W) w4.drew) := ⟨(S2.out.1.below b4 S2.out.1.lt).blk rfl, (S2.out.2.1.below b4 S2.out.2.1.lt).blk rfl, (S2.out.2.2.trans (b4.mono S2.out.2.2.size)).drew⟩; have HZ3 : Hid (w.heap.size + 1 + 1 ≤ w4.drew.heap.size) := Nat.le_trans Z2.out b4.size; clear b4))
      refine wp_region_noPanic ?_
      refine wp_region_held_drew (S := fun W => BoxN 51 W w.heap.size ⟨k, c, x0, x1, x2, x3, nn, lo, hi⟩ u ∧ BoxN 51 W (w.heap.size + 1) ⟨k', c', y0, y1, y2, y3, nn', lo', hi'⟩ v ∧ Below w.heap.size w W) (by kernel_rfl) (SS3.out) (fun hHeld => ?_)
      try simp only [Act.put, List.setIfInBounds_toArray, List.set_cons_zero, List.set_cons_succ]
      refine wpAnyH_take (i := 0) (oi := { dst := some 20, op := Go.Op.load 51 (Go.Operand.tmp 2), type := 51, pos := "law.go:80", after := #[], guard := none }) (v := vN ⟨k, c, x0, x1, x2, x3, nn, lo, hi⟩ u) rfl (by kernel_rfl) (by kernel_rfl) (by kernel_rfl) (fun _ _ _ h => h) (yieldsIf_load_mid rfl 51 _ rfl w.heap.size 0 rfl (cN ⟨k, c, x0, x1, x2, x3, nn, lo, hi⟩ u) _ (fun wq hSq => hSq.1.range) Try.underlying51 rfl size51) hHeld ?_
      try simp only [Act.put, List.setIfInBounds_toArray, List.set_cons_zero, List.set_cons_succ]
      refine wpAnyH_take (i := 2) (oi := { dst := some 22, op := Go.Op.load 51 (Go.Operand.tmp 3), type := 51, pos := "law.go:80", after := #[], guard := none }) (v := vN ⟨k', c', y0, y1, y2, y3, nn', lo', hi'⟩ v) rfl (by kernel_rfl) (by kernel_rfl) (by kernel_rfl) (fun _ _ _ h => h) (yieldsIf_load_mid rfl 51 _ rfl (w.heap.size + 1) 0 rfl (cN ⟨k', c', y0, y1, y2, y3, nn', lo', hi'⟩ v) _ (fun wq hSq => hSq.2.1.range) Try.underlying51 rfl size51) hHeld ?_
      try simp only [Act.put, List.setIfInBounds_toArray, List.set_cons_zero, List.set_cons_succ]
      refine wpAnyH_batch (B := [(1, 21, []), (3, 23, []), (4, 5, []), (5, 6, [])]) (R := fun w w' => Below w.heap.size w w') (Φ := Phi3 ⟨k, c, x0, x1, x2, x3, nn, lo, hi⟩ ⟨k', c', y0, y1, y2, y3, nn', lo', hi'⟩ la lb (w.heap.size + 1 + 1)) (Fr := Fr3 ⟨k, c, x0, x1, x2, x3, nn, lo, hi⟩ ⟨k', c', y0, y1, y2, y3, nn', lo', hi'⟩ la lb) (X := X3 ⟨k, c, x0, x1, x2, x3, nn, lo, hi⟩ ⟨k', c', y0, y1, y2, y3, nn', lo', hi'⟩ la lb) 2 (by kernel_rfl) (fun _ _ _ _ h => h) (Below.refl _ _) (fun _ _ h1 h2 => h1.trans (h2.mono h1.size)) (fun _ _ _ _ _ h k => phi3_below _ _ _ _ _ _ _ _ _ h k) (fun _ _ _ _ _ _ _ h k => x3_below _ _ _ _ _ _ _ _ _ _ h k) (fun _ _ _ _ _ _ _ k h1 h2 h3 => x3_new _ _ _ _ _ _ _ _ _ _ _ k h1 h2 h3) (fun W h => ⟨SS3.out.1.below h SS3.out.1.lt, SS3.out.2.1.below h SS3.out.2.1.lt, SS3.out.2.2.trans (h.mono SS3.out.2.2.size)⟩) ⟨StepB.mk ({ dst := some 21, op := Go.Op.call { callee := Go.Callee.value (Go.Operand.func 30), args := #[Go.Operand.tmp 20], argTypes := #[51] }, type := 55, pos := "law.go:80", after := #[{ on := 0, ground := Go.Ground.data }], guard := none } : Oper) rfl ?_, StepB.mk ({ dst := some 23, op := Go.Op.call { callee := Go.Callee.value (Go.Operand.func 30), args := #[Go.Operand.tmp 22], argTypes := #[51] }, type := 55, pos := "law.go:80", after := #[{ on := 2, ground := Go.Ground.data }, { on := 1, ground := Go.Ground.chain }], guard := none } : Oper) rfl ?_, StepB.mk ({ dst := some 5, op := Go.Op.alloc 55, type := 0, pos := "law.go:80", after := #[], guard := none } : Oper) rfl ?_, StepB.mk ({ dst := some 6, op := Go.Op.alloc 55, type := 0, pos := "law.go:80", after := #[], guard := none } : Oper) rfl ?_, trivial⟩ ?_
      · intro f wS hRS hFS K hK
        simp only [putT, Act.put, List.setIfInBounds_toArray, List.set_cons_zero, List.set_cons_succ] at hK ⊢
        have hB := SS3.out.2.2.trans (Below.mono hRS SS3.out.2.2.size)
        go_simp
        refine (TA.out _ hB).mono ?_
        rintro e w6 ⟨u1, rfl, s1, b6⟩
        exact hK.out _ _ b6 ⟨u1, rfl, s1.any⟩ (fun u' e' => by rw [← vN_inj e']; exact s1)
      · intro f wS hRS hFS K hK
        simp only [putT, Act.put, List.setIfInBounds_toArray, List.set_cons_zero, List.set_cons_succ] at hK ⊢
        have hB := SS3.out.2.2.trans (Below.mono hRS SS3.out.2.2.size)
        go_simp
        refine (TB.out _ hB).mono ?_
        rintro e w6 ⟨u1, rfl, s1, b6⟩
        exact hK.out _ _ b6 ⟨u1, rfl, s1.any⟩ (fun u' e' => by rw [← vN_inj e']; exact s1)
      · intro f wS hRS hFS K hK
        simp only [putT, Act.put, List.setIfInBounds_toArray, List.set_cons_zero, List.set_cons_succ] at hK ⊢
        have hs := hRS.size
        go_simp
        exact hK.out _ _ ((Below.refl _ _).alloc (Nat.le_refl _) _) ⟨wS.heap.size, rfl, Nat.le_trans HZ3.out hs, heap_alloc_last wS _⟩ (fun g' e' => by have := ptr_inj e'; omega)
      · intro f wS hRS hFS K hK
        simp only [putT, Act.put, List.setIfInBounds_toArray, List.set_cons_zero, List.set_cons_succ] at hK ⊢
        have hs := hRS.size
        go_simp
        exact hK.out _ _ ((Below.refl _ _).alloc (Nat.le_refl _) _) ⟨wS.heap.size, rfl, Nat.le_trans HZ3.out hs, heap_alloc_last wS _⟩ (fun g' e' => by have := ptr_inj e'; omega)
      intro f wB hRB hFB hXB
      simp only [List.map, setL, putT, Act.put, List.setIfInBounds_toArray, List.set_cons_zero, List.set_cons_succ]
      obtain ⟨u1, e21, s21⟩ := hFB 21 (by simp)
      obtain ⟨u2, e23, s23⟩ := hFB 23 (by simp)
      obtain ⟨g5, e5, n5, k5⟩ := hFB 5 (by simp)
      obtain ⟨g6, e6, n6, k6⟩ := hFB 6 (by simp)
      have x56 := (hXB 5 (by simp) 6 (by simp) (by omega)).1 rfl rfl g5 g6 e5 e6
      obtain ⟨S1, sv1, ns1⟩ := (hXB 5 (by simp) 21 (by simp) (by omega)).2.1 (.inl rfl) rfl g5 u1 e5 e21
      obtain ⟨S2, sv2, ns2⟩ := (hXB 6 (by simp) 21 (by simp) (by omega)).2.1 (.inr rfl) rfl g6 u1 e6 e21
      obtain ⟨S3, sv3, ns3⟩ := (hXB 5 (by simp) 23 (by simp) (by omega)).2.2 (.inl rfl) rfl g5 u2 e5 e23
      obtain ⟨S4, sv4, ns4⟩ := (hXB 6 (by simp) 23 (by simp) (by omega)).2.2 (.inr rfl) rfl g6 u2 e6 e23
      have hHeldB1 : (fun W => BoxN 51 W w.heap.size ⟨k, c, x0, x1, x2, x3, nn, lo, hi⟩ u ∧ BoxN 51 W (w.heap.size + 1) ⟨k', c', y0, y1, y2, y3, nn', lo', hi'⟩ v ∧ Below w.heap.size w W) wB := ⟨SS3.out.1.below hRB SS3.out.1.lt, SS3.out.2.1.below hRB SS3.out.2.1.lt, SS3.out.2.2.trans (Below.mono hRB SS3.out.2.2.size)⟩
      have SWE : Hid (SameW w ((wB.setRow g5 (cN ⟨k, c, x0, x1, x2, x3, nn, lo, hi⟩ u1).toArray).setRow g6 (cN ⟨k', c', y0, y1, y2, y3, nn', lo', hi'⟩ u2).toArray) ⟨k, c, x0, x1, x2, x3, nn, lo, hi⟩ ⟨k', c', y0, y1, y2, y3, nn', lo', hi'⟩ la lb u v u1 u2 g5 g6) := sameW_end hHeldB1.1 hHeldB1.2.1 hHeldB1.2.2 k5 k6 n5 n6 x56 sv1 ns1 sv2 ns2 sv3 ns3 sv4 ns4 HUV.out.1 HUV.out.2
      have HS5 : Hid ((fun W => BoxN 51 W w.heap.size ⟨k, c, x0, x1, x2, x3, nn, lo, hi⟩ u ∧ BoxN 51 W (w.heap.size + 1) ⟨k', c', y0, y1, y2, y3, nn', lo', hi'⟩ v ∧ Below w.heap.size w W) (wB.setRow g5 (cN ⟨k, c, x0, x1, x2, x3, nn, lo, hi⟩ u1).toArray)) := ⟨hHeldB1.1.blk (setRow_other _ _ _ _ (by omega)), hHeldB1.2.1.blk (setRow_other _ _ _ _ (by omega)), below_row hHeldB1.2.2 (by omega) _⟩
      have HS6 : Hid ((fun W => BoxN 51 W w.heap.size ⟨k, c, x0, x1, x2, x3, nn, lo, hi⟩ u ∧ BoxN 51 W (w.heap.size + 1) ⟨k', c', y0, y1, y2, y3, nn', lo', hi'⟩ v ∧ Below w.heap.size w W) ((wB.setRow g5 (cN ⟨k, c, x0, x1, x2, x3, nn, lo, hi⟩ u1).toArray).setRow g6 (cN ⟨k', c', y0, y1, y2, y3, nn', lo', hi'⟩ u2).toArray)) := ⟨HS5.out.1.blk (setRow_other _ _ _ _ (by omega)), HS5.out.2.1.blk (setRow_other _ _ _ _ (by omega)), below_row HS5.out.2.2 (by omega) _⟩
      have K5 : Hid (BoxN 55 wB g5 hd0 (.slice none 0 0)) := k5
      have K6 : Hid (BoxN 55 (wB.setRow g5 (cN ⟨k, c, x0, x1, x2, x3, nn, lo, hi⟩ u1).toArray) g6 hd0 (.slice none 0 0)) := k6.blk (setRow_other _ _ _ _ (fun e => x56 e.symm))
      obtain ⟨_, _, _, _, eu1, _⟩ := id s21
      obtain ⟨_, _, _, _, eu2, _⟩ := id s23
      have O1 : Hid (u1.oneCell' = true) := s21.one
      have O2 : Hid (u2.oneCell' = true) := s23.one
      rw [e21, e23, e5, e6]
      clear hFB hXB hRB e21 e23 e5 e6 s21 s23 k5 k6 n5 n6 x56 sv1 ns1 sv2 ns2 sv3 ns3 sv4 ns4 eu1 eu2
      refine wpAnyH_ready (rs := [6]) (by kernel_rfl) (by simp) ?_
      refine AllReadyH.cons (o := { dst := none, op := Go.Op.store 55 (Go.Operand.tmp 5) (Go.Operand.tmp 21), type := 0, pos := "law.go:80", after := #[{ on := 4, ground := Go.Ground.data }, { on := 1, ground := Go.Ground.data }, { on := 3, ground := Go.Ground.chain }, { on := 0, ground := Go.Ground.phase }, { on := 1, ground := Go.Ground.phase }, { on := 2, ground := Go.Ground.textOnly Go.Departure.lateStores }, { on := 3, ground := Go.Ground.textOnly Go.Departure.lateStoresUnsure }, { on := 4, ground := Go.Ground.phase }, { on := 5, ground := Go.Ground.phase }], guard := none }) rfl (fun K hK => ?_) AllReadyH.nil
      refine step_storeB55 rfl _ _ rfl g5 (by rfl) ⟨k, c, x0, x1, x2, x3, nn, lo, hi⟩ u1 O1.out (by rfl) hd0 (.slice none 0 0) K5.out ?_
      refine hK.out _ _ (HS5.out) (fun hHeld2 => ?_)
      clear hK K hHeldB1
      try simp only [Act.put, List.setIfInBounds_toArray, List.set_cons_zero, List.set_cons_succ]
      refine wpAnyH_ready (rs := [7]) (by kernel_rfl) (by simp) ?_
      refine AllReadyH.cons (o := { dst := none, op := Go.Op.store 55 (Go.Operand.tmp 6) (Go.Operand.tmp 23), type := 0, pos := "law.go:80", after := #[{ on := 5, ground := Go.Ground.data }, { on := 3, ground := Go.Ground.data }, { on := 6, ground := Go.Ground.chain }, { on := 0, ground := Go.Ground.phase }, { on := 1, ground := Go.Ground.phase }, { on := 2, ground := Go.Ground.phase }, { on := 3, ground := Go.Ground.phase }, { on := 4, ground := Go.Ground.phase }, { on := 5, ground := Go.Ground.phase }, { on := 6, ground := Go.Ground.phase }], guard := none }) rfl (fun K hK => ?_) AllReadyH.nil
      refine step_storeB55 rfl _ _ rfl g6 (by rfl) ⟨k', c', y0, y1, y2, y3, nn', lo', hi'⟩ u2 O2.out (by rfl) hd0 (.slice none 0 0) K6.out ?_
      refine hK.out _ _ (HS6.out) (fun hHeld3 => ?_)
      clear hK K hHeld2
      try simp only [Act.put, List.setIfInBounds_toArray, List.set_cons_zero, List.set_cons_succ]
      refine wpAnyH_done (by kernel_rfl) ?_ _
      refine NoPanic.normal ?_
      obtain ⟨wE, hwE⟩ : ∃ wE, wE = ((wB.setRow g5 (cN ⟨k, c, x0, x1, x2, x3, nn, lo, hi⟩ u1).toArray).setRow g6 (cN ⟨k', c', y0, y1, y2, y3, nn', lo', hi'⟩ u2).toArray) := ⟨_, rfl⟩
      rw [← hwE] at SWE ⊢
      have SW4 : Hid (SameW w wE.drew ⟨k, c, x0, x1, x2, x3, nn, lo, hi⟩ ⟨k', c', y0, y1, y2, y3, nn', lo', hi'⟩ la lb u v u1 u2 g5 g6) := SWE.out.below ((Below.refl _ _).drew)
      have SXY : Hid (∀ W, SameW w W ⟨k, c, x0, x1, x2, x3, nn, lo, hi⟩ ⟨k', c', y0, y1, y2, y3, nn', lo', hi'⟩ la lb u v u1 u2 g5 g6 → Calls Try.prog 47 #[vN ⟨k, c, x0, x1, x2, x3, nn, lo, hi⟩ u1, vN ⟨k', c', y0, y1, y2, y3, nn', lo', hi'⟩ u2] W fun e w' => e = .returned (.bool R) ∧ Below W.heap.size W w') := fun W q => SM1.out W u1 u2 q.sx q.sy
      have SYX : Hid (∀ W, SameW w W ⟨k, c, x0, x1, x2, x3, nn, lo, hi⟩ ⟨k', c', y0, y1, y2, y3, nn', lo', hi'⟩ la lb u v u1 u2 g5 g6 → Calls Try.prog 47 #[vN ⟨k', c', y0, y1, y2, y3, nn', lo', hi'⟩ u2, vN ⟨k, c, x0, x1, x2, x3, nn, lo, hi⟩ u1] W fun e w' => e = .returned (.bool R) ∧ Below W.heap.size W w') := fun W q => SM2.out W u1 u2 q.sx q.sy
      have RAB : Hid (∀ W, SameW w W ⟨k, c, x0, x1, x2, x3, nn, lo, hi⟩ ⟨k', c', y0, y1, y2, y3, nn', lo', hi'⟩ la lb u v u1 u2 g5 g6 → Calls Try.prog 41 #[vN ⟨k, c, x0, x1, x2, x3, nn, lo, hi⟩ u, vN ⟨k', c', y0, y1, y2, y3, nn', lo', hi'⟩ v] W fun e w' => e = .returned (.bool R) ∧ Below W.heap.size W w') := fun W q => SM4.out W q.sa q.sb
      have SXX : Hid (∀ W u3, SameW w W ⟨k, c, x0, x1, x2, x3, nn, lo, hi⟩ ⟨k', c', y0, y1, y2, y3, nn', lo', hi'⟩ la lb u v u1 u2 g5 g6 → SV AnyB W u3 la → Calls Try.prog 47 #[vN ⟨k, c, x0, x1, x2, x3, nn, lo, hi⟩ u1, vN ⟨k, c, x0, x1, x2, x3, nn, lo, hi⟩ u3] W fun e w' => e = .returned (.bool true) ∧ Below W.heap.size W w') := fun W u3 q q3 => SM3.out W u1 u3 q.sx q3
      have TA2 : Hid (∀ W, SameW w W ⟨k, c, x0, x1, x2, x3, nn, lo, hi⟩ ⟨k', c', y0, y1, y2, y3, nn', lo', hi'⟩ la lb u v u1 u2 g5 g6 → Calls Try.prog 30 #[vN ⟨k, c, x0, x1, x2, x3, nn, lo, hi⟩ u] W fun e w' => ∃ u', e = .returned (vN ⟨k, c, x0, x1, x2, x3, nn, lo, hi⟩ u') ∧ SV AnyB w' u' la ∧ Below W.heap.size W w') := fun W q => (TA.out W q.bel).mono fun e w' ⟨u', e1, e2, e3⟩ => ⟨u', e1, e2.any, e3⟩
      clear hwE HS5 HS6 K5 K6 O1 O2 SM1 SM2 SM3 SM4 TA TB FA FB AW SWE
      go_wp2
      refine wp_region_noPanic ?_
      refine wp_region_held_drew (S := fun W => SameW w W ⟨k, c, x0, x1, x2, x3, nn, lo, hi⟩ ⟨k', c', y0, y1, y2, y3, nn', lo', hi'⟩ la lb u v u1 u2 g5 g6) (by kernel_rfl) (SW4.out) (fun hHeld => ?_)
      try simp only [Act.put, List.setIfInBounds_toArray, List.set_cons_zero, List.set_cons_succ]
      refine wpAnyH_take (i := 0) (oi := { dst := some 24, op := Go.Op.load 55 (Go.Operand.tmp 5), type := 55, pos := "law.go:81", after := #[], guard := none }) (v := vN ⟨k, c, x0, x1, x2, x3, nn, lo, hi⟩ u1) rfl (by kernel_rfl) (by kernel_rfl) (by kernel_rfl) (fun _ _ _ h => h) (yieldsIf_load_mid rfl 55 _ rfl g5 0 rfl (cN ⟨k, c, x0, x1, x2, x3, nn, lo, hi⟩ u1) _ (fun wq hSq => hSq.x.range) Try.underlying55 rfl size55) hHeld ?_
      try simp only [Act.put, List.setIfInBounds_toArray, List.set_cons_zero, List.set_cons_succ]
      refine wpAnyH_take (i := 1) (oi := { dst := some 25, op := Go.Op.load 55 (Go.Operand.tmp 6), type := 55, pos := "law.go:81", after := #[], guard := none }) (v := vN ⟨k', c', y0, y1, y2, y3, nn', lo', hi'⟩ u2) rfl (by kernel_rfl) (by kernel_rfl) (by kernel_rfl) (fun _ _ _ h => h) (yieldsIf_load_mid rfl 55 _ rfl g6 0 rfl (cN ⟨k', c', y0, y1, y2, y3, nn', lo', hi'⟩ u2) _ (fun wq hSq => hSq.y.range) Try.underlying55 rfl size55) hHeld ?_
      try simp only [Act.put, List.setIfInBounds_toArray, List.set_cons_zero, List.set_cons_succ]
      refine wpAnyH_take (i := 3) (oi := { dst := some 27, op := Go.Op.load 51 (Go.Operand.tmp 2), type := 51, pos := "law.go:81", after := #[], guard := none }) (v := vN ⟨k, c, x0, x1, x2, x3, nn, lo, hi⟩ u) rfl (by kernel_rfl) (by kernel_rfl) (by kernel_rfl) (fun _ _ _ h => h) (yieldsIf_load_mid rfl 51 _ rfl w.heap.size 0 rfl (cN ⟨k, c, x0, x1, x2, x3, nn, lo, hi⟩ u) _ (fun wq hSq => hSq.a.range) Try.underlying51 rfl size51) hHeld ?_
      try simp only [Act.put, List.setIfInBounds_toArray, List.set_cons_zero, List.set_cons_succ]
      refine wpAnyH_take (i := 4) (oi := { dst := some 28, op := Go.Op.load 51 (Go.Operand.tmp 3), type := 51, pos := "law.go:81", after := #[], guard := none }) (v := vN ⟨k', c', y0, y1, y2, y3, nn', lo', hi'⟩ v) rfl (by kernel_rfl) (by kernel_rfl) (by kernel_rfl) (fun _ _ _ h => h) (yieldsIf_load_mid rfl 51 _ rfl (w.heap.size + 1) 0 rfl (cN ⟨k', c', y0, y1, y2, y3, nn', lo', hi'⟩ v) _ (fun wq hSq => hSq.b.range) Try.underlying51 rfl size51) hHeld ?_
      try simp only [Act.put, List.setIfInBounds_toArray, List.set_cons_zero, List.set_cons_succ]
      refine wpAnyH_ready (rs := [2]) (by kernel_rfl) (by simp) ?_
      refine AllReadyH.cons (o := { dst := some 26, op := Go.Op.call { callee := Go.Callee.value (Go.Operand.func 47), args := #[Go.Operand.tmp 24, Go.Operand.tmp 25], argTypes := #[55, 55] }, type := 4, pos := "law.go:81", after := #[{ on := 0, ground := Go.Ground.data }, { on := 1, ground := Go.Ground.data }], guard := none }) rfl (fun K hK => ?_) AllReadyH.nil
      go_simp
      refine (SXY.out _ (by assumption)).mono ?_
      rintro e w11 ⟨rfl, b11⟩
      have SX11 : SameW w w11 ⟨k, c, x0, x1, x2, x3, nn, lo, hi⟩ ⟨k', c', y0, y1, y2, y3, nn', lo', hi'⟩ la lb u v u1 u2 g5 g6 := SameW.below (by assumption) b11
      clear b11
      refine hK.out _ _ (SX11) (fun hHeld1 => ?_)
      clear hK K hHeld
      try simp only [Act.put, List.setIfInBounds_toArray, List.set_cons_zero, List.set_cons_succ]
      refine wpAnyH_ready (rs := [5]) (by kernel_rfl) (by simp) ?_
      refine AllReadyH.cons (o := { dst := some 29, op := Go.Op.call { callee := Go.Callee.value (Go.Operand.func 41), args := #[Go.Operand.tmp 27, Go.Operand.tmp 28], argTypes := #[51, 51] }, type := 4, pos := "law.go:81", after := #[{ on := 3, ground := Go.Ground.data }, { on := 4, ground := Go.Ground.data }, { on := 2, ground := Go.Ground.chain }], guard := none }) rfl (fun K hK => ?_) AllReadyH.nil
      go_simp
      refine (RAB.out _ (by assumption)).mono ?_
      rintro e w12 ⟨rfl, b12⟩
      have SX12 : SameW w w12 ⟨k, c, x0, x1, x2, x3, nn, lo, hi⟩ ⟨k', c', y0, y1, y2, y3, nn', lo', hi'⟩ la lb u v u1 u2 g5 g6 := SameW.below (by assumption) b12
      clear b12
      refine hK.out _ _ (SX12) (fun hHeld2 => ?_)
      clear hK K hHeld1
      try simp only [Act.put, List.setIfInBounds_toArray, List.set_cons_zero, List.set_cons_succ]
      refine wpAnyH_take (i := 6) (oi := { dst := some 30, op := Go.Op.binOp Go.BinOp.eql 4 (Go.Operand.tmp 26) (Go.Operand.tmp 29) 4, type := 4, pos := "law.go:81", after := #[{ on := 2, ground := Go.Ground.data }, { on := 5, ground := Go.Ground.data }], guard := none }) (v := .bool true) rfl (by kernel_rfl) (by kernel_rfl) (by kernel_rfl) (fun _ _ _ h => h) (Or.inl ⟨by rfl, ?_⟩) hHeld2 ?_
      · (intro wq hSq; (try dsimp only at hSq); go_simp; first | done | with_reducible rfl)
      try simp only [Act.put, List.setIfInBounds_toArray, List.set_cons_zero, List.set_cons_succ]
      refine wpAnyH_take (i := 7) (oi := { dst := some 31, op := Go.Op.move (Go.Operand.tmp 30), type := 4, pos := "law.go:81", after := #[{ on := 6, ground := Go.Ground.data }, { on := 5, ground := Go.Ground.chain }], guard := none }) (v := ?_) rfl (by kernel_rfl) (by kernel_rfl) (by kernel_rfl) (fun _ _ _ h => h) (Or.inl ⟨by rfl, ?_⟩) hHeld2 ?_
      rotate_left 1
      · (intro wq hSq; (try dsimp only at hSq); go_simp; first | done | with_reducible rfl)
      try simp only [Act.put, List.setIfInBounds_toArray, List.set_cons_zero, List.set_cons_succ]
      refine wpAnyH_take (i := 8) (oi := { dst := some 32, op := Go.Op.load 55 (Go.Operand.tmp 6), type := 55, pos := "law.go:81", after := #[{ on := 7, ground := Go.Ground.guard }], guard := some (7, true) }) (v := vN ⟨k', c', y0, y1, y2, y3, nn', lo', hi'⟩ u2) rfl (by kernel_rfl) (by kernel_rfl) (by kernel_rfl) (fun _ _ _ h => h) (yieldsIf_load_mid rfl 55 _ rfl g6 0 rfl (cN ⟨k', c', y0, y1, y2, y3, nn', lo', hi'⟩ u2) _ (fun wq hSq => hSq.y.range) Try.underlying55 rfl size55) hHeld2 ?_
      try simp only [Act.put, List.setIfInBounds_toArray, List.set_cons_zero, List.set_cons_succ]
      refine wpAnyH_take (i := 9) (oi := { dst := some 33, op := Go.Op.load 55 (Go.Operand.tmp 5), type := 55, pos := "law.go:81", after := #[{ on := 7, ground := Go.Ground.guard }], guard := some (7, true) }) (v := vN ⟨k, c, x0, x1, x2, x3, nn, lo, hi⟩ u1) rfl (by kernel_rfl) (by kernel_rfl) (by kernel_rfl) (fun _ _ _ h => h) (yieldsIf_load_mid rfl 55 _ rfl g5 0 rfl (cN ⟨k, c, x0, x1, x2, x3, nn, lo, hi⟩ u1) _ (fun wq hSq => hSq.x.range) Try.underlying55 rfl size55) hHeld2 ?_
      try simp only [Act.put, List.setIfInBounds_toArray, List.set_cons_zero, List.set_cons_succ]
      refine wpAnyH_take (i := 11) (oi := { dst := some 35, op := Go.Op.load 55 (Go.Operand.tmp 5), type := 55, pos := "law.go:81", after := #[{ on := 7, ground := Go.Ground.guard }], guard := some (7, true) }) (v := vN ⟨k, c, x0, x1, x2, x3, nn, lo, hi⟩ u1) rfl (by kernel_rfl) (by kernel_rfl) (by kernel_rfl) (fun _ _ _ h => h) (yieldsIf_load_mid rfl 55 _ rfl g5 0 rfl (cN ⟨k, c, x0, x1, x2, x3, nn, lo, hi⟩ u1) _ (fun wq hSq => hSq.x.range) Try.underlying55 rfl size55) hHeld2 ?_
      try simp only [Act.put, List.setIfInBounds_toArray, List.set_cons_zero, List.set_cons_succ]
      refine wpAnyH_take (i := 12) (oi := { dst := some 36, op := Go.Op.load 55 (Go.Operand.tmp 6), type := 55, pos := "law.go:81", after := #[{ on := 7, ground := Go.Ground.guard }], guard := some (7, true) }) (v := vN ⟨k', c', y0, y1, y2, y3, nn', lo', hi'⟩ u2) rfl (by kernel_rfl) (by kernel_rfl) (by kernel_rfl) (fun _ _ _ h => h) (yieldsIf_load_mid rfl 55 _ rfl g6 0 rfl (cN ⟨k', c', y0, y1, y2, y3, nn', lo', hi'⟩ u2) _ (fun wq hSq => hSq.y.range) Try.underlying55 rfl size55) hHeld2 ?_
      try simp only [Act.put, List.setIfInBounds_toArray, List.set_cons_zero, List.set_cons_succ]
      refine wpAnyH_ready (rs := [10]) (by kernel_rfl) (by simp) ?_
      refine AllReadyH.cons (o := { dst := some 34, op := Go.Op.call { callee := Go.Callee.value (Go.Operand.func 47), args := #[Go.Operand.tmp 32, Go.Operand.tmp 33], argTypes := #[55, 55] }, type := 4, pos := "law.go:81", after := #[{ on := 8, ground := Go.Ground.data }, { on := 9, ground := Go.Ground.data }, { on := 7, ground := Go.Ground.chain }, { on := 7, ground := Go.Ground.guard }], guard := some (7, true) }) rfl (fun K hK => ?_) AllReadyH.nil
      go_simp
      refine (SYX.out _ (by assumption)).mono ?_
      rintro e w13 ⟨rfl, b13⟩
      have SX13 : SameW w w13 ⟨k, c, x0, x1, x2, x3, nn, lo, hi⟩ ⟨k', c', y0, y1, y2, y3, nn', lo', hi'⟩ la lb u v u1 u2 g5 g6 := SameW.below (by assumption) b13
      clear b13
      refine hK.out _ _ (SX13) (fun hHeld3 => ?_)
      clear hK K hHeld2
      try simp only [Act.put, List.setIfInBounds_toArray, List.set_cons_zero, List.set_cons_succ]
      refine wpAnyH_ready (rs := [13]) (by kernel_rfl) (by simp) ?_
      refine AllReadyH.cons (o := { dst := some 37, op := Go.Op.call { callee := Go.Callee.value (Go.Operand.func 47), args := #[Go.Operand.tmp 35, Go.Operand.tmp 36], argTypes := #[55, 55] }, type := 4, pos := "law.go:81", after := #[{ on := 11, ground := Go.Ground.data }, { on := 12, ground := Go.Ground.data }, { on := 10, ground := Go.Ground.chain }, { on := 7, ground := Go.Ground.guard }], guard := some (7, true) }) rfl (fun K hK => ?_) AllReadyH.nil
      go_simp
      refine (SXY.out _ (by assumption)).mono ?_
      rintro e w14 ⟨rfl, b14⟩
      have SX14 : SameW w w14 ⟨k, c, x0, x1, x2, x3, nn, lo, hi⟩ ⟨k', c', y0, y1, y2, y3, nn', lo', hi'⟩ la lb u v u1 u2 g5 g6 := SameW.below (by assumption) b14
      clear b14
      refine hK.out _ _ (SX14) (fun hHeld4 => ?_)
      clear hK K hHeld3
      try simp only [Act.put, List.setIfInBounds_toArray, List.set_cons_zero, List.set_cons_succ]
      refine wpAnyH_take (i := 14) (oi := { dst := some 38, op := Go.Op.binOp Go.BinOp.eql 4 (Go.Operand.tmp 34) (Go.Operand.tmp 37) 4, type := 4, pos := "law.go:81", after := #[{ on := 10, ground := Go.Ground.data }, { on := 13, ground := Go.Ground.data }, { on := 7, ground := Go.Ground.guard }], guard := some (7, true) }) (v := .bool true) rfl (by kernel_rfl) (by kernel_rfl) (by kernel_rfl) (fun _ _ _ h => h) (Or.inl ⟨by rfl, ?_⟩) hHeld4 ?_
      · (intro wq hSq; (try dsimp only at hSq); go_simp; first | done | with_reducible rfl)
      try simp only [Act.put, List.setIfInBounds_toArray, List.set_cons_zero, List.set_cons_succ]
      refine wpAnyH_take (i := 15) (oi := { dst := some 39, op := Go.Op.pick (Go.Operand.tmp 31) (Go.Operand.tmp 38) (Go.Operand.const (Go.Value.bool false)), type := 4, pos := "law.go:81", after := #[{ on := 7, ground := Go.Ground.data }, { on := 14, ground := Go.Ground.data }], guard := none }) (v := .bool true) rfl (by kernel_rfl) (by kernel_rfl) (by kernel_rfl) (fun _ _ _ h => h) (Or.inl ⟨by rfl, ?_⟩) hHeld4 ?_
      · (intro wq hSq; (try dsimp only at hSq); go_simp; first | done | with_reducible rfl)
      try simp only [Act.put, List.setIfInBounds_toArray, List.set_cons_zero, List.set_cons_succ]
      refine wpAnyH_take (i := 16) (oi := { dst := some 40, op := Go.Op.move (Go.Operand.tmp 39), type := 4, pos := "law.go:81", after := #[{ on := 15, ground := Go.Ground.data }, { on := 13, ground := Go.Ground.chain }], guard := none }) (v := ?_) rfl (by kernel_rfl) (by kernel_rfl) (by kernel_rfl) (fun _ _ _ h => h) (Or.inl ⟨by rfl, ?_⟩) hHeld4 ?_
      rotate_left 1
      · (intro wq hSq; (try dsimp only at hSq); go_simp; first | done | with_reducible rfl)
      try simp only [Act.put, List.setIfInBounds_toArray, List.set_cons_zero, List.set_cons_succ]
      refine wpAnyH_take (i := 17) (oi := { dst := some 41, op := Go.Op.load 55 (Go.Operand.tmp 5), type := 55, pos := "law.go:81", after := #[{ on := 16, ground := Go.Ground.guard }], guard := some (16, true) }) (v := vN ⟨k, c, x0, x1, x2, x3, nn, lo, hi⟩ u1) rfl (by kernel_rfl) (by kernel_rfl) (by kernel_rfl) (fun _ _ _ h => h) (yieldsIf_load_mid rfl 55 _ rfl g5 0 rfl (cN ⟨k, c, x0, x1, x2, x3, nn, lo, hi⟩ u1) _ (fun wq hSq => hSq.x.range) Try.underlying55 rfl size55) hHeld4 ?_
      try simp only [Act.put, List.setIfInBounds_toArray, List.set_cons_zero, List.set_cons_succ]
      refine wpAnyH_take (i := 18) (oi := { dst := some 42, op := Go.Op.load 51 (Go.Operand.tmp 2), type := 51, pos := "law.go:81", after := #[{ on := 16, ground := Go.Ground.guard }], guard := some (16, true) }) (v := vN ⟨k, c, x0, x1, x2, x3, nn, lo, hi⟩ u) rfl (by kernel_rfl) (by kernel_rfl) (by kernel_rfl) (fun _ _ _ h => h) (yieldsIf_load_mid rfl 51 _ rfl w.heap.size 0 rfl (cN ⟨k, c, x0, x1, x2, x3, nn, lo, hi⟩ u) _ (fun wq hSq => hSq.a.range) Try.underlying51 rfl size51) hHeld4 ?_
      try simp only [Act.put, List.setIfInBounds_toArray, List.set_cons_zero, List.set_cons_succ]
      refine wpAnyH_ready (rs := [19]) (by kernel_rfl) (by simp) ?_
      refine AllReadyH.cons (o := { dst := some 43, op := Go.Op.call { callee := Go.Callee.value (Go.Operand.func 30), args := #[Go.Operand.tmp 42], argTypes := #[51] }, type := 55, pos := "law.go:81", after := #[{ on := 18, ground := Go.Ground.data }, { on := 16, ground := Go.Ground.chain }, { on := 16, ground := Go.Ground.guard }], guard := some (16, true) }) rfl (fun K hK => ?_) AllReadyH.nil
      go_simp
      refine (TA2.out _ (by assumption)).mono ?_
      rintro e w15 ⟨u3, rfl, s15, b15⟩
      have SX15 : SameW w w15 ⟨k, c, x0, x1, x2, x3, nn, lo, hi⟩ ⟨k', c', y0, y1, y2, y3, nn', lo', hi'⟩ la lb u v u1 u2 g5 g6 := SameW.below (by assumption) b15
      have S15 : Hid (SV AnyB w15 u3 la) := s15
      clear s15 b15
      refine hK.out _ _ (SX15) (fun hHeld5 => ?_)
      clear hK K hHeld4
      try simp only [Act.put, List.setIfInBounds_toArray, List.set_cons_zero, List.set_cons_succ]
      refine wpAnyH_ready (rs := [20]) (by kernel_rfl) (by simp) ?_
      refine AllReadyH.cons (o := { dst := some 44, op := Go.Op.call { callee := Go.Callee.value (Go.Operand.func 47), args := #[Go.Operand.tmp 41, Go.Operand.tmp 43], argTypes := #[55, 55] }, type := 4, pos := "law.go:81", after := #[{ on := 17, ground := Go.Ground.data }, { on := 19, ground := Go.Ground.data }, { on := 19, ground := Go.Ground.chain }, { on := 16, ground := Go.Ground.guard }], guard := some (16, true) }) rfl (fun K hK => ?_) AllReadyH.nil
      go_simp
      refine (SXX.out _ u3 (by assumption) S15.out).mono ?_
      rintro e w16 ⟨rfl, b16⟩
      have SX16 : SameW w w16 ⟨k, c, x0, x1, x2, x3, nn, lo, hi⟩ ⟨k', c', y0, y1, y2, y3, nn', lo', hi'⟩ la lb u v u1 u2 g5 g6 := SameW.below (by assumption) b16
      clear b16
      refine hK.out _ _ (SX16) (fun hHeld6 => ?_)
      clear hK K hHeld5
      try simp only [Act.put, List.setIfInBounds_toArray, List.set_cons_zero, List.set_cons_succ]
      refine wpAnyH_take (i := 21) (oi := { dst := some 45, op := Go.Op.pick (Go.Operand.tmp 40) (Go.Operand.tmp 44) (Go.Operand.const (Go.Value.bool false)), type := 4, pos := "law.go:81", after := #[{ on := 16, ground := Go.Ground.data }, { on := 20, ground := Go.Ground.data }], guard := none }) (v := .bool true) rfl (by kernel_rfl) (by kernel_rfl) (by kernel_rfl) (fun _ _ _ h => h) (Or.inl ⟨by rfl, ?_⟩) hHeld6 ?_
      · (intro wq hSq; (try dsimp only at hSq); go_simp; first | done | with_reducible rfl)
      try simp only [Act.put, List.setIfInBounds_toArray, List.set_cons_zero, List.set_cons_succ]
      refine wpAnyH_take (i := 22) (oi := { dst := some 4, op := Go.Op.assign (Go.Operand.tmp 45), type := 4, pos := "law.go:81", after := #[{ on := 21, ground := Go.Ground.data }, { on := 20, ground := Go.Ground.chain }, { on := 0, ground := Go.Ground.phase }, { on := 1, ground := Go.Ground.phase }, { on := 2, ground := Go.Ground.phase }, { on := 3, ground := Go.Ground.phase }, { on := 4, ground := Go.Ground.phase }, { on := 5, ground := Go.Ground.phase }, { on := 6, ground := Go.Ground.phase }, { on := 7, ground := Go.Ground.phase }, { on := 8, ground := Go.Ground.phase }, { on := 9, ground := Go.Ground.phase }, { on := 10, ground := Go.Ground.phase }, { on := 11, ground := Go.Ground.phase }, { on := 12, ground := Go.Ground.phase }, { on := 13, ground := Go.Ground.phase }, { on := 14, ground := Go.Ground.phase }, { on := 15, ground := Go.Ground.phase }, { on := 16, ground := Go.Ground.phase }, { on := 17, ground := Go.Ground.phase }, { on := 18, ground := Go.Ground.phase }, { on := 19, ground := Go.Ground.phase }, { on := 20, ground := Go.Ground.phase }, { on := 21, ground := Go.Ground.phase }], guard := none }) (v := ?_) rfl (by kernel_rfl) (by kernel_rfl) (by kernel_rfl) (fun _ _ _ h => h) (Or.inl ⟨by rfl, ?_⟩) hHeld6 ?_
      rotate_left 1
      · (intro wq hSq; (try dsimp only at hSq); go_simp; first | done | with_reducible rfl)
      try simp only [Act.put, List.setIfInBounds_toArray, List.set_cons_zero, List.set_cons_succ]
      refine wpAnyH_done (by kernel_rfl) ?_ _
      refine NoPanic.normal ?_
      go_wp2
      go_ret
      exact ⟨rfl, SX16.bel⟩
end Go.Proofs.Ytaoobmpjlagkpaa
