import Derived.Test.YtaoobmpjlagkpaaIa
import Derived.Test.YtaoobmpjlagkpaaIc
import Derived.Test.YtaoobmpjlagkpaaIg
import Derived.Test.YtaoobmpjlagkpaaFg
import Derived.Test.YtaoobmpjlagkpaaTj
import Derived.Test.YtaoobmpjlagkpaaTg
import Derived.Test.YtaoobmpjlagkpaaTf
namespace Go.Proofs.Ytaoobmpjlagkpaa
set_option linter.unusedSimpArgs false
set_option linter.unusedVariables false
open Go.RowKit
open Go.Deep
/-- TreeForms' memory. -/
structure FormW (w W : World) (h : Hd) (l : List T) (u u1 : Value) (g : Nat) : Prop where
  a : BoxN 51 W w.heap.size h u
  x : BoxN 55 W g h u1
  sa : SV AnyB W u l
  sx : SV AnyB W u1 l
  bel : Below w.heap.size w W
theorem FormW.below {w W W' : World} {h : Hd} {l : List T} {u u1 : Value} {g : Nat} (k : FormW w W h l u u1 g) (b : Below W.heap.size W W') : FormW w W' h l u u1 g :=
  ⟨k.a.below b k.a.lt, k.x.below b k.x.lt, k.sa.below b, k.sx.below b, k.bel.trans (b.mono k.bel.size)⟩
theorem formW_start {w W : World} {h : Hd} {l : List T} {u u1 : Value} {S : Nat → Prop} (a : BoxN 51 W w.heap.size h u) (hu : SV AnyB w u l) (b : Below w.heap.size w W) (s1 : SV S W u1 l) :
    FormW w (W.alloc (.cells (cN h u1).toArray 55)).drew h l u u1 W.heap.size := by
  have b1 : Below W.heap.size W (W.alloc (.cells (cN h u1).toArray 55)).drew := ((Below.refl _ _).alloc (Nat.le_refl _) _).drew
  have x1 : BoxN 55 (W.alloc (.cells (cN h u1).toArray 55)).drew W.heap.size h u1 := (BoxN.new 55 W h u1).blk rfl
  exact ⟨a.below b1 a.lt, x1, (hu.below b).below b1, s1.any.below b1, b.trans (b1.mono b.size)⟩
set_option maxHeartbeats 8000000 in
set_option maxRecDepth 100000 in
theorem treeForms_walk (t : T) (w : World) (u : Value) (hu : SV AnyB w u t.kids) : Calls Try.prog 9 #[vN t.hd u] w fun e w' => e = .returned (.bool true) ∧ Below w.heap.size w w' := by
  obtain ⟨h, l, rfl⟩ := t.out
  rw [T.kids_mk] at hu
  rw [T.hd_mk]
  have HU : Hid (SV AnyB w u l) := hu
  have AW : Hid (∀ W, Calls Try.prog 28 #[] W fun e w' => e = .returned (.bool true) ∧ Below W.heap.size W w') := fun W => awake_any W
  have FA : Hid (∀ W, Below w.heap.size w W → Calls Try.prog 29 #[vN h u] W fun e w' => e = .returned (.bool (fewT (.mk h l))) ∧ Below W.heap.size W w') := fun W hW => by
    have q := few_any (.mk h l) W u (by rw [T.kids_mk]; exact hu.below hW); rw [T.hd_mk] at q; exact q
  have TAc : fewT (.mk h l) = true → ∀ W, Below w.heap.size w W → Calls Try.prog 30 #[vN h u] W fun e w' => ∃ u', e = .returned (vN h u') ∧ SV (fun b => W.heap.size ≤ b) w' u' l ∧ Below W.heap.size W w' := fun hf W hW => by
    have q := theirs_any (.mk h l) W u (by rw [T.kids_mk]; exact hu.below hW) (by have := few_count hf; omega); rw [T.hd_mk, T.kids_mk] at q; exact q
  have X0 : Hid (BoxN 51 (w.alloc (.cells (cN h u).toArray 51)) w.heap.size h u) := BoxN.new 51 w h u
  have B0 : Hid (Below w.heap.size w (w.alloc (.cells (cN h u).toArray 51))) := (Below.refl _ _).alloc (Nat.le_refl _) _
  cases hfa : fewT (.mk h l) with
  | false =>
    rw [hfa] at FA
    clear hfa TAc hu
    obtain ⟨k, c, x0, x1, x2, x3, nn, lo, hi⟩ := h
    change Calls Try.prog 9 #[.agg #[.int .i64 k, .int .u8 (c : Int), .int .u64 (x0 : Int), .int .u64 x1, .int .u64 x2, .int .u64 x3, .int .i64 nn, .int .i64 lo, .int .i64 hi, u]] w _
    go_enter Try.func9, Try.ntmps9
    go_wp2_with (first | (go_at_call 28; refine (AW.out _).mono ?_; rintro e w1 ⟨rfl, b1⟩; have R1 : Hid (w1.rangeAt w.heap.size 0 (cN ⟨k, c, x0, x1, x2, x3, nn, lo, hi⟩ u)) := (X0.out.below b1 X0.out.lt).range; have B1 : Hid (Below w.heap.size w w1) := B0.out.trans (b1.mono B0.out.size); clear b1) | (refine loadN51g rfl _ rfl w.heap.size 0 rfl ⟨k, c, x0, x1, x2, x3, nn, lo, hi⟩ _ R1.out ?_) | (go_at_call 29; refine (FA.out _ B1.out).mono ?_; rintro e w2 ⟨rfl, b2⟩; have B2 : Hid (Below w.heap.size w w2) := B1.out.trans (b2.mono B1.out.size); clear b2))
    all_goals (try (refine (AW.out _).mono ?_; rintro e w3 ⟨rfl, b3⟩))
    go_wp2_with fail
    all_goals (try (refine (AW.out _).mono ?_; rintro e w3 ⟨rfl, b3⟩))
    go_wp2
    go_ret
    exact ⟨rfl, B2.out.trans (b3.mono B2.out.size)⟩
  | true =>
    rw [hfa] at FA
    have hcn : countT (.mk h l) ≤ 1000000 := by have := few_count hfa; omega
    have TA : Hid (∀ W, Below w.heap.size w W → Calls Try.prog 30 #[vN h u] W fun e w' => ∃ u', e = .returned (vN h u') ∧ SV (fun b => W.heap.size ≤ b) w' u' l ∧ Below W.heap.size W w') := TAc hfa
    have PP : Hid (∀ u1 g, Hid (∀ W, FormW w W h l u u1 g → (Calls Try.prog 31 #[vN h u1] W fun e w' => e = .returned (.bool (formedT (.mk h l))) ∧ Below W.heap.size W w') ∧ (Calls Try.prog 32 #[vN h u] W fun e w' => e = .returned (.bool (formedT (.mk h l))) ∧ Below W.heap.size W w') ∧
        (Calls Try.prog 33 #[vN h u1] W fun e w' => e = .returned (.int .i64 ((countT (.mk h l) : Nat) : Int)) ∧ Below W.heap.size W w') ∧ (Calls Try.prog 34 #[vN h u] W fun e w' => e = .returned (.int .i64 ((countT (.mk h l) : Nat) : Int)) ∧ Below W.heap.size W w') ∧
        (Calls Try.prog 35 #[vN h u1] W fun e w' => e = .returned (.int .i64 ((deepT (.mk h l) : Nat) : Int)) ∧ Below W.heap.size W w') ∧ (Calls Try.prog 36 #[vN h u] W fun e w' => e = .returned (.int .i64 ((deepT (.mk h l) : Nat) : Int)) ∧ Below W.heap.size W w') ∧
        (Calls Try.prog 37 #[vN h u1] W fun e w' => e = .returned (.int .i64 ((groupsT (.mk h l) : Nat) : Int)) ∧ Below W.heap.size W w') ∧ (Calls Try.prog 38 #[vN h u] W fun e w' => e = .returned (.int .i64 ((groupsT (.mk h l) : Nat) : Int)) ∧ Below W.heap.size W w') ∧
        (Calls Try.prog 39 #[vN h u1] W fun e w' => e = .returned (.int .i64 (leastT (.mk h l))) ∧ Below W.heap.size W w') ∧ (Calls Try.prog 40 #[vN h u] W fun e w' => e = .returned (.int .i64 (leastT (.mk h l))) ∧ Below W.heap.size W w'))) := fun u1 g W k => by
      have s1 : SV AnyB W u1 (T.mk h l).kids := by rw [T.kids_mk]; exact k.sx
      have s2 : SV AnyB W u (T.mk h l).kids := by rw [T.kids_mk]; exact k.sa
      have q1 := formed_any (.mk h l) W u1 s1
      have q2 := rformed_any (.mk h l) W u s2 hcn
      have q3 := count_any (.mk h l) W u1 s1 hcn
      have q4 := rcount_any (.mk h l) W u s2 hcn
      have q5 := deep_any (.mk h l) W u1 s1 hcn
      have q6 := rdeep_any (.mk h l) W u s2 hcn
      have q7 := groups_any (.mk h l) W u1 s1 hcn
      have q8 := rgroups_any (.mk h l) W u s2 hcn
      have q9 := least_any (.mk h l) W u1 s1
      have q10 := rleast_any (.mk h l) W u s2
      rw [T.hd_mk] at q1 q2 q3 q4 q5 q6 q7 q8 q9 q10
      exact ⟨q1, q2, q3, q4, q5, q6, q7, q8, q9, q10⟩
    generalize formedT (.mk h l) = RF at *
    generalize ((countT (.mk h l) : Nat) : Int) = RC at *
    generalize ((deepT (.mk h l) : Nat) : Int) = RD at *
    generalize ((groupsT (.mk h l) : Nat) : Int) = RG at *
    generalize leastT (.mk h l) = RL at *
    clear hfa TAc hu hcn
    obtain ⟨k, c, x0, x1, x2, x3, nn, lo, hi⟩ := h
    change Calls Try.prog 9 #[.agg #[.int .i64 k, .int .u8 (c : Int), .int .u64 (x0 : Int), .int .u64 x1, .int .u64 x2, .int .u64 x3, .int .i64 nn, .int .i64 lo, .int .i64 hi, u]] w _
    go_enter Try.func9, Try.ntmps9
    go_wp2_with (first | (go_at_call 28; refine (AW.out _).mono ?_; rintro e w1 ⟨rfl, b1⟩; have X1 : Hid (BoxN 51 w1 w.heap.size ⟨k, c, x0, x1, x2, x3, nn, lo, hi⟩ u) := X0.out.below b1 X0.out.lt; have R1 : Hid (w1.rangeAt w.heap.size 0 (cN ⟨k, c, x0, x1, x2, x3, nn, lo, hi⟩ u)) := X1.out.range; have B1 : Hid (Below w.heap.size w w1) := B0.out.trans (b1.mono B0.out.size); clear b1) | (refine loadN51g rfl _ rfl w.heap.size 0 rfl ⟨k, c, x0, x1, x2, x3, nn, lo, hi⟩ _ R1.out ?_) | (go_at_call 29; refine (FA.out _ B1.out).mono ?_; rintro e w2 ⟨rfl, b2⟩; have X2 : Hid (BoxN 51 w2 w.heap.size ⟨k, c, x0, x1, x2, x3, nn, lo, hi⟩ u) := X1.out.below b2 X1.out.lt; have R2 : Hid (w2.rangeAt w.heap.size 0 (cN ⟨k, c, x0, x1, x2, x3, nn, lo, hi⟩ u)) := X2.out.range; have B2 : Hid (Below w.heap.size w w2) := B1.out.trans (b2.mono B1.out.size); clear b2) | (refine loadN51 rfl _ rfl w.heap.size 0 rfl ⟨k, c, x0, x1, x2, x3, nn, lo, hi⟩ _ R2.out ?_) | (go_at_call 30; refine (TA.out _ B2.out).mono ?_; rintro e w3 ⟨u1, rfl, s1, b3⟩; obtain ⟨av1, cp1, bb1, oo1, hu1, hrest⟩ := id s1; clear hrest; subst hu1; have SW4 : Hid (FormW w (w3.alloc (.cells (cN ⟨k, c, x0, x1, x2, x3, nn, lo, hi⟩ (.slice av1 l.length cp1)).toArray 55)).drew ⟨k, c, x0, x1, x2, x3, nn, lo, hi⟩ l u (.slice av1 l.length cp1) w3.heap.size) := formW_start (X2.out.below b3 X2.out.lt) HU.out (B2.out.trans (b3.mono B2.out.size)) s1; clear b3 s1) | (refine storeN55 rfl _ _ rfl rfl ⟨k, c, x0, x1, x2, x3, nn, lo, hi⟩ av1 l.length cp1 rfl ?_))
    obtain ⟨g, hg⟩ : ∃ g, g = w3.heap.size := ⟨_, rfl⟩
    rw [← hg] at SW4 ⊢
    have PQ := PP.out (.slice av1 l.length cp1) g
    have SW4 := SW4.out
    generalize (w3.alloc (.cells (cN ⟨k, c, x0, x1, x2, x3, nn, lo, hi⟩ (.slice av1 l.length cp1)).toArray 55)) = w4 at *
    have P31 : Hid (∀ W, FormW w W ⟨k, c, x0, x1, x2, x3, nn, lo, hi⟩ l u (.slice av1 l.length cp1) g → Calls Try.prog 31 #[vN ⟨k, c, x0, x1, x2, x3, nn, lo, hi⟩ (.slice av1 l.length cp1)] W fun e w' => e = .returned (.bool RF) ∧ Below W.heap.size W w') := fun W k => (PQ.out W k).1
    have P32 : Hid (∀ W, FormW w W ⟨k, c, x0, x1, x2, x3, nn, lo, hi⟩ l u (.slice av1 l.length cp1) g → Calls Try.prog 32 #[vN ⟨k, c, x0, x1, x2, x3, nn, lo, hi⟩ u] W fun e w' => e = .returned (.bool RF) ∧ Below W.heap.size W w') := fun W k => (PQ.out W k).2.1
    have P33 : Hid (∀ W, FormW w W ⟨k, c, x0, x1, x2, x3, nn, lo, hi⟩ l u (.slice av1 l.length cp1) g → Calls Try.prog 33 #[vN ⟨k, c, x0, x1, x2, x3, nn, lo, hi⟩ (.slice av1 l.length cp1)] W fun e w' => e = .returned (.int .i64 RC) ∧ Below W.heap.size W w') := fun W k => (PQ.out W k).2.2.1
    have P34 : Hid (∀ W, FormW w W ⟨k, c, x0, x1, x2, x3, nn, lo, hi⟩ l u (.slice av1 l.length cp1) g → Calls Try.prog 34 #[vN ⟨k, c, x0, x1, x2, x3, nn, lo, hi⟩ u] W fun e w' => e = .returned (.int .i64 RC) ∧ Below W.heap.size W w') := fun W k => (PQ.out W k).2.2.2.1
    have P35 : Hid (∀ W, FormW w W ⟨k, c, x0, x1, x2, x3, nn, lo, hi⟩ l u (.slice av1 l.length cp1) g → Calls Try.prog 35 #[vN ⟨k, c, x0, x1, x2, x3, nn, lo, hi⟩ (.slice av1 l.length cp1)] W fun e w' => e = .returned (.int .i64 RD) ∧ Below W.heap.size W w') := fun W k => (PQ.out W k).2.2.2.2.1
    have P36 : Hid (∀ W, FormW w W ⟨k, c, x0, x1, x2, x3, nn, lo, hi⟩ l u (.slice av1 l.length cp1) g → Calls Try.prog 36 #[vN ⟨k, c, x0, x1, x2, x3, nn, lo, hi⟩ u] W fun e w' => e = .returned (.int .i64 RD) ∧ Below W.heap.size W w') := fun W k => (PQ.out W k).2.2.2.2.2.1
    have P37 : Hid (∀ W, FormW w W ⟨k, c, x0, x1, x2, x3, nn, lo, hi⟩ l u (.slice av1 l.length cp1) g → Calls Try.prog 37 #[vN ⟨k, c, x0, x1, x2, x3, nn, lo, hi⟩ (.slice av1 l.length cp1)] W fun e w' => e = .returned (.int .i64 RG) ∧ Below W.heap.size W w') := fun W k => (PQ.out W k).2.2.2.2.2.2.1
    have P38 : Hid (∀ W, FormW w W ⟨k, c, x0, x1, x2, x3, nn, lo, hi⟩ l u (.slice av1 l.length cp1) g → Calls Try.prog 38 #[vN ⟨k, c, x0, x1, x2, x3, nn, lo, hi⟩ u] W fun e w' => e = .returned (.int .i64 RG) ∧ Below W.heap.size W w') := fun W k => (PQ.out W k).2.2.2.2.2.2.2.1
    have P39 : Hid (∀ W, FormW w W ⟨k, c, x0, x1, x2, x3, nn, lo, hi⟩ l u (.slice av1 l.length cp1) g → Calls Try.prog 39 #[vN ⟨k, c, x0, x1, x2, x3, nn, lo, hi⟩ (.slice av1 l.length cp1)] W fun e w' => e = .returned (.int .i64 RL) ∧ Below W.heap.size W w') := fun W k => (PQ.out W k).2.2.2.2.2.2.2.2.1
    have P40 : Hid (∀ W, FormW w W ⟨k, c, x0, x1, x2, x3, nn, lo, hi⟩ l u (.slice av1 l.length cp1) g → Calls Try.prog 40 #[vN ⟨k, c, x0, x1, x2, x3, nn, lo, hi⟩ u] W fun e w' => e = .returned (.int .i64 RL) ∧ Below W.heap.size W w') := fun W k => (PQ.out W k).2.2.2.2.2.2.2.2.2
    clear hg PQ PP AW FA TA X0 B0 X1 R1 B1 X2 R2 B2
    refine wp_region_noPanic ?_
    refine wp_region_held_drew (S := fun W => FormW w W ⟨k, c, x0, x1, x2, x3, nn, lo, hi⟩ l u (.slice av1 l.length cp1) g) (by kernel_rfl) (SW4) (fun hHeld => ?_)
    try simp only [Act.put, List.setIfInBounds_toArray, List.set_cons_zero, List.set_cons_succ]
    refine wpAnyH_take (i := 0) (oi := { dst := some 14, op := Go.Op.load 55 (Go.Operand.tmp 3), type := 55, pos := "law.go:57", after := #[], guard := none }) (v := vN ⟨k, c, x0, x1, x2, x3, nn, lo, hi⟩ (.slice av1 l.length cp1)) rfl (by kernel_rfl) (by kernel_rfl) (by kernel_rfl) (fun _ _ _ h => h) (yieldsIf_load_mid rfl 55 _ rfl g 0 rfl (cN ⟨k, c, x0, x1, x2, x3, nn, lo, hi⟩ (.slice av1 l.length cp1)) _ (fun wq hSq => hSq.x.range) Try.underlying55 rfl size55) hHeld ?_
    try simp only [Act.put, List.setIfInBounds_toArray, List.set_cons_zero, List.set_cons_succ]
    refine wpAnyH_take (i := 2) (oi := { dst := some 16, op := Go.Op.load 51 (Go.Operand.tmp 1), type := 51, pos := "law.go:57", after := #[], guard := none }) (v := vN ⟨k, c, x0, x1, x2, x3, nn, lo, hi⟩ u) rfl (by kernel_rfl) (by kernel_rfl) (by kernel_rfl) (fun _ _ _ h => h) (yieldsIf_load_mid rfl 51 _ rfl w.heap.size 0 rfl (cN ⟨k, c, x0, x1, x2, x3, nn, lo, hi⟩ u) _ (fun wq hSq => hSq.a.range) Try.underlying51 rfl size51) hHeld ?_
    try simp only [Act.put, List.setIfInBounds_toArray, List.set_cons_zero, List.set_cons_succ]
    refine wpAnyH_ready (rs := [1]) (by kernel_rfl) (by simp) ?_
    refine AllReadyH.cons (o := { dst := some 15, op := Go.Op.call { callee := Go.Callee.value (Go.Operand.func 31), args := #[Go.Operand.tmp 14], argTypes := #[55] }, type := 4, pos := "law.go:57", after := #[{ on := 0, ground := Go.Ground.data }], guard := none }) rfl (fun K hK => ?_) AllReadyH.nil
    go_simp
    refine (P31.out _ (by assumption)).mono ?_
    rintro e w20 ⟨rfl, b20⟩
    have SX20 : FormW w w20 ⟨k, c, x0, x1, x2, x3, nn, lo, hi⟩ l u (.slice av1 l.length cp1) g := FormW.below (by assumption) b20
    clear b20
    refine hK.out _ _ (SX20) (fun hHeld1 => ?_)
    clear hK K hHeld
    try simp only [Act.put, List.setIfInBounds_toArray, List.set_cons_zero, List.set_cons_succ]
    refine wpAnyH_ready (rs := [3]) (by kernel_rfl) (by simp) ?_
    refine AllReadyH.cons (o := { dst := some 17, op := Go.Op.call { callee := Go.Callee.value (Go.Operand.func 32), args := #[Go.Operand.tmp 16], argTypes := #[51] }, type := 4, pos := "law.go:57", after := #[{ on := 2, ground := Go.Ground.data }, { on := 1, ground := Go.Ground.chain }], guard := none }) rfl (fun K hK => ?_) AllReadyH.nil
    go_simp
    refine (P32.out _ (by assumption)).mono ?_
    rintro e w21 ⟨rfl, b21⟩
    have SX21 : FormW w w21 ⟨k, c, x0, x1, x2, x3, nn, lo, hi⟩ l u (.slice av1 l.length cp1) g := FormW.below (by assumption) b21
    clear b21
    refine hK.out _ _ (SX21) (fun hHeld2 => ?_)
    clear hK K hHeld1
    try simp only [Act.put, List.setIfInBounds_toArray, List.set_cons_zero, List.set_cons_succ]
    refine wpAnyH_take (i := 4) (oi := { dst := some 18, op := Go.Op.binOp Go.BinOp.eql 4 (Go.Operand.tmp 15) (Go.Operand.tmp 17) 4, type := 4, pos := "law.go:57", after := #[{ on := 1, ground := Go.Ground.data }, { on := 3, ground := Go.Ground.data }], guard := none }) (v := .bool true) rfl (by kernel_rfl) (by kernel_rfl) (by kernel_rfl) (fun _ _ _ h => h) (Or.inl ⟨by rfl, ?_⟩) hHeld2 ?_
    · (intro wq hSq; (try dsimp only at hSq); go_simp; first | done | with_reducible rfl)
    try simp only [Act.put, List.setIfInBounds_toArray, List.set_cons_zero, List.set_cons_succ]
    refine wpAnyH_take (i := 5) (oi := { dst := some 19, op := Go.Op.move (Go.Operand.tmp 18), type := 4, pos := "law.go:57", after := #[{ on := 4, ground := Go.Ground.data }, { on := 3, ground := Go.Ground.chain }], guard := none }) (v := ?_) rfl (by kernel_rfl) (by kernel_rfl) (by kernel_rfl) (fun _ _ _ h => h) (Or.inl ⟨by rfl, ?_⟩) hHeld2 ?_
    rotate_left 1
    · (intro wq hSq; (try dsimp only at hSq); go_simp; first | done | with_reducible rfl)
    try simp only [Act.put, List.setIfInBounds_toArray, List.set_cons_zero, List.set_cons_succ]
    refine wpAnyH_take (i := 6) (oi := { dst := some 20, op := Go.Op.load 55 (Go.Operand.tmp 3), type := 55, pos := "law.go:57", after := #[{ on := 5, ground := Go.Ground.guard }], guard := some (5, true) }) (v := vN ⟨k, c, x0, x1, x2, x3, nn, lo, hi⟩ (.slice av1 l.length cp1)) rfl (by kernel_rfl) (by kernel_rfl) (by kernel_rfl) (fun _ _ _ h => h) (yieldsIf_load_mid rfl 55 _ rfl g 0 rfl (cN ⟨k, c, x0, x1, x2, x3, nn, lo, hi⟩ (.slice av1 l.length cp1)) _ (fun wq hSq => hSq.x.range) Try.underlying55 rfl size55) hHeld2 ?_
    try simp only [Act.put, List.setIfInBounds_toArray, List.set_cons_zero, List.set_cons_succ]
    refine wpAnyH_take (i := 8) (oi := { dst := some 22, op := Go.Op.load 51 (Go.Operand.tmp 1), type := 51, pos := "law.go:57", after := #[{ on := 5, ground := Go.Ground.guard }], guard := some (5, true) }) (v := vN ⟨k, c, x0, x1, x2, x3, nn, lo, hi⟩ u) rfl (by kernel_rfl) (by kernel_rfl) (by kernel_rfl) (fun _ _ _ h => h) (yieldsIf_load_mid rfl 51 _ rfl w.heap.size 0 rfl (cN ⟨k, c, x0, x1, x2, x3, nn, lo, hi⟩ u) _ (fun wq hSq => hSq.a.range) Try.underlying51 rfl size51) hHeld2 ?_
    try simp only [Act.put, List.setIfInBounds_toArray, List.set_cons_zero, List.set_cons_succ]
    refine wpAnyH_ready (rs := [7]) (by kernel_rfl) (by simp) ?_
    refine AllReadyH.cons (o := { dst := some 21, op := Go.Op.call { callee := Go.Callee.value (Go.Operand.func 33), args := #[Go.Operand.tmp 20], argTypes := #[55] }, type := 3, pos := "law.go:57", after := #[{ on := 6, ground := Go.Ground.data }, { on := 5, ground := Go.Ground.chain }, { on := 5, ground := Go.Ground.guard }], guard := some (5, true) }) rfl (fun K hK => ?_) AllReadyH.nil
    go_simp
    refine (P33.out _ (by assumption)).mono ?_
    rintro e w22 ⟨rfl, b22⟩
    have SX22 : FormW w w22 ⟨k, c, x0, x1, x2, x3, nn, lo, hi⟩ l u (.slice av1 l.length cp1) g := FormW.below (by assumption) b22
    clear b22
    refine hK.out _ _ (SX22) (fun hHeld3 => ?_)
    clear hK K hHeld2
    try simp only [Act.put, List.setIfInBounds_toArray, List.set_cons_zero, List.set_cons_succ]
    refine wpAnyH_ready (rs := [9]) (by kernel_rfl) (by simp) ?_
    refine AllReadyH.cons (o := { dst := some 23, op := Go.Op.call { callee := Go.Callee.value (Go.Operand.func 34), args := #[Go.Operand.tmp 22], argTypes := #[51] }, type := 3, pos := "law.go:57", after := #[{ on := 8, ground := Go.Ground.data }, { on := 7, ground := Go.Ground.chain }, { on := 5, ground := Go.Ground.guard }], guard := some (5, true) }) rfl (fun K hK => ?_) AllReadyH.nil
    go_simp
    refine (P34.out _ (by assumption)).mono ?_
    rintro e w23 ⟨rfl, b23⟩
    have SX23 : FormW w w23 ⟨k, c, x0, x1, x2, x3, nn, lo, hi⟩ l u (.slice av1 l.length cp1) g := FormW.below (by assumption) b23
    clear b23
    refine hK.out _ _ (SX23) (fun hHeld4 => ?_)
    clear hK K hHeld3
    try simp only [Act.put, List.setIfInBounds_toArray, List.set_cons_zero, List.set_cons_succ]
    refine wpAnyH_take (i := 10) (oi := { dst := some 24, op := Go.Op.binOp Go.BinOp.eql 3 (Go.Operand.tmp 21) (Go.Operand.tmp 23) 3, type := 4, pos := "law.go:57", after := #[{ on := 7, ground := Go.Ground.data }, { on := 9, ground := Go.Ground.data }, { on := 5, ground := Go.Ground.guard }], guard := some (5, true) }) (v := .bool true) rfl (by kernel_rfl) (by kernel_rfl) (by kernel_rfl) (fun _ _ _ h => h) (Or.inl ⟨by rfl, ?_⟩) hHeld4 ?_
    · (intro wq hSq; (try dsimp only at hSq); go_simp; first | done | with_reducible rfl)
    try simp only [Act.put, List.setIfInBounds_toArray, List.set_cons_zero, List.set_cons_succ]
    refine wpAnyH_take (i := 11) (oi := { dst := some 25, op := Go.Op.pick (Go.Operand.tmp 19) (Go.Operand.tmp 24) (Go.Operand.const (Go.Value.bool false)), type := 4, pos := "law.go:57", after := #[{ on := 5, ground := Go.Ground.data }, { on := 10, ground := Go.Ground.data }], guard := none }) (v := .bool true) rfl (by kernel_rfl) (by kernel_rfl) (by kernel_rfl) (fun _ _ _ h => h) (Or.inl ⟨by rfl, ?_⟩) hHeld4 ?_
    · (intro wq hSq; (try dsimp only at hSq); go_simp; first | done | with_reducible rfl)
    try simp only [Act.put, List.setIfInBounds_toArray, List.set_cons_zero, List.set_cons_succ]
    refine wpAnyH_take (i := 12) (oi := { dst := some 26, op := Go.Op.move (Go.Operand.tmp 25), type := 4, pos := "law.go:57", after := #[{ on := 11, ground := Go.Ground.data }, { on := 9, ground := Go.Ground.chain }], guard := none }) (v := ?_) rfl (by kernel_rfl) (by kernel_rfl) (by kernel_rfl) (fun _ _ _ h => h) (Or.inl ⟨by rfl, ?_⟩) hHeld4 ?_
    rotate_left 1
    · (intro wq hSq; (try dsimp only at hSq); go_simp; first | done | with_reducible rfl)
    try simp only [Act.put, List.setIfInBounds_toArray, List.set_cons_zero, List.set_cons_succ]
    refine wpAnyH_take (i := 13) (oi := { dst := some 27, op := Go.Op.load 55 (Go.Operand.tmp 3), type := 55, pos := "law.go:57", after := #[{ on := 12, ground := Go.Ground.guard }], guard := some (12, true) }) (v := vN ⟨k, c, x0, x1, x2, x3, nn, lo, hi⟩ (.slice av1 l.length cp1)) rfl (by kernel_rfl) (by kernel_rfl) (by kernel_rfl) (fun _ _ _ h => h) (yieldsIf_load_mid rfl 55 _ rfl g 0 rfl (cN ⟨k, c, x0, x1, x2, x3, nn, lo, hi⟩ (.slice av1 l.length cp1)) _ (fun wq hSq => hSq.x.range) Try.underlying55 rfl size55) hHeld4 ?_
    try simp only [Act.put, List.setIfInBounds_toArray, List.set_cons_zero, List.set_cons_succ]
    refine wpAnyH_take (i := 15) (oi := { dst := some 29, op := Go.Op.load 51 (Go.Operand.tmp 1), type := 51, pos := "law.go:57", after := #[{ on := 12, ground := Go.Ground.guard }], guard := some (12, true) }) (v := vN ⟨k, c, x0, x1, x2, x3, nn, lo, hi⟩ u) rfl (by kernel_rfl) (by kernel_rfl) (by kernel_rfl) (fun _ _ _ h => h) (yieldsIf_load_mid rfl 51 _ rfl w.heap.size 0 rfl (cN ⟨k, c, x0, x1, x2, x3, nn, lo, hi⟩ u) _ (fun wq hSq => hSq.a.range) Try.underlying51 rfl size51) hHeld4 ?_
    try simp only [Act.put, List.setIfInBounds_toArray, List.set_cons_zero, List.set_cons_succ]
    refine wpAnyH_ready (rs := [14]) (by kernel_rfl) (by simp) ?_
    refine AllReadyH.cons (o := { dst := some 28, op := Go.Op.call { callee := Go.Callee.value (Go.Operand.func 35), args := #[Go.Operand.tmp 27], argTypes := #[55] }, type := 3, pos := "law.go:57", after := #[{ on := 13, ground := Go.Ground.data }, { on := 12, ground := Go.Ground.chain }, { on := 12, ground := Go.Ground.guard }], guard := some (12, true) }) rfl (fun K hK => ?_) AllReadyH.nil
    go_simp
    refine (P35.out _ (by assumption)).mono ?_
    rintro e w24 ⟨rfl, b24⟩
    have SX24 : FormW w w24 ⟨k, c, x0, x1, x2, x3, nn, lo, hi⟩ l u (.slice av1 l.length cp1) g := FormW.below (by assumption) b24
    clear b24
    refine hK.out _ _ (SX24) (fun hHeld5 => ?_)
    clear hK K hHeld4
    try simp only [Act.put, List.setIfInBounds_toArray, List.set_cons_zero, List.set_cons_succ]
    refine wpAnyH_ready (rs := [16]) (by kernel_rfl) (by simp) ?_
    refine AllReadyH.cons (o := { dst := some 30, op := Go.Op.call { callee := Go.Callee.value (Go.Operand.func 36), args := #[Go.Operand.tmp 29], argTypes := #[51] }, type := 3, pos := "law.go:57", after := #[{ on := 15, ground := Go.Ground.data }, { on := 14, ground := Go.Ground.chain }, { on := 12, ground := Go.Ground.guard }], guard := some (12, true) }) rfl (fun K hK => ?_) AllReadyH.nil
    go_simp
    refine (P36.out _ (by assumption)).mono ?_
    rintro e w25 ⟨rfl, b25⟩
    have SX25 : FormW w w25 ⟨k, c, x0, x1, x2, x3, nn, lo, hi⟩ l u (.slice av1 l.length cp1) g := FormW.below (by assumption) b25
    clear b25
    refine hK.out _ _ (SX25) (fun hHeld6 => ?_)
    clear hK K hHeld5
    try simp only [Act.put, List.setIfInBounds_toArray, List.set_cons_zero, List.set_cons_succ]
    refine wpAnyH_take (i := 17) (oi := { dst := some 31, op := Go.Op.binOp Go.BinOp.eql 3 (Go.Operand.tmp 28) (Go.Operand.tmp 30) 3, type := 4, pos := "law.go:57", after := #[{ on := 14, ground := Go.Ground.data }, { on := 16, ground := Go.Ground.data }, { on := 12, ground := Go.Ground.guard }], guard := some (12, true) }) (v := .bool true) rfl (by kernel_rfl) (by kernel_rfl) (by kernel_rfl) (fun _ _ _ h => h) (Or.inl ⟨by rfl, ?_⟩) hHeld6 ?_
    · (intro wq hSq; (try dsimp only at hSq); go_simp; first | done | with_reducible rfl)
    try simp only [Act.put, List.setIfInBounds_toArray, List.set_cons_zero, List.set_cons_succ]
    refine wpAnyH_take (i := 18) (oi := { dst := some 32, op := Go.Op.pick (Go.Operand.tmp 26) (Go.Operand.tmp 31) (Go.Operand.const (Go.Value.bool false)), type := 4, pos := "law.go:57", after := #[{ on := 12, ground := Go.Ground.data }, { on := 17, ground := Go.Ground.data }], guard := none }) (v := .bool true) rfl (by kernel_rfl) (by kernel_rfl) (by kernel_rfl) (fun _ _ _ h => h) (Or.inl ⟨by rfl, ?_⟩) hHeld6 ?_
    · (intro wq hSq; (try dsimp only at hSq); go_simp; first | done | with_reducible rfl)
    try simp only [Act.put, List.setIfInBounds_toArray, List.set_cons_zero, List.set_cons_succ]
    refine wpAnyH_take (i := 19) (oi := { dst := some 33, op := Go.Op.move (Go.Operand.tmp 32), type := 4, pos := "law.go:57", after := #[{ on := 18, ground := Go.Ground.data }, { on := 16, ground := Go.Ground.chain }], guard := none }) (v := ?_) rfl (by kernel_rfl) (by kernel_rfl) (by kernel_rfl) (fun _ _ _ h => h) (Or.inl ⟨by rfl, ?_⟩) hHeld6 ?_
    rotate_left 1
    · (intro wq hSq; (try dsimp only at hSq); go_simp; first | done | with_reducible rfl)
    try simp only [Act.put, List.setIfInBounds_toArray, List.set_cons_zero, List.set_cons_succ]
    refine wpAnyH_take (i := 20) (oi := { dst := some 34, op := Go.Op.load 55 (Go.Operand.tmp 3), type := 55, pos := "law.go:57", after := #[{ on := 19, ground := Go.Ground.guard }], guard := some (19, true) }) (v := vN ⟨k, c, x0, x1, x2, x3, nn, lo, hi⟩ (.slice av1 l.length cp1)) rfl (by kernel_rfl) (by kernel_rfl) (by kernel_rfl) (fun _ _ _ h => h) (yieldsIf_load_mid rfl 55 _ rfl g 0 rfl (cN ⟨k, c, x0, x1, x2, x3, nn, lo, hi⟩ (.slice av1 l.length cp1)) _ (fun wq hSq => hSq.x.range) Try.underlying55 rfl size55) hHeld6 ?_
    try simp only [Act.put, List.setIfInBounds_toArray, List.set_cons_zero, List.set_cons_succ]
    refine wpAnyH_take (i := 22) (oi := { dst := some 36, op := Go.Op.load 51 (Go.Operand.tmp 1), type := 51, pos := "law.go:57", after := #[{ on := 19, ground := Go.Ground.guard }], guard := some (19, true) }) (v := vN ⟨k, c, x0, x1, x2, x3, nn, lo, hi⟩ u) rfl (by kernel_rfl) (by kernel_rfl) (by kernel_rfl) (fun _ _ _ h => h) (yieldsIf_load_mid rfl 51 _ rfl w.heap.size 0 rfl (cN ⟨k, c, x0, x1, x2, x3, nn, lo, hi⟩ u) _ (fun wq hSq => hSq.a.range) Try.underlying51 rfl size51) hHeld6 ?_
    try simp only [Act.put, List.setIfInBounds_toArray, List.set_cons_zero, List.set_cons_succ]
    refine wpAnyH_ready (rs := [21]) (by kernel_rfl) (by simp) ?_
    refine AllReadyH.cons (o := { dst := some 35, op := Go.Op.call { callee := Go.Callee.value (Go.Operand.func 37), args := #[Go.Operand.tmp 34], argTypes := #[55] }, type := 3, pos := "law.go:57", after := #[{ on := 20, ground := Go.Ground.data }, { on := 19, ground := Go.Ground.chain }, { on := 19, ground := Go.Ground.guard }], guard := some (19, true) }) rfl (fun K hK => ?_) AllReadyH.nil
    go_simp
    refine (P37.out _ (by assumption)).mono ?_
    rintro e w26 ⟨rfl, b26⟩
    have SX26 : FormW w w26 ⟨k, c, x0, x1, x2, x3, nn, lo, hi⟩ l u (.slice av1 l.length cp1) g := FormW.below (by assumption) b26
    clear b26
    refine hK.out _ _ (SX26) (fun hHeld7 => ?_)
    clear hK K hHeld6
    try simp only [Act.put, List.setIfInBounds_toArray, List.set_cons_zero, List.set_cons_succ]
    refine wpAnyH_ready (rs := [23]) (by kernel_rfl) (by simp) ?_
    refine AllReadyH.cons (o := { dst := some 37, op := Go.Op.call { callee := Go.Callee.value (Go.Operand.func 38), args := #[Go.Operand.tmp 36], argTypes := #[51] }, type := 3, pos := "law.go:57", after := #[{ on := 22, ground := Go.Ground.data }, { on := 21, ground := Go.Ground.chain }, { on := 19, ground := Go.Ground.guard }], guard := some (19, true) }) rfl (fun K hK => ?_) AllReadyH.nil
    go_simp
    refine (P38.out _ (by assumption)).mono ?_
    rintro e w27 ⟨rfl, b27⟩
    have SX27 : FormW w w27 ⟨k, c, x0, x1, x2, x3, nn, lo, hi⟩ l u (.slice av1 l.length cp1) g := FormW.below (by assumption) b27
    clear b27
    refine hK.out _ _ (SX27) (fun hHeld8 => ?_)
    clear hK K hHeld7
    try simp only [Act.put, List.setIfInBounds_toArray, List.set_cons_zero, List.set_cons_succ]
    refine wpAnyH_take (i := 24) (oi := { dst := some 38, op := Go.Op.binOp Go.BinOp.eql 3 (Go.Operand.tmp 35) (Go.Operand.tmp 37) 3, type := 4, pos := "law.go:57", after := #[{ on := 21, ground := Go.Ground.data }, { on := 23, ground := Go.Ground.data }, { on := 19, ground := Go.Ground.guard }], guard := some (19, true) }) (v := .bool true) rfl (by kernel_rfl) (by kernel_rfl) (by kernel_rfl) (fun _ _ _ h => h) (Or.inl ⟨by rfl, ?_⟩) hHeld8 ?_
    · (intro wq hSq; (try dsimp only at hSq); go_simp; first | done | with_reducible rfl)
    try simp only [Act.put, List.setIfInBounds_toArray, List.set_cons_zero, List.set_cons_succ]
    refine wpAnyH_take (i := 25) (oi := { dst := some 39, op := Go.Op.pick (Go.Operand.tmp 33) (Go.Operand.tmp 38) (Go.Operand.const (Go.Value.bool false)), type := 4, pos := "law.go:57", after := #[{ on := 19, ground := Go.Ground.data }, { on := 24, ground := Go.Ground.data }], guard := none }) (v := .bool true) rfl (by kernel_rfl) (by kernel_rfl) (by kernel_rfl) (fun _ _ _ h => h) (Or.inl ⟨by rfl, ?_⟩) hHeld8 ?_
    · (intro wq hSq; (try dsimp only at hSq); go_simp; first | done | with_reducible rfl)
    try simp only [Act.put, List.setIfInBounds_toArray, List.set_cons_zero, List.set_cons_succ]
    refine wpAnyH_take (i := 26) (oi := { dst := some 40, op := Go.Op.move (Go.Operand.tmp 39), type := 4, pos := "law.go:57", after := #[{ on := 25, ground := Go.Ground.data }, { on := 23, ground := Go.Ground.chain }], guard := none }) (v := ?_) rfl (by kernel_rfl) (by kernel_rfl) (by kernel_rfl) (fun _ _ _ h => h) (Or.inl ⟨by rfl, ?_⟩) hHeld8 ?_
    rotate_left 1
    · (intro wq hSq; (try dsimp only at hSq); go_simp; first | done | with_reducible rfl)
    try simp only [Act.put, List.setIfInBounds_toArray, List.set_cons_zero, List.set_cons_succ]
    refine wpAnyH_take (i := 27) (oi := { dst := some 41, op := Go.Op.load 55 (Go.Operand.tmp 3), type := 55, pos := "law.go:57", after := #[{ on := 26, ground := Go.Ground.guard }], guard := some (26, true) }) (v := vN ⟨k, c, x0, x1, x2, x3, nn, lo, hi⟩ (.slice av1 l.length cp1)) rfl (by kernel_rfl) (by kernel_rfl) (by kernel_rfl) (fun _ _ _ h => h) (yieldsIf_load_mid rfl 55 _ rfl g 0 rfl (cN ⟨k, c, x0, x1, x2, x3, nn, lo, hi⟩ (.slice av1 l.length cp1)) _ (fun wq hSq => hSq.x.range) Try.underlying55 rfl size55) hHeld8 ?_
    try simp only [Act.put, List.setIfInBounds_toArray, List.set_cons_zero, List.set_cons_succ]
    refine wpAnyH_take (i := 29) (oi := { dst := some 43, op := Go.Op.load 51 (Go.Operand.tmp 1), type := 51, pos := "law.go:57", after := #[{ on := 26, ground := Go.Ground.guard }], guard := some (26, true) }) (v := vN ⟨k, c, x0, x1, x2, x3, nn, lo, hi⟩ u) rfl (by kernel_rfl) (by kernel_rfl) (by kernel_rfl) (fun _ _ _ h => h) (yieldsIf_load_mid rfl 51 _ rfl w.heap.size 0 rfl (cN ⟨k, c, x0, x1, x2, x3, nn, lo, hi⟩ u) _ (fun wq hSq => hSq.a.range) Try.underlying51 rfl size51) hHeld8 ?_
    try simp only [Act.put, List.setIfInBounds_toArray, List.set_cons_zero, List.set_cons_succ]
    refine wpAnyH_ready (rs := [28]) (by kernel_rfl) (by simp) ?_
    refine AllReadyH.cons (o := { dst := some 42, op := Go.Op.call { callee := Go.Callee.value (Go.Operand.func 39), args := #[Go.Operand.tmp 41], argTypes := #[55] }, type := 3, pos := "law.go:57", after := #[{ on := 27, ground := Go.Ground.data }, { on := 26, ground := Go.Ground.chain }, { on := 26, ground := Go.Ground.guard }], guard := some (26, true) }) rfl (fun K hK => ?_) AllReadyH.nil
    go_simp
    refine (P39.out _ (by assumption)).mono ?_
    rintro e w28 ⟨rfl, b28⟩
    have SX28 : FormW w w28 ⟨k, c, x0, x1, x2, x3, nn, lo, hi⟩ l u (.slice av1 l.length cp1) g := FormW.below (by assumption) b28
    clear b28
    refine hK.out _ _ (SX28) (fun hHeld9 => ?_)
    clear hK K hHeld8
    try simp only [Act.put, List.setIfInBounds_toArray, List.set_cons_zero, List.set_cons_succ]
    refine wpAnyH_ready (rs := [30]) (by kernel_rfl) (by simp) ?_
    refine AllReadyH.cons (o := { dst := some 44, op := Go.Op.call { callee := Go.Callee.value (Go.Operand.func 40), args := #[Go.Operand.tmp 43], argTypes := #[51] }, type := 3, pos := "law.go:57", after := #[{ on := 29, ground := Go.Ground.data }, { on := 28, ground := Go.Ground.chain }, { on := 26, ground := Go.Ground.guard }], guard := some (26, true) }) rfl (fun K hK => ?_) AllReadyH.nil
    go_simp
    refine (P40.out _ (by assumption)).mono ?_
    rintro e w29 ⟨rfl, b29⟩
    have SX29 : FormW w w29 ⟨k, c, x0, x1, x2, x3, nn, lo, hi⟩ l u (.slice av1 l.length cp1) g := FormW.below (by assumption) b29
    clear b29
    refine hK.out _ _ (SX29) (fun hHeld10 => ?_)
    clear hK K hHeld9
    try simp only [Act.put, List.setIfInBounds_toArray, List.set_cons_zero, List.set_cons_succ]
    refine wpAnyH_take (i := 31) (oi := { dst := some 45, op := Go.Op.binOp Go.BinOp.eql 3 (Go.Operand.tmp 42) (Go.Operand.tmp 44) 3, type := 4, pos := "law.go:57", after := #[{ on := 28, ground := Go.Ground.data }, { on := 30, ground := Go.Ground.data }, { on := 26, ground := Go.Ground.guard }], guard := some (26, true) }) (v := .bool true) rfl (by kernel_rfl) (by kernel_rfl) (by kernel_rfl) (fun _ _ _ h => h) (Or.inl ⟨by rfl, ?_⟩) hHeld10 ?_
    · (intro wq hSq; (try dsimp only at hSq); go_simp; first | done | with_reducible rfl)
    try simp only [Act.put, List.setIfInBounds_toArray, List.set_cons_zero, List.set_cons_succ]
    refine wpAnyH_take (i := 32) (oi := { dst := some 46, op := Go.Op.pick (Go.Operand.tmp 40) (Go.Operand.tmp 45) (Go.Operand.const (Go.Value.bool false)), type := 4, pos := "law.go:57", after := #[{ on := 26, ground := Go.Ground.data }, { on := 31, ground := Go.Ground.data }], guard := none }) (v := .bool true) rfl (by kernel_rfl) (by kernel_rfl) (by kernel_rfl) (fun _ _ _ h => h) (Or.inl ⟨by rfl, ?_⟩) hHeld10 ?_
    · (intro wq hSq; (try dsimp only at hSq); go_simp; first | done | with_reducible rfl)
    try simp only [Act.put, List.setIfInBounds_toArray, List.set_cons_zero, List.set_cons_succ]
    refine wpAnyH_take (i := 33) (oi := { dst := some 2, op := Go.Op.assign (Go.Operand.tmp 46), type := 4, pos := "law.go:57", after := #[{ on := 32, ground := Go.Ground.data }, { on := 30, ground := Go.Ground.chain }, { on := 0, ground := Go.Ground.phase }, { on := 1, ground := Go.Ground.phase }, { on := 2, ground := Go.Ground.phase }, { on := 3, ground := Go.Ground.phase }, { on := 4, ground := Go.Ground.phase }, { on := 5, ground := Go.Ground.phase }, { on := 6, ground := Go.Ground.phase }, { on := 7, ground := Go.Ground.phase }, { on := 8, ground := Go.Ground.phase }, { on := 9, ground := Go.Ground.phase }, { on := 10, ground := Go.Ground.phase }, { on := 11, ground := Go.Ground.phase }, { on := 12, ground := Go.Ground.phase }, { on := 13, ground := Go.Ground.phase }, { on := 14, ground := Go.Ground.phase }, { on := 15, ground := Go.Ground.phase }, { on := 16, ground := Go.Ground.phase }, { on := 17, ground := Go.Ground.phase }, { on := 18, ground := Go.Ground.phase }, { on := 19, ground := Go.Ground.phase }, { on := 20, ground := Go.Ground.phase }, { on := 21, ground := Go.Ground.phase }, { on := 22, ground := Go.Ground.phase }, { on := 23, ground := Go.Ground.phase }, { on := 24, ground := Go.Ground.phase }, { on := 25, ground := Go.Ground.phase }, { on := 26, ground := Go.Ground.phase }, { on := 27, ground := Go.Ground.phase }, { on := 28, ground := Go.Ground.phase }, { on := 29, ground := Go.Ground.phase }, { on := 30, ground := Go.Ground.phase }, { on := 31, ground := Go.Ground.phase }, { on := 32, ground := Go.Ground.phase }], guard := none }) (v := ?_) rfl (by kernel_rfl) (by kernel_rfl) (by kernel_rfl) (fun _ _ _ h => h) (Or.inl ⟨by rfl, ?_⟩) hHeld10 ?_
    rotate_left 1
    · (intro wq hSq; (try dsimp only at hSq); go_simp; first | done | with_reducible rfl)
    try simp only [Act.put, List.setIfInBounds_toArray, List.set_cons_zero, List.set_cons_succ]
    refine wpAnyH_done (by kernel_rfl) ?_ _
    refine NoPanic.normal ?_
    go_wp2
    go_ret
    exact ⟨rfl, SX29.bel⟩
end Go.Proofs.Ytaoobmpjlagkpaa
