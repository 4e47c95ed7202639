import Derived.Test.YtndmjndokokmnaaXd
namespace Go.Proofs.Ytndmjndokokmnaa
set_option linter.unusedSimpArgs false
set_option linter.unusedVariables false
open Go.RowKit
/-- A set's box, and what it holds. -/
def BoxS (w : World) (b : Nat) (x0 x1 x2 x3 : Int) : Prop := (w.cell? ⟨b, 0, none⟩ = some (.int .u64 x0) ∧ w.cell? ⟨b, 1, none⟩ = some (.int .u64 x1) ∧ w.cell? ⟨b, 2, none⟩ = some (.int .u64 x2) ∧ w.cell? ⟨b, 3, none⟩ = some (.int .u64 x3)) ∧ (w.frozen? ⟨b, 0, none⟩ = false ∧ w.frozen? ⟨b, 1, none⟩ = false ∧ w.frozen? ⟨b, 2, none⟩ = false ∧ w.frozen? ⟨b, 3, none⟩ = false)
theorem BoxS.of_block {w w' : World} {b : Nat} {x0 x1 x2 x3 : Int} (h : BoxS w b x0 x1 x2 x3) (e : w'.heap[b]? = w.heap[b]?) : BoxS w' b x0 x1 x2 x3 := by
  have c : ∀ o, w'.cell? ⟨b, o, none⟩ = w.cell? ⟨b, o, none⟩ := fun o => World.cell?_of_block e
  have f : ∀ o, w'.frozen? ⟨b, o, none⟩ = w.frozen? ⟨b, o, none⟩ := fun o => World.frozen?_of_block e
  obtain ⟨⟨a0, a1, a2, a3⟩, b0, b1, b2, b3⟩ := h
  exact ⟨⟨by rw [c]; exact a0, by rw [c]; exact a1, by rw [c]; exact a2, by rw [c]; exact a3⟩, by rw [f]; exact b0, by rw [f]; exact b1, by rw [f]; exact b2, by rw [f]; exact b3⟩
theorem BoxS.grown {w w' : World} {b g : Nat} {x0 x1 x2 x3 : Int} (h : BoxS w b x0 x1 x2 x3) (k : w.grownBy w' (some g)) (hb : b < w.heap.size) (hn : b ≠ g) : BoxS w' b x0 x1 x2 x3 :=
  h.of_block (k.block b hb (fun q => by injection q with q; exact hn q))
theorem BoxS.below {w w' : World} {b B : Nat} {x0 x1 x2 x3 : Int} (h : BoxS w b x0 x1 x2 x3) (k : Below B w w') (hb : b < B) : BoxS w' b x0 x1 x2 x3 := h.of_block (k.block b hb)
theorem BoxS.new (w : World) (T : Nat) (x0 x1 x2 x3 : Int) : BoxS (w.alloc (.cells #[.int .u64 x0, .int .u64 x1, .int .u64 x2, .int .u64 x3] T)) w.heap.size x0 x1 x2 x3 := by
  refine ⟨⟨?_, ?_, ?_, ?_⟩, ?_, ?_, ?_, ?_⟩ <;> go_simp
theorem BoxS.put {w : World} {b : Nat} {x0 x1 x2 x3 : Int} (h : BoxS w b x0 x1 x2 x3) (z0 z1 z2 z3 : Int) :
    BoxS ((((w.setCell ⟨b, 0, none⟩ (.int .u64 z0)).setCell ⟨b, 1, none⟩ (.int .u64 z1)).setCell ⟨b, 2, none⟩ (.int .u64 z2)).setCell ⟨b, 3, none⟩ (.int .u64 z3)) b z0 z1 z2 z3 := by
  obtain ⟨⟨a0, a1, a2, a3⟩, b0, b1, b2, b3⟩ := h
  refine ⟨⟨?_, ?_, ?_, ?_⟩, ?_, ?_, ?_, ?_⟩ <;> go_simp
theorem grown_al {w w' : World} {o : Option Nat} (h : w.grownBy w' o) (x : Obj) : w.grownBy (w'.alloc x) o :=
  grown_trans h (grown_below ((Below.refl _ _).alloc (Nat.le_refl _) _) _)
theorem MaxL.own {w : World} (h : MaxL w) {b : Nat} (hb : 0 < b) (k : Nat) (v : Value) : MaxL (w.setCell ⟨b, k, none⟩ v) := by
  obtain ⟨⟨m, hm⟩, hz⟩ := h
  have e : (w.setCell ⟨b, k, none⟩ v).heap[0]? = w.heap[0]? := Below.heap_setCell _ _ _ _ (by intro q; simp at q; omega)
  exact ⟨⟨m, by rw [← hm]; exact World.cell?_of_block e⟩, by simpa [World.setCell] using hz⟩
theorem Box4.own {w : World} {r b : Nat} (h : Box4 w r) (hn : r ≠ b) (k : Nat) (v : Value) : Box4 (w.setCell ⟨b, k, none⟩ v) r := by
  have e : (w.setCell ⟨b, k, none⟩ v).heap[r]? = w.heap[r]? := Below.heap_setCell _ _ _ _ hn
  exact BoxS.of_block (x0 := 0) (x1 := 0) (x2 := 0) (x3 := 0) h e
theorem St.own {w w' : World} {g : Nat} {l : List UInt8} (h : St w w' g l) {b : Nat} (hb : w.heap.size < b) (k : Nat) (v : Value) : St w (w'.setCell ⟨b, k, none⟩ v) g l :=
  ⟨h.rb.own _ _ (by have := h.lt; omega) _, grown_own h.gr (by omega) _ _, h.box.own (by omega) _ _, by simpa [World.setCell] using h.size, h.max.own (by omega) _ _, h.pos, h.lt⟩
theorem St.own4 {w w' : World} {g : Nat} {l : List UInt8} (h : St w w' g l) {b : Nat} (hb : w.heap.size < b) (v0 v1 v2 v3 : Value) : St w ((((w'.setCell ⟨b, 0, none⟩ v0).setCell ⟨b, 1, none⟩ v1).setCell ⟨b, 2, none⟩ v2).setCell ⟨b, 3, none⟩ v3) g l :=
  (((h.own hb _ _).own hb _ _).own hb _ _).own hb _ _
theorem St.alloc {w w' : World} {g : Nat} {l : List UInt8} (h : St w w' g l) (o : Obj) : St w (w'.alloc o) g l := h.below ((Below.refl _ _).alloc (Nat.le_refl _) o)
def lenAt (g : Nat) (w : World) : Nat := match w.cell? ⟨g, 0, none⟩ with | some (.string s) => s.size | _ => 0
theorem RB.len {w : World} {g : Nat} {l : List UInt8} (h : RB w g l) : lenAt g w = l.length := by
  obtain ⟨s, hc, rfl, hf, hz⟩ := h
  unfold lenAt; rw [hc]; exact Lib.size_eq s
theorem or_at (s t : S4) (x0 x1 x2 x3 z0 z1 z2 z3 : Int) (hs : S4V s x0 x1 x2 x3) (ht : S4V t z0 z1 z2 z3) :
    Hid (∀ w, Calls Try.prog 79 #[.agg #[.int .u64 x0, .int .u64 x1, .int .u64 x2, .int .u64 x3], .agg #[.int .u64 z0, .int .u64 z1, .int .u64 z2, .int .u64 z3]] w fun e w' => ∃ y0 y1 y2 y3, e = .returned (.agg #[.int .u64 y0, .int .u64 y1, .int .u64 y2, .int .u64 y3]) ∧ S4V (s.or t) y0 y1 y2 y3 ∧ Below w.heap.size w w') := fun w => or_any31 s t x0 x1 x2 x3 z0 z1 z2 z3 hs ht w
theorem not_at (s : S4) (x0 x1 x2 x3 : Int) (hs : S4V s x0 x1 x2 x3) :
    Hid (∀ w, Calls Try.prog 23 #[.agg #[.int .u64 x0, .int .u64 x1, .int .u64 x2, .int .u64 x3]] w fun e w' => ∃ y0 y1 y2 y3, e = .returned (.agg #[.int .u64 y0, .int .u64 y1, .int .u64 y2, .int .u64 y3]) ∧ S4V s.not y0 y1 y2 y3 ∧ Below w.heap.size w w') := fun w => not_any16 s x0 x1 x2 x3 hs w
set_option maxHeartbeats 4000000 in
set_option maxRecDepth 100000 in
theorem expr_plain (g : Nat) (l : List UInt8) (w : World) (h : RB w g l) (hM : MaxL w) (hl : l.length ≤ 4000000) (hg0 : 0 < g) (hp : pre [94] l = false) :
    Calls Try.prog 57 #[.pointer (some ⟨g, 0, none⟩)] w (SetO (exprP l) w g) := by
  have ST0 : Hid (St w (w.alloc (.cells #[.int .u64 0, .int .u64 0, .int .u64 0, .int .u64 0] 26)) g l) := St.start h hM hg0 26
  have G1 := skip_miss g l ⟨#[94]⟩ hp
  have HE : Hid (exprP l = restP true S4.zero (l)) := by unfold Hid; rw [exprP_eq, hp]; rfl
  rw [HE.out]
  obtain ⟨R, hR⟩ : ∃ R, restP true S4.zero (l) = R := ⟨_, rfl⟩
  have HRR : Hid (restP true S4.zero (l) = R) := hR
  rw [hR]
  have hlen : (l.drop 1).length ≤ 4000000 := by rw [List.length_drop]; omega
  have HL : Hid (l.length ≤ 4000000 ∧ (l.drop 1).length ≤ 4000000) := ⟨hl, hlen⟩
  have hgw := h.lt
  clear h hM hp HE hR hl hlen
  go_enter Try.func57, Try.ntmps57
  go_wp2_with fail
  refine (G1.out _ ST0.out.rb).mono ?_
  rintro e w1 ⟨rfl, r, gr⟩
  have ST1 : Hid (St w w1 g (l)) := ST0.out.grown r gr
  obtain ⟨b, hb⟩ : ∃ b, b = w1.heap.size := ⟨_, rfl⟩
  have hbw : w.heap.size < b := by rw [hb]; exact ST1.out.size
  have ST1' : Hid (St w (w1.alloc (.cells #[.int .u64 0, .int .u64 0, .int .u64 0, .int .u64 0] 26)) g (l)) := ST1.out.alloc _
  have BS1 : Hid (BoxS (w1.alloc (.cells #[.int .u64 0, .int .u64 0, .int .u64 0, .int .u64 0] 26)) b 0 0 0 0) := by rw [hb]; exact BoxS.new w1 26 0 0 0 0
  have hbs : b < (w1.alloc (.cells #[.int .u64 0, .int .u64 0, .int .u64 0, .int .u64 0] 26)).heap.size := by rw [hb]; simp
  clear r gr ST0 G1 ST1
  go_wp2
  rw [← hb]
  clear hb
  generalize (w1.alloc (.cells #[.int .u64 0, .int .u64 0, .int .u64 0, .int .u64 0] 26)) = w2 at *
  go_loopw [6] (fun s6 wr => ∃ (first : Bool) (acc : S4) (l' : List UInt8) (x0 x1 x2 x3 : Int), s6 = .bool first ∧ Hid (St w wr g l') ∧ Hid (BoxS wr b x0 x1 x2 x3) ∧ b < wr.heap.size ∧ Hid (S4V acc x0 x1 x2 x3) ∧ Hid (restP first acc l' = R) ∧ Hid (l'.length ≤ 4000000)) (fun _ wr => lenAt g wr)
  case atStart =>
    exact ⟨true, S4.zero, l, 0, 0, 0, 0, rfl, ST1', BS1, hbs, S4V.nought, HRR, HL.out.1⟩
  case round =>
    obtain ⟨first, acc, l', x0, x1, x2, x3, rfl, STr, BSr, hbr, SVr, RR, LL⟩ := hrel
    clear ST1' BS1 hbs HRR HL
    rcases (show (first = false ∧ pre [93] l' = true) ∨ first = true ∨ (first = false ∧ pre [93] l' = false) by cases first <;> cases pre [93] l' <;> simp) with ⟨rfl, h93⟩ | rfl | ⟨rfl, h93⟩
    · have G2 := skip_hit g l' ⟨#[93]⟩ h93
      have RE : Hid (R = some (acc, l'.drop 1)) := by rw [← RR.out]; exact restP_end acc l' h93
      have GN := not_at acc x0 x1 x2 x3 SVr.out
      clear h93 RR LL
      go_wp2_with fail
      refine (G2.out _ STr.out.rb).mono ?_
      rintro e w3 ⟨rfl, r, gr⟩
      have ST3 : Hid (St w w3 g (l'.drop 1)) := STr.out.grown r gr
      have BS3 : Hid (BoxS w3 b x0 x1 x2 x3) := BSr.out.grown gr hbr (by omega)
      have hb3 : b < w3.heap.size := Nat.lt_of_lt_of_le hbr gr.size
      clear r gr STr BSr G2
      obtain ⟨⟨ka, kb, kc, kd⟩, ja, jb, jc, jd⟩ := id BS3.out
      obtain ⟨⟨ca, cb, cc, cd⟩, fa, fb, fc, fd⟩ := id ST3.out.box
      go_wp2
      exact bodyPost_ret (v := .tuple #[.agg #[.int .u64 x0, .int .u64 x1, .int .u64 x2, .int .u64 x3], .bool true]) (by simp [results, Try.results57, go_sem, ca, cb, cc, cd, fa, fb, fc, fd]) rfl ⟨x0, x1, x2, x3, true, l'.drop 1, rfl, (ST3.out.put _ _ _ _).1, (ST3.out.put _ _ _ _).2, by rw [RE.out]; rfl, fun _ => ⟨_, RE.out, SVr.out⟩⟩
    · have hgo : ¬ (true = false ∧ pre [93] l' = true) := by simp
      have GM : Hid (∀ W, RB W g l' → MaxL W → Calls Try.prog 78 #[.pointer (some ⟨g, 0, none⟩)] W (SetO (memberP l') W g)) := fun W r m => member_any g l' W r m LL.out (by have := STr.out.pos; exact this)
      cases hm : memberP l' with
      | none =>
        have RE : Hid (R = none) := by rw [← RR.out]; exact restP_none true acc l' hgo hm
        rw [hm] at GM
        clear RR hm
        go_wp2_with fail
        refine (GM.out _ STr.out.rb STr.out.max).mono ?_
        rintro e w4b ⟨y0, y1, y2, y3, ok, l2, rfl, r, gr, h5, h6⟩
        have hok : ok = false := by simpa using h5.symm
        subst hok
        have ST4 : Hid (St w w4b g l2) := STr.out.grown r gr
        have hne : w.heap.size ≠ g := by omega
        clear r gr h5 h6 GM
        obtain ⟨⟨ca, cb, cc, cd⟩, fa, fb, fc, fd⟩ := id ST4.out.box
        have hz := ST4.out.size
        go_wp2
        exact bodyPost_ret (v := .tuple #[.agg #[.int .u64 0, .int .u64 0, .int .u64 0, .int .u64 0], .bool false]) (by simp [results, Try.results57, go_sem, ca, cb, cc, cd, fa, fb, fc, fd, hz]) rfl ⟨0, 0, 0, 0, false, l2, rfl, (ST4.out.put _ _ _ _).1.alloc _, grown_al (ST4.out.put _ _ _ _).2 _, by rw [RE.out]; rfl, fun q => by cases q⟩
      | some mt =>
        obtain ⟨m, t⟩ := mt
        have hlt := memberP_lt hm
        have RE : Hid (restP false (acc.or m) t = R) := by rw [← RR.out]; exact (restP_some true acc l' hgo hm).symm
        have LT : Hid (t.length < l'.length ∧ t.length ≤ 4000000) := ⟨hlt, by have := LL.out; omega⟩
        rw [hm] at GM
        clear RR hm hlt
        go_wp2_with fail
        refine (GM.out _ STr.out.rb STr.out.max).mono ?_
        rintro e w4b ⟨y0, y1, y2, y3, ok, l2, rfl, r, gr, h5, h6⟩
        have hok : ok = true := by simpa using h5.symm
        subst hok
        obtain ⟨m', e6, hsv⟩ := h6 rfl
        simp only [Option.some.injEq, Prod.mk.injEq] at e6
        obtain ⟨rfl, rfl⟩ := e6
        have ST4 : Hid (St w w4b g t) := STr.out.grown r gr
        have BS4 : Hid (BoxS w4b b x0 x1 x2 x3) := BSr.out.grown gr hbr (by omega)
        have hb4 : b < w4b.heap.size := Nat.lt_of_lt_of_le hbr gr.size
        have GO := or_at acc m x0 x1 x2 x3 y0 y1 y2 y3 SVr.out hsv
        have LA : Hid (lenAt g wr = l'.length) := STr.out.rb.len
        clear r gr h5 h6 GM hsv BSr
        obtain ⟨⟨ka, kb, kc, kd⟩, ja, jb, jc, jd⟩ := id BS4.out
        go_wp2_with fail
        refine (GO.out _).mono ?_
        rintro e w5 ⟨z0, z1, z2, z3, rfl, sv, b5⟩
        have ST5 : Hid (St w w5 g t) := (ST4.out.alloc _).below b5
        have BS5 : Hid (BoxS w5 b x0 x1 x2 x3) := (BS4.out.below ((Below.refl _ _).alloc (Nat.le_refl _) _) hb4).below b5 (by simp; omega)
        have hb5 : b < w5.heap.size := by have := b5.size; simp at this; omega
        have HSV := (show Hid _ from sv)
        clear ka kb kc kd ja jb jc jd sv b5 ST4 BS4
        obtain ⟨⟨ka, kb, kc, kd⟩, ja, jb, jc, jd⟩ := id BS5.out
        have ST6 := (show Hid _ from ST5.out.own4 hbw (.int .u64 z0) (.int .u64 z1) (.int .u64 z2) (.int .u64 z3))
        have BS6 := (show Hid _ from BS5.out.put z0 z1 z2 z3)
        go_wp2
        go_roundw
        case rel => exact ⟨false, acc.or m, t, z0, z1, z2, z3, rfl, ST6.out, BS6.out, by simpa [World.setCell] using hb5, HSV.out, RE.out, LT.out.2⟩
        case measure => rw [ST6.out.rb.len]; have := LA.out; have := LT.out.1; omega
    · have hgo : ¬ (false = false ∧ pre [93] l' = true) := by rw [h93]; simp
      have G2 := skip_miss g l' ⟨#[93]⟩ h93
      clear h93
      have GM : Hid (∀ W, RB W g l' → MaxL W → Calls Try.prog 78 #[.pointer (some ⟨g, 0, none⟩)] W (SetO (memberP l') W g)) := fun W r m => member_any g l' W r m LL.out (by have := STr.out.pos; exact this)
      cases hm : memberP l' with
      | none =>
        have RE : Hid (R = none) := by rw [← RR.out]; exact restP_none false acc l' hgo hm
        rw [hm] at GM
        clear RR hm
        go_wp2_with fail
        refine (G2.out _ STr.out.rb).mono ?_
        rintro e w3 ⟨rfl, r, gr⟩
        have LA : Hid (lenAt g wr = l'.length) := STr.out.rb.len
        have ST3 : Hid (St w w3 g l') := STr.out.grown r gr
        have BS3 : Hid (BoxS w3 b x0 x1 x2 x3) := BSr.out.grown gr hbr (by omega)
        have hb3 : b < w3.heap.size := Nat.lt_of_lt_of_le hbr gr.size
        clear r gr G2 STr BSr hbr
        go_wp2_with fail
        refine (GM.out _ ST3.out.rb ST3.out.max).mono ?_
        rintro e w4b ⟨y0, y1, y2, y3, ok, l2, rfl, r, gr, h5, h6⟩
        have hok : ok = false := by simpa using h5.symm
        subst hok
        have ST4 : Hid (St w w4b g l2) := ST3.out.grown r gr
        have hne : w.heap.size ≠ g := by omega
        clear r gr h5 h6 GM
        obtain ⟨⟨ca, cb, cc, cd⟩, fa, fb, fc, fd⟩ := id ST4.out.box
        have hz := ST4.out.size
        go_wp2
        exact bodyPost_ret (v := .tuple #[.agg #[.int .u64 0, .int .u64 0, .int .u64 0, .int .u64 0], .bool false]) (by simp [results, Try.results57, go_sem, ca, cb, cc, cd, fa, fb, fc, fd, hz]) rfl ⟨0, 0, 0, 0, false, l2, rfl, (ST4.out.put _ _ _ _).1.alloc _, grown_al (ST4.out.put _ _ _ _).2 _, by rw [RE.out]; rfl, fun q => by cases q⟩
      | some mt =>
        obtain ⟨m, t⟩ := mt
        have hlt := memberP_lt hm
        have RE : Hid (restP false (acc.or m) t = R) := by rw [← RR.out]; exact (restP_some false acc l' hgo hm).symm
        have LT : Hid (t.length < l'.length ∧ t.length ≤ 4000000) := ⟨hlt, by have := LL.out; omega⟩
        rw [hm] at GM
        clear RR hm hlt
        go_wp2_with fail
        refine (G2.out _ STr.out.rb).mono ?_
        rintro e w3 ⟨rfl, r, gr⟩
        have LA : Hid (lenAt g wr = l'.length) := STr.out.rb.len
        have ST3 : Hid (St w w3 g l') := STr.out.grown r gr
        have BS3 : Hid (BoxS w3 b x0 x1 x2 x3) := BSr.out.grown gr hbr (by omega)
        have hb3 : b < w3.heap.size := Nat.lt_of_lt_of_le hbr gr.size
        clear r gr G2 STr BSr hbr
        go_wp2_with fail
        refine (GM.out _ ST3.out.rb ST3.out.max).mono ?_
        rintro e w4b ⟨y0, y1, y2, y3, ok, l2, rfl, r, gr, h5, h6⟩
        have hok : ok = true := by simpa using h5.symm
        subst hok
        obtain ⟨m', e6, hsv⟩ := h6 rfl
        simp only [Option.some.injEq, Prod.mk.injEq] at e6
        obtain ⟨rfl, rfl⟩ := e6
        have ST4 : Hid (St w w4b g t) := ST3.out.grown r gr
        have BS4 : Hid (BoxS w4b b x0 x1 x2 x3) := BS3.out.grown gr hb3 (by omega)
        have hb4 : b < w4b.heap.size := Nat.lt_of_lt_of_le hb3 gr.size
        have GO := or_at acc m x0 x1 x2 x3 y0 y1 y2 y3 SVr.out hsv
        clear r gr h5 h6 GM hsv BS3
        obtain ⟨⟨ka, kb, kc, kd⟩, ja, jb, jc, jd⟩ := id BS4.out
        go_wp2_with fail
        refine (GO.out _).mono ?_
        rintro e w5 ⟨z0, z1, z2, z3, rfl, sv, b5⟩
        have ST5 : Hid (St w w5 g t) := (ST4.out.alloc _).below b5
        have BS5 : Hid (BoxS w5 b x0 x1 x2 x3) := (BS4.out.below ((Below.refl _ _).alloc (Nat.le_refl _) _) hb4).below b5 (by simp; omega)
        have hb5 : b < w5.heap.size := by have := b5.size; simp at this; omega
        have HSV := (show Hid _ from sv)
        clear ka kb kc kd ja jb jc jd sv b5 ST4 BS4
        obtain ⟨⟨ka, kb, kc, kd⟩, ja, jb, jc, jd⟩ := id BS5.out
        have ST6 := (show Hid _ from ST5.out.own4 hbw (.int .u64 z0) (.int .u64 z1) (.int .u64 z2) (.int .u64 z3))
        have BS6 := (show Hid _ from BS5.out.put z0 z1 z2 z3)
        go_wp2
        go_roundw
        case rel => exact ⟨false, acc.or m, t, z0, z1, z2, z3, rfl, ST6.out, BS6.out, by simpa [World.setCell] using hb5, HSV.out, RE.out, LT.out.2⟩
        case measure => rw [ST6.out.rb.len]; have := LA.out; have := LT.out.1; omega
set_option maxHeartbeats 4000000 in
set_option maxRecDepth 100000 in
theorem expr_not (g : Nat) (l : List UInt8) (w : World) (h : RB w g l) (hM : MaxL w) (hl : l.length ≤ 4000000) (hg0 : 0 < g) (hp : pre [94] l = true) :
    Calls Try.prog 57 #[.pointer (some ⟨g, 0, none⟩)] w (SetO (exprP l) w g) := by
  have ST0 : Hid (St w (w.alloc (.cells #[.int .u64 0, .int .u64 0, .int .u64 0, .int .u64 0] 26)) g l) := St.start h hM hg0 26
  have G1 := skip_hit g l ⟨#[94]⟩ hp
  have HE : Hid (exprP l = (restP true S4.zero (l.drop 1)).map fun x => (x.1.not, x.2)) := by unfold Hid; rw [exprP_eq, hp]; rfl
  rw [HE.out]
  obtain ⟨R, hR⟩ : ∃ R, restP true S4.zero (l.drop 1) = R := ⟨_, rfl⟩
  have HRR : Hid (restP true S4.zero (l.drop 1) = R) := hR
  rw [hR]
  have hlen : (l.drop 1).length ≤ 4000000 := by rw [List.length_drop]; omega
  have HL : Hid (l.length ≤ 4000000 ∧ (l.drop 1).length ≤ 4000000) := ⟨hl, hlen⟩
  have hgw := h.lt
  clear h hM hp HE hR hl hlen
  go_enter Try.func57, Try.ntmps57
  go_wp2_with fail
  refine (G1.out _ ST0.out.rb).mono ?_
  rintro e w1 ⟨rfl, r, gr⟩
  have ST1 : Hid (St w w1 g (l.drop 1)) := ST0.out.grown r gr
  obtain ⟨b, hb⟩ : ∃ b, b = w1.heap.size := ⟨_, rfl⟩
  have hbw : w.heap.size < b := by rw [hb]; exact ST1.out.size
  have ST1' : Hid (St w (w1.alloc (.cells #[.int .u64 0, .int .u64 0, .int .u64 0, .int .u64 0] 26)) g (l.drop 1)) := ST1.out.alloc _
  have BS1 : Hid (BoxS (w1.alloc (.cells #[.int .u64 0, .int .u64 0, .int .u64 0, .int .u64 0] 26)) b 0 0 0 0) := by rw [hb]; exact BoxS.new w1 26 0 0 0 0
  have hbs : b < (w1.alloc (.cells #[.int .u64 0, .int .u64 0, .int .u64 0, .int .u64 0] 26)).heap.size := by rw [hb]; simp
  clear r gr ST0 G1 ST1
  go_wp2
  rw [← hb]
  clear hb
  generalize (w1.alloc (.cells #[.int .u64 0, .int .u64 0, .int .u64 0, .int .u64 0] 26)) = w2 at *
  go_loopw [6] (fun s6 wr => ∃ (first : Bool) (acc : S4) (l' : List UInt8) (x0 x1 x2 x3 : Int), s6 = .bool first ∧ Hid (St w wr g l') ∧ Hid (BoxS wr b x0 x1 x2 x3) ∧ b < wr.heap.size ∧ Hid (S4V acc x0 x1 x2 x3) ∧ Hid (restP first acc l' = R) ∧ Hid (l'.length ≤ 4000000)) (fun _ wr => lenAt g wr)
  case atStart =>
    exact ⟨true, S4.zero, l.drop 1, 0, 0, 0, 0, rfl, ST1', BS1, hbs, S4V.nought, HRR, HL.out.2⟩
  case round =>
    obtain ⟨first, acc, l', x0, x1, x2, x3, rfl, STr, BSr, hbr, SVr, RR, LL⟩ := hrel
    clear ST1' BS1 hbs HRR HL
    rcases (show (first = false ∧ pre [93] l' = true) ∨ first = true ∨ (first = false ∧ pre [93] l' = false) by cases first <;> cases pre [93] l' <;> simp) with ⟨rfl, h93⟩ | rfl | ⟨rfl, h93⟩
    · have G2 := skip_hit g l' ⟨#[93]⟩ h93
      have RE : Hid (R = some (acc, l'.drop 1)) := by rw [← RR.out]; exact restP_end acc l' h93
      have GN := not_at acc x0 x1 x2 x3 SVr.out
      clear h93 RR LL
      go_wp2_with fail
      refine (G2.out _ STr.out.rb).mono ?_
      rintro e w3 ⟨rfl, r, gr⟩
      have ST3 : Hid (St w w3 g (l'.drop 1)) := STr.out.grown r gr
      have BS3 : Hid (BoxS w3 b x0 x1 x2 x3) := BSr.out.grown gr hbr (by omega)
      have hb3 : b < w3.heap.size := Nat.lt_of_lt_of_le hbr gr.size
      clear r gr STr BSr G2
      obtain ⟨⟨ka, kb, kc, kd⟩, ja, jb, jc, jd⟩ := id BS3.out
      go_wp2_with fail
      refine (GN.out _).mono ?_
      rintro e w4b ⟨y0, y1, y2, y3, rfl, sv, b4⟩
      have ST4 : Hid (St w w4b g (l'.drop 1)) := ST3.out.below b4
      have BS4 : Hid (BoxS w4b b x0 x1 x2 x3) := BS3.out.below b4 hb3
      have HSV := (show Hid _ from sv)
      clear ka kb kc kd ja jb jc jd sv b4 ST3 BS3
      obtain ⟨⟨ka, kb, kc, kd⟩, ja, jb, jc, jd⟩ := id BS4.out
      obtain ⟨⟨ca, cb, cc, cd⟩, fa, fb, fc, fd⟩ := id ST4.out.box
      have hne : ¬ b = w.heap.size := by omega
      have hne' : ¬ w.heap.size = b := by omega
      have ST5 := ST4.out.own4 hbw (.int .u64 y0) (.int .u64 y1) (.int .u64 y2) (.int .u64 y3)
      have ST5 := (show Hid _ from ST5)
      go_wp2
      exact bodyPost_ret (v := .tuple #[.agg #[.int .u64 y0, .int .u64 y1, .int .u64 y2, .int .u64 y3], .bool true]) (by simp [results, Try.results57, go_sem, ca, cb, cc, cd, fa, fb, fc, fd, ka, kb, kc, kd, ja, jb, jc, jd, hne, hne']) rfl ⟨y0, y1, y2, y3, true, l'.drop 1, rfl, (ST5.out.put _ _ _ _).1, (ST5.out.put _ _ _ _).2, by rw [RE.out]; rfl, fun _ => ⟨_, by rw [RE.out]; rfl, HSV.out⟩⟩
    · have hgo : ¬ (true = false ∧ pre [93] l' = true) := by simp
      have GM : Hid (∀ W, RB W g l' → MaxL W → Calls Try.prog 78 #[.pointer (some ⟨g, 0, none⟩)] W (SetO (memberP l') W g)) := fun W r m => member_any g l' W r m LL.out (by have := STr.out.pos; exact this)
      cases hm : memberP l' with
      | none =>
        have RE : Hid (R = none) := by rw [← RR.out]; exact restP_none true acc l' hgo hm
        rw [hm] at GM
        clear RR hm
        go_wp2_with fail
        refine (GM.out _ STr.out.rb STr.out.max).mono ?_
        rintro e w4b ⟨y0, y1, y2, y3, ok, l2, rfl, r, gr, h5, h6⟩
        have hok : ok = false := by simpa using h5.symm
        subst hok
        have ST4 : Hid (St w w4b g l2) := STr.out.grown r gr
        have hne : w.heap.size ≠ g := by omega
        clear r gr h5 h6 GM
        obtain ⟨⟨ca, cb, cc, cd⟩, fa, fb, fc, fd⟩ := id ST4.out.box
        have hz := ST4.out.size
        go_wp2
        exact bodyPost_ret (v := .tuple #[.agg #[.int .u64 0, .int .u64 0, .int .u64 0, .int .u64 0], .bool false]) (by simp [results, Try.results57, go_sem, ca, cb, cc, cd, fa, fb, fc, fd, hz]) rfl ⟨0, 0, 0, 0, false, l2, rfl, (ST4.out.put _ _ _ _).1.alloc _, grown_al (ST4.out.put _ _ _ _).2 _, by rw [RE.out]; rfl, fun q => by cases q⟩
      | some mt =>
        obtain ⟨m, t⟩ := mt
        have hlt := memberP_lt hm
        have RE : Hid (restP false (acc.or m) t = R) := by rw [← RR.out]; exact (restP_some true acc l' hgo hm).symm
        have LT : Hid (t.length < l'.length ∧ t.length ≤ 4000000) := ⟨hlt, by have := LL.out; omega⟩
        rw [hm] at GM
        clear RR hm hlt
        go_wp2_with fail
        refine (GM.out _ STr.out.rb STr.out.max).mono ?_
        rintro e w4b ⟨y0, y1, y2, y3, ok, l2, rfl, r, gr, h5, h6⟩
        have hok : ok = true := by simpa using h5.symm
        subst hok
        obtain ⟨m', e6, hsv⟩ := h6 rfl
        simp only [Option.some.injEq, Prod.mk.injEq] at e6
        obtain ⟨rfl, rfl⟩ := e6
        have ST4 : Hid (St w w4b g t) := STr.out.grown r gr
        have BS4 : Hid (BoxS w4b b x0 x1 x2 x3) := BSr.out.grown gr hbr (by omega)
        have hb4 : b < w4b.heap.size := Nat.lt_of_lt_of_le hbr gr.size
        have GO := or_at acc m x0 x1 x2 x3 y0 y1 y2 y3 SVr.out hsv
        have LA : Hid (lenAt g wr = l'.length) := STr.out.rb.len
        clear r gr h5 h6 GM hsv BSr
        obtain ⟨⟨ka, kb, kc, kd⟩, ja, jb, jc, jd⟩ := id BS4.out
        go_wp2_with fail
        refine (GO.out _).mono ?_
        rintro e w5 ⟨z0, z1, z2, z3, rfl, sv, b5⟩
        have ST5 : Hid (St w w5 g t) := (ST4.out.alloc _).below b5
        have BS5 : Hid (BoxS w5 b x0 x1 x2 x3) := (BS4.out.below ((Below.refl _ _).alloc (Nat.le_refl _) _) hb4).below b5 (by simp; omega)
        have hb5 : b < w5.heap.size := by have := b5.size; simp at this; omega
        have HSV := (show Hid _ from sv)
        clear ka kb kc kd ja jb jc jd sv b5 ST4 BS4
        obtain ⟨⟨ka, kb, kc, kd⟩, ja, jb, jc, jd⟩ := id BS5.out
        have ST6 := (show Hid _ from ST5.out.own4 hbw (.int .u64 z0) (.int .u64 z1) (.int .u64 z2) (.int .u64 z3))
        have BS6 := (show Hid _ from BS5.out.put z0 z1 z2 z3)
        go_wp2
        go_roundw
        case rel => exact ⟨false, acc.or m, t, z0, z1, z2, z3, rfl, ST6.out, BS6.out, by simpa [World.setCell] using hb5, HSV.out, RE.out, LT.out.2⟩
        case measure => rw [ST6.out.rb.len]; have := LA.out; have := LT.out.1; omega
    · have hgo : ¬ (false = false ∧ pre [93] l' = true) := by rw [h93]; simp
      have G2 := skip_miss g l' ⟨#[93]⟩ h93
      clear h93
      have GM : Hid (∀ W, RB W g l' → MaxL W → Calls Try.prog 78 #[.pointer (some ⟨g, 0, none⟩)] W (SetO (memberP l') W g)) := fun W r m => member_any g l' W r m LL.out (by have := STr.out.pos; exact this)
      cases hm : memberP l' with
      | none =>
        have RE : Hid (R = none) := by rw [← RR.out]; exact restP_none false acc l' hgo hm
        rw [hm] at GM
        clear RR hm
        go_wp2_with fail
        refine (G2.out _ STr.out.rb).mono ?_
        rintro e w3 ⟨rfl, r, gr⟩
        have LA : Hid (lenAt g wr = l'.length) := STr.out.rb.len
        have ST3 : Hid (St w w3 g l') := STr.out.grown r gr
        have BS3 : Hid (BoxS w3 b x0 x1 x2 x3) := BSr.out.grown gr hbr (by omega)
        have hb3 : b < w3.heap.size := Nat.lt_of_lt_of_le hbr gr.size
        clear r gr G2 STr BSr hbr
        go_wp2_with fail
        refine (GM.out _ ST3.out.rb ST3.out.max).mono ?_
        rintro e w4b ⟨y0, y1, y2, y3, ok, l2, rfl, r, gr, h5, h6⟩
        have hok : ok = false := by simpa using h5.symm
        subst hok
        have ST4 : Hid (St w w4b g l2) := ST3.out.grown r gr
        have hne : w.heap.size ≠ g := by omega
        clear r gr h5 h6 GM
        obtain ⟨⟨ca, cb, cc, cd⟩, fa, fb, fc, fd⟩ := id ST4.out.box
        have hz := ST4.out.size
        go_wp2
        exact bodyPost_ret (v := .tuple #[.agg #[.int .u64 0, .int .u64 0, .int .u64 0, .int .u64 0], .bool false]) (by simp [results, Try.results57, go_sem, ca, cb, cc, cd, fa, fb, fc, fd, hz]) rfl ⟨0, 0, 0, 0, false, l2, rfl, (ST4.out.put _ _ _ _).1.alloc _, grown_al (ST4.out.put _ _ _ _).2 _, by rw [RE.out]; rfl, fun q => by cases q⟩
      | some mt =>
        obtain ⟨m, t⟩ := mt
        have hlt := memberP_lt hm
        have RE : Hid (restP false (acc.or m) t = R) := by rw [← RR.out]; exact (restP_some false acc l' hgo hm).symm
        have LT : Hid (t.length < l'.length ∧ t.length ≤ 4000000) := ⟨hlt, by have := LL.out; omega⟩
        rw [hm] at GM
        clear RR hm hlt
        go_wp2_with fail
        refine (G2.out _ STr.out.rb).mono ?_
        rintro e w3 ⟨rfl, r, gr⟩
        have LA : Hid (lenAt g wr = l'.length) := STr.out.rb.len
        have ST3 : Hid (St w w3 g l') := STr.out.grown r gr
        have BS3 : Hid (BoxS w3 b x0 x1 x2 x3) := BSr.out.grown gr hbr (by omega)
        have hb3 : b < w3.heap.size := Nat.lt_of_lt_of_le hbr gr.size
        clear r gr G2 STr BSr hbr
        go_wp2_with fail
        refine (GM.out _ ST3.out.rb ST3.out.max).mono ?_
        rintro e w4b ⟨y0, y1, y2, y3, ok, l2, rfl, r, gr, h5, h6⟩
        have hok : ok = true := by simpa using h5.symm
        subst hok
        obtain ⟨m', e6, hsv⟩ := h6 rfl
        simp only [Option.some.injEq, Prod.mk.injEq] at e6
        obtain ⟨rfl, rfl⟩ := e6
        have ST4 : Hid (St w w4b g t) := ST3.out.grown r gr
        have BS4 : Hid (BoxS w4b b x0 x1 x2 x3) := BS3.out.grown gr hb3 (by omega)
        have hb4 : b < w4b.heap.size := Nat.lt_of_lt_of_le hb3 gr.size
        have GO := or_at acc m x0 x1 x2 x3 y0 y1 y2 y3 SVr.out hsv
        clear r gr h5 h6 GM hsv BS3
        obtain ⟨⟨ka, kb, kc, kd⟩, ja, jb, jc, jd⟩ := id BS4.out
        go_wp2_with fail
        refine (GO.out _).mono ?_
        rintro e w5 ⟨z0, z1, z2, z3, rfl, sv, b5⟩
        have ST5 : Hid (St w w5 g t) := (ST4.out.alloc _).below b5
        have BS5 : Hid (BoxS w5 b x0 x1 x2 x3) := (BS4.out.below ((Below.refl _ _).alloc (Nat.le_refl _) _) hb4).below b5 (by simp; omega)
        have hb5 : b < w5.heap.size := by have := b5.size; simp at this; omega
        have HSV := (show Hid _ from sv)
        clear ka kb kc kd ja jb jc jd sv b5 ST4 BS4
        obtain ⟨⟨ka, kb, kc, kd⟩, ja, jb, jc, jd⟩ := id BS5.out
        have ST6 := (show Hid _ from ST5.out.own4 hbw (.int .u64 z0) (.int .u64 z1) (.int .u64 z2) (.int .u64 z3))
        have BS6 := (show Hid _ from BS5.out.put z0 z1 z2 z3)
        go_wp2
        go_roundw
        case rel => exact ⟨false, acc.or m, t, z0, z1, z2, z3, rfl, ST6.out, BS6.out, by simpa [World.setCell] using hb5, HSV.out, RE.out, LT.out.2⟩
        case measure => rw [ST6.out.rb.len]; have := LA.out; have := LT.out.1; omega
theorem expr_any (g : Nat) (l : List UInt8) (w : World) (h : RB w g l) (hM : MaxL w) (hl : l.length ≤ 4000000) (hg0 : 0 < g) :
    Calls Try.prog 57 #[.pointer (some ⟨g, 0, none⟩)] w (SetO (exprP l) w g) := by
  cases hp : pre [94] l
  · exact expr_plain g l w h hM hl hg0 hp
  · exact expr_not g l w h hM hl hg0 hp
end Go.Proofs.Ytndmjndokokmnaa
