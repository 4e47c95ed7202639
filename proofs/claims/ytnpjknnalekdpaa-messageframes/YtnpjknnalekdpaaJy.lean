import Derived.Test.YtnpjknnalekdpaaJx
import Derived.Test.YtnpjknnalekdpaaGk
import Derived.Test.YtnpjknnalekdpaaFw
namespace Go.Proofs.Ytnpjknnalekdpaa
set_option linter.unusedSimpArgs false
set_option linter.unusedVariables false
open Go.RowKit
theorem loadM68g {ops : Array Oper} {rest : List Oper} {o : Oper} {a : Act} {w : World} {Q : Exit → Act → World → Prop} (hw : Region.wanted o (yielded ops a.tmps) = true) (x : Operand) (ho : o.op = .load 32 x) (g : Nat) (hx : a.eval x = .pointer (some ⟨g, 0, none⟩)) (m : Msg) (hm : m.Ok) (hb : BoxM 32 w g m)
    (h : wpList Try.prog ops Q rest (a.put o.dst (.agg (mC m).toArray)) w) : wpList Try.prog ops Q (o :: rest) a w := by
  unfold wpList
  rw [if_pos hw]
  exact Or.inl (wp_load_mid 32 x ho g 0 hx (mC m) _ (box_range hb) Try.underlying32 rfl (by rw [size68, mC_length m hm]) h)
theorem end68 {fn : Func} (hr : fn.results = #[.cell 2 32, .tmp 3]) {R : Ending → World → Prop} {T : Array Value} {w : World} {B : Nat} {m : Msg} {v : Value} (hm : m.Ok) (h2 : T[2]? = some (.pointer (some ⟨B, 0, none⟩))) (h3 : T[3]? = some v) (hb : BoxM 32 w B m) (hR : R (.returned (.tuple #[.agg (mC m).toArray, v])) w) : bodyPost Try.prog fn R .ret ⟨T, []⟩ w := by
  have q := run_loadVar_row w B 32 32 (mC m).toArray (0, 0) _ hb Try.underlying32 rfl (by rw [size68, List.size_toArray, mC_length m hm])
  refine bodyPost_ret (v := .tuple #[.agg (mC m).toArray, v]) ?_ rfl hR
  simp [results, hr, asAddr, h2, h3, q]
theorem end65 {fn : Func} (hr : fn.results = #[.cell 2 37, .tmp 3]) {R : Ending → World → Prop} {T : Array Value} {w : World} {B : Nat} {m : Msg} {v : Value} (hm : m.Ok) (h2 : T[2]? = some (.pointer (some ⟨B, 0, none⟩))) (h3 : T[3]? = some v) (hb : BoxM 37 w B m) (hR : R (.returned (.tuple #[.agg (mC m).toArray, v])) w) : bodyPost Try.prog fn R .ret ⟨T, []⟩ w := by
  have q := run_loadVar_row w B 37 37 (mC m).toArray (0, 0) _ hb Try.underlying37 rfl (by rw [size65, List.size_toArray, mC_length m hm])
  refine bodyPost_ret (v := .tuple #[.agg (mC m).toArray, v]) ?_ rfl hR
  simp [results, hr, asAddr, h2, h3, q]
theorem set_frm (m : Msg) (x : Int) : (mC m).set 1 (.int .i64 x) = mC { m with frm := x } := rfl
theorem set_to (m : Msg) (x : Int) : (mC m).set 2 (.int .i64 x) = mC { m with to := x } := rfl
theorem set_id (m : Msg) (x : Int) : (mC m).set 3 (.int .u64 x) = mC { m with id := x } := rfl
def msgK (t : Int) : Msg := ⟨t, 0, 0, 0, 0, ⟨#[]⟩, false, false, zs 32, false, 0, zs 32, zs 32, false⟩
theorem ceK (t : Int) : (zcel32.setIfInBounds 0 (Value.int IntKind.i64 t)) = (mC (msgK t)).toArray := by
  rw [zero68, List.setIfInBounds_toArray]; rfl
theorem msgK_ok (t : Int) (h : 0 ≤ t ∧ t ≤ 255) : (msgK t).Ok := ⟨by (show -9223372036854775808 ≤ t ∧ t ≤ 9223372036854775807); omega, msg0_ok.f, msg0_ok.t, msg0_ok.i, msg0_ok.b, msg0_ok.c, msg0_ok.s, msg0_ok.h, msg0_ok.v, msg0_ok.r, msg0_ok.hb, msg0_ok.vb, msg0_ok.rb⟩
theorem storeZ68 {ops : Array Oper} {rest : List Oper} {o : Oper} {a : Act} {w : World} {Q : Exit → Act → World → Prop} (hgd : o.guard = none) (x y : Operand) (ho : o.op = .store 32 x y) (g : Nat) (hx : a.eval x = .pointer (some ⟨g, 0, none⟩)) (m0 : Msg) (hy : a.eval y = .agg zcel32) (hm0 : m0.Ok) (hb : BoxM 32 w g m0)
    (h : wpList Try.prog ops Q rest (a.put o.dst undef) (w.setRow g (mC msg0).toArray)) : wpList Try.prog ops Q (o :: rest) a w :=
  storeM68 hgd x y ho g hx msg0 m0 (by rw [hy, zero68]) msg0_ok hm0 hb h
theorem storeZ65 {ops : Array Oper} {rest : List Oper} {o : Oper} {a : Act} {w : World} {Q : Exit → Act → World → Prop} (hgd : o.guard = none) (x y : Operand) (ho : o.op = .store 37 x y) (g : Nat) (hx : a.eval x = .pointer (some ⟨g, 0, none⟩)) (m0 : Msg) (hy : a.eval y = .agg zcel37) (hm0 : m0.Ok) (hb : BoxM 37 w g m0)
    (h : wpList Try.prog ops Q rest (a.put o.dst undef) (w.setRow g (mC msg0).toArray)) : wpList Try.prog ops Q (o :: rest) a w :=
  storeM65 hgd x y ho g hx msg0 m0 (by rw [hy, zero65]) msg0_ok hm0 hb h
theorem done_iff (st : Option (List Int)) : (!badB st && stLen st == 0) = decide (st = some []) := by
  cases st with
  | none => rfl
  | some l =>
    cases l with
    | nil => rfl
    | cons a b => simp [badB, stLen]
set_option maxHeartbeats 2000000 in
set_option maxRecDepth 100000 in
theorem of_any77 (t : Int) (ht : 0 ≤ t ∧ t ≤ 255) (v : Value) (l : List Int) (hb : Bytes l) (hl : l.length ≤ 140737488355328) (w : World) (hp : PartAt w v l) : Calls Try.prog 5 #[.agg #[.int .u8 t, v]] w fun e w' => e = .returned (.tuple #[.agg (mC (ofR t l)).toArray, .int .i64 (ofC t l)]) ∧ Below w.heap.size w w' := by
  obtain ⟨w1, hw1⟩ : ∃ w1, w1 = (w.alloc (.cells #[.int .u8 t, v] 36)).alloc (.cells zcel32 32) := ⟨_, rfl⟩
  have k1 : Below w.heap.size w (w.alloc (.cells #[.int .u8 t, v] 36)) := (Below.refl _ _).alloc (Nat.le_refl _) _
  have k2 : Below w.heap.size w w1 := by rw [hw1]; exact k1.alloc k1.size _
  have s1 : w1.heap.size = w.heap.size + 1 + 1 := by rw [hw1]; simp
  have g0 : w1.heap[w.heap.size]? = some (.cells #[.int .u8 t, v] 36) := by rw [hw1, Below.heap_alloc _ _ _ (by simp)]; exact heap_alloc_new _ _
  have g1 : BoxM 32 w1 (w.heap.size + 1) msg0 := by
    unfold BoxM
    have := heap_alloc_new (w.alloc (.cells #[.int .u8 t, v] 36)) (.cells zcel32 32)
    rw [show (w.alloc (.cells #[.int .u8 t, v] 36)).heap.size = w.heap.size + 1 by simp] at this
    rw [hw1, this, zero68]
  have RD : Hid (Calls Try.prog 8 #[v] w1 fun e w' => ∃ g, e = .returned (.pointer (some ⟨g, 0, none⟩)) ∧ RSt w' g (some l) ∧ w1.heap.size ≤ g ∧ Below w1.heap.size w1 w') := read_any v l hb hl w1 (run_conv (hp.below k2))
  have e0 := row_cell (j := 0) g0 rfl
  have e1 := row_cell (j := 1) g0 rfl
  rw [hw1] at e0 e1
  have HB : Hid (Bytes l) := hb
  have HT : Hid (0 ≤ t ∧ t ≤ 255) := ht
  have ht0 : 0 ≤ t := ht.1
  have ht1 : t ≤ 255 := ht.2
  have K2 : Hid (Below w.heap.size w w1) := k2
  have S1 : Hid (w1.heap.size = w.heap.size + 1 + 1) := s1
  have G0 : Hid (w1.heap[w.heap.size]? = some (.cells #[.int .u8 t, v] 36)) := g0
  have G1 : Hid (BoxM 32 w1 (w.heap.size + 1) msg0) := g1
  have HW1 : Hid (w1 = (w.alloc (.cells #[.int .u8 t, v] 36)).alloc (.cells zcel32 32)) := hw1
  clear hb ht k1 k2 s1 g0 g1 hw1 hp hl
  go_enter Try.func5, Try.ntmps5
  go_wp2_with fail
  rw [← HW1.out]
  clear e0 e1
  refine RD.out.mono ?_
  rintro e w2 ⟨g, rfl, r2, gg, b2⟩
  have G0b : w2.heap[w.heap.size]? = some (.cells #[.int .u8 t, v] 36) := by rw [b2.block _ (by rw [S1.out]; omega)]; exact G0.out
  have e0 := row_cell (j := 0) G0b rfl
  have e1 := row_cell (j := 0) (w := w2.alloc (.cells zcel32 32)) (g := w.heap.size) (by rw [Below.heap_alloc _ _ _ (Array.getElem?_eq_some_iff.1 G0b).1]; exact G0b) rfl
  have H3 : Hid ((w2.alloc (.cells zcel32 32)).heap[w2.heap.size]? = some (.cells zcel32 32)) := heap_alloc_new _ _
  have ok0 := msgK_ok t HT.out
  have HI : Hid ((Try.prog.info? 32).map (·.size) = some (zcel32.setIfInBounds 0 (Value.int IntKind.i64 t)).size) := by unfold Hid; rw [ceK, size68, List.size_toArray, mC_length _ ok0]
  have HZ : Hid (zcel32.size = (zcel32.setIfInBounds 0 (Value.int IntKind.i64 t)).size) := by unfold Hid; rw [ceK, zero68, List.size_toArray, List.size_toArray, mC_length _ ok0, mC_length _ msg0_ok]
  have HO : Hid ((zcel32.setIfInBounds 0 (Value.int IntKind.i64 t)).all (·.oneCell') = true) := by unfold Hid; rw [ceK]; exact all_oneCell_toArray (mC_one _)
  have K3 : Hid (∀ W, W = (w2.alloc (.cells zcel32 32)).setRow w2.heap.size (zcel32.setIfInBounds 0 (Value.int IntKind.i64 t)) → RW w1.heap.size w1 g w2.heap.size (msgK t) W (some l)) := fun W hW => by
    subst hW
    have hlt := r2.lt
    have b3 : Below w1.heap.size w1 (w2.alloc (.cells zcel32 32)) := b2.alloc b2.size _
    refine ⟨r2.keep ?_, ?_, ok0, by omega, gg, b2.size, below_setRow b3 b2.size _⟩
    · rw [setRow_far _ _ _ _ (by omega), Below.heap_alloc _ _ _ hlt]
    · unfold BoxM; rw [setRow_same H3.out, ceK]
  clear G0b r2 gg b2 ok0 RD G0 HW1
  go_wp2_with (first | (refine wpList_store_row rfl 32 _ _ rfl w2.heap.size (zcel32.setIfInBounds 0 (Value.int IntKind.i64 t)) rfl rfl 32 zcel32 H3.out HI.out HZ.out HO.out ?_; (obtain ⟨w3, hw3⟩ : ∃ W, W = (w2.alloc (.cells zcel32 32)).setRow w2.heap.size (zcel32.setIfInBounds 0 (Value.int IntKind.i64 t)) := ⟨_, rfl⟩); rw [← hw3]; have R3 : Hid (RW w1.heap.size w1 g w2.heap.size (msgK t) w3 (some l)) := K3.out w3 hw3; clear K3 hw3 H3 HI HZ HO e0 e1))
  have HH : Hid (headM t l = { msgK t with frm := rnumV (some l) 1, to := rnumV (rnumSt (some l) 1) 1, id := rnumV (rnumSt (rnumSt (some l) 1) 1) 4 } ∧ headS l = rnumSt (rnumSt (rnumSt (some l) 1) 1) 4) := ⟨rfl, rfl⟩
  refine (rw_num R3.out 1).mono ?_
  rintro e w4 ⟨rfl, k4⟩
  have b4 := rnum_bound R3.out.bst 1 1 rfl (by omega)
  have o4 := row_cell k4.box (mC_1 _)
  have f4 : w4.frozen? ⟨w2.heap.size, 1, none⟩ = false := unfrozen k4.box
  have g4 : IntKind.i64.wrap (rnumV (some l) 1) = rnumV (some l) 1 := wrapI _ b4.1 (by omega)
  have k4b : RW w1.heap.size w1 g w2.heap.size { msgK t with frm := rnumV (some l) 1 } (w4.setCell ⟨w2.heap.size, 1, none⟩ (.int .i64 (rnumV (some l) 1))) (rnumSt (some l) 1) := k4.cell 1 _ (set_frm _ _) ⟨k4.ok.k, by (show -9223372036854775808 ≤ rnumV (some l) 1 ∧ rnumV (some l) 1 ≤ 9223372036854775807); omega, k4.ok.t, k4.ok.i, k4.ok.b, k4.ok.c, k4.ok.s, k4.ok.h, k4.ok.v, k4.ok.r, k4.ok.hb, k4.ok.vb, k4.ok.rb⟩
  generalize rnumV (some l) 1 = v1 at *
  generalize rnumSt (some l) 1 = s1 at *
  have K4 : Hid (RW w1.heap.size w1 g w2.heap.size { msgK t with frm := v1 } (w4.setCell ⟨w2.heap.size, 1, none⟩ (.int .i64 v1)) s1) := k4b
  clear k4 k4b R3 b4
  go_wp2_with fail
  refine (rw_num K4.out 1).mono ?_
  rintro e w5 ⟨rfl, k5⟩
  have b5 := rnum_bound K4.out.bst 1 1 rfl (by omega)
  have o5 := row_cell k5.box (mC_2 _)
  have f5 : w5.frozen? ⟨w2.heap.size, 2, none⟩ = false := unfrozen k5.box
  have g5 : IntKind.i64.wrap (rnumV s1 1) = rnumV s1 1 := wrapI _ b5.1 (by omega)
  have k5b : RW w1.heap.size w1 g w2.heap.size { msgK t with frm := v1, to := rnumV s1 1 } (w5.setCell ⟨w2.heap.size, 2, none⟩ (.int .i64 (rnumV s1 1))) (rnumSt s1 1) := k5.cell 2 _ (set_to _ _) ⟨k5.ok.k, k5.ok.f, by (show -9223372036854775808 ≤ rnumV s1 1 ∧ rnumV s1 1 ≤ 9223372036854775807); omega, k5.ok.i, k5.ok.b, k5.ok.c, k5.ok.s, k5.ok.h, k5.ok.v, k5.ok.r, k5.ok.hb, k5.ok.vb, k5.ok.rb⟩
  generalize rnumV s1 1 = v2 at *
  generalize rnumSt s1 1 = s2 at *
  have K5 : Hid (RW w1.heap.size w1 g w2.heap.size { msgK t with frm := v1, to := v2 } (w5.setCell ⟨w2.heap.size, 2, none⟩ (.int .i64 v2)) s2) := k5b
  clear k5 k5b K4 b5 o4 f4 g4
  go_wp2_with fail
  refine (rw_num K5.out 4).mono ?_
  rintro e w6 ⟨rfl, k6⟩
  have b6 := rnum64 K5.out.bst 4 4 rfl (by omega)
  have o6 := row_cell k6.box (mC_3 _)
  have f6 : w6.frozen? ⟨w2.heap.size, 3, none⟩ = false := unfrozen k6.box
  have k6b : RW w1.heap.size w1 g w2.heap.size { msgK t with frm := v1, to := v2, id := rnumV s2 4 } (w6.setCell ⟨w2.heap.size, 3, none⟩ (.int .u64 (rnumV s2 4))) (rnumSt s2 4) := k6.cell 3 _ (set_id _ _) ⟨k6.ok.k, k6.ok.f, k6.ok.t, by (show 0 ≤ rnumV s2 4 ∧ rnumV s2 4 ≤ 18446744073709551615); omega, k6.ok.b, k6.ok.c, k6.ok.s, k6.ok.h, k6.ok.v, k6.ok.r, k6.ok.hb, k6.ok.vb, k6.ok.rb⟩
  generalize rnumV s2 4 = v3 at *
  generalize rnumSt s2 4 = s3 at *
  rw [← HH.out.1, ← HH.out.2] at k6b
  have RO : Hid (Calls Try.prog 10 #[.pointer (some ⟨g, 0, none⟩), .pointer (some ⟨w2.heap.size, 0, none⟩)] (w6.setCell ⟨w2.heap.size, 3, none⟩ (.int .u64 v3)) fun e w' => e = .returned (.tuple #[]) ∧ RW w1.heap.size w1 g w2.heap.size (ofM t l) w' (ofS t l)) := rown_any _ _ _ _ _ _ _ k6b
  clear k6 k6b K5 b6 o5 f5 g5 HH
  go_wp2_with fail
  refine RO.out.mono ?_
  rintro e w7 ⟨rfl, k7⟩
  clear RO o6 f6
  have K7 : Hid (RW w1.heap.size w1 g w2.heap.size (ofM t l) w7 (ofS t l)) := k7
  have B7 : Hid (Below w.heap.size w w7) := K2.out.trans (k7.bl.mono (by rw [S1.out]; omega))
  have G7 : Hid (∀ W, Below w7.heap.size w7 W → BoxM 32 W (w.heap.size + 1) msg0) := fun W q => by
    have h1 : BoxM 32 w7 (w.heap.size + 1) msg0 := by unfold BoxM; rw [k7.bl.block _ (by rw [S1.out]; omega)]; exact G1.out
    exact h1.below q
  have DN : Hid (Calls Try.prog 11 #[.pointer (some ⟨g, 0, none⟩)] w7 fun e w' => e = .returned (.bool (decide (ofS t l = some []))) ∧ w7 = w') := (done_h _ _ w7 k7.hnd).mono fun e w' ⟨r1, r2⟩ => ⟨by rw [r1, done_iff], r2.symm⟩
  have FM : Hid (Calls Try.prog 7 #[.agg (mC (ofM t l)).toArray] w7 fun e w' => e = .returned (.bool (formB (ofM t l))) ∧ Below w7.heap.size w7 w') := formed_any (ofM t l) k7.ok w7
  clear k7 K2 S1 G1
  by_cases hd : ofS t l = some []
  · have hdn : decide (ofS t l = some []) = true := decide_eq_true hd
    rw [hdn] at DN
    cases hf : formB (ofM t l) with
    | true =>
      have HR : Hid (ofR t l = ofM t l ∧ ofC t l = 0) := by unfold Hid ofR ofC; rw [if_pos ⟨hd, hf⟩, if_pos ⟨hd, hf⟩]; exact ⟨rfl, rfl⟩
      rw [hf] at FM
      clear hd hdn hf
      generalize ofM t l = M at *
      generalize ofS t l = S at *
      go_wp2_with fail
      refine DN.out.mono ?_
      rintro e w8 ⟨rfl, rfl⟩
      go_wp2_with (first | (refine loadM68g rfl _ rfl w2.heap.size rfl M K7.out.ok K7.out.box ?_))
      refine FM.out.mono ?_
      rintro e w9 ⟨rfl, b9⟩
      have X9 : Hid (BoxM 32 w9 w2.heap.size M) := K7.out.box.below b9
      have G9 : Hid (BoxM 32 w9 (w.heap.size + 1) msg0) := G7.out w9 b9
      have B9 : Hid (Below w.heap.size w w9) := B7.out.trans (b9.mono B7.out.size)
      clear b9
      go_wp2_with (first | (refine loadM68 rfl _ rfl w2.heap.size rfl M K7.out.ok X9.out ?_) | (refine storeM68 rfl _ _ rfl (w.heap.size + 1) rfl M msg0 rfl K7.out.ok msg0_ok G9.out ?_))
      exact end68 Try.results5 K7.out.ok rfl rfl (setRow_same G9.out) ⟨by rw [HR.out.1, HR.out.2]; rfl, below_setRow B9.out (by omega) _⟩
    | false =>
      have HR : Hid (ofR t l = msg0 ∧ ofC t l = 2) := by unfold Hid ofR ofC; rw [if_neg (by rw [hf]; simp), if_neg (by rw [hf]; simp)]; exact ⟨rfl, rfl⟩
      rw [hf] at FM
      clear hd hdn hf
      generalize ofM t l = M at *
      generalize ofS t l = S at *
      go_wp2_with fail
      refine DN.out.mono ?_
      rintro e w8 ⟨rfl, rfl⟩
      go_wp2_with (first | (refine loadM68g rfl _ rfl w2.heap.size rfl M K7.out.ok K7.out.box ?_))
      refine FM.out.mono ?_
      rintro e w9 ⟨rfl, b9⟩
      have G9 : Hid (BoxM 32 w9 (w.heap.size + 1) msg0) := G7.out w9 b9
      have B9 : Hid (Below w.heap.size w w9) := B7.out.trans (b9.mono B7.out.size)
      clear b9
      go_wp2_with (first | (refine storeZ68 rfl _ _ rfl (w.heap.size + 1) rfl msg0 rfl msg0_ok G9.out ?_))
      exact end68 Try.results5 msg0_ok rfl rfl (setRow_same G9.out) ⟨by rw [HR.out.1, HR.out.2]; rfl, below_setRow B9.out (by omega) _⟩
  · have hdn : decide (ofS t l = some []) = false := decide_eq_false hd
    rw [hdn] at DN
    have HR : Hid (ofR t l = msg0 ∧ ofC t l = 2) := by unfold Hid ofR ofC; rw [if_neg (fun h => hd h.1), if_neg (fun h => hd h.1)]; exact ⟨rfl, rfl⟩
    have G9 : Hid (BoxM 32 w7 (w.heap.size + 1) msg0) := G7.out w7 (Below.refl _ _)
    clear hd hdn
    generalize ofM t l = M at *
    generalize ofS t l = S at *
    go_wp2_with fail
    refine DN.out.mono ?_
    rintro e w8 ⟨rfl, rfl⟩
    go_wp2_with (first | (refine storeZ68 rfl _ _ rfl (w.heap.size + 1) rfl msg0 rfl msg0_ok G9.out ?_))
    exact end68 Try.results5 msg0_ok rfl rfl (setRow_same G9.out) ⟨by rw [HR.out.1, HR.out.2]; rfl, below_setRow B7.out (by omega) _⟩
end Go.Proofs.Ytnpjknnalekdpaa
namespace Go.Proofs.Ytnpjknnalekdpaa
set_option linter.unusedSimpArgs false
set_option linter.unusedVariables false
open Go.RowKit
theorem ofR_ok (t : Int) (ht : 0 ≤ t ∧ t ≤ 255) (l : List Int) (hb : Bytes l) : (ofR t l).Ok := by
  unfold ofR
  split
  · unfold ofM
    have b0 := YSt.some hb
    have b1 := b0.num 1
    have b2 := b1.num 1
    have b3 := b2.num 4
    have r1 := rnum64 b0 1 1 rfl (by omega)
    have r2 := rnum64 b1 1 1 rfl (by omega)
    have r3 := rnum64 b2 4 4 rfl (by omega)
    have hh : (headM t l).Ok := ⟨by (show -9223372036854775808 ≤ t ∧ t ≤ 9223372036854775807); omega, by (show -9223372036854775808 ≤ rnumV (some l) 1 ∧ rnumV (some l) 1 ≤ 9223372036854775807); omega, by (show -9223372036854775808 ≤ rnumV (rnumSt (some l) 1) 1 ∧ rnumV (rnumSt (some l) 1) 1 ≤ 9223372036854775807); omega, by (show 0 ≤ rnumV (rnumSt (rnumSt (some l) 1) 1) 4 ∧ rnumV (rnumSt (rnumSt (some l) 1) 1) 4 ≤ 18446744073709551615); omega, msg0_ok.b, msg0_ok.c, msg0_ok.s, msg0_ok.h, msg0_ok.v, msg0_ok.r, msg0_ok.hb, msg0_ok.vb, msg0_ok.rb⟩
    generalize headM t l = m at *
    have hs : YSt (headS l) := b3
    generalize headS l = st at *
    unfold rownM
    by_cases k1 : m.kind = 1
    · rw [if_pos k1]
      have q1 := rnum64 hs 4 4 rfl (by omega)
      have c1 := hs.num 4
      have c2 := c1.truth
      have c3 := c2.truth
      have tl := rtext_le (c3.take 32)
      exact ⟨hh.k, hh.f, hh.t, hh.i, by (show 0 ≤ rnumV st 4 ∧ rnumV st 4 ≤ 18446744073709551615); omega, hh.c, by (show (strOfNums (rtextV (takeSt (rtruthSt (rtruthSt (rnumSt st 4))) 32))).size ≤ 9223372036854775807); rw [strOfNums_size]; omega, rhash_len _, hh.v, hh.r, rhash_bytes c3, hh.vb, hh.rb⟩
    rw [if_neg k1]
    by_cases k2 : m.kind = 2
    · rw [if_pos k2]
      by_cases hy : rtruthV st = true
      · rw [if_pos hy]
        exact ⟨hh.k, hh.f, hh.t, hh.i, hh.b, hh.c, hh.s, hh.h, rhash_len _, rhash_len _, hh.hb, rhash_bytes hs.truth, rhash_bytes (hs.truth.take 32)⟩
      · rw [if_neg hy]
        have q1 := rnum64 hs.truth 1 1 rfl (by omega)
        exact ⟨hh.k, hh.f, hh.t, hh.i, hh.b, by (show -9223372036854775808 ≤ rnumV (rtruthSt st) 1 ∧ rnumV (rtruthSt st) 1 ≤ 9223372036854775807); omega, hh.s, hh.h, hh.v, hh.r, hh.hb, hh.vb, hh.rb⟩
    rw [if_neg k2]
    by_cases k3 : m.kind = 3 ∨ m.kind = 6
    · rw [if_pos k3]; exact ⟨hh.k, hh.f, hh.t, hh.i, hh.b, hh.c, hh.s, hh.h, hh.v, hh.r, hh.hb, hh.vb, hh.rb⟩
    · rw [if_neg k3]; exact hh
  · exact msg0_ok
end Go.Proofs.Ytnpjknnalekdpaa
