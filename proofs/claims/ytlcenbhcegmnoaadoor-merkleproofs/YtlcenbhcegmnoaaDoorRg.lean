import Derived.Test.YtlcenbhcegmnoaaDoorRf
namespace Go.Proofs.YtlcenbhcegmnoaaDoor
set_option linter.unusedSimpArgs false
set_option linter.unusedVariables false
open Go.RowKit
theorem rturn_quiet (x m : Int) (w : World) (a b : Nat) (h1 : 1 ≤ m) (h2 : m ≤ 31) : Calls Tryd.prog 45 #[.int .u32 x, .int .u64 m] (w.drewN (a + b)) fun e w'' => e = .returned (.int .u32 (rotr m.toNat x)) ∧ ∃ n, w'' = w.drewN (a + n) :=
  (rturn_gen x m _ h1 h2).mono fun _ _ ⟨he, hm⟩ => ⟨he, b, hm⟩
theorem list8 {a b c d e f g h a' b' c' d' e' f' g' h' : Int} (h0 : a = a') (h1 : b = b') (h2 : c = c') (h3 : d = d') (h4 : e = e') (h5 : f = f') (h6 : g = g') (h7 : h = h') : [a, b, c, d, e, f, g, h] = [a', b', c', d', e', f', g', h'] := by
  subst h0 h1 h2 h3 h4 h5 h6 h7; rfl
theorem store35x {ops : Array Oper} {rest : List Oper} {o : Oper} {a : Act} {w : World} {Q : Exit → Act → World → Prop} (hgd : o.guard = none) (x y : Operand) (ho : o.op = .store 34 x y) (g : Nat) (x0 x1 x2 x3 x4 x5 x6 x7 : Int) (hx : a.eval x = .pointer (some ⟨g, 0, none⟩)) (hy : a.eval y = .agg #[.int .u32 x0, .int .u32 x1, .int .u32 x2, .int .u32 x3, .int .u32 x4, .int .u32 x5, .int .u32 x6, .int .u32 x7]) (t : TypeId) (old : List Int) (hold : old.length = 8) (hg : w.heap[g]? = some (.cells (vW old) t))
    (h : wpList Tryd.prog ops Q rest (a.put o.dst undef) (w.setRow g (vW [x0, x1, x2, x3, x4, x5, x6, x7]))) : wpList Tryd.prog ops Q (o :: rest) a w :=
  store35 hgd x y ho g [x0, x1, x2, x3, x4, x5, x6, x7] hx hy rfl t old hold hg h
def stL (s : St) : List Int := [s.a, s.b, s.c, s.d, s.e, s.f, s.g, s.h]
/-- What the slots hold in the loop of the rounds. -/
structure Fr2 (f : Nat → Value) (R H KB ga n ca t B T : Nat) : Prop where
  base : Fr1 f R H KB ga n ca t B
  s : f 11 = .pointer (some ⟨T, 0, none⟩)
def N2 (R H KB ga n ca t B T k : Nat) (s : St) (w : World) (a : Act) (wq : World) : Prop :=
  ∃ f : Nat → Value, a = mkA f ∧ f 106 = .int .i64 k ∧ Fr2 f R H KB ga n ca t B T ∧ Below T w wq ∧ wq.heap.size = w.heap.size ∧ wq.heap[T]? = some (.cells (vW (stL s)) 34)
def I2 (R H KB ga n ca t B T : Nat) (S : List Int) (s0 : St) (w : World) (a : Act) (wq : World) : Prop :=
  ∃ k : Nat, k ≤ 64 ∧ N2 R H KB ga n ca t B T k (stAt S s0 k) w a wq
def mu2 (a : Act) (_ : World) : Nat := 64 - (intOf (a.tmps.getD 106 undef)).toNat
theorem mu_mk2 (f : Nat → Value) : (mkA f).tmps.getD 106 undef = f 106 := rfl
set_option maxRecDepth 1000000 in
set_option maxHeartbeats 1000000 in
theorem round2a (R H KB ga n ca t B T : Nat) (s : St) (kv wv : Int) (w : World) (Q : Exit → Act → World → Prop) (k : Nat) (f : Nat → Value) (wq : World) (hk : k < 64) (t106 : f 106 = .int .i64 k) (hF : Fr2 f R H KB ga n ca t B T)
    (hkc : wq.cell? ⟨KB, k, none⟩ = some (.int .u32 kv)) (hwc : wq.cell? ⟨B, k, none⟩ = some (.int .u32 wv))
    (hbl : Below T w wq) (hsz : Hid (wq.heap.size = w.heap.size)) (hT : Hid (wq.heap[T]? = some (.cells (vW (stL s)) 34))) :
    Code.wp Tryd.prog (((Tryd.f14.body.map loopsOf).getD []).getD 3 .skip) (Exit.then (fun a' w' => N2 R H KB ga n ca t B T (k + 1) (roundS kv wv s) w a' w' ∧ mu2 a' w' < mu2 (mkA f) wq) Q) (mkA f) wq := by
  have hmu : mu2 (mkA f) wq = 64 - k := by unfold mu2; rw [mu_mk2, t106]; rfl
  rw [hmu]
  clear hmu
  have c0 := row_cell hT.out (vW_at (stL s) 0 (by simp [stL]))
  have c1 := row_cell hT.out (vW_at (stL s) 1 (by simp [stL]))
  have c2 := row_cell hT.out (vW_at (stL s) 2 (by simp [stL]))
  have c3 := row_cell hT.out (vW_at (stL s) 3 (by simp [stL]))
  have c4 := row_cell hT.out (vW_at (stL s) 4 (by simp [stL]))
  have c5 := row_cell hT.out (vW_at (stL s) 5 (by simp [stL]))
  have c6 := row_cell hT.out (vW_at (stL s) 6 (by simp [stL]))
  have c7 := row_cell hT.out (vW_at (stL s) 7 (by simp [stL]))
  rw [show gi (stL s) 0 = s.a from rfl] at c0
  rw [show gi (stL s) 1 = s.b from rfl] at c1
  rw [show gi (stL s) 2 = s.c from rfl] at c2
  rw [show gi (stL s) 3 = s.d from rfl] at c3
  rw [show gi (stL s) 4 = s.e from rfl] at c4
  rw [show gi (stL s) 5 = s.f from rfl] at c5
  rw [show gi (stL s) 6 = s.g from rfl] at c6
  rw [show gi (stL s) 7 = s.h from rfl] at c7
  obtain ⟨⟨t2, t3, t4, t5, t6, t7⟩, t11⟩ := hF
  obtain ⟨sa, sb, sc, sd, se, sf, sg, sh⟩ := s
  dsimp only at c0 c1 c2 c3 c4 c5 c6 c7
  unfold mkA
  conv => arg 2; whnf
  dsimp only
  go_wp2_with fail
  go_quiet (fail)
  go_wp2_with fail
  go_quiet ((go_at_call 45; exact rturn_quiet _ _ _ _ _ (by omega) (by omega)))
  go_wp2_with fail
  go_quiet ((go_at_call 45; exact rturn_quiet _ _ _ _ _ (by omega) (by omega)))
  go_wp2_with (first | (refine store35x rfl _ _ rfl T _ _ _ _ _ _ _ _ rfl rfl 34 (stL ⟨sa, sb, sc, sd, se, sf, sg, sh⟩) rfl hT.out ?_))
  refine ⟨⟨_, act_lit _ rfl, by go_num, ⟨⟨rfl, rfl, rfl, rfl, rfl, rfl⟩, rfl⟩, below_setRow (below_drewN hbl _) (Nat.le_refl _) _, ?_, ?_⟩, ?_⟩
  · rw [← hsz.out]; simp
  · rw [setRow_same (show (wq.drewN _).heap[T]? = _ from hT.out)]
    have e : ∀ x y : List Int, x = y → some (Obj.cells (vW x) 34 (0, 0)) = some (Obj.cells (vW y) 34 (0, 0)) := fun x y h => by rw [h]
    refine e _ _ ?_
    unfold stL roundS firstS secondS add32
    rw [mixE_eq, mixA_eq]
    unfold choice major bxor band
    dsimp only
    refine list8 ?_ rfl rfl rfl ?_ rfl rfl rfl
    · omega
    · omega
  · show 64 - (intOf (.int .i64 ((k : Int) + 1))).toNat < 64 - k
    simp [intOf]; omega
set_option maxRecDepth 1000000 in
set_option maxHeartbeats 1000000 in
theorem round2c (R H KB ga n ca t B T : Nat) (s : St) (w : World) (X : Act → World → Prop) (f : Nat → Value) (wq : World) (t106 : f 106 = .int .i64 64) (hF : Fr2 f R H KB ga n ca t B T)
    (hbl : Below T w wq) (hsz : Hid (wq.heap.size = w.heap.size)) (hT : Hid (wq.heap[T]? = some (.cells (vW (stL s)) 34))) :
    Code.wp Tryd.prog (((Tryd.f14.body.map loopsOf).getD []).getD 3 .skip) (Exit.then X (postOf 6 (N2 R H KB ga n ca t B T 64 s w))) (mkA f) wq := by
  obtain ⟨⟨t2, t3, t4, t5, t6, t7⟩, t11⟩ := hF
  unfold mkA
  conv => arg 2; whnf
  dsimp only
  go_wp2_with fail
  exact ⟨rfl, _, act_lit _ rfl, t106, ⟨⟨t2, t3, t4, t5, t6, t7⟩, t11⟩, hbl, hsz.out, hT.out⟩
theorem loop2 (R H KB ga n ca t B T : Nat) (S : List Int) (hS : S.length = 64) (s0 : St) (w : World) (f : Nat → Value) (t106 : f 106 = .int .i64 0) (hF : Fr2 f R H KB ga n ca t B T) (hKT : KB < T) (hBT : B < T)
    (hK : w.heap[KB]? = some (.cells (vW kWords) 58)) (hB : w.heap[B]? = some (.cells (vW S) 58)) (hT : w.heap[T]? = some (.cells (vW (stL s0)) 34)) :
    Code.wp Tryd.prog (.loop (((Tryd.f14.body.map loopsOf).getD []).getD 3 .skip)) (postOf 6 (N2 R H KB ga n ca t B T 64 (stAt S s0 64) w)) (mkA f) w := by
  refine wp_loop (I2 R H KB ga n ca t B T S s0 w) mu2 ⟨0, by omega, f, rfl, t106, hF, Below.refl _ _, rfl, hT⟩ ?_
  rintro a wq ⟨k, hk, f', rfl, t106', hF', hbl, hsz, hT'⟩
  by_cases h64 : k < 64
  · have hkc : wq.cell? ⟨KB, k, none⟩ = some (.int .u32 (gi kWords k)) := by rw [hbl.cell (show KB < T from hKT)]; exact row_cell hK (vW_at _ k (by show k < 64; omega))
    have hwc : wq.cell? ⟨B, k, none⟩ = some (.int .u32 (gi S k)) := by rw [hbl.cell (show B < T from hBT)]; exact row_cell hB (vW_at _ k (by omega))
    refine Code.wp_mono ?_ (round2a R H KB ga n ca t B T (stAt S s0 k) (gi kWords k) (gi S k) w (postOf 6 (N2 R H KB ga n ca t B T 64 (stAt S s0 64) w)) k f' wq h64 t106' hF' hkc hwc hbl hsz hT')
    intro e a' w' h
    cases e with
    | normal => exact ⟨⟨k + 1, by omega, h.1⟩, h.2⟩
    | _ => exact h
  · have e : k = 64 := by omega
    subst e
    exact round2c R H KB ga n ca t B T _ w _ f' wq t106' hF' hbl hsz hT'
end Go.Proofs.YtlcenbhcegmnoaaDoor
