import Derived.Test.YtnpjknnalekdpaaRx
namespace Go.Proofs.Ytnpjknnalekdpaa
set_option linter.unusedSimpArgs false
set_option linter.unusedVariables false
open Go.RowKit
set_option maxRecDepth 100000 in
theorem rturn_quiet (x m : Int) (w : World) (a b : Nat) (h1 : 1 ≤ m) (h2 : m ≤ 31) : Calls Try.prog 38 #[.int .u32 x, .int .u64 m] (w.drewN (a + b)) fun e w'' => e = .returned (.int .u32 (rotr m.toNat x)) ∧ ∃ n, w'' = w.drewN (a + n) :=
  (rturn_gen x m _ h1 h2).mono fun _ _ ⟨he, hm⟩ => ⟨he, b, hm⟩
set_option maxRecDepth 100000 in
theorem list8 {a b c d e f g h a' b' c' d' e' f' g' h' : Int} (h0 : a = a') (h1 : b = b') (h2 : c = c') (h3 : d = d') (h4 : e = e') (h5 : f = f') (h6 : g = g') (h7 : h = h') : [a, b, c, d, e, f, g, h] = [a', b', c', d', e', f', g', h'] := by
  subst h0 h1 h2 h3 h4 h5 h6 h7; rfl
set_option maxRecDepth 100000 in
theorem store35x {ops : Array Oper} {rest : List Oper} {o : Oper} {a : Act} {w : World} {Q : Exit → Act → World → Prop} (hgd : o.guard = none) (x y : Operand) (ho : o.op = .store 72 x y) (g : Nat) (x0 x1 x2 x3 x4 x5 x6 x7 : Int) (hx : a.eval x = .pointer (some ⟨g, 0, none⟩)) (hy : a.eval y = .agg #[.int .u32 x0, .int .u32 x1, .int .u32 x2, .int .u32 x3, .int .u32 x4, .int .u32 x5, .int .u32 x6, .int .u32 x7]) (t : TypeId) (old : List Int) (hold : old.length = 8) (hg : w.heap[g]? = some (.cells (vW old) t))
    (h : wpList Try.prog ops Q rest (a.put o.dst undef) (w.setRow g (vW [x0, x1, x2, x3, x4, x5, x6, x7]))) : wpList Try.prog ops Q (o :: rest) a w :=
  store35 hgd x y ho g [x0, x1, x2, x3, x4, x5, x6, x7] hx hy rfl t old hold hg h
def stL (s : St) : List Int := [s.a, s.b, s.c, s.d, s.e, s.f, s.g, s.h]
/-- What the slots hold in the loop of the rounds. -/
structure Fr2 (f : Nat → Value) (R H KB ga n ca t B T : Nat) : Prop where
  base : Fr1 f R H KB ga n ca t B
  s : f 11 = .pointer (some ⟨T, 0, none⟩)
def N2 (R H KB ga n ca t B T k : Nat) (s : St) (w : World) (a : Act) (wq : World) : Prop :=
  ∃ f : Nat → Value, a = mkA f ∧ f 106 = .int .i64 k ∧ Fr2 f R H KB ga n ca t B T ∧ Below T w wq ∧ wq.heap.size = w.heap.size ∧ wq.heap[T]? = some (.cells (vW (stL s)) 72)
def I2 (R H KB ga n ca t B T : Nat) (S : List Int) (s0 : St) (w : World) (a : Act) (wq : World) : Prop :=
  ∃ k : Nat, k ≤ 64 ∧ N2 R H KB ga n ca t B T k (stAt S s0 k) w a wq
def mu2 (a : Act) (_ : World) : Nat := 64 - (intOf (a.tmps.getD 106 undef)).toNat
set_option maxRecDepth 100000 in
theorem mu_mk2 (f : Nat → Value) : (mkA f).tmps.getD 106 undef = f 106 := rfl
set_option maxRecDepth 1000000 in
set_option maxHeartbeats 1000000 in
theorem round2a (R H KB ga n ca t B T : Nat) (s : St) (kv wv : Int) (w : World) (Q : Exit → Act → World → Prop) (k : Nat) (f : Nat → Value) (wq : World) (hk : k < 64) (t106 : f 106 = .int .i64 k) (hF : Fr2 f R H KB ga n ca t B T)
    (hkc : wq.cell? ⟨KB, k, none⟩ = some (.int .u32 kv)) (hwc : wq.cell? ⟨B, k, none⟩ = some (.int .u32 wv))
    (hbl : Below T w wq) (hsz : Hid (wq.heap.size = w.heap.size)) (hT : Hid (wq.heap[T]? = some (.cells (vW (stL s)) 72))) :
    Code.wp Try.prog (((Try.f35.body.map loopsOf).getD []).getD 3 .skip) (Exit.then (fun a' w' => N2 R H KB ga n ca t B T (k + 1) (roundS kv wv s) w a' w' ∧ mu2 a' w' < mu2 (mkA f) wq) Q) (mkA f) wq := by
  have hmu : mu2 (mkA f) wq = 64 - k := by unfold mu2; rw [mu_mk2, t106]; rfl
  rw [hmu]
  clear hmu
  have c0 := row_cell hT.out (vW_at (stL s) 0 (by simp [stL]))
  have c1 := row_cell hT.out (vW_at (stL s) 1 (by simp [stL]))
  have c2 := row_cell hT.out (vW_at (stL s) 2 (by simp [stL]))
  have c3 := row_cell hT.out (vW_at (stL s) 3 (by simp [stL]))
  have c4 := row_cell hT.out (vW_at (stL s) 4 (by simp [stL]))
  have c5 := row_cell hT.out (vW_at (stL s) 5 (by simp [stL]))
  have c6 := row_cell hT.out (vW_at (stL s) 6 (by simp [stL]))
  have c7 := row_cell hT.out (vW_at (stL s) 7 (by simp [stL]))
  rw [show gi (stL s) 0 = s.a from rfl] at c0
  rw [show gi (stL s) 1 = s.b from rfl] at c1
  rw [show gi (stL s) 2 = s.c from rfl] at c2
  rw [show gi (stL s) 3 = s.d from rfl] at c3
  rw [show gi (stL s) 4 = s.e from rfl] at c4
  rw [show gi (stL s) 5 = s.f from rfl] at c5
  rw [show gi (stL s) 6 = s.g from rfl] at c6
  rw [show gi (stL s) 7 = s.h from rfl] at c7
  obtain ⟨⟨t2, t3, t4, t5, t6, t7⟩, t11⟩ := hF
  obtain ⟨sa, sb, sc, sd, se, sf, sg, sh⟩ := s
  dsimp only at c0 c1 c2 c3 c4 c5 c6 c7
  unfold mkA
  conv => arg 2; whnf
  dsimp only
  go_wp2_with fail
  go_quiet (fail)
  go_wp2_with fail
  go_quiet ((go_at_call 38; exact rturn_quiet _ _ _ _ _ (by omega) (by omega)))
  go_wp2_with fail
  go_quiet ((go_at_call 38; exact rturn_quiet _ _ _ _ _ (by omega) (by omega)))
  go_wp2_with (first | (refine store35x rfl _ _ rfl T _ _ _ _ _ _ _ _ rfl rfl 72 (stL ⟨sa, sb, sc, sd, se, sf, sg, sh⟩) rfl hT.out ?_))
  refine ⟨⟨_, act_lit _ rfl, by go_num, ⟨⟨rfl, rfl, rfl, rfl, rfl, rfl⟩, rfl⟩, below_setRow (below_drewN hbl _) (Nat.le_refl _) _, ?_, ?_⟩, ?_⟩
  · rw [← hsz.out]; simp
  · rw [setRow_same (show (wq.drewN _).heap[T]? = _ from hT.out)]
    have e : ∀ x y : List Int, x = y → some (Obj.cells (vW x) 72 (0, 0)) = some (Obj.cells (vW y) 72 (0, 0)) := fun x y h => by rw [h]
    refine e _ _ ?_
    unfold stL roundS firstS secondS add32
    rw [mixE_eq, mixA_eq]
    unfold choice major bxor band
    dsimp only
    refine list8 ?_ rfl rfl rfl ?_ rfl rfl rfl
    · omega
    · omega
  · show 64 - (intOf (.int .i64 ((k : Int) + 1))).toNat < 64 - k
    simp [intOf]; omega
set_option maxRecDepth 1000000 in
set_option maxHeartbeats 1000000 in
theorem round2c (R H KB ga n ca t B T : Nat) (s : St) (w : World) (X : Act → World → Prop) (f : Nat → Value) (wq : World) (t106 : f 106 = .int .i64 64) (hF : Fr2 f R H KB ga n ca t B T)
    (hbl : Below T w wq) (hsz : Hid (wq.heap.size = w.heap.size)) (hT : Hid (wq.heap[T]? = some (.cells (vW (stL s)) 72))) :
    Code.wp Try.prog (((Try.f35.body.map loopsOf).getD []).getD 3 .skip) (Exit.then X (postOf 6 (N2 R H KB ga n ca t B T 64 s w))) (mkA f) wq := by
  obtain ⟨⟨t2, t3, t4, t5, t6, t7⟩, t11⟩ := hF
  unfold mkA
  conv => arg 2; whnf
  dsimp only
  go_wp2_with fail
  exact ⟨rfl, _, act_lit _ rfl, t106, ⟨⟨t2, t3, t4, t5, t6, t7⟩, t11⟩, hbl, hsz.out, hT.out⟩
set_option maxRecDepth 100000 in
theorem loop2 (R H KB ga n ca t B T : Nat) (S : List Int) (hS : S.length = 64) (s0 : St) (w : World) (f : Nat → Value) (t106 : f 106 = .int .i64 0) (hF : Fr2 f R H KB ga n ca t B T) (hKT : KB < T) (hBT : B < T)
    (hK : w.heap[KB]? = some (.cells (vW kWords) 73)) (hB : w.heap[B]? = some (.cells (vW S) 73)) (hT : w.heap[T]? = some (.cells (vW (stL s0)) 72)) :
    Code.wp Try.prog (.loop (((Try.f35.body.map loopsOf).getD []).getD 3 .skip)) (postOf 6 (N2 R H KB ga n ca t B T 64 (stAt S s0 64) w)) (mkA f) w := by
  refine wp_loop (I2 R H KB ga n ca t B T S s0 w) mu2 ⟨0, by omega, f, rfl, t106, hF, Below.refl _ _, rfl, hT⟩ ?_
  rintro a wq ⟨k, hk, f', rfl, t106', hF', hbl, hsz, hT'⟩
  by_cases h64 : k < 64
  · have hkc : wq.cell? ⟨KB, k, none⟩ = some (.int .u32 (gi kWords k)) := by rw [hbl.cell (show KB < T from hKT)]; exact row_cell hK (vW_at _ k (by show k < 64; omega))
    have hwc : wq.cell? ⟨B, k, none⟩ = some (.int .u32 (gi S k)) := by rw [hbl.cell (show B < T from hBT)]; exact row_cell hB (vW_at _ k (by omega))
    refine Code.wp_mono ?_ (round2a R H KB ga n ca t B T (stAt S s0 k) (gi kWords k) (gi S k) w (postOf 6 (N2 R H KB ga n ca t B T 64 (stAt S s0 64) w)) k f' wq h64 t106' hF' hkc hwc hbl hsz hT')
    intro e a' w' h
    cases e with
    | normal => exact ⟨⟨k + 1, by omega, h.1⟩, h.2⟩
    | _ => exact h
  · have e : k = 64 := by omega
    subst e
    exact round2c R H KB ga n ca t B T _ w _ f' wq t106' hF' hbl hsz hT'
end Go.Proofs.Ytnpjknnalekdpaa
namespace Go.Proofs.Ytnpjknnalekdpaa
set_option linter.unusedSimpArgs false
set_option linter.unusedVariables false
open Go.RowKit
/-- The first k words with the rounds' words added. -/
def addTo (hs tl : List Int) : Nat → List Int
  | 0 => hs
  | k + 1 => (addTo hs tl k).set k (add32 (gi hs k) (gi tl k))
set_option maxRecDepth 100000 in
theorem addTo_length (hs tl : List Int) (k : Nat) : (addTo hs tl k).length = hs.length := by
  induction k with
  | zero => rfl
  | succ k ih => simp [addTo, ih]
set_option maxRecDepth 100000 in
theorem addTo_at (hs tl : List Int) (k : Nat) : ∀ i, k ≤ i → gi (addTo hs tl k) i = gi hs i := by
  induction k with
  | zero => intro i _; rfl
  | succ k ih =>
    intro i hi
    rw [← ih i (by omega)]
    unfold gi
    simp only [addTo, List.getD_eq_getElem?_getD]
    rw [List.getElem?_set_ne (by omega)]
set_option maxRecDepth 100000 in
theorem addTo_turned (hs : List Int) (s : St) (h : hs.length = 8) : addTo hs (stL s) 8 = turned hs s := by
  match hs, h with
  | [a, b, c, d, e, f, g, h], _ => rfl
def N3 (R H KB ga n ca t B T k : Nat) (l : List Int) (w : World) (a : Act) (wq : World) : Prop :=
  ∃ f : Nat → Value, a = mkA f ∧ f 188 = .int .i64 k ∧ Fr2 f R H KB ga n ca t B T ∧ w.grownBy wq (some H) ∧ wq.heap.size = w.heap.size ∧ wq.heap[H]? = some (.cells (vW l) 72)
def I3 (R H KB ga n ca t B T : Nat) (hs tl : List Int) (w : World) (a : Act) (wq : World) : Prop :=
  ∃ k : Nat, k ≤ 8 ∧ N3 R H KB ga n ca t B T k (addTo hs tl k) w a wq
def mu3 (a : Act) (_ : World) : Nat := 8 - (intOf (a.tmps.getD 188 undef)).toNat
set_option maxRecDepth 100000 in
theorem mu_mk3 (f : Nat → Value) : (mkA f).tmps.getD 188 undef = f 188 := rfl
set_option maxRecDepth 1000000 in
set_option maxHeartbeats 1000000 in
theorem round3a (R H KB ga n ca t B T : Nat) (l : List Int) (hl : l.length = 8) (tv : Int) (w : World) (Q : Exit → Act → World → Prop) (k : Nat) (f : Nat → Value) (wq : World) (hk : k < 8) (t188 : f 188 = .int .i64 k) (hF : Fr2 f R H KB ga n ca t B T)
    (htc : wq.cell? ⟨T, k, none⟩ = some (.int .u32 tv)) (hgr : w.grownBy wq (some H)) (hsz : Hid (wq.heap.size = w.heap.size)) (hH : Hid (wq.heap[H]? = some (.cells (vW l) 72))) :
    Code.wp Try.prog (((Try.f35.body.map loopsOf).getD []).getD 4 .skip) (Exit.then (fun a' w' => N3 R H KB ga n ca t B T (k + 1) (l.set k (add32 (gi l k) tv)) w a' w' ∧ mu3 a' w' < mu3 (mkA f) wq) Q) (mkA f) wq := by
  have hmu : mu3 (mkA f) wq = 8 - k := by unfold mu3; rw [mu_mk3, t188]; rfl
  rw [hmu]
  clear hmu
  have hc := row_cell hH.out (vW_at l k (by omega))
  have hfz : wq.frozen? ⟨H, k, none⟩ = false := frozen_of_row _ _ _ _ _ hH.out
  obtain ⟨⟨t2, t3, t4, t5, t6, t7⟩, t11⟩ := hF
  unfold mkA
  conv => arg 2; whnf
  dsimp only
  go_wp2_with fail
  go_region
  go_wp2_with fail
  refine ⟨⟨_, act_lit _ rfl, by go_num, ⟨⟨t2, t3, t4, t5, t6, t7⟩, t11⟩, ?_, ?_, ?_⟩, ?_⟩
  · exact grown_trans (grown_drewN hgr 1) (grown_setCell _ _ _ _)
  · rw [← hsz.out]; simp
  · rw [heap_drew, heap_setCell_same _ _ _ _ _ _ (show wq.heap[H]? = _ from hH.out), vW_set]
    rfl
  · show 8 - (intOf (.int .i64 ((k : Int) + 1))).toNat < 8 - k
    simp [intOf]; omega
set_option maxRecDepth 1000000 in
set_option maxHeartbeats 1000000 in
theorem round3c (R H KB ga n ca t B T : Nat) (l : List Int) (w : World) (X : Act → World → Prop) (f : Nat → Value) (wq : World) (t188 : f 188 = .int .i64 8) (hF : Fr2 f R H KB ga n ca t B T)
    (hgr : w.grownBy wq (some H)) (hsz : Hid (wq.heap.size = w.heap.size)) (hH : Hid (wq.heap[H]? = some (.cells (vW l) 72))) :
    Code.wp Try.prog (((Try.f35.body.map loopsOf).getD []).getD 4 .skip) (Exit.then X (postOf 8 (N3 R H KB ga n ca t B T 8 l w))) (mkA f) wq := by
  obtain ⟨⟨t2, t3, t4, t5, t6, t7⟩, t11⟩ := hF
  unfold mkA
  conv => arg 2; whnf
  dsimp only
  go_wp2_with fail
  exact ⟨rfl, _, act_lit _ rfl, t188, ⟨⟨t2, t3, t4, t5, t6, t7⟩, t11⟩, hgr, hsz.out, hH.out⟩
set_option maxRecDepth 100000 in
theorem loop3 (R H KB ga n ca t B T : Nat) (hs : List Int) (hl : hs.length = 8) (s : St) (w : World) (f : Nat → Value) (t188 : f 188 = .int .i64 0) (hF : Fr2 f R H KB ga n ca t B T) (hHT : H ≠ T)
    (hH : w.heap[H]? = some (.cells (vW hs) 72)) (hT : w.heap[T]? = some (.cells (vW (stL s)) 72)) :
    Code.wp Try.prog (.loop (((Try.f35.body.map loopsOf).getD []).getD 4 .skip)) (postOf 8 (N3 R H KB ga n ca t B T 8 (turned hs s) w)) (mkA f) w := by
  refine wp_loop (I3 R H KB ga n ca t B T hs (stL s) w) mu3 ⟨0, by omega, f, rfl, t188, hF, World.grownBy.refl _ _, rfl, hH⟩ ?_
  rintro a wq ⟨k, hk, f', rfl, t188', hF', hgr, hsz, hH'⟩
  by_cases h8 : k < 8
  · have htc : wq.cell? ⟨T, k, none⟩ = some (.int .u32 (gi (stL s) k)) := hgr.cell (row_cell hT (vW_at _ k (by show k < 8; omega))) (by simp; omega)
    have e := addTo_at hs (stL s) k k (Nat.le_refl _)
    refine Code.wp_mono ?_ (round3a R H KB ga n ca t B T (addTo hs (stL s) k) (by rw [addTo_length, hl]) (gi (stL s) k) w (postOf 8 (N3 R H KB ga n ca t B T 8 (turned hs s) w)) k f' wq h8 t188' hF' htc hgr hsz hH')
    intro x a' w' h
    cases x with
    | normal => refine ⟨⟨k + 1, by omega, ?_⟩, h.2⟩
                have h1 := h.1
                rw [e] at h1
                exact h1
    | _ => exact h
  · have e : k = 8 := by omega
    subst e
    rw [addTo_turned hs s hl] at hH'
    exact round3c R H KB ga n ca t B T _ w _ f' wq t188' hF' hgr hsz hH'
end Go.Proofs.Ytnpjknnalekdpaa
namespace Go.Proofs.Ytnpjknnalekdpaa
set_option linter.unusedSimpArgs false
set_option linter.unusedVariables false
open Go.RowKit
/-- What the slots hold in the loop of the answer. -/
structure Fr5 (f : Nat → Value) (R H O : Nat) : Prop where
  r : f 2 = .pointer (some ⟨R, 0, none⟩)
  h : f 3 = .pointer (some ⟨H, 0, none⟩)
  o : f 18 = .pointer (some ⟨O, 0, none⟩)
def N5 (R H O k : Nat) (l : List Int) (w : World) (a : Act) (wq : World) : Prop :=
  ∃ f : Nat → Value, a = mkA f ∧ f 201 = .int .i64 k ∧ Fr5 f R H O ∧ Below O w wq ∧ wq.heap.size = w.heap.size ∧ wq.heap[O]? = some (.cells (vB l) 27)
def mu5 (a : Act) (_ : World) : Nat := 32 - (intOf (a.tmps.getD 201 undef)).toNat
set_option maxRecDepth 100000 in
theorem mu_mk5 (f : Nat → Value) : (mkA f).tmps.getD 201 undef = f 201 := rfl
set_option maxRecDepth 1000000 in
set_option maxHeartbeats 1000000 in
theorem round5a (R H O : Nat) (l : List Int) (hl : l.length = 32) (x : Int) (w : World) (Q : Exit → Act → World → Prop) (k : Nat) (f : Nat → Value) (wq : World) (hk : k < 32) (t201 : f 201 = .int .i64 k) (hF : Fr5 f R H O)
    (hxc : wq.cell? ⟨H, k / 4, none⟩ = some (.int .u32 x)) (hbl : Below O w wq) (hsz : Hid (wq.heap.size = w.heap.size)) (hO : Hid (wq.heap[O]? = some (.cells (vB l) 27))) :
    Code.wp Try.prog (((Try.f35.body.map loopsOf).getD []).getD 5 .skip) (Exit.then (fun a' w' => N5 R H O (k + 1) (l.set k (x / 2 ^ (24 - 8 * (k % 4)) % 256)) w a' w' ∧ mu5 a' w' < mu5 (mkA f) wq) Q) (mkA f) wq := by
  have hmu : mu5 (mkA f) wq = 32 - k := by unfold mu5; rw [mu_mk5, t201]; rfl
  rw [hmu]
  clear hmu
  have hc := row_cell hO.out (vB_at l k (by omega))
  have hfz : wq.frozen? ⟨O, k, none⟩ = false := frozen_of_row _ _ _ _ _ hO.out
  obtain ⟨t2, t3, t18⟩ := hF
  unfold mkA
  conv => arg 2; whnf
  dsimp only
  go_wp2_with fail
  refine ⟨⟨_, act_lit _ rfl, by go_num, ⟨t2, t3, t18⟩, hbl.setCell (Nat.le_refl _) _, ?_, ?_⟩, ?_⟩
  · rw [← hsz.out]; simp
  · rw [heap_setCell_same _ _ _ _ _ _ (show wq.heap[O]? = _ from hO.out), vB_set]
  · show 32 - (intOf (.int .i64 ((k : Int) + 1))).toNat < 32 - k
    simp [intOf]; omega
set_option maxRecDepth 1000000 in
set_option maxHeartbeats 1000000 in
theorem round5c (R H O : Nat) (l : List Int) (w : World) (X : Act → World → Prop) (f : Nat → Value) (wq : World) (t201 : f 201 = .int .i64 32) (hF : Fr5 f R H O)
    (hbl : Below O w wq) (hsz : Hid (wq.heap.size = w.heap.size)) (hO : Hid (wq.heap[O]? = some (.cells (vB l) 27))) :
    Code.wp Try.prog (((Try.f35.body.map loopsOf).getD []).getD 5 .skip) (Exit.then X (postOf 10 (N5 R H O 32 l w))) (mkA f) wq := by
  obtain ⟨t2, t3, t18⟩ := hF
  unfold mkA
  conv => arg 2; whnf
  dsimp only
  go_wp2_with fail
  exact ⟨rfl, _, act_lit _ rfl, t201, ⟨t2, t3, t18⟩, hbl, hsz.out, hO.out⟩
set_option maxRecDepth 100000 in
theorem take_stepN (N : Nat) (S : List Int) (hl : S.length = N) (k : Nat) (hk : k < N) : (S.take k ++ zs (N - k)).set k (gi S k) = S.take (k + 1) ++ zs (N - (k + 1)) := by
  have e := set_snoc (S.take k) (N - (k + 1)) (gi S k)
  rw [show (S.take k).length = k by simp; omega, show N - (k + 1) + 1 = N - k by omega] at e
  rw [e]
  have e2 : S.take k ++ [gi S k] = S.take (k + 1) := by
    rw [List.take_succ_eq_append_getElem (by omega)]
    unfold gi
    simp [hl, hk]
  rw [e2]
def I5 (R H O : Nat) (ws : List Int) (w : World) (a : Act) (wq : World) : Prop :=
  ∃ k : Nat, k ≤ 32 ∧ N5 R H O k ((outB ws).take k ++ zs (32 - k)) w a wq
set_option maxRecDepth 100000 in
theorem loop5 (R H O : Nat) (ws : List Int) (hl : ws.length = 8) (w : World) (f : Nat → Value) (t201 : f 201 = .int .i64 0) (hF : Fr5 f R H O) (hHO : H < O)
    (hH : w.heap[H]? = some (.cells (vW ws) 72)) (hO : w.heap[O]? = some (.cells (vB (zs 32)) 27)) :
    Code.wp Try.prog (.loop (((Try.f35.body.map loopsOf).getD []).getD 5 .skip)) (postOf 10 (N5 R H O 32 (outB ws) w)) (mkA f) w := by
  have hol : (outB ws).length = 32 := outTo_length ws 8
  refine wp_loop (I5 R H O ws w) mu5 ⟨0, by omega, f, rfl, t201, hF, Below.refl _ _, rfl, by simpa [zs] using hO⟩ ?_
  rintro a wq ⟨k, hk, f', rfl, t201', hF', hbl, hsz, hO'⟩
  by_cases h32 : k < 32
  · have hxc : wq.cell? ⟨H, k / 4, none⟩ = some (.int .u32 (gi ws (k / 4))) := by rw [hbl.cell (show H < O from hHO)]; exact row_cell hH (vW_at _ _ (by omega))
    have e := outTo_at ws 8 (by omega) k (by omega)
    have e2 := take_stepN 32 (outB ws) hol k h32
    refine Code.wp_mono ?_ (round5a R H O ((outB ws).take k ++ zs (32 - k)) (by simp [hol, zs_length]; omega) (gi ws (k / 4)) w (postOf 10 (N5 R H O 32 (outB ws) w)) k f' wq h32 t201' hF' hxc hbl hsz hO')
    intro x a' w' h
    cases x with
    | normal =>
      refine ⟨⟨k + 1, by omega, ?_⟩, h.2⟩
      rw [← e2]
      have h1 := h.1
      rw [← e] at h1
      exact h1
    | _ => exact h
  · have e : k = 32 := by omega
    subst e
    have e3 : (outB ws).take 32 ++ zs (32 - 32) = outB ws := by rw [List.take_of_length_le (by omega)]; simp [zs]
    rw [e3] at hO'
    exact round5c R H O _ w _ f' wq t201' hF' hbl hsz hO'
end Go.Proofs.Ytnpjknnalekdpaa
namespace Go.Proofs.Ytnpjknnalekdpaa
set_option linter.unusedSimpArgs false
set_option linter.unusedVariables false
open Go.RowKit
/-- What the slots hold in the loop over the blocks. -/
structure Fr0 (f : Nat → Value) (R H KB ga n ca t : Nat) : Prop where
  r : f 2 = .pointer (some ⟨R, 0, none⟩)
  h : f 3 = .pointer (some ⟨H, 0, none⟩)
  k : f 4 = .pointer (some ⟨KB, 0, none⟩)
  all : f 5 = .slice (some ⟨ga, 0, none⟩) n ca
  at_ : f 6 = .int .i64 t
def N0 (R H KB ga n ca t : Nat) (l : List Int) (w : World) (a : Act) (wq : World) : Prop :=
  ∃ f : Nat → Value, a = mkA f ∧ Fr0 f R H KB ga n ca t ∧ w.grownBy wq (some H) ∧ wq.heap[H]? = some (.cells (vW l) 72)
def mu0 (n : Nat) (a : Act) (_ : World) : Nat := n - (intOf (a.tmps.getD 6 undef)).toNat
set_option maxRecDepth 100000 in
theorem mu_mk0 (f : Nat → Value) : (mkA f).tmps.getD 6 undef = f 6 := rfl
set_option maxRecDepth 100000 in
theorem stL_stOf (hs : List Int) (h : hs.length = 8) : stL (stOf hs) = hs := by
  match hs, h with
  | [a, b, c, d, e, f, g, h], _ => rfl
set_option maxRecDepth 1000000 in
set_option maxHeartbeats 1000000 in
theorem round0a (R H KB ga ca t : Nat) (L hs S : List Int) (hl : hs.length = 8) (hS : S.length = 64) (w : World) (Q : Exit → Act → World → Prop) (f : Nat → Value) (wr : World) (hF : Fr0 f R H KB ga L.length ca t)
    (ht : t + 64 ≤ L.length) (hlm : L.length ≤ 9223372036854775807)
    (h1 : Hid (∀ f : Nat → Value, f 47 = .int .i64 0 → Fr1 f R H KB ga L.length ca t wr.heap.size → Code.wp Try.prog (.loop (((Try.f35.body.map loopsOf).getD []).getD 2 .skip)) (postOf 4 (R1 R H KB ga L.length ca t wr.heap.size S (wr.alloc (.cells (vW (zs 64)) 73)))) (mkA f) (wr.alloc (.cells (vW (zs 64)) 73))))
    (hHs : H < wr.heap.size) (hKs : KB < wr.heap.size) (hK : Hid (wr.heap[KB]? = some (.cells (vW kWords) 73))) (hgr : Hid (w.grownBy wr (some H))) (hH : Hid (wr.heap[H]? = some (.cells (vW hs) 72))) :
    Code.wp Try.prog (((Try.f35.body.map loopsOf).getD []).getD 1 .skip) (Exit.then (fun a' w' => N0 R H KB ga L.length ca (t + 64) (turned hs (stAt S (stOf hs) 64)) w a' w' ∧ mu0 L.length a' w' < mu0 L.length (mkA f) wr) Q) (mkA f) wr := by
  have hmu : mu0 L.length (mkA f) wr = L.length - t := by unfold mu0; rw [mu_mk0, hF.at_]; rfl
  rw [hmu]
  clear hmu
  obtain ⟨t2, t3, t4, t5, t6⟩ := hF
  unfold mkA
  conv => arg 2; whnf
  dsimp only
  go_wp2_with fail
  rw [act_lit _ rfl]
  refine Code.wp_mono ?_ (h1.out _ rfl ⟨t2, t3, t4, t5, t6, rfl⟩)
  clear h1
  rintro e a2 w2 h
  cases e with
  | exit m =>
    obtain ⟨rfl, f2, rfl, ⟨u2, u3, u4, u5, u6, u7⟩, b2, s2, hB2⟩ := h
    have s2' : wr.heap.size + 1 ≤ w2.heap.size := by rw [s2]; simp
    have e2 : ∀ j, j < wr.heap.size → w2.heap[j]? = wr.heap[j]? := fun j hj => by rw [b2.block _ hj, Below.heap_alloc _ _ _ hj]
    have b02 : Below wr.heap.size wr w2 := ((Below.refl _ _).alloc (Nat.le_refl _) _).trans b2
    have hH2 : Hid (w2.heap[H]? = some (.cells (vW hs) 72)) := by unfold Hid; rw [e2 H hHs]; exact hH.out
    have hK2 : Hid (w2.heap[KB]? = some (.cells (vW kWords) 73)) := by unfold Hid; rw [e2 KB hKs]; exact hK.out
    have hB2' : Hid (w2.heap[wr.heap.size]? = some (.cells (vW S) 73)) := hB2
    clear hB2 e2 s2 b2 hK hH
    unfold mkA
    go_wp2_with (first | (refine load35 rfl _ rfl H u3 hs hl 72 hH2.out ?_) | (refine store35 rfl _ _ rfl w2.heap.size hs rfl rfl hl 72 (zs 8) rfl (heap_alloc_new _ _) ?_; rw [World.setRow_alloc_new]))
    rw [act_lit _ rfl]
    have hst := stL_stOf hs hl
    refine @Code.wp_mono _ _ (postOf 6 (N2 R H KB ga L.length ca t wr.heap.size w2.heap.size 64 (stAt S (stOf hs) 64) (w2.alloc (.cells (vW hs) 72)))) _ _ _ ?_ ?_
    rotate_left
    · exact loop2 R H KB ga L.length ca t wr.heap.size w2.heap.size S hS (stOf hs) (w2.alloc (.cells (vW hs) 72)) _ rfl ⟨⟨rfl, rfl, rfl, rfl, rfl, rfl⟩, rfl⟩ (by omega) (by omega) (by rw [Below.heap_alloc _ _ _ (by omega)]; exact hK2.out) (by rw [Below.heap_alloc _ _ _ (by omega)]; exact hB2'.out) (by rw [hst]; exact heap_alloc_new _ _)
    clear hst
    rintro e a4 w4 h
    cases e with
    | exit m =>
      obtain ⟨rfl, f4, rfl, _, ⟨⟨v2, v3, v4, v5, v6, v7⟩, v11⟩, b4, s4, hT4⟩ := h
      have s4' : w2.heap.size + 1 ≤ w4.heap.size := by rw [s4]; simp
      have b04 : Below w2.heap.size w2 w4 := ((Below.refl _ _).alloc (Nat.le_refl _) _).trans b4
      have hH4 : Hid (w4.heap[H]? = some (.cells (vW hs) 72)) := by unfold Hid; rw [b4.block _ (by omega), Below.heap_alloc _ _ _ (by omega)]; exact hH2.out
      have hT4' : Hid (w4.heap[w2.heap.size]? = some (.cells (vW (stL (stAt S (stOf hs) 64))) 72)) := hT4
      clear hT4 s4 b4 hH2 hK2 hB2'
      obtain ⟨s, hs'⟩ : ∃ s, s = stAt S (stOf hs) 64 := ⟨_, rfl⟩
      rw [← hs'] at hT4'
      have hs'' : Hid (s = stAt S (stOf hs) 64) := hs'
      clear hs'
      unfold mkA
      go_wp2_with fail
      rw [act_lit _ rfl]
      refine @Code.wp_mono _ _ (postOf 8 (N3 R H KB ga L.length ca t wr.heap.size w2.heap.size 8 (turned hs s) w4)) _ _ _ ?_ ?_
      rotate_left
      · exact loop3 R H KB ga L.length ca t wr.heap.size w2.heap.size hs hl s w4 _ rfl ⟨⟨v2, v3, v4, v5, v6, v7⟩, v11⟩ (by omega) hH4.out hT4'.out
      rintro e a5 w5 h
      cases e with
      | exit m =>
        obtain ⟨rfl, f5, rfl, _, ⟨⟨x2, x3, x4, x5, x6, x7⟩, x11⟩, g5, s5, hH5⟩ := h
        have hH5' : Hid (w5.heap[H]? = some (.cells (vW (turned hs s)) 72)) := hH5
        clear hH5 hT4' hH4 s5
        unfold mkA
        go_wp2_with fail
        refine ⟨⟨_, act_lit _ rfl, ⟨x2, x3, x4, x5, by go_num⟩, ?_, by rw [← hs''.out]; exact hH5'.out⟩, ?_⟩
        · exact grown_trans (grown_trans (grown_trans hgr.out (grown_below b02 _)) (grown_below b04 _)) g5
        · show L.length - (intOf (.int .i64 ((t : Int) + 64))).toNat < L.length - t
          simp [intOf]; omega
      | _ => exact h.elim
    | _ => exact h.elim
  | _ => exact h.elim
end Go.Proofs.Ytnpjknnalekdpaa
namespace Go.Proofs.Ytnpjknnalekdpaa
set_option linter.unusedSimpArgs false
set_option linter.unusedVariables false
open Go.RowKit
set_option maxRecDepth 1000000 in
set_option maxHeartbeats 1000000 in
theorem round0c (R H KB ga n ca : Nat) (l : List Int) (w : World) (X : Act → World → Prop) (f : Nat → Value) (wr : World) (hn : n ≤ 9223372036854775807) (hF : Fr0 f R H KB ga n ca n)
    (hgr : Hid (w.grownBy wr (some H))) (hH : Hid (wr.heap[H]? = some (.cells (vW l) 72))) :
    Code.wp Try.prog (((Try.f35.body.map loopsOf).getD []).getD 1 .skip) (Exit.then X (postOf 2 (N0 R H KB ga n ca n l w))) (mkA f) wr := by
  obtain ⟨t2, t3, t4, t5, t6⟩ := hF
  unfold mkA
  conv => arg 2; whnf
  dsimp only
  go_wp2_with fail
  exact ⟨rfl, _, act_lit _ rfl, by first | exact ⟨t2, t3, t4, t5, t6⟩ | exact ⟨t2, t3, t4, rfl, rfl⟩ | exact ⟨rfl, rfl, rfl, rfl, rfl⟩, hgr.out, hH.out⟩
def I0 (R H KB ga ca : Nat) (L : List Int) (w : World) (a : Act) (wq : World) : Prop :=
  ∃ j : Nat, 64 * j ≤ L.length ∧ N0 R H KB ga L.length ca (64 * j) (wordsTo L j) w a wq
set_option maxRecDepth 100000 in
theorem loop0 (R H KB ga ca : Nat) (L : List Int) (w : World) (f : Nat → Value) (hF : Fr0 f R H KB ga L.length ca 0) (hL : L.length % 64 = 0) (hca : L.length ≤ ca) (hcam : ca ≤ 9223372036854775807) (hby : ∀ x ∈ L, 0 ≤ x ∧ x ≤ 255)
    (hga : ga < w.heap.size) (hgH : ga ≠ H) (hra : w.rangeAt ga 0 (vB L).toList) (hHs : H < w.heap.size) (hKs : KB < w.heap.size) (hKH : KB ≠ H) (hK : w.heap[KB]? = some (.cells (vW kWords) 73)) (hH : w.heap[H]? = some (.cells (vW hWords) 72)) :
    Code.wp Try.prog (.loop (((Try.f35.body.map loopsOf).getD []).getD 1 .skip)) (postOf 2 (N0 R H KB ga L.length ca L.length (wordsOf L) w)) (mkA f) w := by
  refine wp_loop (I0 R H KB ga ca L w) (mu0 L.length) ⟨0, by omega, f, rfl, hF, World.grownBy.refl _ _, hH⟩ ?_
  rintro a wr ⟨j, hj, f', rfl, hF', hgr, hH'⟩
  have hs := hgr.size
  by_cases h : 64 * j < L.length
  · have hK' : wr.heap[KB]? = some (.cells (vW kWords) 73) := by rw [hgr.block _ hKs (by simp; omega)]; exact hK
    have hra' : wr.rangeAt ga 0 (vB L).toList := fun m v hv => hgr.cell (hra m v hv) (by simp; omega)
    have ht : 64 * j + 64 ≤ L.length := by omega
    have h1 : ∀ f : Nat → Value, f 47 = .int .i64 0 → Fr1 f R H KB ga L.length ca (64 * j) wr.heap.size → Code.wp Try.prog (.loop (((Try.f35.body.map loopsOf).getD []).getD 2 .skip)) (postOf 4 (R1 R H KB ga L.length ca (64 * j) wr.heap.size (sched ((L.drop (64 * j)).take 64)) (wr.alloc (.cells (vW (zs 64)) 73)))) (mkA f) (wr.alloc (.cells (vW (zs 64)) 73)) := fun f h47 hf =>
      loop1 R H KB ga ca (64 * j) wr.heap.size L (wr.alloc (.cells (vW (zs 64)) 73)) f h47 hf ht hca hcam hby (by omega) (fun m v hv => by rw [Below.cell ((Below.refl _ _).alloc (Nat.le_refl _) _) (show ga < wr.heap.size by omega)]; exact hra' m v hv) (heap_alloc_new _ _)
    refine Code.wp_mono ?_ (round0a R H KB ga ca (64 * j) L (wordsTo L j) (sched ((L.drop (64 * j)).take 64)) (wordsTo_length L j) (sched_length _) w (postOf 2 (N0 R H KB ga L.length ca L.length (wordsOf L) w)) f' wr hF' ht (by omega) h1 (by omega) (by omega) hK' hgr hH')
    intro x a' w' h
    cases x with
    | normal => exact ⟨⟨j + 1, by omega, h.1⟩, h.2⟩
    | _ => exact h
  · have e : 64 * j = L.length := by omega
    have ej : j = L.length / 64 := by omega
    rw [e] at hF'
    have hH'' : wr.heap[H]? = some (.cells (vW (wordsOf L)) 72) := by unfold wordsOf; rw [← ej]; exact hH'
    exact round0c R H KB ga L.length ca (wordsOf L) w _ f' wr (by omega) hF' hgr hH''
end Go.Proofs.Ytnpjknnalekdpaa
namespace Go.Proofs.Ytnpjknnalekdpaa
set_option linter.unusedSimpArgs false
set_option linter.unusedVariables false
open Go.RowKit
set_option maxRecDepth 100000 in
theorem store35n {ops : Array Oper} {rest : List Oper} {o : Oper} {a : Act} {w0 : World} {Q : Exit → Act → World → Prop} (hgd : o.guard = none) (x y : Operand) (ho : o.op = .store 72 x y) (A : Obj) (l : List Int) (hl : l.length = 8) (hx : a.eval x = .pointer (some ⟨w0.heap.size + 1, 0, none⟩)) (hy : a.eval y = .agg (vW l))
    (h : ∀ w2 : World, w2.heap[w0.heap.size]? = some A → w2.heap[w0.heap.size + 1]? = some (.cells (vW l) 72) → w2.heap.size = w0.heap.size + 2 → Below w0.heap.size w0 w2 → wpList Try.prog ops Q rest (a.put o.dst undef) w2) : wpList Try.prog ops Q (o :: rest) a ((w0.alloc A).alloc (.cells (vW (zs 8)) 72)) := by
  refine store35 hgd x y ho (w0.heap.size + 1) l hx hy hl 72 (zs 8) rfl (heap_alloc2_new _ _ _) ?_
  rw [setRow_alloc2]
  exact h _ (heap_alloc2_old _ _ _) (heap_alloc2_new _ _ _) (by simp) (((Below.refl _ _).alloc (Nat.le_refl _) _).alloc (by simp) _)
set_option maxRecDepth 100000 in
theorem store44n {ops : Array Oper} {rest : List Oper} {o : Oper} {a : Act} {w0 : World} {Q : Exit → Act → World → Prop} (hgd : o.guard = none) (x y : Operand) (ho : o.op = .store 73 x y) (l : List Int) (hl : l.length = 64) (hx : a.eval x = .pointer (some ⟨w0.heap.size, 0, none⟩)) (hy : a.eval y = .agg (vW l))
    (h : ∀ w2 : World, w2.heap[w0.heap.size]? = some (.cells (vW l) 73) → w2.heap.size = w0.heap.size + 1 → Below w0.heap.size w0 w2 → wpList Try.prog ops Q rest (a.put o.dst undef) w2) : wpList Try.prog ops Q (o :: rest) a (w0.alloc (.cells (vW (zs 64)) 73)) := by
  refine store44 hgd x y ho w0.heap.size l hx hy hl 73 (zs 64) rfl (heap_alloc_new _ _) ?_
  rw [World.setRow_alloc_new]
  exact h _ (heap_alloc_new _ _) (by simp) ((Below.refl _ _).alloc (Nat.le_refl _) _)
set_option maxRecDepth 100000 in
theorem OwnB.row {w : World} {base : Nat} {v : Value} {l : List Int} (h : OwnB w base v l) : ∀ k, v.ownBlock = some k → base ≤ k := fun k hk => by
  rcases h.2 with ⟨rfl, _⟩ | ⟨g, cap, cur, rfl, hg, _⟩
  · cases hk
  · simp [Value.ownBlock] at hk; omega
set_option maxRecDepth 100000 in
theorem OwnB.form {w : World} {base : Nat} {v : Value} {l : List Int} (h : OwnB w base v l) (hn : l ≠ []) : ∃ g cap, v = .slice (some ⟨g, 0, none⟩) l.length cap ∧ base ≤ g ∧ g < w.heap.size := by
  rcases h.2 with ⟨_, h0⟩ | ⟨g, cap, cur, rfl, hg, hh, _⟩
  · exact absurd (List.eq_nil_of_length_eq_zero h0) hn
  · exact ⟨g, cap, rfl, hg, (Array.getElem?_eq_some_iff.1 hh).1⟩
set_option maxRecDepth 100000 in
theorem OwnB.part {w : World} {base : Nat} {v : Value} {l : List Int} (h : OwnB w base v l) (hn : l ≠ []) : PartAt w v l := by
  rcases h.2 with ⟨_, h0⟩ | ⟨g, cap, cur, rfl, hg, hcur, hl, hc, hs, htk⟩
  · exact absurd (List.eq_nil_of_length_eq_zero h0) hn
  · refine ⟨some ⟨g, 0, none⟩, g, 0, cap, rfl, hl, hc, fun _ => rfl, fun j v hv => ?_, (Array.getElem?_eq_some_iff.1 hcur).1, fun h => by cases h⟩
    rw [Nat.zero_add, cell_of_row w g j cur 5 (0, 0) hcur]
    rw [← htk, List.getElem?_take] at hv
    split at hv
    · simpa using hv
    · cases hv
set_option maxRecDepth 100000 in
theorem own_zero {w : World} {base : Nat} {v : Value} {bs : List Int} {k : Nat} (h : OwnB w base v ((bs ++ 128 :: zs k) ++ [0])) : OwnB w base v (bs ++ 128 :: zs (k + 1)) := by
  have e : (bs ++ 128 :: zs k) ++ [0] = bs ++ 128 :: zs (k + 1) := by
    simp only [zs, List.replicate_succ', List.append_assoc, List.cons_append]
  rw [← e]; exact h
set_option maxRecDepth 100000 in
theorem own_below {w w' : World} {base : Nat} {v : Value} {l : List Int} (h : OwnB w base v l) (hb : Below w.heap.size w w') : OwnB w' base v l := by
  obtain ⟨h1, h2⟩ := h
  refine ⟨h1, ?_⟩
  rcases h2 with h2 | ⟨g, cap, cur, hv, hg, hh, r⟩
  · exact Or.inl h2
  · exact Or.inr ⟨g, cap, cur, hv, hg, by rw [hb.block g (Array.getElem?_eq_some_iff.1 hh).1]; exact hh, r⟩
set_option maxRecDepth 100000 in
theorem msg_len (bs : List Int) : (bs ++ padL bs.length).length % 64 = 0 := by rw [List.length_append, padL_length]; unfold padLen; omega
set_option maxRecDepth 100000 in
theorem padTo_bytes (n k : Nat) : ∀ x ∈ padTo n k, 0 ≤ x ∧ x ≤ 255 := by
  induction k with
  | zero =>
    intro x hx
    rcases List.mem_or_eq_of_mem_set hx with h | h
    · simp [zs] at h; omega
    · omega
  | succ k ih =>
    intro x hx
    rcases List.mem_or_eq_of_mem_set hx with h | h
    · exact ih x h
    · omega
set_option maxRecDepth 100000 in
theorem msg_bytes (bs : List Int) (h : ∀ x ∈ bs, 0 ≤ x ∧ x ≤ 255) : ∀ x ∈ bs ++ padL bs.length, 0 ≤ x ∧ x ≤ 255 := by
  intro x hx
  rcases List.mem_append.1 hx with hx | hx
  · exact h x hx
  · exact padTo_bytes _ _ x hx
set_option maxRecDepth 100000 in
set_option maxHeartbeats 1000000 in
theorem rsum_big (v : Value) (bs : List Int) (w : World) (hp : PartAt w v bs) (hn : bs.length ≤ 140737488352000) (hby : ∀ x ∈ bs, 0 ≤ x ∧ x ≤ 255) :
    Calls Try.prog 35 #[v] w fun e w' => e = .returned (.agg (vB (hashOf bs))) ∧ Below w.heap.size w w' := by
  have hp0 := hp
  obtain ⟨av, b, o, cp, hv, hrest⟩ := hp
  subst hv
  go_enter Try.func35, Try.ntmps35
  go_wp2_with (first | (refine store35n rfl _ _ rfl (Obj.cells (vB (zs 32)) 27) hWords rfl rfl rfl ?_; intro w1 f0 f1 fs fb))
  refine (k256_any _).mono ?_
  rintro e w2 ⟨rfl, b2⟩
  have f20 : w2.heap[w.heap.size]? = some (Obj.cells (vB (zs 32)) 27) := by rw [b2.block _ (by omega)]; exact f0
  have f21 : w2.heap[w.heap.size + 1]? = some (Obj.cells (vW hWords) 72) := by rw [b2.block _ (by omega)]; exact f1
  have s2 : w.heap.size + 2 ≤ w2.heap.size := by have := b2.size; omega
  have b02 : Below w.heap.size w w2 := fb.trans (b2.mono (by omega))
  clear f0 f1 fs fb b2
  go_wp2_with (first | (refine store44n rfl _ _ rfl kWords rfl rfl rfl ?_; intro w3 fk fs3 fb3; have s3 : w2.heap.size + 1 ≤ w3.heap.size := (by omega); clear fs3; have b03 : Below w.heap.size w w3 := b02.trans (fb3.mono (by omega))) | (at_builtin; refine appendB rfl _ _ rfl w3.heap.size _ [] rfl (ownB_new w3) _ bs rfl (hp0.below (b03.alloc b03.size _)) (by simp; omega) (by simp) ?_; intro v1 w4 o1 g1 d1; have s4 : w3.heap.size + 1 ≤ w4.heap.size := (by simpa using g1.size)) | (at_builtin; refine appendB rfl _ _ rfl w3.heap.size v1 ([] ++ bs) rfl (o1.alloc _) _ [128] rfl (part_new w4 [128] (by decide)) (by simp; omega) (by simp; omega) ?_; intro v2 w5 o2 g2 d2))
  have b34 : Below w3.heap.size w3 w4 := ((Below.refl _ _).alloc (Nat.le_refl _) _).grown g1 (by simp) (fun k hk => by injection hk with hk; subst hk; exact Nat.le_refl _)
  have b35 : Below w3.heap.size w3 w5 := (b34.alloc (by omega) _).grown g2 (by simp; omega) o1.row
  have o5 : OwnB w5 w3.heap.size v2 (bs ++ 128 :: zs 0) := by simpa [zs] using o2
  clear g1 d1 g2 d2 o1 o2 b34 s4
  obtain ⟨g5, c5, hv2, hg5, hgl5⟩ := o5.form (by simp)
  have hl5 : (bs ++ 128 :: zs 0).length = bs.length + 1 := by simp [zs]
  rw [hl5] at hv2
  subst hv2
  clear hl5
  go_loopw [5] (fun v wr => ∃ (k g cap : Nat), k ≤ (119 - bs.length % 64) % 64 ∧ v = .slice (some ⟨g, 0, none⟩) (bs.length + 1 + k) cap ∧ OwnB wr w3.heap.size (.slice (some ⟨g, 0, none⟩) (bs.length + 1 + k) cap) (bs ++ 128 :: zs k) ∧ Below w3.heap.size w3 wr) (fun v _ => bs.length + 1 + (119 - bs.length % 64) % 64 - sliceLen v)
  case atStart => exact ⟨0, g5, c5, by omega, rfl, o5, b35⟩
  case round =>
    clear o5 b35 hg5 hgl5
    obtain ⟨k, g, cap, hk, rfl, ho, hbl⟩ := hrel
    by_cases hlt : k < (119 - bs.length % 64) % 64
    · have hne : (((bs.length + 1 + k : Nat) : Int) % 64 != 56) = true := by rw [bne_iff_ne]; omega
      have hbs := hbl.size
      go_wp2_with (first | (at_builtin; refine appendB rfl _ _ rfl w3.heap.size _ (bs ++ 128 :: zs k) rfl (ho.alloc _) _ [0] rfl (part_new wr [0] (by decide)) (by simp [zs_length]; omega) (by simp; omega) ?_; intro v' w' o' g' d'; have o6 : OwnB w' w3.heap.size v' (bs ++ 128 :: zs (k + 1)) := own_zero o'; have b6 : Below w3.heap.size w3 w' := (hbl.alloc hbs _).grown g' (by simp; omega) ho.row; clear o' g' d'; obtain ⟨g6, c6, hv6, hg6, hgl6⟩ := o6.form (by simp); (have hl6 : (bs ++ 128 :: zs (k + 1)).length = bs.length + 1 + (k + 1) := by simp [zs_length]; omega); rw [hl6] at hv6; clear hl6; subst hv6))
      go_roundw
      case rel => exact ⟨k + 1, g6, c6, by omega, rfl, o6, b6⟩
      case measure =>
        show bs.length + 1 + (119 - bs.length % 64) % 64 - (bs.length + 1 + (k + 1)) < bs.length + 1 + (119 - bs.length % 64) % 64 - (bs.length + 1 + k)
        omega
    · have ek : k = (119 - bs.length % 64) % 64 := by omega
      have hne : (((bs.length + 1 + k : Nat) : Int) % 64 != 56) = false := by rw [bne_eq_false_iff_eq]; omega
      have EK : Hid (k = (119 - bs.length % 64) % 64) := ek
      clear ek hlt hk
      have hbs := hbl.size
      go_wp2_with fail
      refine (num_any _ _).mono ?_
      rintro e w6 ⟨gn, rfl, hgn, hcn, b6⟩
      have ho6 := own_below ho b6
      have hp6 : PartAt w6 (.slice (some ⟨gn, 0, none⟩) 8 8) (numTo ((bs.length : Int) * 8) 8) := ⟨some ⟨gn, 0, none⟩, gn, 0, 8, by rw [numTo_length], by rw [numTo_length]; omega, by omega, fun _ => rfl, range_of_block hcn, (Array.getElem?_eq_some_iff.1 hcn).1, fun h => by cases h⟩
      have b36 : Below w3.heap.size w3 w6 := hbl.trans (b6.mono hbs)
      have s6 := b36.size
      have hnl := numTo_length ((bs.length : Int) * 8) 8
      clear hcn hgn b6 ho hbl hbs
      go_wp2_with (first | (at_builtin; refine appendB rfl _ _ rfl w3.heap.size _ (bs ++ 128 :: zs k) rfl ho6 _ (numTo ((bs.length : Int) * 8) 8) rfl hp6 (by simp [zs_length, hnl]; have := EK.out; omega) s6 ?_; intro v7 w7 o7 g7 d7))
      have b37 : Below w3.heap.size w3 w7 := b36.grown g7 s6 ho6.row
      clear g7 d7 ho6 hp6 b36 s6
      have hmsg : (bs ++ 128 :: zs k) ++ numTo ((bs.length : Int) * 8) 8 = bs ++ padL bs.length := msg_eq bs k EK.out
      rw [hmsg] at o7
      clear hmsg
      have hL64 : (bs ++ padL bs.length).length % 64 = 0 := msg_len bs
      have hLle : (bs ++ padL bs.length).length ≤ 140737488355328 := by rw [List.length_append, padL_length]; unfold padLen; omega
      have hLby : Hid (∀ x ∈ bs ++ padL bs.length, 0 ≤ x ∧ x ≤ 255) := msg_bytes bs hby
      have hL64' : Hid ((bs ++ padL bs.length).length % 64 = 0) := hL64
      clear hL64 hby
      have hLne : bs ++ padL bs.length ≠ [] := fun h => by have := congrArg List.length h; rw [List.length_append, padL_length] at this; unfold padLen at this; simp at this
      have FIN : Hid (hashOf bs = outB (wordsOf (bs ++ padL bs.length))) := rfl
      obtain ⟨ga, ca, hv7, hga, hgal⟩ := o7.form hLne
      have hpa := o7.part hLne
      have hcaa : (bs ++ padL bs.length).length ≤ ca ∧ ca ≤ 9223372036854775807 := by
        obtain ⟨_, h⟩ := o7
        rcases h with ⟨h, _⟩ | ⟨g', cap', cur', h, _, _, h', h'', _⟩
        · rw [hv7] at h; cases h
        · rw [hv7] at h; cases h; exact ⟨h', h''⟩
      obtain ⟨hca, hcam⟩ := hcaa
      have hra : w7.rangeAt ga 0 (vB (bs ++ padL bs.length)).toList := by
        obtain ⟨av', b', o', cp', h1', _, _, h3', h4', _, _⟩ := hpa
        rw [hv7] at h1'
        injection h1' with h1a h1b h1c
        have h5 := h3' (List.length_pos_iff.2 hLne)
        rw [← h1a] at h5
        injection h5 with h5; injection h5 with h5a h5b
        subst h5a h5b
        exact h4'
      subst hv7
      have f70 : w7.heap[w.heap.size]? = some (Obj.cells (vB (zs 32)) 27) := by rw [b37.block _ (by omega), fb3.block _ (by omega)]; exact f20
      have f71 : w7.heap[w.heap.size + 1]? = some (Obj.cells (vW hWords) 72) := by rw [b37.block _ (by omega), fb3.block _ (by omega)]; exact f21
      have fk7 : w7.heap[w2.heap.size]? = some (Obj.cells (vW kWords) 73) := by rw [b37.block _ (by omega)]; exact fk
      have b07 : Below w.heap.size w w7 := b03.trans (b37.mono b03.size)
      have s7 := b37.size
      have F70 : Hid (w7.heap[w.heap.size]? = some (Obj.cells (vB (zs 32)) 27)) := f70
      have F71 : Hid (w7.heap[w.heap.size + 1]? = some (Obj.cells (vW hWords) 72)) := f71
      have FK7 : Hid (w7.heap[w2.heap.size]? = some (Obj.cells (vW kWords) 73)) := fk7
      clear f70 f71 fk7 hLne
      clear o7 hpa f20 f21 fk b03 b37 fb3 b02 EK hne hp0 hrest hnl
      generalize bs ++ padL bs.length = L at *
      rw [act_lit _ rfl]
      refine @Code.wp_mono _ _ (postOf 2 (N0 w.heap.size (w.heap.size + 1) w2.heap.size ga L.length ca L.length (wordsOf L) w7)) _ _ _ ?_ ?_
      rotate_left
      · exact loop0 w.heap.size (w.heap.size + 1) w2.heap.size ga ca L w7 _ ⟨rfl, rfl, rfl, rfl, rfl⟩ hL64'.out hca hcam hLby.out hgal (by omega) hra (by omega) (by omega) (by omega) FK7.out F71.out
      rintro e a8 w8 h
      cases e with
      | exit m =>
        obtain ⟨rfl, f8, rfl, ⟨z2, z3, z4, z5, z6⟩, g8, hH8⟩ := h
        have s8 := g8.size
        have hR8 : Hid (w8.heap[w.heap.size]? = some (Obj.cells (vB (zs 32)) 27)) := by unfold Hid; rw [g8.block _ (by omega) (by simp)]; exact F70.out
        have b08 : Below w.heap.size w w8 := ⟨by rw [g8.os, b07.os], by rw [g8.tape, b07.tape], by rw [g8.output, b07.output], by omega, fun k hk => by rw [g8.block k (by omega) (by simp; omega), b07.block k hk]⟩
        have hH8' : Hid (w8.heap[w.heap.size + 1]? = some (.cells (vW (wordsOf L)) 72)) := hH8
        have hwl := wordsOf_length L
        clear hH8 F70 F71 FK7 hra hLby hL64'
        unfold mkA
        go_wp2_with fail
        rw [act_lit _ rfl]
        refine @Code.wp_mono _ _ (postOf 10 (N5 w.heap.size (w.heap.size + 1) w8.heap.size 32 (outB (wordsOf L)) (w8.alloc (.cells (vB (zs 32)) 27)))) _ _ _ ?_ ?_
        rotate_left
        · exact loop5 w.heap.size (w.heap.size + 1) w8.heap.size (wordsOf L) hwl (w8.alloc (.cells (vB (zs 32)) 27)) _ rfl ⟨z2, z3, rfl⟩ (by omega) (by rw [Below.heap_alloc _ _ _ (by omega)]; exact hH8'.out) (heap_alloc_new _ _)
        rintro e a9 w9 h
        cases e with
        | exit m =>
          obtain ⟨rfl, f9, rfl, _, ⟨y2, y3, y18⟩, b9, s9, hO9⟩ := h
          have hR9 : w9.heap[w.heap.size]? = some (Obj.cells (vB (zs 32)) 27) := by rw [b9.block _ (by omega), Below.heap_alloc _ _ _ (by omega)]; exact hR8.out
          have hol : (outB (wordsOf L)).length = 32 := outTo_length _ 8
          have b09 : Below w.heap.size w w9 := b08.trans ((((Below.refl _ _).alloc (Nat.le_refl _) _).trans b9).mono (by omega))
          obtain ⟨OL, hOL⟩ : ∃ OL, OL = outB (wordsOf L) := ⟨_, rfl⟩
          rw [← hOL] at hO9 hol
          rw [← hOL] at FIN
          clear hOL hH8' hR8 b9 b08 b07
          unfold mkA
          go_wp2_with (first | (refine load24 rfl _ rfl _ y18 OL hol 27 hO9 ?_) | (refine store24 rfl _ _ rfl _ OL y2 rfl hol 27 (zs 32) rfl hR9 ?_))
          exact bodyPost_ret (v := .agg (vB OL)) (results_cell_row (p := 2) (ty := 27) Try.results35 _ _ w.heap.size 27 _ (0, 0) _ y2 (setRow_same hR9) Try.underlying27 rfl (by rw [vB_size, hol]; kernel_rfl)) rfl ⟨by rw [FIN.out], below_setRow b09 (Nat.le_refl _) _⟩
        | _ => exact h.elim
      | _ => exact h.elim
set_option maxRecDepth 100000 in
theorem rsum_any (v : Value) (bs : List Int) (w : World) (hp : PartAt w v bs) (hn : bs.length ≤ 140737488351232) (hby : ∀ x ∈ bs, 0 ≤ x ∧ x ≤ 255) :
    Calls Try.prog 35 #[v] w fun e w' => e = .returned (.agg (vB (hashOf bs))) ∧ Below w.heap.size w w' := rsum_big v bs w hp (by omega) hby
end Go.Proofs.Ytnpjknnalekdpaa
