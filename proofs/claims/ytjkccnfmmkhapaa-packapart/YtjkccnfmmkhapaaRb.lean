import Derived.Test.YtjkccnfmmkhapaaQb
import Derived.Test.YtjkccnfmmkhapaaRa
namespace Go.Proofs.Ytjkccnfmmkhapaa
set_option linter.unusedSimpArgs false
set_option linter.unusedVariables false
open Go.RowKit
theorem wpAnyH_mono {P : Program} {ops : Array Oper} {Q : Exit → Act → World → Prop} {md : Region.Mode} {S S' : World → Prop} (hSS : ∀ w, S' w → S w) : ∀ (fuel : Nat) (listed : Array Bool) (a : Act) (w : World), wpAnyH P md ops Q S' fuel listed a w → wpAnyH P md ops Q S fuel listed a w
  | 0, _, _, _, h => h
  | fuel + 1, _, _, _, h => ⟨h.1, fun i hi => wpOp_mono (fun a' w' h' => ⟨hSS w' h'.1, wpAnyH_mono hSS fuel _ a' w' h'.2⟩) (h.2 i hi)⟩
/-- The condition grows behind a call. -/
theorem wpAnyH_grow {P : Program} {ops : Array Oper} {Q : Exit → Act → World → Prop} {md : Region.Mode} {S S' : World → Prop} (hSS : ∀ w, S' w → S w) {fuel : Nat} {listed : Array Bool} {a : Act} {w : World} (hS : S' w) (h : S' w → wpAnyH P md ops Q S' fuel listed a w) : wpAnyH P md ops Q S fuel listed a w :=
  wpAnyH_mono hSS fuel listed a w (h hS)
theorem forIn_seek {β : Type} {P : Program} (w : World) (f : Nat → β → Sem (ForInStep β)) (g : Nat → Bool) (b c : β) : ∀ (n s : Nat), (∀ j, s ≤ j ∧ j < s + n → g j = true → (f j b).run P w = .ok (.yield b) w) → (∀ j, s ≤ j ∧ j < s + n → g j = false → (f j b).run P w = .ok (.done c) w) → (forIn (List.range' s n) b f).run P w = .ok (if (List.range' s n).all g = true then b else c) w
  | 0, s, _, _ => by simp
  | n + 1, s, h1, h2 => by
    rw [List.range'_succ, List.forIn_cons, Sem.run_bind]
    cases hg : g s with
    | true =>
      rw [h1 s ⟨by omega, by omega⟩ hg]
      simp only [Result.andThen_ok]
      rw [forIn_seek w f g b c n (s + 1) (fun j hj => h1 j ⟨by omega, by omega⟩) (fun j hj => h2 j ⟨by omega, by omega⟩), List.all_cons, hg, Bool.true_and]
    | false =>
      rw [h2 s ⟨by omega, by omega⟩ hg]
      simp [hg]
theorem all_same (a b : List Int) (ha : a.length = 32) (hb : b.length = 32) : (List.range' 0 32).all (fun j => decide (gi a j = gi b j)) = decide (a = b) := by
  rw [Bool.eq_iff_iff, List.all_eq_true]
  simp only [decide_eq_true_eq]
  constructor
  · intro h
    apply List.ext_getElem (by omega)
    intro i h1 h2
    have := h i (by simp; omega)
    simpa [gi, h1, h2] using this
  · rintro rfl j _; rfl
theorem eq32_any (d : Nat) (l m : List Int) (hl : l.length = 32) (hm : m.length = 32) (w : World) : (Op.equalIn (d + 2) 32 (.agg (vB l)) (.agg (vB m))).run Try.prog w = .ok (decide (l = m)) w := by
  have hs : (Try.prog.info? 5).map (·.size) = some 1 := by kernel_rfl
  have hagg : (isAgg 5).run Try.prog w = .ok false w := by
    unfold isAgg; rw [Sem.run_bind, run_underlying Try.underlying5 w]; rfl
  cases hi : Try.prog.info? 5 with
  | none => simp [hi] at hs
  | some i =>
    have hz : i.size = 1 := by simpa [hi] using hs
    have hpart : ∀ (l : List Int), l.length = 32 → ∀ j, j < 32 → (part 5 (vB l) j).run Try.prog w = .ok (.int .u8 (gi l j)) w := fun l hl j hj => by
      have hq := vB_at l j (by omega)
      simp [part, hagg, hq]
    unfold Op.equalIn
    simp only [Sem.run_bind, run_underlying Try.underlying32, Result.andThen_ok]
    have hso : (sizeOf 5).run Try.prog w = .ok 1 w := by simp [sizeOf, typeInfo, hi, hz]
    simp only [hso, Result.andThen_ok, Std.Legacy.Range.forIn_eq_forIn_range']
    rw [show ([:32] : Std.Legacy.Range).size = 32 from rfl, forIn_seek _ _ (fun j => decide (gi l j = gi m j)) (none, ()) (some false, ()) 32 0]
    · rw [all_same l m hl hm]
      by_cases h : l = m <;> simp [h]
    · intro j hj hg
      have hp := hpart l hl j (by omega)
      have hp2 := hpart m hm j (by omega)
      have he : (Op.equalIn (d + 1) 5 (.int .u8 (gi l j)) (.int .u8 (gi m j))).run Try.prog w = .ok true w := by
        rw [run_equalIn_int w d 5 .u8 .u8 _ _ Try.underlying5]
        have := of_decide_eq_true hg
        simp [this]
      simp [Sem.run_bind, hp, hp2, he]
    · intro j hj hg
      have hp := hpart l hl j (by omega)
      have hp2 := hpart m hm j (by omega)
      have he : (Op.equalIn (d + 1) 5 (.int .u8 (gi l j)) (.int .u8 (gi m j))).run Try.prog w = .ok false w := by
        rw [run_equalIn_int w d 5 .u8 .u8 _ _ Try.underlying5]
        have := of_decide_eq_false hg
        simp [this]
      simp [Sem.run_bind, hp, hp2, he]

theorem below_drewN {B : Nat} {a w : World} (h : Below B a w) (n : Nat) : Below B a (w.drewN n) := ⟨h.os, h.tape, h.output, h.size, h.block⟩
theorem mid_h {w : World} {g off : Nat} {x : It} (h : w.rangeAt g off (itC x).toList) : w.rangeAt g (off + 5) (List.map (Value.int .u8) x.h) := fun j v hv => by
  have hj : j < x.h.length := by have := (List.getElem?_eq_some_iff.1 hv).1; simpa using this
  rw [Nat.add_assoc, it_cell h (itC_h x j hj)]
  rw [← vB_toList, Array.getElem?_toList, vB_at x.h j hj] at hv
  exact hv
theorem str_eqb (a b : ByteArray) : (a.toList == b.toList) = decide (a = b) := by
  have hi : a.toList = b.toList ↔ a = b := ⟨fun h => by
    have h2 : strOfNums (nB a) = strOfNums (nB b) := by
      have e1 := Lib.strOfNums_toList (nB a)
      have e2 := Lib.strOfNums_toList (nB b)
      rw [str_nB] at e1 e2
      rw [e1, e2] at h
      unfold strOfNums
      unfold Lib.bytesOf at h
      rw [h]
    rwa [str_nB, str_nB] at h2, fun h => by rw [h]⟩
  by_cases h : a = b
  · subst h; simp
  · have : a.toList ≠ b.toList := fun e => h (hi.1 e)
    simp [h, this]
theorem quiet_load32 {C : World → Prop} {K : Act → Prop} {a : Act} {o : Oper} (x : Operand) (ho : o.op = .load 32 x) (b off : Nat) (hx : a.eval x = .pointer (some ⟨b, off, none⟩)) (cs : List Value) (hc : ∀ w, C w → w.rangeAt b off cs)
    (hi : (Try.prog.info? 32).map (·.size) = some cs.length) (hk : K (a.put o.dst (.agg cs.toArray))) : o.quiet Try.prog a C K :=
  ⟨_, fun w hw => by
    have h : (execOp a.eval o).run Try.prog w = .ok (.value (.agg cs.toArray)) w := by
      unfold execOp
      simp only [ho, hx, Instr.loadAt, Instr.sureAddr, Sem.run_bind, Sem.run_pure, Result.andThen_ok, run_loadVar_mid w b off 32 cs _ (hc w hw) Try.underlying32 rfl hi]
    unfold Oper.quietAt; rw [h]; exact ⟨rfl, rfl⟩, hk⟩
/-- Behind j items of each. -/
structure ApAt (w : World) (a b : List It) (j : Nat) (wr : World) : Prop where
  wx : WSt wr w.heap.size (allSt (a.take j))
  wy : WSt wr (w.heap.size + 1) (allSt (b.take j))
  bel : Below w.heap.size w wr
  kinds : ∀ (i : Nat) (x y : It), i < j → a[i]? = some x → b[i]? = some y → kindEq x y
theorem ApAt.drewN {w : World} {a b : List It} {j : Nat} {wr : World} (h : ApAt w a b j wr) (n : Nat) : ApAt w a b j (wr.drewN n) :=
  ⟨h.wx.below (below_drewN (Below.refl _ _) n), h.wy.below (below_drewN (Below.refl _ _) n), below_drewN h.bel n, h.kinds⟩
theorem ap_start (w : World) (a b : List It) : ApAt w a b 0 ((w.alloc (.cells #[.pointer none, .int .i64 0, .bool false] 27)).alloc (.cells #[.pointer none, .int .i64 0, .bool false] 27)) :=
  ⟨(wst_new w).below ((Below.refl _ _).alloc (Nat.le_refl _) _), by have h := wst_new (w.alloc (.cells #[.pointer none, .int .i64 0, .bool false] 27)); rw [show (w.alloc (.cells #[.pointer none, .int .i64 0, .bool false] 27)).heap.size = w.heap.size + 1 by simp] at h; exact h, ((Below.refl _ _).alloc (Nat.le_refl _) _).alloc (by simp) _, fun i x y h => by omega⟩
theorem put_one (w : World) (g : Nat) (hg : w.heap.size ≤ g) (xs : List It) (j : Nat) (x : It) (hx : xs[j]? = some x) (hok : ∀ x ∈ xs, x.Ok) (hl : xs.length ≤ 100) (wr : World) (h : WSt wr g (allSt (xs.take j))) (hb : Below w.heap.size w wr) :
    Calls Try.prog 8 #[.pointer (some ⟨g, 0, none⟩), .agg (itC x)] wr fun e w' => e = .returned (.tuple #[]) ∧ WSt w' g (allSt (xs.take (j + 1))) ∧ Below w.heap.size w w' ∧ wr.grownBy w' (some g) := by
  have hb2 := stLen_all _ (xs.take j) rfl (fun y hy => hok y (List.mem_of_mem_take hy))
  have hj : (xs.take j).length ≤ 100 := by simp; omega
  refine (put_h (.pointer (some ⟨g, 0, none⟩)) _ x (hok x (List.mem_of_getElem? hx)) wr (Or.inr ⟨g, rfl, h⟩) (by omega)).mono ?_
  rintro e w' ⟨rfl, h1, h2⟩
  refine ⟨rfl, ?_, hb.grown h2 hb.size (fun k hk => by injection hk with hk; subst hk; exact hg), h2⟩
  rcases h1 with ⟨e, _⟩ | ⟨g', e, h1⟩
  · cases e
  · injection e with e; injection e with e; injection e with e; subst e
    rw [allSt_take xs j x hx]; exact h1
set_option maxHeartbeats 4000000 in
set_option maxRecDepth 100000 in
theorem packApart_walk (v0 v1 : Value) (xs ys : List It) (w : World) (hv0 : ItemsAt w v0 xs) (hv1 : ItemsAt w v1 ys) : Calls Try.prog 5 #[v0, v1] w fun e w' => e = .returned (.bool true) ∧ Below w.heap.size w w' := by
  have AW : Hid (∀ W : World, Below w.heap.size w W → Calls Try.prog 6 #[] W fun e w' => e = .returned (.bool true) ∧ Below w.heap.size w w') := fun W hW =>
    (awake_any W).mono fun e w' ⟨h1, h2⟩ => ⟨h1, hW.trans (h2.mono hW.size)⟩
  have FX : Hid (∀ W : World, Below w.heap.size w W → Calls Try.prog 7 #[v0] W (FewRes xs W)) := fun W hW => few_any v0 xs W (hv0.below hW)
  have FY : Hid (∀ W : World, Below w.heap.size w W → Calls Try.prog 7 #[v1] W (FewRes ys W)) := fun W hW => few_any v1 ys W (hv1.below hW)
  obtain ⟨av, b, o, cp, rfl, h1, h2, h3, h4, h5, h6, h7⟩ := hv0
  obtain ⟨av', b', o', cp', rfl, h1', h2', h3', h4', h5', h6', h7'⟩ := hv1
  have RX : Hid (∀ (W : World) (j : Nat) (x : It), Below w.heap.size w W → xs[j]? = some x → W.rangeAt b (o + j * 37) (itC x).toList) := fun W j x hW hx => range_below (h4 j x hx) hW (h5 (by have := (List.getElem?_eq_some_iff.1 hx).1; omega))
  have RY : Hid (∀ (W : World) (j : Nat) (x : It), Below w.heap.size w W → ys[j]? = some x → W.rangeAt b' (o' + j * 37) (itC x).toList) := fun W j x hW hx => range_below (h4' j x hx) hW (h5' (by have := (List.getElem?_eq_some_iff.1 hx).1; omega))
  have OX : Hid (∀ x ∈ xs, x.Ok) := h6
  have OY : Hid (∀ x ∈ ys, x.Ok) := h6'
  clear h4 h6 h4' h6' h5 h5'
  go_enter Try.func5, Try.ntmps5
  go_wp2_with fail
  refine (AW.out _ (Below.refl _ _)).mono ?_
  rintro e w1 ⟨rfl, b1⟩
  go_wp2_with fail
  refine (FX.out _ b1).mono ?_
  rintro e w2 ⟨c, rfl, hc, h'⟩
  have h'' := h'.symm; clear h'; subst h''
  cases c
  · go_wp2_with fail
    refine (AW.out _ b1).mono ?_
    rintro e w3 ⟨rfl, b3⟩
    go_wp2
    go_ret
    exact ⟨rfl, b3⟩
  have hl := hc rfl
  clear hc FX
  go_wp2_with fail
  refine (FY.out _ b1).mono ?_
  rintro e w2 ⟨c, rfl, hc, h'⟩
  have h'' := h'.symm; clear h'; subst h''
  cases c
  · go_wp2_with fail
    refine (AW.out _ b1).mono ?_
    rintro e w3 ⟨rfl, b3⟩
    go_wp2
    go_ret
    exact ⟨rfl, b3⟩
  have hl' := hc rfl
  clear hc FY
  by_cases hnl : ¬ (xs.length = ys.length)
  · have hlen' : ¬ ((xs.length : Int) = (ys.length : Int)) := by omega
    go_wp2_with fail
    refine (AW.out _ b1).mono ?_
    rintro e w3 ⟨rfl, b3⟩
    go_wp2
    go_ret
    exact ⟨rfl, b3⟩
  clear AW
  have hlen : xs.length = ys.length := Classical.not_not.1 hnl
  clear hnl
  have HLEN : Hid (xs.length = ys.length) := hlen
  have hle2 : (xs.length : Int) = (ys.length : Int) := by omega
  clear hlen
  go_wp2
  have AP0 : Hid (ApAt w1 xs ys 0 ((w1.alloc (.cells #[.pointer none, .int .i64 0, .bool false] 27)).alloc (.cells #[.pointer none, .int .i64 0, .bool false] 27))) := ap_start w1 xs ys
  go_loopw [31, 7] (fun i s wr => ∃ j : Nat, j ≤ xs.length ∧ i = .int .i64 j ∧ s = .bool (sameB (xs.take j) (ys.take j)) ∧ ApAt w1 xs ys j wr) (fun i _ _ => xs.length - (intOf i).toNat)
  case atStart => exact ⟨0, by omega, rfl, rfl, AP0.out⟩
  case round =>
    obtain ⟨j, hj, rfl, rfl, hp⟩ := hrel
    by_cases hlt : j < xs.length
    · have hlen := HLEN.out
      obtain ⟨x, hx⟩ : ∃ x, xs[j]? = some x := ⟨xs[j], List.getElem?_eq_getElem hlt⟩
      obtain ⟨y, hy⟩ : ∃ y, ys[j]? = some y := ⟨ys[j], List.getElem?_eq_getElem (by omega)⟩
      have hav := h3 (by omega)
      subst hav
      have hav' := h3' (by omega)
      subst hav'
      have hji : (j : Int) < (xs.length : Int) := by omega
      have hji' : (j : Int) < (ys.length : Int) := by omega
      have hW : Below w.heap.size w wr := b1.trans (hp.bel.mono b1.size)
      have x0 : wr.cell? ⟨b, o + j * 37, none⟩ = some (.int .u8 x.kind) := it_cell (RX.out wr j x hW hx) (itC_0 x)
      have x2 := it_cell (RX.out wr j x hW hx) (itC_2 x)
      have y0 : wr.cell? ⟨b', o' + j * 37, none⟩ = some (.int .u8 y.kind) := it_cell (RY.out wr j y hW hy) (itC_0 y)
      have y2 := it_cell (RY.out wr j y hW hy) (itC_2 y)
      clear hlen
      by_cases hk : x.kind = y.kind
      · by_cases hz : x.size = y.size
        · have d1 : decide (x.kind = y.kind) = true := by simp [hk]
          have d2 : (x.kind == y.kind) = true := by simp [hk]
          have d3 : (x.kind != y.kind) = false := by simp [hk]
          have d4 : decide (x.size = y.size) = true := by simp [hz]
          have d5 : (x.size == y.size) = true := by simp [hz]
          have d6 : (x.size != y.size) = false := by simp [hz]
          have hokx := OX.out x (List.mem_of_getElem? hx)
          have hoky := OY.out y (List.mem_of_getElem? hy)
          have PX : Hid (∀ n, Calls Try.prog 8 #[.pointer (some ⟨w1.heap.size, 0, none⟩), .agg (itC x)] (wr.drewN n) fun e w3 => e = .returned (.tuple #[]) ∧ WSt w3 w1.heap.size (allSt (xs.take (j + 1))) ∧ WSt w3 (w1.heap.size + 1) (allSt (ys.take j)) ∧ Below w1.heap.size w1 w3) := fun n =>
            (put_one w1 _ (Nat.le_refl _) xs j x hx OX.out hl _ (hp.wx.below (below_drewN (Below.refl _ _) n)) (below_drewN hp.bel n)).mono fun e w3 ⟨q1, q2, q3, q4⟩ =>
              ⟨q1, q2, (hp.wy.below (below_drewN (Below.refl _ _) n)).grown (hp.wx.below (below_drewN (Below.refl _ _) n)) (by omega) q4, q3⟩
          have PY : Hid (∀ w3, WSt w3 w1.heap.size (allSt (xs.take (j + 1))) → WSt w3 (w1.heap.size + 1) (allSt (ys.take j)) → Below w1.heap.size w1 w3 → Calls Try.prog 8 #[.pointer (some ⟨w1.heap.size + 1, 0, none⟩), .agg (itC y)] w3 fun e w4 => e = .returned (.tuple #[]) ∧ ApAt w1 xs ys (j + 1) w4) := fun w3 q1 q2 q3 =>
            (put_one w1 _ (Nat.le_succ _) ys j y hy OY.out hl' w3 q2 q3).mono fun e w4 ⟨r1, r2, r3, r4⟩ =>
              ⟨r1, q1.grown q2 (by omega) r4, r2, r3, fun i u v hi hu hv => by
                rcases Nat.lt_or_ge i j with h | h
                · exact hp.kinds i u v h hu hv
                · obtain rfl : i = j := by omega
                  rw [hx] at hu; rw [hy] at hv; injection hu with hu; injection hv with hv; subst hu hv; exact ⟨hk, hz⟩⟩
          have HW : Hid (Below w.heap.size w wr) := hW
          clear hp hW
          go_wp2
          go_quiet (fail)
          have rx := RX.out (wr.drewN nq) j x (below_drewN HW.out nq) hx
          go_wp2_with (first | (refine load34m rfl _ rfl _ _ rfl x hokx rx ?_))
          refine (PX.out _).mono ?_
          rintro e w3 ⟨rfl, s1, s2, s3⟩
          have ry := RY.out w3 j y (b1.trans (s3.mono b1.size)) hy
          have P3 : Hid (Calls Try.prog 8 #[.pointer (some ⟨w1.heap.size + 1, 0, none⟩), .agg (itC y)] w3 fun e w4 => e = .returned (.tuple #[]) ∧ ApAt w1 xs ys (j + 1) w4) := PY.out w3 s1 s2 s3
          clear s1 s2 s3 PX PY rx x0 x2 y0 y2
          go_wp2_with (first | (refine load34m rfl _ rfl _ _ rfl y hoky ry ?_))
          refine P3.out.mono ?_
          rintro e w4 ⟨rfl, ap4⟩
          have hW4 : Below w.heap.size w w4 := b1.trans (ap4.bel.mono b1.size)
          have AP4 : Hid (ApAt w1 xs ys (j + 1) w4) := ap4
          clear ap4 P3 ry HW hk hz d1 d2 d3 d4 d5 d6
          by_cases k0 : x.kind = 0
          · have hkk := k0
            have E0 : Hid (eqIt x y = decide (x.n = y.n)) := by unfold Hid eqIt; rw [if_pos k0]
            have zx := it_cell (RX.out w4 j x hW4 hx) (itC_1 x)
            have zy := it_cell (RY.out w4 j y hW4 hy) (itC_1 y)
            have z0 : w4.cell? ⟨b, o + j * 37, none⟩ = some (.int .u8 x.kind) := it_cell (RX.out w4 j x hW4 hx) (itC_0 x)
            clear hW4
            cases hSB : sameB (xs.take j) (ys.take j)
            · have S1 : Hid (sameB (xs.take (j + 1)) (ys.take (j + 1)) = false) := by unfold Hid; rw [sameB_take xs ys j x y hx hy, hSB]; rfl
              go_wp2
              go_quiet (fail)
              go_wp2
              go_roundw
              case rel => exact ⟨j + 1, by omega, by go_num, by rw [S1.out], AP4.out.drewN _⟩
              case measure => simp [intOf]; omega
            · have S1 : Hid (sameB (xs.take (j + 1)) (ys.take (j + 1)) = eqIt x y) := by unfold Hid; rw [sameB_take xs ys j x y hx hy, hSB]; rfl
              go_wp2
              go_quiet (fail)
              go_wp2
              go_roundw
              case rel => exact ⟨j + 1, by omega, by go_num, by rw [S1.out, E0.out]; rfl, AP4.out.drewN _⟩
              case measure => simp [intOf]; omega
          by_cases k1 : x.kind = 1
          · have hkk := k1
            have E0 : Hid (eqIt x y = (x.b == y.b)) := by unfold Hid eqIt; rw [if_neg k0, if_pos k1]
            have zx := it_cell (RX.out w4 j x hW4 hx) (itC_3 x)
            have zy := it_cell (RY.out w4 j y hW4 hy) (itC_3 y)
            have z0 : w4.cell? ⟨b, o + j * 37, none⟩ = some (.int .u8 x.kind) := it_cell (RX.out w4 j x hW4 hx) (itC_0 x)
            clear hW4
            cases hSB : sameB (xs.take j) (ys.take j)
            · have S1 : Hid (sameB (xs.take (j + 1)) (ys.take (j + 1)) = false) := by unfold Hid; rw [sameB_take xs ys j x y hx hy, hSB]; rfl
              go_wp2
              go_quiet (fail)
              go_wp2
              go_roundw
              case rel => exact ⟨j + 1, by omega, by go_num, by rw [S1.out], AP4.out.drewN _⟩
              case measure => simp [intOf]; omega
            · have S1 : Hid (sameB (xs.take (j + 1)) (ys.take (j + 1)) = eqIt x y) := by unfold Hid; rw [sameB_take xs ys j x y hx hy, hSB]; rfl
              go_wp2
              go_quiet (fail)
              go_wp2
              go_roundw
              case rel => exact ⟨j + 1, by omega, by go_num, by rw [S1.out, E0.out], AP4.out.drewN _⟩
              case measure => simp [intOf]; omega
          by_cases k2 : x.kind = 2
          · have hkk := k2
            have E0 : Hid (eqIt x y = decide (x.s = y.s)) := by unfold Hid eqIt; rw [if_neg k0, if_neg k1, if_pos k2]
            have zx := it_cell (RX.out w4 j x hW4 hx) (itC_4 x)
            have zy := it_cell (RY.out w4 j y hW4 hy) (itC_4 y)
            have z0 : w4.cell? ⟨b, o + j * 37, none⟩ = some (.int .u8 x.kind) := it_cell (RX.out w4 j x hW4 hx) (itC_0 x)
            clear hW4
            cases hSB : sameB (xs.take j) (ys.take j)
            · have S1 : Hid (sameB (xs.take (j + 1)) (ys.take (j + 1)) = false) := by unfold Hid; rw [sameB_take xs ys j x y hx hy, hSB]; rfl
              go_wp2
              go_quiet (fail)
              go_wp2
              go_roundw
              case rel => exact ⟨j + 1, by omega, by go_num, by rw [S1.out], AP4.out.drewN _⟩
              case measure => simp [intOf]; omega
            · have S1 : Hid (sameB (xs.take (j + 1)) (ys.take (j + 1)) = eqIt x y) := by unfold Hid; rw [sameB_take xs ys j x y hx hy, hSB]; rfl
              go_wp2
              go_quiet (fail)
              go_wp2
              go_roundw
              case rel => exact ⟨j + 1, by omega, by go_num, by rw [S1.out, E0.out, ← str_eqb], AP4.out.drewN _⟩
              case measure => simp [intOf]; omega
          · have E0 : Hid (eqIt x y = decide (x.h = y.h)) := by unfold Hid eqIt; rw [if_neg k0, if_neg k1, if_neg k2]
            have z0 : w4.cell? ⟨b, o + j * 37, none⟩ = some (.int .u8 x.kind) := it_cell (RX.out w4 j x hW4 hx) (itC_0 x)
            cases hSB : sameB (xs.take j) (ys.take j)
            · have S1 : Hid (sameB (xs.take (j + 1)) (ys.take (j + 1)) = false) := by unfold Hid; rw [sameB_take xs ys j x y hx hy, hSB]; rfl
              clear hW4
              go_wp2
              go_quiet (fail)
              go_wp2
              go_roundw
              case rel => exact ⟨j + 1, by omega, by go_num, by rw [S1.out], AP4.out.drewN _⟩
              case measure => simp [intOf]; omega
            · have S1 : Hid (sameB (xs.take (j + 1)) (ys.take (j + 1)) = eqIt x y) := by unfold Hid; rw [sameB_take xs ys j x y hx hy, hSB]; rfl
              have rgx : w4.rangeAt b (o + j * 37 + 5) (List.map (Value.int .u8) x.h) := mid_h (RX.out w4 j x hW4 hx)
              have rgy : w4.rangeAt b' (o' + j * 37 + 5) (List.map (Value.int .u8) y.h) := mid_h (RY.out w4 j y hW4 hy)
              have e32 : ∀ W : World, (Op.equalIn 10000 32 (.agg (List.map (Value.int .u8) x.h).toArray) (.agg (List.map (Value.int .u8) y.h).toArray)).run Try.prog W = .ok (decide (x.h = y.h)) W := fun W => eq32_any 9998 x.h y.h hokx.hl hoky.hl W
              have hu32 := Try.underlying32
              have hl33 : (Try.prog.info? 32).map (·.size) = some (List.map (Value.int .u8) x.h).length := by rw [List.length_map, hokx.hl]; kernel_rfl
              have hl34 : (Try.prog.info? 32).map (·.size) = some (List.map (Value.int .u8) y.h).length := by rw [List.length_map, hoky.hl]; kernel_rfl
              have hS : w4.rangeAt b (o + j * 37 + 5) (List.map (Value.int .u8) x.h) ∧ w4.rangeAt b' (o' + j * 37 + 5) (List.map (Value.int .u8) y.h) := ⟨rgx, rgy⟩
              clear hW4
              go_wp2
              refine wp_region_quiet_lit (by kernel_rfl) (by kernel_rfl) ?_
              repeat (first
                | go_big_quiet_skip
                | (go_big_quiet_want; first
                  | (refine quiet_load32 _ rfl b (o + j * 37 + 5) rfl (List.map (Value.int .u8) x.h) (fun W hW => ?_) hl33 ?_; (obtain ⟨n, rfl⟩ := hW; exact rgx); simp only [Act.put, List.setIfInBounds_toArray, List.set_cons_zero, List.set_cons_succ]; go_big_quiet_on)
                  | (refine quiet_load32 _ rfl b' (o' + j * 37 + 5) rfl (List.map (Value.int .u8) y.h) (fun W hW => ?_) hl34 ?_; (obtain ⟨n, rfl⟩ := hW; exact rgy); simp only [Act.put, List.setIfInBounds_toArray, List.set_cons_zero, List.set_cons_succ]; go_big_quiet_on)
                  | (go_big_quiet_op; go_big_quiet_on)))
              refine wpQuiet_nil ?_
              intro _ hw'
              obtain ⟨nq, hw''⟩ := hw'
              subst hw''
              go_wp2
              go_roundw
              case rel => exact ⟨j + 1, by omega, by go_num, by rw [S1.out, E0.out], AP4.out.drewN _⟩
              case measure => simp [intOf]; omega
        · have HW : Hid (Below w.heap.size w wr) := hW
          have d1 : decide (x.kind = y.kind) = true := by simp [hk]
          have d2 : (x.kind == y.kind) = true := by simp [hk]
          have d3 : (x.kind != y.kind) = false := by simp [hk]
          have d4 : decide (x.size = y.size) = false := by simp [hz]
          have d5 : (x.size == y.size) = false := by simp [hz]
          have d6 : (x.size != y.size) = true := by simp [hz]
          clear hp hW
          go_wp2
          go_quiet (fail)
          go_wp2
          go_ret
          exact ⟨rfl, below_drewN HW.out _⟩
      · have HW : Hid (Below w.heap.size w wr) := hW
        have d1 : decide (x.kind = y.kind) = false := by simp [hk]
        have d2 : (x.kind == y.kind) = false := by simp [hk]
        have d3 : (x.kind != y.kind) = true := by simp [hk]
        clear hp hW
        go_wp2
        go_quiet (fail)
        go_wp2
        go_ret
        exact ⟨rfl, below_drewN HW.out _⟩
    · have hlen := HLEN.out
      have ej : xs.take j = xs := List.take_of_length_le (by omega)
      have ej' : ys.take j = ys := List.take_of_length_le (by omega)
      have wx := hp.wx
      have wy := hp.wy
      rw [ej] at wx
      rw [ej'] at wy
      rw [ej, ej']
      have hkinds : ∀ (i : Nat) (x y : It), xs[i]? = some x → ys[i]? = some y → kindEq x y := fun i x y hx hy => hp.kinds i x y (by have := (List.getElem?_eq_some_iff.1 hx).1; omega) hx hy
      have HW0 : Below w.heap.size w wr := b1.trans (hp.bel.mono b1.size)
      have HW : Hid (Below w.heap.size w wr.drew) := (b1.trans (hp.bel.mono b1.size)).drew
      have hd : Below wr.heap.size wr wr.drew := (Below.refl _ _).drew
      have hdn : ∀ n, Below wr.heap.size wr (wr.drewN n) := fun n => below_drewN (Below.refl _ _) n
      have wx' := wx.below hd
      have wy' := wy.below hd
      clear hp
      have B1 : Hid (Below w.heap.size w w1) := b1
      clear b1 AP0
      generalize hgy : w1.heap.size + 1 = gy at *
      generalize hgx : w1.heap.size = gx at *
      clear hgx hgy
      cases hsx : allSt xs with
      | none =>
        rw [hsx] at wx'
        have C1 : Hid (Calls Try.prog 10 #[.pointer (some ⟨gx, 0, none⟩)] wr.drew fun e w' => e = .returned (.bool true) ∧ w' = wr.drew) := wBad_any _ none _ wx'
        clear wx wy wx' wy' hkinds ej ej' hsx hd hdn hlen
        go_wp2
        refine wp_region_noPanic ?_
        refine wp_region_held_drew (S := fun w' => Below w.heap.size w w') (by kernel_rfl) (HW.out) (fun hHeld => ?_)
        try simp only [Act.put, List.setIfInBounds_toArray, List.set_cons_zero, List.set_cons_succ]
        refine wpAnyH_ready (rs := [0]) (by kernel_rfl) (by simp) ?_
        refine AllReadyH.cons (o := { dst := some 136, op := Go.Op.call { callee := Go.Callee.value (Go.Operand.func 10), args := #[Go.Operand.tmp 5], argTypes := #[27] }, type := 4, pos := "law.go:237", after := #[], guard := none }) rfl (fun K hK => ?_) AllReadyH.nil
        go_simp
        refine C1.out.mono ?_
        rintro e w' ⟨rfl, h'⟩
        subst h'
        refine hK.out _ _ (HW.out) (fun hHeld1 => ?_)
        clear hK K hHeld
        try simp only [Act.put, List.setIfInBounds_toArray, List.set_cons_zero, List.set_cons_succ]
        refine wpAnyH_take (i := 1) (oi := { dst := some 137, op := Go.Op.move (Go.Operand.tmp 136), type := 4, pos := "law.go:237", after := #[{ on := 0, ground := Go.Ground.data }, { on := 0, ground := Go.Ground.chain }], guard := none }) (v := ?_) rfl (by kernel_rfl) (by kernel_rfl) (by kernel_rfl) (fun _ _ _ h => h) (Or.inl ⟨by rfl, ?_⟩) hHeld1 ?_
        rotate_left 1
        · (intro wq hSq; (try dsimp only at hSq); go_simp; first | done | with_reducible rfl)
        try simp only [Act.put, List.setIfInBounds_toArray, List.set_cons_zero, List.set_cons_succ]
        refine wpAnyH_take (i := 2) (oi := { dst := some 138, op := Go.Op.call { callee := Go.Callee.value (Go.Operand.func 10), args := #[Go.Operand.tmp 6], argTypes := #[27] }, type := 4, pos := "law.go:237", after := #[{ on := 1, ground := Go.Ground.chain }, { on := 1, ground := Go.Ground.guard }], guard := some (1, false) }) (v := undef) rfl (by kernel_rfl) (by kernel_rfl) (by kernel_rfl) (fun _ _ _ h => h) (Or.inr ⟨by rfl, rfl⟩) hHeld1 ?_
        try simp only [Act.put, List.setIfInBounds_toArray, List.set_cons_zero, List.set_cons_succ]
        refine wpAnyH_take (i := 3) (oi := { dst := some 139, op := Go.Op.pick (Go.Operand.tmp 137) (Go.Operand.const (Go.Value.bool true)) (Go.Operand.tmp 138), type := 4, pos := "law.go:237", after := #[{ on := 1, ground := Go.Ground.data }, { on := 2, ground := Go.Ground.data }], guard := none }) (v := ?_) rfl (by kernel_rfl) (by kernel_rfl) (by kernel_rfl) (fun _ _ _ h => h) (Or.inl ⟨by rfl, ?_⟩) hHeld1 ?_
        rotate_left 1
        · (intro wq hSq; (try dsimp only at hSq); go_simp; first | done | with_reducible rfl)
        try simp only [Act.put, List.setIfInBounds_toArray, List.set_cons_zero, List.set_cons_succ]
        refine wpAnyH_take (i := 4) (oi := { dst := some 140, op := Go.Op.move (Go.Operand.tmp 139), type := 4, pos := "law.go:237", after := #[{ on := 3, ground := Go.Ground.data }, { on := 2, ground := Go.Ground.chain }], guard := none }) (v := ?_) rfl (by kernel_rfl) (by kernel_rfl) (by kernel_rfl) (fun _ _ _ h => h) (Or.inl ⟨by rfl, ?_⟩) hHeld1 ?_
        rotate_left 1
        · (intro wq hSq; (try dsimp only at hSq); go_simp; first | done | with_reducible rfl)
        try simp only [Act.put, List.setIfInBounds_toArray, List.set_cons_zero, List.set_cons_succ]
        refine wpAnyH_take (i := 5) (oi := { dst := some 141, op := Go.Op.call { callee := Go.Callee.value (Go.Operand.func 11), args := #[Go.Operand.tmp 5], argTypes := #[27] }, type := 28, pos := "law.go:237", after := #[{ on := 4, ground := Go.Ground.chain }, { on := 4, ground := Go.Ground.guard }], guard := some (4, false) }) (v := undef) rfl (by kernel_rfl) (by kernel_rfl) (by kernel_rfl) (fun _ _ _ h => h) (Or.inr ⟨by rfl, rfl⟩) hHeld1 ?_
        try simp only [Act.put, List.setIfInBounds_toArray, List.set_cons_zero, List.set_cons_succ]
        refine wpAnyH_take (i := 6) (oi := { dst := some 142, op := Go.Op.convert 28 9 (Go.Operand.tmp 141), type := 9, pos := "law.go:237", after := #[{ on := 5, ground := Go.Ground.data }, { on := 4, ground := Go.Ground.guard }], guard := some (4, false) }) (v := undef) rfl (by kernel_rfl) (by kernel_rfl) (by kernel_rfl) (fun _ _ _ h => h) (Or.inr ⟨by rfl, rfl⟩) hHeld1 ?_
        try simp only [Act.put, List.setIfInBounds_toArray, List.set_cons_zero, List.set_cons_succ]
        refine wpAnyH_take (i := 7) (oi := { dst := some 143, op := Go.Op.call { callee := Go.Callee.value (Go.Operand.func 11), args := #[Go.Operand.tmp 6], argTypes := #[27] }, type := 28, pos := "law.go:237", after := #[{ on := 5, ground := Go.Ground.chain }, { on := 4, ground := Go.Ground.guard }], guard := some (4, false) }) (v := undef) rfl (by kernel_rfl) (by kernel_rfl) (by kernel_rfl) (fun _ _ _ h => h) (Or.inr ⟨by rfl, rfl⟩) hHeld1 ?_
        try simp only [Act.put, List.setIfInBounds_toArray, List.set_cons_zero, List.set_cons_succ]
        refine wpAnyH_take (i := 8) (oi := { dst := some 144, op := Go.Op.convert 28 9 (Go.Operand.tmp 143), type := 9, pos := "law.go:237", after := #[{ on := 7, ground := Go.Ground.data }, { on := 4, ground := Go.Ground.guard }], guard := some (4, false) }) (v := undef) rfl (by kernel_rfl) (by kernel_rfl) (by kernel_rfl) (fun _ _ _ h => h) (Or.inr ⟨by rfl, rfl⟩) hHeld1 ?_
        try simp only [Act.put, List.setIfInBounds_toArray, List.set_cons_zero, List.set_cons_succ]
        refine wpAnyH_take (i := 9) (oi := { dst := some 145, op := Go.Op.binOp Go.BinOp.eql 9 (Go.Operand.tmp 142) (Go.Operand.tmp 144) 9, type := 4, pos := "law.go:237", after := #[{ on := 6, ground := Go.Ground.data }, { on := 8, ground := Go.Ground.data }, { on := 4, ground := Go.Ground.guard }], guard := some (4, false) }) (v := undef) rfl (by kernel_rfl) (by kernel_rfl) (by kernel_rfl) (fun _ _ _ h => h) (Or.inr ⟨by rfl, rfl⟩) hHeld1 ?_
        try simp only [Act.put, List.setIfInBounds_toArray, List.set_cons_zero, List.set_cons_succ]
        refine wpAnyH_take (i := 10) (oi := { dst := some 146, op := Go.Op.move (Go.Operand.tmp 7), type := 4, pos := "law.go:237", after := #[{ on := 4, ground := Go.Ground.guard }], guard := some (4, false) }) (v := undef) rfl (by kernel_rfl) (by kernel_rfl) (by kernel_rfl) (fun _ _ _ h => h) (Or.inr ⟨by rfl, rfl⟩) hHeld1 ?_
        try simp only [Act.put, List.setIfInBounds_toArray, List.set_cons_zero, List.set_cons_succ]
        refine wpAnyH_take (i := 11) (oi := { dst := some 147, op := Go.Op.binOp Go.BinOp.eql 4 (Go.Operand.tmp 145) (Go.Operand.tmp 146) 4, type := 4, pos := "law.go:237", after := #[{ on := 9, ground := Go.Ground.data }, { on := 10, ground := Go.Ground.data }, { on := 4, ground := Go.Ground.guard }], guard := some (4, false) }) (v := undef) rfl (by kernel_rfl) (by kernel_rfl) (by kernel_rfl) (fun _ _ _ h => h) (Or.inr ⟨by rfl, rfl⟩) hHeld1 ?_
        try simp only [Act.put, List.setIfInBounds_toArray, List.set_cons_zero, List.set_cons_succ]
        refine wpAnyH_take (i := 12) (oi := { dst := some 148, op := Go.Op.pick (Go.Operand.tmp 140) (Go.Operand.const (Go.Value.bool true)) (Go.Operand.tmp 147), type := 4, pos := "law.go:237", after := #[{ on := 4, ground := Go.Ground.data }, { on := 11, ground := Go.Ground.data }], guard := none }) (v := ?_) rfl (by kernel_rfl) (by kernel_rfl) (by kernel_rfl) (fun _ _ _ h => h) (Or.inl ⟨by rfl, ?_⟩) hHeld1 ?_
        rotate_left 1
        · (intro wq hSq; (try dsimp only at hSq); go_simp; first | done | with_reducible rfl)
        try simp only [Act.put, List.setIfInBounds_toArray, List.set_cons_zero, List.set_cons_succ]
        refine wpAnyH_take (i := 13) (oi := { dst := some 4, op := Go.Op.assign (Go.Operand.tmp 148), type := 4, pos := "law.go:237", after := #[{ on := 12, ground := Go.Ground.data }, { on := 7, ground := Go.Ground.chain }, { on := 0, ground := Go.Ground.phase }, { on := 1, ground := Go.Ground.phase }, { on := 2, ground := Go.Ground.phase }, { on := 3, ground := Go.Ground.phase }, { on := 4, ground := Go.Ground.phase }, { on := 5, ground := Go.Ground.phase }, { on := 6, ground := Go.Ground.phase }, { on := 7, ground := Go.Ground.phase }, { on := 8, ground := Go.Ground.phase }, { on := 9, ground := Go.Ground.phase }, { on := 10, ground := Go.Ground.phase }, { on := 11, ground := Go.Ground.phase }, { on := 12, ground := Go.Ground.phase }], guard := none }) (v := ?_) rfl (by kernel_rfl) (by kernel_rfl) (by kernel_rfl) (fun _ _ _ h => h) (Or.inl ⟨by rfl, ?_⟩) hHeld1 ?_
        rotate_left 1
        · (intro wq hSq; (try dsimp only at hSq); go_simp; first | done | with_reducible rfl)
        try simp only [Act.put, List.setIfInBounds_toArray, List.set_cons_zero, List.set_cons_succ]
        refine wpAnyH_done (by kernel_rfl) ?_ _
        refine NoPanic.normal ?_
        go_wp2
        go_ret
        exact ⟨rfl, HW.out⟩
      | some La =>
        rw [hsx] at wx'
        have C1 : Hid (Calls Try.prog 10 #[.pointer (some ⟨gx, 0, none⟩)] wr.drew fun e w' => e = .returned (.bool false) ∧ w' = wr.drew) := wBad_any _ (some La) _ wx'
        cases hsy : allSt ys with
        | none =>
          rw [hsy] at wy'
          have C2 : Hid (Calls Try.prog 10 #[.pointer (some ⟨gy, 0, none⟩)] wr.drew fun e w' => e = .returned (.bool true) ∧ w' = wr.drew) := wBad_any _ none _ wy'
          clear wx wy wx' wy' hkinds ej ej' hsx hsy hd hdn hlen
          go_wp2
          refine wp_region_noPanic ?_
          refine wp_region_held_drew (S := fun w' => Below w.heap.size w w') (by kernel_rfl) (HW.out) (fun hHeld => ?_)
          try simp only [Act.put, List.setIfInBounds_toArray, List.set_cons_zero, List.set_cons_succ]
          refine wpAnyH_ready (rs := [0]) (by kernel_rfl) (by simp) ?_
          refine AllReadyH.cons (o := { dst := some 136, op := Go.Op.call { callee := Go.Callee.value (Go.Operand.func 10), args := #[Go.Operand.tmp 5], argTypes := #[27] }, type := 4, pos := "law.go:237", after := #[], guard := none }) rfl (fun K hK => ?_) AllReadyH.nil
          go_simp
          refine C1.out.mono ?_
          rintro e w' ⟨rfl, h'⟩
          subst h'
          refine hK.out _ _ (HW.out) (fun hHeld1 => ?_)
          clear hK K hHeld
          try simp only [Act.put, List.setIfInBounds_toArray, List.set_cons_zero, List.set_cons_succ]
          refine wpAnyH_take (i := 1) (oi := { dst := some 137, op := Go.Op.move (Go.Operand.tmp 136), type := 4, pos := "law.go:237", after := #[{ on := 0, ground := Go.Ground.data }, { on := 0, ground := Go.Ground.chain }], guard := none }) (v := ?_) rfl (by kernel_rfl) (by kernel_rfl) (by kernel_rfl) (fun _ _ _ h => h) (Or.inl ⟨by rfl, ?_⟩) hHeld1 ?_
          rotate_left 1
          · (intro wq hSq; (try dsimp only at hSq); go_simp; first | done | with_reducible rfl)
          try simp only [Act.put, List.setIfInBounds_toArray, List.set_cons_zero, List.set_cons_succ]
          refine wpAnyH_ready (rs := [2]) (by kernel_rfl) (by simp) ?_
          refine AllReadyH.cons (o := { dst := some 138, op := Go.Op.call { callee := Go.Callee.value (Go.Operand.func 10), args := #[Go.Operand.tmp 6], argTypes := #[27] }, type := 4, pos := "law.go:237", after := #[{ on := 1, ground := Go.Ground.chain }, { on := 1, ground := Go.Ground.guard }], guard := some (1, false) }) rfl (fun K hK => ?_) AllReadyH.nil
          go_simp
          refine C2.out.mono ?_
          rintro e w' ⟨rfl, h'⟩
          subst h'
          refine hK.out _ _ (HW.out) (fun hHeld2 => ?_)
          clear hK K hHeld1
          try simp only [Act.put, List.setIfInBounds_toArray, List.set_cons_zero, List.set_cons_succ]
          refine wpAnyH_take (i := 3) (oi := { dst := some 139, op := Go.Op.pick (Go.Operand.tmp 137) (Go.Operand.const (Go.Value.bool true)) (Go.Operand.tmp 138), type := 4, pos := "law.go:237", after := #[{ on := 1, ground := Go.Ground.data }, { on := 2, ground := Go.Ground.data }], guard := none }) (v := ?_) rfl (by kernel_rfl) (by kernel_rfl) (by kernel_rfl) (fun _ _ _ h => h) (Or.inl ⟨by rfl, ?_⟩) hHeld2 ?_
          rotate_left 1
          · (intro wq hSq; (try dsimp only at hSq); go_simp; first | done | with_reducible rfl)
          try simp only [Act.put, List.setIfInBounds_toArray, List.set_cons_zero, List.set_cons_succ]
          refine wpAnyH_take (i := 4) (oi := { dst := some 140, op := Go.Op.move (Go.Operand.tmp 139), type := 4, pos := "law.go:237", after := #[{ on := 3, ground := Go.Ground.data }, { on := 2, ground := Go.Ground.chain }], guard := none }) (v := ?_) rfl (by kernel_rfl) (by kernel_rfl) (by kernel_rfl) (fun _ _ _ h => h) (Or.inl ⟨by rfl, ?_⟩) hHeld2 ?_
          rotate_left 1
          · (intro wq hSq; (try dsimp only at hSq); go_simp; first | done | with_reducible rfl)
          try simp only [Act.put, List.setIfInBounds_toArray, List.set_cons_zero, List.set_cons_succ]
          refine wpAnyH_take (i := 5) (oi := { dst := some 141, op := Go.Op.call { callee := Go.Callee.value (Go.Operand.func 11), args := #[Go.Operand.tmp 5], argTypes := #[27] }, type := 28, pos := "law.go:237", after := #[{ on := 4, ground := Go.Ground.chain }, { on := 4, ground := Go.Ground.guard }], guard := some (4, false) }) (v := undef) rfl (by kernel_rfl) (by kernel_rfl) (by kernel_rfl) (fun _ _ _ h => h) (Or.inr ⟨by rfl, rfl⟩) hHeld2 ?_
          try simp only [Act.put, List.setIfInBounds_toArray, List.set_cons_zero, List.set_cons_succ]
          refine wpAnyH_take (i := 6) (oi := { dst := some 142, op := Go.Op.convert 28 9 (Go.Operand.tmp 141), type := 9, pos := "law.go:237", after := #[{ on := 5, ground := Go.Ground.data }, { on := 4, ground := Go.Ground.guard }], guard := some (4, false) }) (v := undef) rfl (by kernel_rfl) (by kernel_rfl) (by kernel_rfl) (fun _ _ _ h => h) (Or.inr ⟨by rfl, rfl⟩) hHeld2 ?_
          try simp only [Act.put, List.setIfInBounds_toArray, List.set_cons_zero, List.set_cons_succ]
          refine wpAnyH_take (i := 7) (oi := { dst := some 143, op := Go.Op.call { callee := Go.Callee.value (Go.Operand.func 11), args := #[Go.Operand.tmp 6], argTypes := #[27] }, type := 28, pos := "law.go:237", after := #[{ on := 5, ground := Go.Ground.chain }, { on := 4, ground := Go.Ground.guard }], guard := some (4, false) }) (v := undef) rfl (by kernel_rfl) (by kernel_rfl) (by kernel_rfl) (fun _ _ _ h => h) (Or.inr ⟨by rfl, rfl⟩) hHeld2 ?_
          try simp only [Act.put, List.setIfInBounds_toArray, List.set_cons_zero, List.set_cons_succ]
          refine wpAnyH_take (i := 8) (oi := { dst := some 144, op := Go.Op.convert 28 9 (Go.Operand.tmp 143), type := 9, pos := "law.go:237", after := #[{ on := 7, ground := Go.Ground.data }, { on := 4, ground := Go.Ground.guard }], guard := some (4, false) }) (v := undef) rfl (by kernel_rfl) (by kernel_rfl) (by kernel_rfl) (fun _ _ _ h => h) (Or.inr ⟨by rfl, rfl⟩) hHeld2 ?_
          try simp only [Act.put, List.setIfInBounds_toArray, List.set_cons_zero, List.set_cons_succ]
          refine wpAnyH_take (i := 9) (oi := { dst := some 145, op := Go.Op.binOp Go.BinOp.eql 9 (Go.Operand.tmp 142) (Go.Operand.tmp 144) 9, type := 4, pos := "law.go:237", after := #[{ on := 6, ground := Go.Ground.data }, { on := 8, ground := Go.Ground.data }, { on := 4, ground := Go.Ground.guard }], guard := some (4, false) }) (v := undef) rfl (by kernel_rfl) (by kernel_rfl) (by kernel_rfl) (fun _ _ _ h => h) (Or.inr ⟨by rfl, rfl⟩) hHeld2 ?_
          try simp only [Act.put, List.setIfInBounds_toArray, List.set_cons_zero, List.set_cons_succ]
          refine wpAnyH_take (i := 10) (oi := { dst := some 146, op := Go.Op.move (Go.Operand.tmp 7), type := 4, pos := "law.go:237", after := #[{ on := 4, ground := Go.Ground.guard }], guard := some (4, false) }) (v := undef) rfl (by kernel_rfl) (by kernel_rfl) (by kernel_rfl) (fun _ _ _ h => h) (Or.inr ⟨by rfl, rfl⟩) hHeld2 ?_
          try simp only [Act.put, List.setIfInBounds_toArray, List.set_cons_zero, List.set_cons_succ]
          refine wpAnyH_take (i := 11) (oi := { dst := some 147, op := Go.Op.binOp Go.BinOp.eql 4 (Go.Operand.tmp 145) (Go.Operand.tmp 146) 4, type := 4, pos := "law.go:237", after := #[{ on := 9, ground := Go.Ground.data }, { on := 10, ground := Go.Ground.data }, { on := 4, ground := Go.Ground.guard }], guard := some (4, false) }) (v := undef) rfl (by kernel_rfl) (by kernel_rfl) (by kernel_rfl) (fun _ _ _ h => h) (Or.inr ⟨by rfl, rfl⟩) hHeld2 ?_
          try simp only [Act.put, List.setIfInBounds_toArray, List.set_cons_zero, List.set_cons_succ]
          refine wpAnyH_take (i := 12) (oi := { dst := some 148, op := Go.Op.pick (Go.Operand.tmp 140) (Go.Operand.const (Go.Value.bool true)) (Go.Operand.tmp 147), type := 4, pos := "law.go:237", after := #[{ on := 4, ground := Go.Ground.data }, { on := 11, ground := Go.Ground.data }], guard := none }) (v := ?_) rfl (by kernel_rfl) (by kernel_rfl) (by kernel_rfl) (fun _ _ _ h => h) (Or.inl ⟨by rfl, ?_⟩) hHeld2 ?_
          rotate_left 1
          · (intro wq hSq; (try dsimp only at hSq); go_simp; first | done | with_reducible rfl)
          try simp only [Act.put, List.setIfInBounds_toArray, List.set_cons_zero, List.set_cons_succ]
          refine wpAnyH_take (i := 13) (oi := { dst := some 4, op := Go.Op.assign (Go.Operand.tmp 148), type := 4, pos := "law.go:237", after := #[{ on := 12, ground := Go.Ground.data }, { on := 7, ground := Go.Ground.chain }, { on := 0, ground := Go.Ground.phase }, { on := 1, ground := Go.Ground.phase }, { on := 2, ground := Go.Ground.phase }, { on := 3, ground := Go.Ground.phase }, { on := 4, ground := Go.Ground.phase }, { on := 5, ground := Go.Ground.phase }, { on := 6, ground := Go.Ground.phase }, { on := 7, ground := Go.Ground.phase }, { on := 8, ground := Go.Ground.phase }, { on := 9, ground := Go.Ground.phase }, { on := 10, ground := Go.Ground.phase }, { on := 11, ground := Go.Ground.phase }, { on := 12, ground := Go.Ground.phase }], guard := none }) (v := ?_) rfl (by kernel_rfl) (by kernel_rfl) (by kernel_rfl) (fun _ _ _ h => h) (Or.inl ⟨by rfl, ?_⟩) hHeld2 ?_
          rotate_left 1
          · (intro wq hSq; (try dsimp only at hSq); go_simp; first | done | with_reducible rfl)
          try simp only [Act.put, List.setIfInBounds_toArray, List.set_cons_zero, List.set_cons_succ]
          refine wpAnyH_done (by kernel_rfl) ?_ _
          refine NoPanic.normal ?_
          go_wp2
          go_ret
          exact ⟨rfl, HW.out⟩
        | some Lb =>
          rw [hsy] at wy'
          have C2 : Hid (Calls Try.prog 10 #[.pointer (some ⟨gy, 0, none⟩)] wr.drew fun e w' => e = .returned (.bool false) ∧ w' = wr.drew) := wBad_any _ (some Lb) _ wy'
          obtain ⟨ea, sa⟩ := allSt_some _ xs rfl La hsx
          obtain ⟨eb, sb⟩ := allSt_some _ ys rfl Lb hsy
          have hba : Bytes La := by rw [ea]; exact allB_bytes xs OX.out
          have hbb : Bytes Lb := by rw [eb]; exact allB_bytes ys OY.out
          have hap := apart xs ys hlen hkinds OX.out OY.out sa sb
          have hfin : ((strOfNums La).toList == (strOfNums Lb).toList) = sameB xs ys := by
            rw [str_eqb]
            have h1 := str_inj La Lb hba hbb
            rw [ea, eb] at h1
            rw [ea, eb]
            rw [Bool.eq_iff_iff]
            simp only [decide_eq_true_eq]
            exact h1.trans hap
          have CX : Hid (Calls Try.prog 11 #[.pointer (some ⟨gx, 0, none⟩)] wr.drew fun e w5 => ∃ G, e = .returned (.slice (some ⟨G, 0, none⟩) La.length La.length) ∧ w5.heap[G]? = some (.cells (vB La) 5) ∧ WSt w5 (gy) (some Lb) ∧ Below w.heap.size w w5) :=
            (bytes_good _ La _ wx' hba).mono fun e w5 ⟨G, q1, q2, q3, q4⟩ => ⟨G, q1, q2, wy'.below q4, HW.out.trans (q4.mono HW.out.size)⟩
          have CY : Hid (∀ (w5 : World) (G : Nat), w5.heap[G]? = some (.cells (vB La) 5) → WSt w5 (gy) (some Lb) → Below w.heap.size w w5 → Calls Try.prog 11 #[.pointer (some ⟨gy, 0, none⟩)] w5 fun e w6 => ∃ G', e = .returned (.slice (some ⟨G', 0, none⟩) Lb.length Lb.length) ∧ w6.heap[G']? = some (.cells (vB Lb) 5) ∧ w6.heap[G]? = some (.cells (vB La) 5) ∧ Below w.heap.size w w6) := fun w5 G k5 s5 b5 =>
            (bytes_good _ Lb _ s5 hbb).mono fun e w6 ⟨G', q1, q2, q3, q4⟩ => ⟨G', q1, q2, by rw [q4.block G (Array.getElem?_eq_some_iff.1 k5).1]; exact k5, b5.trans (q4.mono b5.size)⟩
          have X1 : Hid (∀ (W : World) (G : Nat), W.heap[G]? = some (.cells (vB La) 5) → (convert 28 9 (.slice (some ⟨G, 0, none⟩) La.length La.length)).run Try.prog W = .ok (.string (strOfNums La)) W) := fun W G k => run_conv28 rfl (range_of_block k)
          have X2 : Hid (∀ (W : World) (G : Nat), W.heap[G]? = some (.cells (vB Lb) 5) → (convert 28 9 (.slice (some ⟨G, 0, none⟩) Lb.length Lb.length)).run Try.prog W = .ok (.string (strOfNums Lb)) W) := fun W G k => run_conv28 rfl (range_of_block k)
          clear wx wy wx' wy' hkinds ej ej' hsx hsy hd hdn hlen ea eb sa sb hap hba hbb
          generalize sameB xs ys = SB at *
          generalize hLa : La.length = na at *
          generalize hLb : Lb.length = nb at *
          generalize strOfNums La = SX at *
          generalize strOfNums Lb = SY at *
          clear hLa hLb
          go_wp2
          refine wp_region_noPanic ?_
          refine wp_region_held_drew (S := fun w' => Below w.heap.size w w') (by kernel_rfl) (HW.out) (fun hHeld => ?_)
          try simp only [Act.put, List.setIfInBounds_toArray, List.set_cons_zero, List.set_cons_succ]
          refine wpAnyH_ready (rs := [0]) (by kernel_rfl) (by simp) ?_
          refine AllReadyH.cons (o := { dst := some 136, op := Go.Op.call { callee := Go.Callee.value (Go.Operand.func 10), args := #[Go.Operand.tmp 5], argTypes := #[27] }, type := 4, pos := "law.go:237", after := #[], guard := none }) rfl (fun K hK => ?_) AllReadyH.nil
          go_simp
          refine C1.out.mono ?_
          rintro e w' ⟨rfl, h'⟩
          subst h'
          refine hK.out _ _ (HW.out) (fun hHeld1 => ?_)
          clear hK K hHeld
          try simp only [Act.put, List.setIfInBounds_toArray, List.set_cons_zero, List.set_cons_succ]
          refine wpAnyH_take (i := 1) (oi := { dst := some 137, op := Go.Op.move (Go.Operand.tmp 136), type := 4, pos := "law.go:237", after := #[{ on := 0, ground := Go.Ground.data }, { on := 0, ground := Go.Ground.chain }], guard := none }) (v := ?_) rfl (by kernel_rfl) (by kernel_rfl) (by kernel_rfl) (fun _ _ _ h => h) (Or.inl ⟨by rfl, ?_⟩) hHeld1 ?_
          rotate_left 1
          · (intro wq hSq; (try dsimp only at hSq); go_simp; first | done | with_reducible rfl)
          try simp only [Act.put, List.setIfInBounds_toArray, List.set_cons_zero, List.set_cons_succ]
          refine wpAnyH_ready (rs := [2]) (by kernel_rfl) (by simp) ?_
          refine AllReadyH.cons (o := { dst := some 138, op := Go.Op.call { callee := Go.Callee.value (Go.Operand.func 10), args := #[Go.Operand.tmp 6], argTypes := #[27] }, type := 4, pos := "law.go:237", after := #[{ on := 1, ground := Go.Ground.chain }, { on := 1, ground := Go.Ground.guard }], guard := some (1, false) }) rfl (fun K hK => ?_) AllReadyH.nil
          go_simp
          refine C2.out.mono ?_
          rintro e w' ⟨rfl, h'⟩
          subst h'
          refine hK.out _ _ (HW.out) (fun hHeld2 => ?_)
          clear hK K hHeld1
          try simp only [Act.put, List.setIfInBounds_toArray, List.set_cons_zero, List.set_cons_succ]
          refine wpAnyH_take (i := 3) (oi := { dst := some 139, op := Go.Op.pick (Go.Operand.tmp 137) (Go.Operand.const (Go.Value.bool true)) (Go.Operand.tmp 138), type := 4, pos := "law.go:237", after := #[{ on := 1, ground := Go.Ground.data }, { on := 2, ground := Go.Ground.data }], guard := none }) (v := ?_) rfl (by kernel_rfl) (by kernel_rfl) (by kernel_rfl) (fun _ _ _ h => h) (Or.inl ⟨by rfl, ?_⟩) hHeld2 ?_
          rotate_left 1
          · (intro wq hSq; (try dsimp only at hSq); go_simp; first | done | with_reducible rfl)
          try simp only [Act.put, List.setIfInBounds_toArray, List.set_cons_zero, List.set_cons_succ]
          refine wpAnyH_take (i := 4) (oi := { dst := some 140, op := Go.Op.move (Go.Operand.tmp 139), type := 4, pos := "law.go:237", after := #[{ on := 3, ground := Go.Ground.data }, { on := 2, ground := Go.Ground.chain }], guard := none }) (v := ?_) rfl (by kernel_rfl) (by kernel_rfl) (by kernel_rfl) (fun _ _ _ h => h) (Or.inl ⟨by rfl, ?_⟩) hHeld2 ?_
          rotate_left 1
          · (intro wq hSq; (try dsimp only at hSq); go_simp; first | done | with_reducible rfl)
          try simp only [Act.put, List.setIfInBounds_toArray, List.set_cons_zero, List.set_cons_succ]
          refine wpAnyH_take (i := 10) (oi := { dst := some 146, op := Go.Op.move (Go.Operand.tmp 7), type := 4, pos := "law.go:237", after := #[{ on := 4, ground := Go.Ground.guard }], guard := some (4, false) }) (v := ?_) rfl (by kernel_rfl) (by kernel_rfl) (by kernel_rfl) (fun _ _ _ h => h) (Or.inl ⟨by rfl, ?_⟩) hHeld2 ?_
          rotate_left 1
          · (intro wq hSq; (try dsimp only at hSq); go_simp; first | done | with_reducible rfl)
          try simp only [Act.put, List.setIfInBounds_toArray, List.set_cons_zero, List.set_cons_succ]
          refine wpAnyH_ready (rs := [5]) (by kernel_rfl) (by simp) ?_
          refine AllReadyH.cons (o := { dst := some 141, op := Go.Op.call { callee := Go.Callee.value (Go.Operand.func 11), args := #[Go.Operand.tmp 5], argTypes := #[27] }, type := 28, pos := "law.go:237", after := #[{ on := 4, ground := Go.Ground.chain }, { on := 4, ground := Go.Ground.guard }], guard := some (4, false) }) rfl (fun K hK => ?_) AllReadyH.nil
          go_simp
          refine CX.out.mono ?_
          rintro e w5 ⟨G, rfl, k5, s5, b5⟩
          refine hK.out _ _ (b5) (fun hHeld3 => ?_)
          clear hK K hHeld2
          refine wpAnyH_grow (S' := fun w' => Below w.heap.size w w' ∧ w'.heap[G]? = some (.cells (vB La) 5)) (fun _ h => h.1) (⟨b5, k5⟩) (fun hGrow3 => ?_)
          clear hHeld3
          try simp only [Act.put, List.setIfInBounds_toArray, List.set_cons_zero, List.set_cons_succ]
          refine wpAnyH_take (i := 6) (oi := { dst := some 142, op := Go.Op.convert 28 9 (Go.Operand.tmp 141), type := 9, pos := "law.go:237", after := #[{ on := 5, ground := Go.Ground.data }, { on := 4, ground := Go.Ground.guard }], guard := some (4, false) }) (v := ?_) rfl (by kernel_rfl) (by kernel_rfl) (by kernel_rfl) (fun _ _ _ h => h) (Or.inl ⟨by rfl, ?_⟩) hGrow3 ?_
          rotate_left 1
          · (intro wq hSq; (try dsimp only at hSq); have hq := X1.out _ _ hSq.2; go_simp; first | done | with_reducible rfl)
          try simp only [Act.put, List.setIfInBounds_toArray, List.set_cons_zero, List.set_cons_succ]
          refine wpAnyH_ready (rs := [7]) (by kernel_rfl) (by simp) ?_
          refine AllReadyH.cons (o := { dst := some 143, op := Go.Op.call { callee := Go.Callee.value (Go.Operand.func 11), args := #[Go.Operand.tmp 6], argTypes := #[27] }, type := 28, pos := "law.go:237", after := #[{ on := 5, ground := Go.Ground.chain }, { on := 4, ground := Go.Ground.guard }], guard := some (4, false) }) rfl (fun K hK => ?_) AllReadyH.nil
          go_simp
          refine (CY.out _ _ k5 s5 b5).mono ?_
          rintro e w6 ⟨G', rfl, k6, k7, b6⟩
          refine hK.out _ _ (⟨b6, k7⟩) (fun hHeld4 => ?_)
          clear hK K hGrow3
          refine wpAnyH_grow (S' := fun w' => (Below w.heap.size w w' ∧ w'.heap[G]? = some (.cells (vB La) 5)) ∧ w'.heap[G']? = some (.cells (vB Lb) 5)) (fun _ h => h.1) (⟨⟨b6, k7⟩, k6⟩) (fun hGrow4 => ?_)
          clear hHeld4
          try simp only [Act.put, List.setIfInBounds_toArray, List.set_cons_zero, List.set_cons_succ]
          refine wpAnyH_take (i := 8) (oi := { dst := some 144, op := Go.Op.convert 28 9 (Go.Operand.tmp 143), type := 9, pos := "law.go:237", after := #[{ on := 7, ground := Go.Ground.data }, { on := 4, ground := Go.Ground.guard }], guard := some (4, false) }) (v := ?_) rfl (by kernel_rfl) (by kernel_rfl) (by kernel_rfl) (fun _ _ _ h => h) (Or.inl ⟨by rfl, ?_⟩) hGrow4 ?_
          rotate_left 1
          · (intro wq hSq; (try dsimp only at hSq); have hq := X2.out _ _ hSq.2; go_simp; first | done | with_reducible rfl)
          try simp only [Act.put, List.setIfInBounds_toArray, List.set_cons_zero, List.set_cons_succ]
          refine wpAnyH_take (i := 9) (oi := { dst := some 145, op := Go.Op.binOp Go.BinOp.eql 9 (Go.Operand.tmp 142) (Go.Operand.tmp 144) 9, type := 4, pos := "law.go:237", after := #[{ on := 6, ground := Go.Ground.data }, { on := 8, ground := Go.Ground.data }, { on := 4, ground := Go.Ground.guard }], guard := some (4, false) }) (v := ?_) rfl (by kernel_rfl) (by kernel_rfl) (by kernel_rfl) (fun _ _ _ h => h) (Or.inl ⟨by rfl, ?_⟩) hGrow4 ?_
          rotate_left 1
          · (intro wq hSq; (try dsimp only at hSq); go_simp; first | done | with_reducible rfl)
          try simp only [Act.put, List.setIfInBounds_toArray, List.set_cons_zero, List.set_cons_succ]
          refine wpAnyH_take (i := 11) (oi := { dst := some 147, op := Go.Op.binOp Go.BinOp.eql 4 (Go.Operand.tmp 145) (Go.Operand.tmp 146) 4, type := 4, pos := "law.go:237", after := #[{ on := 9, ground := Go.Ground.data }, { on := 10, ground := Go.Ground.data }, { on := 4, ground := Go.Ground.guard }], guard := some (4, false) }) (v := ?_) rfl (by kernel_rfl) (by kernel_rfl) (by kernel_rfl) (fun _ _ _ h => h) (Or.inl ⟨by rfl, ?_⟩) hGrow4 ?_
          rotate_left 1
          · (intro wq hSq; (try dsimp only at hSq); go_simp; first | done | with_reducible rfl)
          try simp only [Act.put, List.setIfInBounds_toArray, List.set_cons_zero, List.set_cons_succ]
          refine wpAnyH_take (i := 12) (oi := { dst := some 148, op := Go.Op.pick (Go.Operand.tmp 140) (Go.Operand.const (Go.Value.bool true)) (Go.Operand.tmp 147), type := 4, pos := "law.go:237", after := #[{ on := 4, ground := Go.Ground.data }, { on := 11, ground := Go.Ground.data }], guard := none }) (v := ?_) rfl (by kernel_rfl) (by kernel_rfl) (by kernel_rfl) (fun _ _ _ h => h) (Or.inl ⟨by rfl, ?_⟩) hGrow4 ?_
          rotate_left 1
          · (intro wq hSq; (try dsimp only at hSq); go_simp; first | done | with_reducible rfl)
          try simp only [Act.put, List.setIfInBounds_toArray, List.set_cons_zero, List.set_cons_succ]
          refine wpAnyH_take (i := 13) (oi := { dst := some 4, op := Go.Op.assign (Go.Operand.tmp 148), type := 4, pos := "law.go:237", after := #[{ on := 12, ground := Go.Ground.data }, { on := 7, ground := Go.Ground.chain }, { on := 0, ground := Go.Ground.phase }, { on := 1, ground := Go.Ground.phase }, { on := 2, ground := Go.Ground.phase }, { on := 3, ground := Go.Ground.phase }, { on := 4, ground := Go.Ground.phase }, { on := 5, ground := Go.Ground.phase }, { on := 6, ground := Go.Ground.phase }, { on := 7, ground := Go.Ground.phase }, { on := 8, ground := Go.Ground.phase }, { on := 9, ground := Go.Ground.phase }, { on := 10, ground := Go.Ground.phase }, { on := 11, ground := Go.Ground.phase }, { on := 12, ground := Go.Ground.phase }], guard := none }) (v := ?_) rfl (by kernel_rfl) (by kernel_rfl) (by kernel_rfl) (fun _ _ _ h => h) (Or.inl ⟨by rfl, ?_⟩) hGrow4 ?_
          rotate_left 1
          · (intro wq hSq; (try dsimp only at hSq); go_simp; first | done | with_reducible rfl)
          try simp only [Act.put, List.setIfInBounds_toArray, List.set_cons_zero, List.set_cons_succ]
          refine wpAnyH_done (by kernel_rfl) ?_ _
          refine NoPanic.normal ?_
          go_wp2
          go_ret
          exact ⟨rfl, b6⟩
end Go.Proofs.Ytjkccnfmmkhapaa
