import Derived.Test.YtplihbncmmggjaaDoorKy
import Derived.Test.YtplihbncmmggjaaDoorGy
namespace Go.Proofs.YtplihbncmmggjaaDoor
set_option linter.unusedSimpArgs false
set_option linter.unusedVariables false
open Go.RowKit
set_option maxRecDepth 100000 in
set_option maxHeartbeats 400000 in
theorem truth_h (p : Value) (st : Option (List Int)) (b : Bool) (w : World) (h : Hnd w p st) (hn : stLen st ≤ 100000000) :
    Calls Tryd.prog 89 #[p, .bool b] w (Wrote w p (addSt st (truthSt b))) := by
  have C : Hid (∀ n : Int, 0 ≤ n → n ≤ 18446744073709551615 → Calls Tryd.prog 61 #[p, .int .u64 n, .int .i64 1] w (Wrote w p (addSt st (numSt n 1)))) := fun n h0 h1 => number_h p st n h0 h1 1 w h hn
  clear h
  cases b
  · go_enter Tryd.func89, Tryd.ntmps89
    go_wp2_with fail
    refine (C.out 0 (by omega) (by omega)).mono ?_
    rintro e w' ⟨rfl, h1, h2⟩
    go_wp2
    exact fell Tryd.results89 rfl ⟨rfl, h1, h2⟩
  · go_enter Tryd.func89, Tryd.ntmps89
    go_wp2_with fail
    refine (C.out 1 (by omega) (by omega)).mono ?_
    rintro e w' ⟨rfl, h1, h2⟩
    go_wp2
    exact fell Tryd.results89 rfl ⟨rfl, h1, h2⟩
set_option maxRecDepth 100000 in
set_option maxHeartbeats 400000 in
theorem text_h (p : Value) (st : Option (List Int)) (s : ByteArray) (hs : s.size ≤ 9223372036854775807) (w : World) (h : Hnd w p st) (hn : stLen st ≤ 90000000) :
    Calls Tryd.prog 91 #[p, .string s] w (Wrote w p (addSt st (textSt s))) := by
  have C : Hid (Calls Tryd.prog 61 #[p, .int .u64 s.size, .int .i64 2] w (Wrote w p (addSt st (numSt s.size 2)))) := number_h p st s.size (by omega) (by omega) 2 w h (by omega)
  have hc : (s.size : Int) % 18446744073709551616 = s.size := by omega
  clear h
  go_enter Tryd.func91, Tryd.ntmps91
  go_wp2_with fail
  refine C.out.mono ?_
  rintro e w1 ⟨rfl, h1, g1⟩
  have D : Hid (Calls Tryd.prog 84 #[p, .string s] w1 (Wrote w1 p (addSt st (textSt s)))) := by
    unfold Hid textSt
    rw [← addSt_assoc]
    cases hq : numSt s.size 2 with
    | none =>
      rw [hq] at h1
      have e0 : addSt st none = none := by cases st <;> rfl
      rw [e0] at h1
      rw [e0, addSt_none]; exact add_none p _ w1 h1
    | some l0 =>
    obtain ⟨m, em, hm, hf, el⟩ := numSt_some hq
    have hf' := of_decide_eq_true hf
    obtain rfl : m = 2 := by omega
    have hsz : s.size < 65536 := by omega
    rw [← hq]
    have := add_h p (addSt st (numSt s.size 2)) (nB s) w1 h1 (by have := stLen_add st (numSt s.size 2); have := stLen_num s.size 2; rw [nB_length]; omega)
    rwa [str_nB] at this
  clear h1 C
  go_wp2_with fail
  refine D.out.mono ?_
  rintro e w2 ⟨rfl, h2, g2⟩
  go_wp2
  exact fell Tryd.results91 rfl ⟨rfl, h2, grown_trans g1 g2⟩
set_option maxRecDepth 100000 in
set_option maxHeartbeats 400000 in
theorem hash_h (p : Value) (st : Option (List Int)) (h : List Int) (hl : h.length = 32) (w : World) (hp : Hnd w p st) (hn : stLen st ≤ 100000000) :
    Calls Tryd.prog 90 #[p, .agg (vB h)] w (Wrote w p (addSt st (some h))) := by
  have b1 : Below w.heap.size w (w.alloc (.cells (vB h) 24)) := (Below.refl _ _).alloc (Nat.le_refl _) _
  have hcv := run_conv28 (cap := 32) hl (range_of_block (heap_alloc_new w (.cells (vB h) 24)))
  have D : Hid (Calls Tryd.prog 84 #[p, .string (strOfNums h)] (w.alloc (.cells (vB h) 24)) (Wrote (w.alloc (.cells (vB h) 24)) p (addSt st (some h)))) := add_h p st h _ (hp.below b1) (by omega)
  have B1 : Hid (Below w.heap.size w (w.alloc (.cells (vB h) 24))) := b1
  clear b1 hp
  have hvs := vB_size h
  go_enter Tryd.func90, Tryd.ntmps90
  go_wp2_with fail
  refine D.out.mono ?_
  rintro e w2 ⟨rfl, h2, g2⟩
  go_wp2
  exact fell Tryd.results90 rfl ⟨rfl, h2, grown_trans (by have := B1.out; exact grown_below this _) g2⟩
end Go.Proofs.YtplihbncmmggjaaDoor
namespace Go.Proofs.YtplihbncmmggjaaDoor
set_option linter.unusedSimpArgs false
set_option linter.unusedVariables false
open Go.RowKit
/-- A writer at g, a message's box at gm, and what was there before. -/
structure KW (w : World) (g gm : Nat) (m : Msg) (W : World) (st : Option (List Int)) : Prop where
  st : WSt W g st
  box : BoxM 68 W gm m
  ne : gm ≠ g
  gr : w.grownBy W (some g)
theorem KW.step {w W W' : World} {g gm : Nat} {m : Msg} {st st' : Option (List Int)} (k : KW w g gm m W st) (h : WSt W' g st') (gr : W.grownBy W' (some g)) : KW w g gm m W' st' :=
  ⟨h, by unfold BoxM; rw [gr.block gm k.box.lt (fun e => k.ne (by injection e))]; exact k.box, k.ne, grown_trans k.gr gr⟩
theorem KW.wrote {w W W' : World} {g gm : Nat} {m : Msg} {st st' : Option (List Int)} {e : Ending} (k : KW w g gm m W st) (h : Wrote W (.pointer (some ⟨g, 0, none⟩)) st' e W') : e = .returned (.tuple #[]) ∧ KW w g gm m W' st' := by
  obtain ⟨h1, h2, h3⟩ := h
  refine ⟨h1, k.step ?_ h3⟩
  rcases h2 with ⟨h2, _⟩ | ⟨g', h2, h4⟩
  · cases h2
  · injection h2 with h2; injection h2 with h2; injection h2 with h2; subst h2; exact h4
theorem KW.hnd {w W : World} {g gm : Nat} {m : Msg} {st : Option (List Int)} (k : KW w g gm m W st) : Hnd W (.pointer (some ⟨g, 0, none⟩)) st := .inr ⟨g, rfl, k.st⟩
theorem kw_number {w W : World} {g gm : Nat} {m : Msg} {st : Option (List Int)} (k : KW w g gm m W st) (hl : stLen st ≤ 100000000) (n : Int) (h0 : 0 ≤ n) (h1 : n ≤ 18446744073709551615) (z : Int) : Calls Tryd.prog 61 #[.pointer (some ⟨g, 0, none⟩), .int .u64 n, .int .i64 z] W fun e W' => e = .returned (.tuple #[]) ∧ KW w g gm m W' (addSt st (numSt n z)) :=
  (number_h _ st n h0 h1 z W k.hnd hl).mono fun e W' r => k.wrote r
theorem kw_truth {w W : World} {g gm : Nat} {m : Msg} {st : Option (List Int)} (k : KW w g gm m W st) (hl : stLen st ≤ 100000000) (b : Bool) : Calls Tryd.prog 89 #[.pointer (some ⟨g, 0, none⟩), .bool b] W fun e W' => e = .returned (.tuple #[]) ∧ KW w g gm m W' (addSt st (truthSt b)) :=
  (truth_h _ st b W k.hnd hl).mono fun e W' r => k.wrote r
theorem kw_hash {w W : World} {g gm : Nat} {m : Msg} {st : Option (List Int)} (k : KW w g gm m W st) (hl : stLen st ≤ 100000000) (l : List Int) (h : l.length = 32) : Calls Tryd.prog 90 #[.pointer (some ⟨g, 0, none⟩), .agg (vB l)] W fun e W' => e = .returned (.tuple #[]) ∧ KW w g gm m W' (addSt st (some l)) :=
  (hash_h _ st l h W k.hnd hl).mono fun e W' r => k.wrote r
theorem kw_text {w W : World} {g gm : Nat} {m : Msg} {st : Option (List Int)} (k : KW w g gm m W st) (hl : stLen st ≤ 90000000) (s : ByteArray) (h : s.size ≤ 9223372036854775807) : Calls Tryd.prog 91 #[.pointer (some ⟨g, 0, none⟩), .string s] W fun e W' => e = .returned (.tuple #[]) ∧ KW w g gm m W' (addSt st (textSt s)) :=
  (text_h _ st s h W k.hnd hl).mono fun e W' r => k.wrote r
theorem stLen_numk (n k : Int) : stLen (numSt n k) ≤ 8 := by
  unfold numSt
  split
  · rename_i h
    obtain ⟨j, hj, hq⟩ := sizeB_cases (by simp at h; exact h.1)
    subst hj
    simp only [stLen, numB_length, Int.toNat_natCast]
    omega
  · simp [stLen]
theorem stLen_addk (a b : Option (List Int)) (n k : Nat) (ha : stLen a ≤ n) (hb : stLen b ≤ k) : stLen (addSt a b) ≤ n + k := Nat.le_trans (stLen_add a b) (by omega)
theorem stLen_truth (b : Bool) : stLen (truthSt b) ≤ 8 := stLen_numk _ _
theorem stLen_some (l : List Int) : stLen (some l) = l.length := rfl
theorem loadH {ops : Array Oper} {rest : List Oper} {o : Oper} {a : Act} {w : World} {Q : Exit → Act → World → Prop} (hgd : o.guard = none) (x : Operand) (ho : o.op = .load 24 x) (g off : Nat) (hx : a.eval x = .pointer (some ⟨g, off, none⟩)) (l : List Int) (hl : l.length = 32) (hr : w.rangeAt g off (vB l).toList)
    (h : wpList Tryd.prog ops Q rest (a.put o.dst (.agg (vB l))) w) : wpList Tryd.prog ops Q (o :: rest) a w :=
  wpList_load_mid hgd 24 x ho g off hx (vB l).toList _ hr Tryd.underlying24 rfl (by rw [vBl, hl]; exact size24) h
theorem mC_hash (m : Msg) (h : m.Ok) : (mC m).toArray.extract 8 40 = vB m.hash := by
  have e : mC m = ([.int .i64 m.kind, .int .i64 m.frm, .int .i64 m.to, .int .u64 m.id, .int .u64 m.base] ++ [.string m.s, .bool m.quiet, .bool m.ext]) ++ ((vB m.hash).toList ++ ([.bool m.yes, .int .i64 m.code] ++ ((vB m.vh).toList ++ ((vB m.vr).toList ++ [.bool m.commit])))) := by unfold mC eC; simp only [List.append_assoc]
  rw [e]
  exact piece _ _ _ 8 32 rfl (by rw [vBl, h.h])
/-- What writeOwn adds. -/
def ownSt (st : Option (List Int)) (m : Msg) : Option (List Int) :=
  if m.kind = 1 then addSt (addSt (addSt (addSt (addSt st (numSt m.base 4)) (truthSt m.quiet)) (truthSt m.ext)) (some m.hash)) (textSt m.s)
  else if m.kind = 2 then (if m.yes = true then addSt (addSt (addSt st (truthSt true)) (some m.vh)) (some m.vr) else addSt (addSt st (truthSt false)) (numSt m.code 1))
  else if m.kind = 3 ∨ m.kind = 6 then addSt st (truthSt m.commit) else st
set_option maxHeartbeats 1000000 in
set_option maxRecDepth 100000 in
theorem wown_1 (g : Nat) (st : Option (List Int)) (m : Msg) (hm : m.Ok) (hk : m.kind = 1) (w : World) (hgl : g < w.heap.size) (hs : WSt w g st) (hl : stLen st ≤ 1000) : Calls Tryd.prog 69 #[.pointer (some ⟨g, 0, none⟩), .agg (mC m).toArray] w fun e w' => e = .returned (.tuple #[]) ∧ WSt w' g (ownSt st m) ∧ w.grownBy w' (some g) := by
  have hg0 := heap_alloc_new w (.cells (mC m).toArray 68)
  have k0 : KW w g w.heap.size m (w.alloc (.cells (mC m).toArray 68)) st :=
    ⟨hs.keep (by rw [Below.heap_alloc _ _ _ hgl]) (fun k cs h => by rw [Below.heap_alloc _ _ _ (Array.getElem?_eq_some_iff.1 h).1]; exact h), hg0, by omega, grown_below ((Below.refl _ _).alloc (Nat.le_refl _) _) _⟩
  obtain ⟨W1, hW1⟩ : ∃ W, W = w.alloc (.cells (mC m).toArray 68) := ⟨_, rfl⟩
  have HW1 : Hid (W1 = w.alloc (.cells (mC m).toArray 68)) := hW1
  have K1 : Hid (KW w g w.heap.size m W1 st) := by rw [hW1]; exact k0
  have HM : Hid (m.Ok) := hm
  have HL : Hid (stLen st ≤ 1000) := hl
  have HX : Hid (ownSt st m = addSt (addSt (addSt (addSt (addSt st (numSt m.base 4)) (truthSt m.quiet)) (truthSt m.ext)) (some m.hash)) (textSt m.s)) := by unfold Hid ownSt; rw [if_pos hk]
  have d0 := row_cell hg0 (mC_0 m)
  rw [hk] at d0
  clear hg0 k0 hs hm hl hW1
  go_enter Tryd.func69, Tryd.ntmps69
  have c0 := row_cell K1.out.box (mC_4 m)
  rw [HW1.out] at c0
  go_wp2_with fail
  rw [← HW1.out]
  clear d0 c0
  refine (kw_number K1.out (Nat.le_trans HL.out (by omega)) m.base HM.out.b.1 HM.out.b.2 4).mono ?_
  rintro e W2 ⟨rfl, k2⟩
  have K2 : Hid (KW w g w.heap.size m W2 (addSt st (numSt m.base 4))) := k2
  clear k2
  have c0 := row_cell K2.out.box (mC_6 m)
  go_wp2_with fail
  clear c0
  refine (kw_truth K2.out (Nat.le_trans (stLen_addk _ _ _ _ HL.out (stLen_numk _ _)) (by omega)) m.quiet).mono ?_
  rintro e W3 ⟨rfl, k3⟩
  have K3 : Hid (KW w g w.heap.size m W3 (addSt (addSt st (numSt m.base 4)) (truthSt m.quiet))) := k3
  clear k3
  have c0 := row_cell K3.out.box (mC_7 m)
  go_wp2_with fail
  clear c0
  refine (kw_truth K3.out (Nat.le_trans (stLen_addk _ _ _ _ (stLen_addk _ _ _ _ HL.out (stLen_numk _ _)) (stLen_truth _)) (by omega)) m.ext).mono ?_
  rintro e W4 ⟨rfl, k4⟩
  have K4 : Hid (KW w g w.heap.size m W4 (addSt (addSt (addSt st (numSt m.base 4)) (truthSt m.quiet)) (truthSt m.ext))) := k4
  clear k4
  go_wp2_with (first | (refine loadH rfl _ rfl w.heap.size 8 rfl m.hash HM.out.h (range_of K4.out.box 8 32 _ (mC_hash m HM.out)) ?_))
  refine (kw_hash K4.out (Nat.le_trans (stLen_addk _ _ _ _ (stLen_addk _ _ _ _ (stLen_addk _ _ _ _ HL.out (stLen_numk _ _)) (stLen_truth _)) (stLen_truth _)) (by omega)) m.hash HM.out.h).mono ?_
  rintro e W5 ⟨rfl, k5⟩
  have K5 : Hid (KW w g w.heap.size m W5 (addSt (addSt (addSt (addSt st (numSt m.base 4)) (truthSt m.quiet)) (truthSt m.ext)) (some m.hash))) := k5
  clear k5
  have c0 := row_cell K5.out.box (mC_5 m)
  go_wp2_with fail
  clear c0
  refine (kw_text K5.out (Nat.le_trans (stLen_addk _ _ _ _ (stLen_addk _ _ _ _ (stLen_addk _ _ _ _ (stLen_addk _ _ _ _ HL.out (stLen_numk _ _)) (stLen_truth _)) (stLen_truth _)) (Nat.le_of_eq (by rw [stLen_some, HM.out.h]))) (by omega)) m.s (by have := HM.out.s; omega)).mono ?_
  rintro e W6 ⟨rfl, k6⟩
  have K6 : Hid (KW w g w.heap.size m W6 (addSt (addSt (addSt (addSt (addSt st (numSt m.base 4)) (truthSt m.quiet)) (truthSt m.ext)) (some m.hash)) (textSt m.s))) := k6
  clear k6
  go_wp2
  exact fell Tryd.results69 rfl ⟨rfl, by rw [HX.out]; exact K6.out.st, K6.out.gr⟩
set_option maxHeartbeats 1000000 in
set_option maxRecDepth 100000 in
theorem wown_2y (g : Nat) (st : Option (List Int)) (m : Msg) (hm : m.Ok) (hk : m.kind = 2) (hy : m.yes = true) (w : World) (hgl : g < w.heap.size) (hs : WSt w g st) (hl : stLen st ≤ 1000) : Calls Tryd.prog 69 #[.pointer (some ⟨g, 0, none⟩), .agg (mC m).toArray] w fun e w' => e = .returned (.tuple #[]) ∧ WSt w' g (ownSt st m) ∧ w.grownBy w' (some g) := by
  have hg0 := heap_alloc_new w (.cells (mC m).toArray 68)
  have k0 : KW w g w.heap.size m (w.alloc (.cells (mC m).toArray 68)) st :=
    ⟨hs.keep (by rw [Below.heap_alloc _ _ _ hgl]) (fun k cs h => by rw [Below.heap_alloc _ _ _ (Array.getElem?_eq_some_iff.1 h).1]; exact h), hg0, by omega, grown_below ((Below.refl _ _).alloc (Nat.le_refl _) _) _⟩
  obtain ⟨W1, hW1⟩ : ∃ W, W = w.alloc (.cells (mC m).toArray 68) := ⟨_, rfl⟩
  have HW1 : Hid (W1 = w.alloc (.cells (mC m).toArray 68)) := hW1
  have K1 : Hid (KW w g w.heap.size m W1 st) := by rw [hW1]; exact k0
  have HM : Hid (m.Ok) := hm
  have HL : Hid (stLen st ≤ 1000) := hl
  have HX : Hid (ownSt st m = addSt (addSt (addSt st (truthSt true)) (some m.vh)) (some m.vr)) := by unfold Hid ownSt; rw [if_neg (by omega), if_pos hk, if_pos hy]
  have d0 := row_cell hg0 (mC_0 m)
  rw [hk] at d0
  clear hg0 k0 hs hm hl hW1
  have HY : Hid (m.yes = true) := hy
  clear hy
  go_enter Tryd.func69, Tryd.ntmps69
  have c0 := row_cell K1.out.box (mC_40 m HM.out)
  rw [HY.out] at c0
  rw [HW1.out] at c0
  go_wp2_with fail
  rw [← HW1.out]
  clear d0 c0
  refine (kw_truth K1.out (Nat.le_trans HL.out (by omega)) true).mono ?_
  rintro e W2 ⟨rfl, k2⟩
  have K2 : Hid (KW w g w.heap.size m W2 (addSt st (truthSt true))) := k2
  clear k2
  have c9 := row_cell K2.out.box (mC_40 m HM.out)
  rw [HY.out] at c9
  go_wp2_with (first | (refine loadH rfl _ rfl w.heap.size 42 rfl m.vh HM.out.v (range_of K2.out.box 42 32 _ (mC_vh m HM.out)) ?_))
  clear c9
  refine (kw_hash K2.out (Nat.le_trans (stLen_addk _ _ _ _ HL.out (stLen_truth _)) (by omega)) m.vh HM.out.v).mono ?_
  rintro e W3 ⟨rfl, k3⟩
  have K3 : Hid (KW w g w.heap.size m W3 (addSt (addSt st (truthSt true)) (some m.vh))) := k3
  clear k3
  go_wp2_with (first | (refine loadH rfl _ rfl w.heap.size 74 rfl m.vr HM.out.r (range_of K3.out.box 74 32 _ (mC_vr m HM.out)) ?_))
  refine (kw_hash K3.out (Nat.le_trans (stLen_addk _ _ _ _ (stLen_addk _ _ _ _ HL.out (stLen_truth _)) (Nat.le_of_eq (by rw [stLen_some, HM.out.v]))) (by omega)) m.vr HM.out.r).mono ?_
  rintro e W4 ⟨rfl, k4⟩
  have K4 : Hid (KW w g w.heap.size m W4 (addSt (addSt (addSt st (truthSt true)) (some m.vh)) (some m.vr))) := k4
  clear k4
  go_wp2
  exact fell Tryd.results69 rfl ⟨rfl, by rw [HX.out]; exact K4.out.st, K4.out.gr⟩
set_option maxHeartbeats 1000000 in
set_option maxRecDepth 100000 in
theorem wown_2n (g : Nat) (st : Option (List Int)) (m : Msg) (hm : m.Ok) (hk : m.kind = 2) (hy : m.yes = false) (hc : 0 ≤ m.code ∧ m.code ≤ 255) (w : World) (hgl : g < w.heap.size) (hs : WSt w g st) (hl : stLen st ≤ 1000) : Calls Tryd.prog 69 #[.pointer (some ⟨g, 0, none⟩), .agg (mC m).toArray] w fun e w' => e = .returned (.tuple #[]) ∧ WSt w' g (ownSt st m) ∧ w.grownBy w' (some g) := by
  have hg0 := heap_alloc_new w (.cells (mC m).toArray 68)
  have k0 : KW w g w.heap.size m (w.alloc (.cells (mC m).toArray 68)) st :=
    ⟨hs.keep (by rw [Below.heap_alloc _ _ _ hgl]) (fun k cs h => by rw [Below.heap_alloc _ _ _ (Array.getElem?_eq_some_iff.1 h).1]; exact h), hg0, by omega, grown_below ((Below.refl _ _).alloc (Nat.le_refl _) _) _⟩
  obtain ⟨W1, hW1⟩ : ∃ W, W = w.alloc (.cells (mC m).toArray 68) := ⟨_, rfl⟩
  have HW1 : Hid (W1 = w.alloc (.cells (mC m).toArray 68)) := hW1
  have K1 : Hid (KW w g w.heap.size m W1 st) := by rw [hW1]; exact k0
  have HM : Hid (m.Ok) := hm
  have HL : Hid (stLen st ≤ 1000) := hl
  have HX : Hid (ownSt st m = addSt (addSt st (truthSt false)) (numSt m.code 1)) := by unfold Hid ownSt; rw [if_neg (by omega), if_pos hk, if_neg (by rw [hy]; simp)]
  have d0 := row_cell hg0 (mC_0 m)
  rw [hk] at d0
  clear hg0 k0 hs hm hl hW1
  have HY : Hid (m.yes = false) := hy
  have hc1 : m.code % 18446744073709551616 = m.code := by omega
  have hc2 : IntKind.u64.wrap m.code = m.code := by rw [show IntKind.u64.wrap m.code = m.code % 18446744073709551616 from rfl]; omega
  have HC : Hid (0 ≤ m.code ∧ m.code ≤ 255) := hc
  clear hy hc
  go_enter Tryd.func69, Tryd.ntmps69
  have c0 := row_cell K1.out.box (mC_40 m HM.out)
  rw [HY.out] at c0
  rw [HW1.out] at c0
  go_wp2_with fail
  rw [← HW1.out]
  clear d0 c0
  refine (kw_truth K1.out (Nat.le_trans HL.out (by omega)) false).mono ?_
  rintro e W2 ⟨rfl, k2⟩
  have K2 : Hid (KW w g w.heap.size m W2 (addSt st (truthSt false))) := k2
  clear k2
  have c9 := row_cell K2.out.box (mC_40 m HM.out)
  rw [HY.out] at c9
  have c0 := row_cell K2.out.box (mC_41 m HM.out)
  go_wp2_with fail
  clear c0
  clear c9
  refine (kw_number K2.out (Nat.le_trans (stLen_addk _ _ _ _ HL.out (stLen_truth _)) (by omega)) m.code HC.out.1 (by have := HC.out.2; omega) 1).mono ?_
  rintro e W3 ⟨rfl, k3⟩
  have K3 : Hid (KW w g w.heap.size m W3 (addSt (addSt st (truthSt false)) (numSt m.code 1))) := k3
  clear k3
  go_wp2
  exact fell Tryd.results69 rfl ⟨rfl, by rw [HX.out]; exact K3.out.st, K3.out.gr⟩
set_option maxHeartbeats 1000000 in
set_option maxRecDepth 100000 in
theorem wown_3 (g : Nat) (st : Option (List Int)) (m : Msg) (hm : m.Ok) (hk : m.kind = 3) (w : World) (hgl : g < w.heap.size) (hs : WSt w g st) (hl : stLen st ≤ 1000) : Calls Tryd.prog 69 #[.pointer (some ⟨g, 0, none⟩), .agg (mC m).toArray] w fun e w' => e = .returned (.tuple #[]) ∧ WSt w' g (ownSt st m) ∧ w.grownBy w' (some g) := by
  have hg0 := heap_alloc_new w (.cells (mC m).toArray 68)
  have k0 : KW w g w.heap.size m (w.alloc (.cells (mC m).toArray 68)) st :=
    ⟨hs.keep (by rw [Below.heap_alloc _ _ _ hgl]) (fun k cs h => by rw [Below.heap_alloc _ _ _ (Array.getElem?_eq_some_iff.1 h).1]; exact h), hg0, by omega, grown_below ((Below.refl _ _).alloc (Nat.le_refl _) _) _⟩
  obtain ⟨W1, hW1⟩ : ∃ W, W = w.alloc (.cells (mC m).toArray 68) := ⟨_, rfl⟩
  have HW1 : Hid (W1 = w.alloc (.cells (mC m).toArray 68)) := hW1
  have K1 : Hid (KW w g w.heap.size m W1 st) := by rw [hW1]; exact k0
  have HM : Hid (m.Ok) := hm
  have HL : Hid (stLen st ≤ 1000) := hl
  have HX : Hid (ownSt st m = addSt st (truthSt m.commit)) := by unfold Hid ownSt; rw [if_neg (by omega), if_neg (by omega), if_pos (by omega)]
  have d0 := row_cell hg0 (mC_0 m)
  rw [hk] at d0
  clear hg0 k0 hs hm hl hW1
  go_enter Tryd.func69, Tryd.ntmps69
  have c0 := row_cell K1.out.box (mC_106 m HM.out)
  rw [HW1.out] at c0
  go_wp2_with fail
  rw [← HW1.out]
  clear d0 c0
  refine (kw_truth K1.out (Nat.le_trans HL.out (by omega)) m.commit).mono ?_
  rintro e W2 ⟨rfl, k2⟩
  have K2 : Hid (KW w g w.heap.size m W2 (addSt st (truthSt m.commit))) := k2
  clear k2
  go_wp2
  exact fell Tryd.results69 rfl ⟨rfl, by rw [HX.out]; exact K2.out.st, K2.out.gr⟩
set_option maxHeartbeats 1000000 in
set_option maxRecDepth 100000 in
theorem wown_6 (g : Nat) (st : Option (List Int)) (m : Msg) (hm : m.Ok) (hk : m.kind = 6) (w : World) (hgl : g < w.heap.size) (hs : WSt w g st) (hl : stLen st ≤ 1000) : Calls Tryd.prog 69 #[.pointer (some ⟨g, 0, none⟩), .agg (mC m).toArray] w fun e w' => e = .returned (.tuple #[]) ∧ WSt w' g (ownSt st m) ∧ w.grownBy w' (some g) := by
  have hg0 := heap_alloc_new w (.cells (mC m).toArray 68)
  have k0 : KW w g w.heap.size m (w.alloc (.cells (mC m).toArray 68)) st :=
    ⟨hs.keep (by rw [Below.heap_alloc _ _ _ hgl]) (fun k cs h => by rw [Below.heap_alloc _ _ _ (Array.getElem?_eq_some_iff.1 h).1]; exact h), hg0, by omega, grown_below ((Below.refl _ _).alloc (Nat.le_refl _) _) _⟩
  obtain ⟨W1, hW1⟩ : ∃ W, W = w.alloc (.cells (mC m).toArray 68) := ⟨_, rfl⟩
  have HW1 : Hid (W1 = w.alloc (.cells (mC m).toArray 68)) := hW1
  have K1 : Hid (KW w g w.heap.size m W1 st) := by rw [hW1]; exact k0
  have HM : Hid (m.Ok) := hm
  have HL : Hid (stLen st ≤ 1000) := hl
  have HX : Hid (ownSt st m = addSt st (truthSt m.commit)) := by unfold Hid ownSt; rw [if_neg (by omega), if_neg (by omega), if_pos (by omega)]
  have d0 := row_cell hg0 (mC_0 m)
  rw [hk] at d0
  clear hg0 k0 hs hm hl hW1
  go_enter Tryd.func69, Tryd.ntmps69
  have c0 := row_cell K1.out.box (mC_106 m HM.out)
  rw [HW1.out] at c0
  go_wp2_with fail
  rw [← HW1.out]
  clear d0 c0
  refine (kw_truth K1.out (Nat.le_trans HL.out (by omega)) m.commit).mono ?_
  rintro e W2 ⟨rfl, k2⟩
  have K2 : Hid (KW w g w.heap.size m W2 (addSt st (truthSt m.commit))) := k2
  clear k2
  go_wp2
  exact fell Tryd.results69 rfl ⟨rfl, by rw [HX.out]; exact K2.out.st, K2.out.gr⟩
end Go.Proofs.YtplihbncmmggjaaDoor
