import Derived.Test.YtndmjndokokmnaaRj
namespace Go.Proofs.Ytndmjndokokmnaa
set_option linter.unusedSimpArgs false
set_option linter.unusedVariables false
open Go.RowKit
open Go.Deep
def restLen (g : Nat) (w : World) : Nat := match w.cell? ⟨g, 0, none⟩ with
  | some (.string s) => s.size
  | _ => 0
theorem RG.rest {w : World} {g k : Nat} {l : List UInt8} (h : RG w g l k) : restLen g w = l.length := by
  obtain ⟨s, h0, h1, _⟩ := h
  unfold restLen; rw [h0, ← h1, ← Lib.size_eq]
def finP (F : Except (List UInt8) (List T × Nat × List UInt8)) : Except (List UInt8) (T × Nat × List UInt8) := match F with
  | .error r => .error r
  | .ok (acc, g', r) => .ok (joinT acc, g', r)
/-- The pattern's memory in its loop. -/
structure PW (w wr : World) (g : Nat) (v : Value) (acc : List T) (lr : List UInt8) (kk : Nat) : Prop where
  own : OwnT 55 (fun b => w.heap.size + 1 ≤ b) (w.heap.size + 1) wr v acc
  rg : RG wr g lr kk
  box : BoxN 55 wr w.heap.size hd0 (.slice none 0 0)
  gr : w.grownBy wr (some g)
theorem grown_past {w a b : World} {o ob : Option Nat} (h : w.grownBy a o) (k : a.grownBy b ob) (hb : ∀ x, ob = some x → w.heap.size ≤ x) : w.grownBy b o :=
  ⟨k.os.trans h.os, k.tape.trans h.tape, k.output.trans h.output, Nat.le_trans h.size k.size, fun i hi e => (k.block i (Nat.lt_of_lt_of_le hi h.size) (fun q => by have := hb i q.symm; omega)).trans (h.block i hi e)⟩
/-- A call of the reader's, and a node's box behind it. -/
theorem PW.node {w wr w2 : World} {g kk k' : Nat} {v : Value} {acc : List T} {lr r : List UInt8} (P : PW w wr g v acc lr kk) (hg : g < w.heap.size) (r2 : RG w2 g r k') (g2 : wr.grownBy w2 (some g)) (O : Obj) : PW w (w2.alloc O) g v acc r k' := by
  have hz := P.box.lt
  have y2 := P.box.blk (g2.block _ hz (by intro q; injection q with q; omega))
  refine ⟨?_, r2.alloc _, y2.blk (Below.heap_alloc _ _ _ y2.lt), grown_more (grown_trans P.gr g2) _⟩
  exact (P.own.keep g2.size fun b q1 q2 => g2.block b q2 (by intro q; injection q with q; omega)).below ((Below.refl _ _).alloc (Nat.le_refl _) _)
theorem PW.kids {w wr w2 : World} {g kk : Nat} {v u : Value} {acc ll : List T} {lr : List UInt8} (P : PW w wr g v acc lr kk) (s2 : SV (fun b => wr.heap.size ≤ b) w2 u ll) (O : Obj) : SV (fun b => w.heap.size + 1 ≤ b ∧ some b ≠ v.ownBlock) (w2.alloc O) u ll := by
  have hz := P.box.lt
  refine (s2.weak fun b q _ => ⟨by omega, fun e => ?_⟩).below ((Below.refl _ _).alloc (Nat.le_refl _) _)
  have := (P.own.low b e.symm).2
  omega
theorem PW.snoc {w w3 w5 : World} {g kk : Nat} {v v' : Value} {acc : List T} {lr : List UInt8} {t : T} {O : Obj} (P : PW w w3 g v acc lr kk) (hg : g < w.heap.size) (o5 : OwnT 55 (fun b => w.heap.size + 1 ≤ b) (w.heap.size + 1) w5 v' (acc ++ [t])) (g5 : (w3.alloc O).grownBy w5 v.ownBlock) : PW w w5 g v' (acc ++ [t]) lr kk := by
  have hlow : ∀ x, v.ownBlock = some x → w.heap.size + 1 ≤ x := fun x q => (P.own.low x q).1
  have hz := P.box.lt
  have hgz := P.rg.lt
  have e1 : w5.heap[g]? = w3.heap[g]? := (g5.block g (by simp; omega) (fun q => by have := hlow g q.symm; omega)).trans (Below.heap_alloc _ _ _ hgz)
  have e2 : w5.heap[w.heap.size]? = w3.heap[w.heap.size]? := (g5.block _ (by simp; omega) (fun q => by have := hlow _ q.symm; omega)).trans (Below.heap_alloc _ _ _ hz)
  have hs : w3.heap.size ≤ w5.heap.size := by have := g5.size; simp at this; omega
  exact ⟨o5, P.rg.blk e1 hs, P.box.blk e2, grown_past (grown_more P.gr O) g5 fun x q => by have := hlow x q; omega⟩
set_option maxHeartbeats 8000000 in
set_option maxRecDepth 100000 in
theorem pattern_plain (n : Nat) (IH : ∀ m, m ≤ n → PatC (patN (some 200) m) m) (g k : Nat) (l : List UInt8) (w : World) (hr : RG w g l k) (hn : l.length < n + 1) (hl : l.length ≤ 900000) (hM : MaxL w) (hg0 : 0 < g) (hk : k ≤ 9) (hpre : pre [94] l = false) :
    Calls Try.prog 73 #[.pointer (some ⟨g, 0, none⟩)] w (TreO (fun b => w.heap.size ≤ b) (patN (some 200) (n + 1) k l) w g) := by
  have hg := hr.lt
  have HIH : Hid (∀ m, m ≤ n → PatC (patN (some 200) m) m) := IH
  have HM : Hid (MaxL w) := hM
  obtain ⟨F, hF⟩ : ∃ F, F = loopP (some 200) (n + 1) true [] k l := ⟨_, rfl⟩
  obtain ⟨R, hR⟩ : ∃ R, R = patN (some 200) (n + 1) k l := ⟨_, rfl⟩
  rw [← hR]
  have HR : Hid (R = finP F) := by
    unfold Hid; rw [hR, hF]; unfold patN patP; rw [hpre]; rfl
  have HF : Hid (loopP (some 200) (n + 1) true [] k l = F) := hF.symm
  have HL0 : Hid (l.length ≤ l.length ∧ l.length < n + 1 ∧ l.length ≤ 900000) := by unfold Hid; exact ⟨Nat.le_refl _, hn, hl⟩
  have W0R : Hid (RG (w.alloc (.cells (cN hd0 (.slice none 0 0)).toArray 55)) g l k) := hr.alloc _
  have W0Y : Hid (BoxN 55 (w.alloc (.cells (cN hd0 (.slice none 0 0)).toArray 55)) w.heap.size hd0 (.slice none 0 0)) := BoxN.new 55 w _ _
  have W0G : Hid (w.grownBy (w.alloc (.cells (cN hd0 (.slice none 0 0)).toArray 55)) (some g)) := grown_more (grown_refl7 _ _) _
  have W0Z : Hid ((w.alloc (.cells (cN hd0 (.slice none 0 0)).toArray 55)).heap.size = w.heap.size + 1) := by unfold Hid; simp
  have SK0 : Hid (∀ W, RG W g l k → Calls Try.prog 91 #[.pointer (some ⟨g, 0, none⟩), .string ⟨#[94]⟩] W fun e w' => e = .returned (.bool false) ∧ RG w' g l k ∧ W.grownBy w' (some g)) := fun W hW => skip91 g k l ⟨#[94]⟩ false hpre l rfl W hW
  clear hF hR hr hM IH hn hl hpre
  go_enter Try.func73, Try.ntmps73
  go_wp2_with fail
  refine (SK0.out _ W0R.out).mono ?_
  rintro e w1 ⟨rfl, r1, g1⟩
  have P1 : Hid (PW w w1 g (.slice none 0 0) [] l k) := ⟨OwnT.nil _ _ _ _, r1, W0Y.out.blk (g1.block _ (by rw [W0Z.out]; omega) (by intro q; injection q with q; omega)), grown_trans W0G.out g1⟩
  have hz1 : w.heap.size + 1 ≤ w1.heap.size := P1.out.box.lt
  clear r1 g1 SK0 W0R W0Y W0G W0Z
  go_wp2
  go_loopw [4, 5] (fun v4 v5 wr => ∃ (m kk : Nat) (acc : List T) (lr : List UInt8) (va : Option Addr) (vl vc : Nat) (first : Bool), v4 = .slice va vl vc ∧ v5 = .bool first ∧ vl = acc.length ∧ Hid (PW w wr g (.slice va vl vc) acc lr kk) ∧ Hid (loopP (some 200) (m + 1) first acc kk lr = F) ∧ lr.length ≤ m ∧ m ≤ n ∧ countL acc + lr.length ≤ 900001 ∧ lr.length ≤ 900000 ∧ kk ≤ 9) (fun _ _ wr => restLen g wr)
  case atStart => exact ⟨n, k, [], l, none, 0, 0, true, rfl, rfl, rfl, P1.out, HF.out, by have := HL0.out; omega, Nat.le_refl _, by have := HL0.out; rw [countL_nil]; omega, by have := HL0.out; omega, hk⟩
  case round =>
    obtain ⟨m, kk, acc, lr, va, vl, vc, first, rfl, rfl, hvl, P, HL, hlm, hmn, hcnt, hl9, hkk⟩ := hrel
    have HVL : Hid (vl = acc.length) := hvl
    clear hvl
    have hz : w.heap.size < wr.heap.size := P.out.box.lt
    obtain ⟨s', hc, hs', hc1, hf, hf1, hg'⟩ := P.out.rg.out
    have hsl : s'.toList = lr := by rw [Lib.toList_data, hs']
    have hac := len_le_countL acc
    obtain ⟨hj, lj, hJ⟩ := (joinT acc).out
    have JN : Hid (Calls Try.prog 46 #[.slice va vl vc] wr fun e w' => ∃ u', e = .returned (vN hj u') ∧ SV (fun b => wr.heap.size ≤ b) w' u' lj ∧ Below wr.heap.size wr w') := by
      have := join_any acc (by omega) wr (.slice va vl vc) P.out.own.sv.any
      rw [hJ] at this
      refine this.mono ?_
      rintro e w' ⟨u', q1, q2, q3⟩
      rw [T.hd_mk] at q1
      rw [T.kids_mk] at q2
      exact ⟨u', q1, q2, q3⟩
    have HJ : Hid (joinT acc = .mk hj lj) := hJ
    clear hJ
    by_cases h0 : lr = []
    · have HE : Hid (R = .ok (.mk hj lj, kk, lr)) := by
        unfold Hid; rw [HR.out, ← HL.out, loopP_succ, if_pos (.inl h0), ← HJ.out]; rfl
      have e1 : s'.toList = [] := by rw [hsl, h0]
      have e2 : s'.toList.isEmpty = true := by rw [e1]; rfl
      clear hs' hsl hac hlm hcnt
      go_wp2_with (first | (go_at_call 46; refine JN.out.mono ?_; rintro e w6 ⟨u6, rfl, s6, b6⟩; have S6 : Hid (SV (fun b => wr.heap.size ≤ b) w6 u6 lj) := s6; have O6 : Hid (u6.oneCell' = true) := s6.one; have Y6 : Hid (BoxN 55 w6 w.heap.size hd0 (.slice none 0 0)) := P.out.box.below b6 P.out.box.lt; have R6 : Hid (RG w6 g lr kk) := P.out.rg.below b6 P.out.rg.lt; have G6 : Hid (w.grownBy w6 (some g)) := grown_trans P.out.gr (grown_below b6 _); clear s6 b6) | (refine storeB55 rfl _ _ rfl w.heap.size rfl hj u6 O6.out rfl hd0 _ Y6.out ?_))
      exact bodyPost_ret (v := .tuple #[vN hj u6, .bool true]) (res55b 2 3 Try.results73 _ _ w.heap.size _ _ _ rfl rfl (BoxN.row Y6.out _ _)) rfl (by
        rw [HE.out]
        refine ⟨u6, rfl, ?_, R6.out.row _ _ (by omega), grown_row G6.out (Nat.le_refl _) _⟩
        rw [T.kids_mk]
        exact S6.out.keep (by simp [World.setRow]) fun b q _ => ⟨by omega, setRow_other _ _ _ _ (by omega)⟩)
    · have e1 : ¬ s'.toList = [] := by rw [hsl]; exact h0
      have e2 : s'.toList.isEmpty = false := by rw [List.isEmpty_eq_false_iff]; exact e1
      cases hp : pre [92, 41] lr with
      | true =>
        have HE : Hid (R = .ok (.mk hj lj, kk, lr)) := by
          unfold Hid; rw [HR.out, ← HL.out, loopP_succ, if_pos (.inr hp), ← HJ.out]; rfl
        have BG : Hid (∀ W, RG W g lr kk → Calls Try.prog 92 #[.pointer (some ⟨g, 0, none⟩), .string ⟨#[92, 41]⟩] W fun e w' => e = .returned (.bool true) ∧ W = w') := fun W hW => begins92 g kk lr ⟨#[92, 41]⟩ true hp W hW
        clear hs' hsl hac hlm hcnt h0 hp
        go_wp2_with (first | (go_at_call 92; refine (BG.out _ P.out.rg).mono ?_; rintro e w5 ⟨rfl, rfl⟩) | (go_at_call 46; refine JN.out.mono ?_; rintro e w6 ⟨u6, rfl, s6, b6⟩; have S6 : Hid (SV (fun b => wr.heap.size ≤ b) w6 u6 lj) := s6; have O6 : Hid (u6.oneCell' = true) := s6.one; have Y6 : Hid (BoxN 55 w6 w.heap.size hd0 (.slice none 0 0)) := P.out.box.below b6 P.out.box.lt; have R6 : Hid (RG w6 g lr kk) := P.out.rg.below b6 P.out.rg.lt; have G6 : Hid (w.grownBy w6 (some g)) := grown_trans P.out.gr (grown_below b6 _); clear s6 b6) | (refine storeB55 rfl _ _ rfl w.heap.size rfl hj u6 O6.out rfl hd0 _ Y6.out ?_))
        exact bodyPost_ret (v := .tuple #[vN hj u6, .bool true]) (res55b 2 3 Try.results73 _ _ w.heap.size _ _ _ rfl rfl (BoxN.row Y6.out _ _)) rfl (by
          rw [HE.out]
          refine ⟨u6, rfl, ?_, R6.out.row _ _ (by omega), grown_row G6.out (Nat.le_refl _) _⟩
          rw [T.kids_mk]
          exact S6.out.keep (by simp [World.setRow]) fun b q _ => ⟨by omega, setRow_other _ _ _ _ (by omega)⟩)
      | false =>
        have HM1 : Hid (MaxL wr) := HM.out.grown P.out.gr hg0
        have BG : Hid (∀ W, RG W g lr kk → Calls Try.prog 92 #[.pointer (some ⟨g, 0, none⟩), .string ⟨#[92, 41]⟩] W fun e w' => e = .returned (.bool false) ∧ W = w') := fun W hW => begins92 g kk lr ⟨#[92, 41]⟩ false hp W hW
        have RC : Hid (Calls Try.prog 93 #[.pointer (some ⟨g, 0, none⟩), .bool first] wr (TreO (fun b => wr.heap.size ≤ b) (repP (patN (some 200) m) first kk lr) wr g)) := rep_any (HIH.out m hmn) (loop_fine (some 200) m).2 g kk lr first h0 wr P.out.rg hlm hl9 HM1.out hg0 hkk
        have FI : Hid (Fine kk lr (repP (patN (some 200) m) first kk lr)) := rep_fine (loop_fine (some 200) m).2 hlm
        have HF1 : Hid (F = match repP (patN (some 200) m) first kk lr with
          | .error r => .error r
          | .ok (t, g', r) => loopP (some 200) m false (snocC (some 200) acc t) g' r) := by
          unfold Hid; rw [← HL.out, loopP_succ, if_neg (by rintro (q | q); exact h0 q; rw [hp] at q; cases q)]; rfl
        have HC : Hid ((countL acc + lr.length ≤ 900001 ∧ lr.length ≤ 900000) ∧ lr.length ≤ m ∧ m ≤ n ∧ kk ≤ 9 ∧ acc.length ≤ countL acc) := ⟨⟨hcnt, hl9⟩, hlm, hmn, hkk, hac⟩
        clear hs' hsl hac hlm hcnt h0 hp hmn hkk HJ JN HL
        generalize repP (patN (some 200) m) first kk lr = A at *
        cases A with
        | error r =>
          have HE : Hid (R = .error r) := by unfold Hid; rw [HR.out, HF1.out]; rfl
          clear HF1 FI
          go_wp2_with (first | (go_at_call 92; refine (BG.out _ P.out.rg).mono ?_; rintro e w6 ⟨rfl, rfl⟩) | (go_at_call 93; refine RC.out.mono ?_; rintro e w2 ⟨k', rfl, r2, g2⟩; have P3 : Hid (PW w (w2.alloc (.cells (cN (Hd.of 0) (.slice none 0 0)).toArray 55)) g (.slice va vl vc) acc r k') := P.out.node hg r2 g2 _; clear r2 g2) | (refine storeN55 rfl _ _ rfl rfl (Hd.of 0) none 0 0 rfl ?_) | (refine storeB55 rfl _ _ rfl w.heap.size rfl hd0 (.slice none 0 0) rfl rfl hd0 _ P3.out.box ?_))
          exact bodyPost_ret (v := .tuple #[vN hd0 (.slice none 0 0), .bool false]) (res55b 2 3 Try.results73 _ _ w.heap.size _ _ _ rfl rfl (BoxN.row P3.out.box _ _)) rfl (by rw [HE.out]; exact ⟨k', rfl, P3.out.rg.row _ _ (by omega), grown_row P3.out.gr (Nat.le_refl _) _⟩)
        | ok x =>
          obtain ⟨t, k', r⟩ := x
          obtain ⟨hh, ll, rfl⟩ := t.out
          by_cases h2 : acc.length ≤ 200
          · have i200 : (vl : Int) ≤ 200 := by rw [HVL.out]; omega
            have HF2 : Hid (loopP (some 200) m false (acc ++ [.mk hh ll]) k' r = F) := by
              have := HF1.out; simp only [snocC, if_pos h2] at this; exact this.symm
            have HA6 : Hid (acc.length ≤ 1000000) := by unfold Hid; omega
            clear HF1 h2
            go_wp2_with (first | (go_at_call 92; refine (BG.out _ P.out.rg).mono ?_; rintro e w6 ⟨rfl, rfl⟩) | (go_at_call 93; refine RC.out.mono ?_; rintro e w2 ⟨u2, rfl, s2, r2, g2⟩; rw [T.kids_mk] at s2; rw [T.hd_mk]; obtain ⟨av2, cp2, b2, o2, hu2, hq2⟩ := id s2; clear hq2; subst hu2; have P3 : Hid (PW w (w2.alloc (.cells (cN hh (.slice av2 ll.length cp2)).toArray 55)) g (.slice va vl vc) acc r k') := P.out.node hg r2 g2 _; have S3 : Hid (SV (fun b => w.heap.size + 1 ≤ b ∧ some b ≠ (Value.slice va vl vc).ownBlock) (w2.alloc (.cells (cN hh (.slice av2 ll.length cp2)).toArray 55)) (.slice av2 ll.length cp2) (T.mk hh ll).kids) := (by rw [T.kids_mk]; exact P.out.kids s2 _); have N3 : Hid (BoxN 55 (w2.alloc (.cells (cN hh (.slice av2 ll.length cp2)).toArray 55)) w2.heap.size hh (.slice av2 ll.length cp2)) := BoxN.new _ _ _ _; have Z3 : Hid (w.heap.size + 1 ≤ (w2.alloc (.cells (cN hh (.slice av2 ll.length cp2)).toArray 55)).heap.size) := P3.out.box.lt; clear s2 r2 g2) | (refine storeN55 rfl _ _ rfl rfl hh av2 ll.length cp2 rfl ?_) | (refine loadN55 rfl _ rfl w2.heap.size 0 rfl hh _ N3.out.range ?_) | (refine build55 rfl _ rfl hh (.slice av2 ll.length cp2) rfl ?_) | (refine snoc55 rfl _ _ rfl (fun b => w.heap.size + 1 ≤ b) (w.heap.size + 1) (.slice va vl vc) acc rfl P3.out.own (T.mk hh ll) (.slice av2 ll.length cp2) S3.out (by rfl) HA6.out Z3.out ?_; intro v7 w7 O7 g7; have P7 := P3.out.snoc hg O7 g7; obtain ⟨va7, vc7, e7⟩ := O7.form; clear O7 g7; subst e7; obtain ⟨vl7, hvl7⟩ : ∃ vl7, vl7 = (acc ++ [T.mk hh ll]).length := ⟨_, rfl⟩; rw [← hvl7] at P7 ⊢; have P7 : Hid (PW w w7 g (.slice va7 vl7 vc7) (acc ++ [T.mk hh ll]) r k') := P7; have HV7 : Hid (vl7 = (acc ++ [T.mk hh ll]).length) := hvl7; clear hvl7))
            obtain ⟨f1, f2, f3, f4, f5⟩ := FI.out
            obtain ⟨c1, c2, c3, c4, c5⟩ := HC.out
            obtain ⟨m', rfl⟩ : ∃ m', m = m' + 1 := ⟨m - 1, by omega⟩
            have hcc : countL (acc ++ [T.mk hh ll]) + r.length ≤ 900001 := by rw [countL_append, countL_cons, countL_nil]; omega
            go_roundw
            case rel => exact ⟨m', k', acc ++ [T.mk hh ll], r, va7, vl7, vc7, false, rfl, rfl, HV7.out, P7.out, HF2.out, by omega, by omega, hcc, by omega, f5 c4⟩
            case measure => rw [P7.out.rg.rest, P.out.rg.rest]; exact f1
          · have i200 : ¬ (vl : Int) ≤ 200 := by rw [HVL.out]; omega
            have HF2 : Hid (loopP (some 200) m false acc k' r = F) := by
              have := HF1.out; simp only [snocC, if_neg h2] at this; exact this.symm
            clear HF1 h2
            go_wp2_with (first | (go_at_call 92; refine (BG.out _ P.out.rg).mono ?_; rintro e w6 ⟨rfl, rfl⟩) | (go_at_call 93; refine RC.out.mono ?_; rintro e w2 ⟨u2, rfl, s2, r2, g2⟩; rw [T.kids_mk] at s2; rw [T.hd_mk]; obtain ⟨av2, cp2, b2, o2, hu2, hq2⟩ := id s2; clear hq2; subst hu2; have P3 : Hid (PW w (w2.alloc (.cells (cN hh (.slice av2 ll.length cp2)).toArray 55)) g (.slice va vl vc) acc r k') := P.out.node hg r2 g2 _; clear s2 r2 g2) | (refine storeN55 rfl _ _ rfl rfl hh av2 ll.length cp2 rfl ?_))
            obtain ⟨f1, f2, f3, f4, f5⟩ := FI.out
            obtain ⟨c1, c2, c3, c4, c5⟩ := HC.out
            obtain ⟨m', rfl⟩ : ∃ m', m = m' + 1 := ⟨m - 1, by omega⟩
            go_roundw
            case rel => exact ⟨m', k', acc, r, va, vl, vc, false, rfl, rfl, HVL.out, P3.out, HF2.out, by omega, by omega, by omega, by omega, f5 c4⟩
            case measure => rw [P3.out.rg.rest, P.out.rg.rest]; exact f1
set_option maxHeartbeats 8000000 in
set_option maxRecDepth 100000 in
theorem pattern_caret (n : Nat) (IH : ∀ m, m ≤ n → PatC (patN (some 200) m) m) (g k : Nat) (l : List UInt8) (w : World) (hr : RG w g l k) (hn : l.length < n + 1) (hl : l.length ≤ 900000) (hM : MaxL w) (hg0 : 0 < g) (hk : k ≤ 9) (hpre : pre [94] l = true) :
    Calls Try.prog 73 #[.pointer (some ⟨g, 0, none⟩)] w (TreO (fun b => w.heap.size ≤ b) (patN (some 200) (n + 1) k l) w g) := by
  have hg := hr.lt
  have HIH : Hid (∀ m, m ≤ n → PatC (patN (some 200) m) m) := IH
  have HM : Hid (MaxL w) := hM
  obtain ⟨F, hF⟩ : ∃ F, F = loopP (some 200) (n + 1) true [tBegin] k (l.drop 1) := ⟨_, rfl⟩
  obtain ⟨R, hR⟩ : ∃ R, R = patN (some 200) (n + 1) k l := ⟨_, rfl⟩
  rw [← hR]
  have HR : Hid (R = finP F) := by
    unfold Hid; rw [hR, hF]; unfold patN patP; rw [hpre]; rfl
  have HF : Hid (loopP (some 200) (n + 1) true [tBegin] k (l.drop 1) = F) := hF.symm
  have HL0 : Hid ((l.drop 1).length ≤ l.length ∧ (l.drop 1).length < n + 1 ∧ l.length ≤ 900000) := by unfold Hid; have := pre_len hpre; simp at *; omega
  have W0R : Hid (RG (w.alloc (.cells (cN hd0 (.slice none 0 0)).toArray 55)) g l k) := hr.alloc _
  have W0Y : Hid (BoxN 55 (w.alloc (.cells (cN hd0 (.slice none 0 0)).toArray 55)) w.heap.size hd0 (.slice none 0 0)) := BoxN.new 55 w _ _
  have W0G : Hid (w.grownBy (w.alloc (.cells (cN hd0 (.slice none 0 0)).toArray 55)) (some g)) := grown_more (grown_refl7 _ _) _
  have W0Z : Hid ((w.alloc (.cells (cN hd0 (.slice none 0 0)).toArray 55)).heap.size = w.heap.size + 1) := by unfold Hid; simp
  have SK0 : Hid (∀ W, RG W g l k → Calls Try.prog 91 #[.pointer (some ⟨g, 0, none⟩), .string ⟨#[94]⟩] W fun e w' => e = .returned (.bool true) ∧ RG w' g (l.drop 1) k ∧ W.grownBy w' (some g)) := fun W hW => skip91 g k l ⟨#[94]⟩ true hpre (l.drop 1) rfl W hW
  clear hF hR hr hM IH hn hl hpre
  go_enter Try.func73, Try.ntmps73
  go_wp2_with fail
  refine (SK0.out _ W0R.out).mono ?_
  rintro e w1 ⟨rfl, r1, g1⟩
  have P1 : Hid (PW w w1 g (.slice none 0 0) [] (l.drop 1) k) := ⟨OwnT.nil _ _ _ _, r1, W0Y.out.blk (g1.block _ (by rw [W0Z.out]; omega) (by intro q; injection q with q; omega)), grown_trans W0G.out g1⟩
  have hz1 : w.heap.size + 1 ≤ w1.heap.size := P1.out.box.lt
  clear r1 g1 SK0 W0R W0Y W0G W0Z
  have SB : Hid (SV (fun b => w.heap.size + 1 ≤ b ∧ some b ≠ (Value.slice none 0 0).ownBlock) w1 (.slice none 0 0) tBegin.kids) := SV.nil _ _
  have ZB : Hid (([] : List T).length ≤ 1000000) := Nat.zero_le _
  have HZ1 : Hid (w.heap.size + 1 ≤ w1.heap.size) := hz1
  go_wp2_with (first | (refine build55 rfl _ rfl (Hd.of 4) (.slice none 0 0) rfl ?_) | (refine snoc55 rfl _ _ rfl (fun b => w.heap.size + 1 ≤ b) (w.heap.size + 1) (.slice none 0 0) [] rfl P1.out.own tBegin (.slice none 0 0) SB.out rfl ZB.out HZ1.out ?_; intro v7 w7 O7 g7; have P7 := P1.out.snoc hg O7 g7; obtain ⟨va7, vc7, e7⟩ := O7.form; clear O7 g7; subst e7; have P7 : Hid (PW w w7 g (.slice va7 1 vc7) [tBegin] (l.drop 1) k) := P7))
  go_loopw [4, 5] (fun v4 v5 wr => ∃ (m kk : Nat) (acc : List T) (lr : List UInt8) (va : Option Addr) (vl vc : Nat) (first : Bool), v4 = .slice va vl vc ∧ v5 = .bool first ∧ vl = acc.length ∧ Hid (PW w wr g (.slice va vl vc) acc lr kk) ∧ Hid (loopP (some 200) (m + 1) first acc kk lr = F) ∧ lr.length ≤ m ∧ m ≤ n ∧ countL acc + lr.length ≤ 900001 ∧ lr.length ≤ 900000 ∧ kk ≤ 9) (fun _ _ wr => restLen g wr)
  case atStart => exact ⟨n, k, [tBegin], l.drop 1, va7, 1, vc7, true, rfl, rfl, rfl, P7.out, HF.out, by have := HL0.out; omega, Nat.le_refl _, by have := HL0.out; show 1 + _ ≤ _; omega, by have := HL0.out; omega, hk⟩
  case round =>
    obtain ⟨m, kk, acc, lr, va, vl, vc, first, rfl, rfl, hvl, P, HL, hlm, hmn, hcnt, hl9, hkk⟩ := hrel
    have HVL : Hid (vl = acc.length) := hvl
    clear hvl
    have hz : w.heap.size < wr.heap.size := P.out.box.lt
    obtain ⟨s', hc, hs', hc1, hf, hf1, hg'⟩ := P.out.rg.out
    have hsl : s'.toList = lr := by rw [Lib.toList_data, hs']
    have hac := len_le_countL acc
    obtain ⟨hj, lj, hJ⟩ := (joinT acc).out
    have JN : Hid (Calls Try.prog 46 #[.slice va vl vc] wr fun e w' => ∃ u', e = .returned (vN hj u') ∧ SV (fun b => wr.heap.size ≤ b) w' u' lj ∧ Below wr.heap.size wr w') := by
      have := join_any acc (by omega) wr (.slice va vl vc) P.out.own.sv.any
      rw [hJ] at this
      refine this.mono ?_
      rintro e w' ⟨u', q1, q2, q3⟩
      rw [T.hd_mk] at q1
      rw [T.kids_mk] at q2
      exact ⟨u', q1, q2, q3⟩
    have HJ : Hid (joinT acc = .mk hj lj) := hJ
    clear hJ
    by_cases h0 : lr = []
    · have HE : Hid (R = .ok (.mk hj lj, kk, lr)) := by
        unfold Hid; rw [HR.out, ← HL.out, loopP_succ, if_pos (.inl h0), ← HJ.out]; rfl
      have e1 : s'.toList = [] := by rw [hsl, h0]
      have e2 : s'.toList.isEmpty = true := by rw [e1]; rfl
      clear hs' hsl hac hlm hcnt
      go_wp2_with (first | (go_at_call 46; refine JN.out.mono ?_; rintro e w6 ⟨u6, rfl, s6, b6⟩; have S6 : Hid (SV (fun b => wr.heap.size ≤ b) w6 u6 lj) := s6; have O6 : Hid (u6.oneCell' = true) := s6.one; have Y6 : Hid (BoxN 55 w6 w.heap.size hd0 (.slice none 0 0)) := P.out.box.below b6 P.out.box.lt; have R6 : Hid (RG w6 g lr kk) := P.out.rg.below b6 P.out.rg.lt; have G6 : Hid (w.grownBy w6 (some g)) := grown_trans P.out.gr (grown_below b6 _); clear s6 b6) | (refine storeB55 rfl _ _ rfl w.heap.size rfl hj u6 O6.out rfl hd0 _ Y6.out ?_))
      exact bodyPost_ret (v := .tuple #[vN hj u6, .bool true]) (res55b 2 3 Try.results73 _ _ w.heap.size _ _ _ rfl rfl (BoxN.row Y6.out _ _)) rfl (by
        rw [HE.out]
        refine ⟨u6, rfl, ?_, R6.out.row _ _ (by omega), grown_row G6.out (Nat.le_refl _) _⟩
        rw [T.kids_mk]
        exact S6.out.keep (by simp [World.setRow]) fun b q _ => ⟨by omega, setRow_other _ _ _ _ (by omega)⟩)
    · have e1 : ¬ s'.toList = [] := by rw [hsl]; exact h0
      have e2 : s'.toList.isEmpty = false := by rw [List.isEmpty_eq_false_iff]; exact e1
      cases hp : pre [92, 41] lr with
      | true =>
        have HE : Hid (R = .ok (.mk hj lj, kk, lr)) := by
          unfold Hid; rw [HR.out, ← HL.out, loopP_succ, if_pos (.inr hp), ← HJ.out]; rfl
        have BG : Hid (∀ W, RG W g lr kk → Calls Try.prog 92 #[.pointer (some ⟨g, 0, none⟩), .string ⟨#[92, 41]⟩] W fun e w' => e = .returned (.bool true) ∧ W = w') := fun W hW => begins92 g kk lr ⟨#[92, 41]⟩ true hp W hW
        clear hs' hsl hac hlm hcnt h0 hp
        go_wp2_with (first | (go_at_call 92; refine (BG.out _ P.out.rg).mono ?_; rintro e w5 ⟨rfl, rfl⟩) | (go_at_call 46; refine JN.out.mono ?_; rintro e w6 ⟨u6, rfl, s6, b6⟩; have S6 : Hid (SV (fun b => wr.heap.size ≤ b) w6 u6 lj) := s6; have O6 : Hid (u6.oneCell' = true) := s6.one; have Y6 : Hid (BoxN 55 w6 w.heap.size hd0 (.slice none 0 0)) := P.out.box.below b6 P.out.box.lt; have R6 : Hid (RG w6 g lr kk) := P.out.rg.below b6 P.out.rg.lt; have G6 : Hid (w.grownBy w6 (some g)) := grown_trans P.out.gr (grown_below b6 _); clear s6 b6) | (refine storeB55 rfl _ _ rfl w.heap.size rfl hj u6 O6.out rfl hd0 _ Y6.out ?_))
        exact bodyPost_ret (v := .tuple #[vN hj u6, .bool true]) (res55b 2 3 Try.results73 _ _ w.heap.size _ _ _ rfl rfl (BoxN.row Y6.out _ _)) rfl (by
          rw [HE.out]
          refine ⟨u6, rfl, ?_, R6.out.row _ _ (by omega), grown_row G6.out (Nat.le_refl _) _⟩
          rw [T.kids_mk]
          exact S6.out.keep (by simp [World.setRow]) fun b q _ => ⟨by omega, setRow_other _ _ _ _ (by omega)⟩)
      | false =>
        have HM1 : Hid (MaxL wr) := HM.out.grown P.out.gr hg0
        have BG : Hid (∀ W, RG W g lr kk → Calls Try.prog 92 #[.pointer (some ⟨g, 0, none⟩), .string ⟨#[92, 41]⟩] W fun e w' => e = .returned (.bool false) ∧ W = w') := fun W hW => begins92 g kk lr ⟨#[92, 41]⟩ false hp W hW
        have RC : Hid (Calls Try.prog 93 #[.pointer (some ⟨g, 0, none⟩), .bool first] wr (TreO (fun b => wr.heap.size ≤ b) (repP (patN (some 200) m) first kk lr) wr g)) := rep_any (HIH.out m hmn) (loop_fine (some 200) m).2 g kk lr first h0 wr P.out.rg hlm hl9 HM1.out hg0 hkk
        have FI : Hid (Fine kk lr (repP (patN (some 200) m) first kk lr)) := rep_fine (loop_fine (some 200) m).2 hlm
        have HF1 : Hid (F = match repP (patN (some 200) m) first kk lr with
          | .error r => .error r
          | .ok (t, g', r) => loopP (some 200) m false (snocC (some 200) acc t) g' r) := by
          unfold Hid; rw [← HL.out, loopP_succ, if_neg (by rintro (q | q); exact h0 q; rw [hp] at q; cases q)]; rfl
        have HC : Hid ((countL acc + lr.length ≤ 900001 ∧ lr.length ≤ 900000) ∧ lr.length ≤ m ∧ m ≤ n ∧ kk ≤ 9 ∧ acc.length ≤ countL acc) := ⟨⟨hcnt, hl9⟩, hlm, hmn, hkk, hac⟩
        clear hs' hsl hac hlm hcnt h0 hp hmn hkk HJ JN HL
        generalize repP (patN (some 200) m) first kk lr = A at *
        cases A with
        | error r =>
          have HE : Hid (R = .error r) := by unfold Hid; rw [HR.out, HF1.out]; rfl
          clear HF1 FI
          go_wp2_with (first | (go_at_call 92; refine (BG.out _ P.out.rg).mono ?_; rintro e w6 ⟨rfl, rfl⟩) | (go_at_call 93; refine RC.out.mono ?_; rintro e w2 ⟨k', rfl, r2, g2⟩; have P3 : Hid (PW w (w2.alloc (.cells (cN (Hd.of 0) (.slice none 0 0)).toArray 55)) g (.slice va vl vc) acc r k') := P.out.node hg r2 g2 _; clear r2 g2) | (refine storeN55 rfl _ _ rfl rfl (Hd.of 0) none 0 0 rfl ?_) | (refine storeB55 rfl _ _ rfl w.heap.size rfl hd0 (.slice none 0 0) rfl rfl hd0 _ P3.out.box ?_))
          exact bodyPost_ret (v := .tuple #[vN hd0 (.slice none 0 0), .bool false]) (res55b 2 3 Try.results73 _ _ w.heap.size _ _ _ rfl rfl (BoxN.row P3.out.box _ _)) rfl (by rw [HE.out]; exact ⟨k', rfl, P3.out.rg.row _ _ (by omega), grown_row P3.out.gr (Nat.le_refl _) _⟩)
        | ok x =>
          obtain ⟨t, k', r⟩ := x
          obtain ⟨hh, ll, rfl⟩ := t.out
          by_cases h2 : acc.length ≤ 200
          · have i200 : (vl : Int) ≤ 200 := by rw [HVL.out]; omega
            have HF2 : Hid (loopP (some 200) m false (acc ++ [.mk hh ll]) k' r = F) := by
              have := HF1.out; simp only [snocC, if_pos h2] at this; exact this.symm
            have HA6 : Hid (acc.length ≤ 1000000) := by unfold Hid; omega
            clear HF1 h2
            go_wp2_with (first | (go_at_call 92; refine (BG.out _ P.out.rg).mono ?_; rintro e w6 ⟨rfl, rfl⟩) | (go_at_call 93; refine RC.out.mono ?_; rintro e w2 ⟨u2, rfl, s2, r2, g2⟩; rw [T.kids_mk] at s2; rw [T.hd_mk]; obtain ⟨av2, cp2, b2, o2, hu2, hq2⟩ := id s2; clear hq2; subst hu2; have P3 : Hid (PW w (w2.alloc (.cells (cN hh (.slice av2 ll.length cp2)).toArray 55)) g (.slice va vl vc) acc r k') := P.out.node hg r2 g2 _; have S3 : Hid (SV (fun b => w.heap.size + 1 ≤ b ∧ some b ≠ (Value.slice va vl vc).ownBlock) (w2.alloc (.cells (cN hh (.slice av2 ll.length cp2)).toArray 55)) (.slice av2 ll.length cp2) (T.mk hh ll).kids) := (by rw [T.kids_mk]; exact P.out.kids s2 _); have N3 : Hid (BoxN 55 (w2.alloc (.cells (cN hh (.slice av2 ll.length cp2)).toArray 55)) w2.heap.size hh (.slice av2 ll.length cp2)) := BoxN.new _ _ _ _; have Z3 : Hid (w.heap.size + 1 ≤ (w2.alloc (.cells (cN hh (.slice av2 ll.length cp2)).toArray 55)).heap.size) := P3.out.box.lt; clear s2 r2 g2) | (refine storeN55 rfl _ _ rfl rfl hh av2 ll.length cp2 rfl ?_) | (refine loadN55 rfl _ rfl w2.heap.size 0 rfl hh _ N3.out.range ?_) | (refine build55 rfl _ rfl hh (.slice av2 ll.length cp2) rfl ?_) | (refine snoc55 rfl _ _ rfl (fun b => w.heap.size + 1 ≤ b) (w.heap.size + 1) (.slice va vl vc) acc rfl P3.out.own (T.mk hh ll) (.slice av2 ll.length cp2) S3.out (by rfl) HA6.out Z3.out ?_; intro v7 w7 O7 g7; have P7 := P3.out.snoc hg O7 g7; obtain ⟨va7, vc7, e7⟩ := O7.form; clear O7 g7; subst e7; obtain ⟨vl7, hvl7⟩ : ∃ vl7, vl7 = (acc ++ [T.mk hh ll]).length := ⟨_, rfl⟩; rw [← hvl7] at P7 ⊢; have P7 : Hid (PW w w7 g (.slice va7 vl7 vc7) (acc ++ [T.mk hh ll]) r k') := P7; have HV7 : Hid (vl7 = (acc ++ [T.mk hh ll]).length) := hvl7; clear hvl7))
            obtain ⟨f1, f2, f3, f4, f5⟩ := FI.out
            obtain ⟨c1, c2, c3, c4, c5⟩ := HC.out
            obtain ⟨m', rfl⟩ : ∃ m', m = m' + 1 := ⟨m - 1, by omega⟩
            have hcc : countL (acc ++ [T.mk hh ll]) + r.length ≤ 900001 := by rw [countL_append, countL_cons, countL_nil]; omega
            go_roundw
            case rel => exact ⟨m', k', acc ++ [T.mk hh ll], r, va7, vl7, vc7, false, rfl, rfl, HV7.out, P7.out, HF2.out, by omega, by omega, hcc, by omega, f5 c4⟩
            case measure => rw [P7.out.rg.rest, P.out.rg.rest]; exact f1
          · have i200 : ¬ (vl : Int) ≤ 200 := by rw [HVL.out]; omega
            have HF2 : Hid (loopP (some 200) m false acc k' r = F) := by
              have := HF1.out; simp only [snocC, if_neg h2] at this; exact this.symm
            clear HF1 h2
            go_wp2_with (first | (go_at_call 92; refine (BG.out _ P.out.rg).mono ?_; rintro e w6 ⟨rfl, rfl⟩) | (go_at_call 93; refine RC.out.mono ?_; rintro e w2 ⟨u2, rfl, s2, r2, g2⟩; rw [T.kids_mk] at s2; rw [T.hd_mk]; obtain ⟨av2, cp2, b2, o2, hu2, hq2⟩ := id s2; clear hq2; subst hu2; have P3 : Hid (PW w (w2.alloc (.cells (cN hh (.slice av2 ll.length cp2)).toArray 55)) g (.slice va vl vc) acc r k') := P.out.node hg r2 g2 _; clear s2 r2 g2) | (refine storeN55 rfl _ _ rfl rfl hh av2 ll.length cp2 rfl ?_))
            obtain ⟨f1, f2, f3, f4, f5⟩ := FI.out
            obtain ⟨c1, c2, c3, c4, c5⟩ := HC.out
            obtain ⟨m', rfl⟩ : ∃ m', m = m' + 1 := ⟨m - 1, by omega⟩
            go_roundw
            case rel => exact ⟨m', k', acc, r, va, vl, vc, false, rfl, rfl, HVL.out, P3.out, HF2.out, by omega, by omega, by omega, by omega, f5 c4⟩
            case measure => rw [P3.out.rg.rest, P.out.rg.rest]; exact f1
theorem pattern_any : ∀ n, PatC (patN (some 200) n) n := by
  intro n
  induction n using Nat.strongRecOn with
  | ind n ih =>
    match n, ih with
    | 0, _ => exact fun g k l w hr hn => absurd hn (Nat.not_lt_zero _)
    | n + 1, ih =>
      intro g k l w hr hn hl hM hg0 hk
      cases hp : pre [94] l with
      | true => exact pattern_caret n (fun m hm => ih m (by omega)) g k l w hr hn hl hM hg0 hk hp
      | false => exact pattern_plain n (fun m hm => ih m (by omega)) g k l w hr hn hl hM hg0 hk hp
end Go.Proofs.Ytndmjndokokmnaa
