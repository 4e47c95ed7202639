import Derived.Test.YtnhbjjjoocpedaaYa
import Derived.RegionTactic
import Derived.Deep.RegionHeld3
namespace Go.Proofs.Ytnhbjjjoocpedaa
set_option linter.unusedSimpArgs false
set_option linter.unusedVariables false
open Go.RowKit
theorem wpAnyH_monoA {P : Program} {ops : Array Oper} {Q : Exit → Act → World → Prop} {md : Region.Mode} {S S' : World → Prop} (hSS : ∀ w, S' w → S w) : ∀ (fuel : Nat) (listed : Array Bool) (a : Act) (w : World), wpAnyH P md ops Q S' fuel listed a w → wpAnyH P md ops Q S fuel listed a w
  | 0, _, _, _, h => h
  | fuel + 1, _, _, _, h => ⟨h.1, fun i hi => wpOp_mono (fun a' w' h' => ⟨hSS w' h'.1, wpAnyH_monoA hSS fuel _ a' w' h'.2⟩) (h.2 i hi)⟩
/-- The condition grows behind a call. -/
theorem wpAnyH_grow {P : Program} {ops : Array Oper} {Q : Exit → Act → World → Prop} {md : Region.Mode} {S S' : World → Prop} (hSS : ∀ w, S' w → S w) {fuel : Nat} {listed : Array Bool} {a : Act} {w : World} (hS : S' w) (h : S' w → wpAnyH P md ops Q S' fuel listed a w) : wpAnyH P md ops Q S fuel listed a w :=
  wpAnyH_monoA hSS fuel listed a w (h hS)
theorem parse_call (s : ByteArray) (m : S4) (n e : Int) (hs : s.size ≤ 4000000) (hq : parseP s.data.toList 0 = (m, n, e)) :
    Hid (∀ w, MaxL w → Calls Try.prog 20 #[.string s, .int .i64 0] w fun e' w' => ∃ x0 x1 x2 x3, e' = .returned (.tuple #[.agg #[.int .u64 x0, .int .u64 x1, .int .u64 x2, .int .u64 x3], .int .i64 n, .int .i64 e]) ∧ SV m x0 x1 x2 x3 ∧ Below w.heap.size w w') := fun w h => by
  refine (parse_any s 0 w h hs (by decide)).mono fun e' w' ⟨x0, x1, x2, x3, he, hv, hb⟩ => ?_
  rw [hq] at he hv
  exact ⟨x0, x1, x2, x3, he, hv, hb⟩
theorem app_data (a s : ByteArray) : (a ++ s).data.toList = a.data.toList ++ s.data.toList := by simp
theorem parse_open (l : List UInt8) : parseP (91 :: l) 0 = match exprP l with | none => (S4.zero, 0, 10) | some (m, t) => (m, ((l.length + 1 : Nat) : Int) - t.length, 0) := by
  unfold parseP
  rw [if_neg (by simp)]
  rfl
theorem not_vals (l : List UInt8) (h : pre [94] l = false) :
    (restP true S4.zero l = none → parseP (91 :: l) 0 = (S4.zero, 0, 10) ∧ parseP (91 :: 94 :: l) 0 = (S4.zero, 0, 10)) ∧
    (∀ m t, restP true S4.zero l = some (m, t) → parseP (91 :: l) 0 = (m, (l.length : Int) + 1 - t.length, 0) ∧ parseP (91 :: 94 :: l) 0 = (m.not, (l.length : Int) + 1 - t.length + 1, 0)) := by
  have e1 : exprP l = restP true S4.zero l := by rw [exprP_eq, h]; rfl
  have e2 : exprP (94 :: l) = (restP true S4.zero l).map fun x => (x.1.not, x.2) := by rw [exprP_eq]; simp [pre, List.isPrefixOf]
  refine ⟨fun q => ?_, fun m t q => ?_⟩
  · rw [parse_open, parse_open, e1, e2, q]; exact ⟨rfl, rfl⟩
  · rw [parse_open, parse_open, e1, e2, q]
    refine ⟨?_, ?_⟩
    · show (m, _, _) = (m, _, _); congr 2
    · show (m.not, _, _) = (m.not, _, _); congr 2; simp; omega
set_option maxHeartbeats 4000000 in
set_option maxRecDepth 100000 in
theorem not_walk (s : ByteArray) (hs : s.size ≤ 9223372036854775807) (w : World) (hM : MaxL w) : Calls Try.prog 7 #[.string s] w fun e w' => e = .returned (.bool true) ∧ Below w.heap.size w w' := by
  have HM : Hid (MaxL w) := hM
  have AW : Hid (∀ w, MaxL w → Calls Try.prog 9 #[] w fun e w' => e = .returned (.bool true) ∧ Below w.heap.size w w') := fun w h => awake_any w h
  clear hM
  by_cases hl : (1000 : Int) < s.size
  · go_enter Try.func7, Try.ntmps7
    go_wp2_with fail
    refine (AW.out _ HM.out).mono ?_
    rintro e w1 ⟨rfl, b1⟩
    have B1 : Hid (Below w.heap.size w w1) := b1
    have M1 : Hid (MaxL w1) := HM.out.below b1
    clear b1
    go_wp2_with fail
    refine (AW.out _ M1.out).mono ?_
    rintro e w2 ⟨rfl, b2⟩
    have B2 : Hid (Below w.heap.size w w2) := B1.out.trans (b2.mono B1.out.size)
    clear b2
    go_wp2
    go_ret
    exact ⟨rfl, B2.out⟩
  · cases hp : pre [94] s.data.toList
    · -- the law's own question
      have hg : ¬ (0 : Int) < s.size ∨ ∃ h : 0 < s.size, (((s[0]'h).toNat : Int) == 94) = false := by
        by_cases h0 : 0 < s.size
        · right
          refine ⟨h0, ?_⟩
          rw [beq_eq_false_iff_ne]; intro q
          cases hq : s.data.toList with
          | nil => rw [Lib.size_eq, hq] at h0; simp at h0
          | cons c t =>
            have := (byte0 s c t hq).2 h0
            rw [hq] at hp
            have hc : c ≠ 94 := by intro e; rw [e] at hp; simp [pre, List.isPrefixOf] at hp
            rw [this.1] at q
            exact hc (UInt8.toNat_inj.1 (by show c.toNat = 94; omega))
        · left; omega
      have hv := not_vals s.data.toList hp
      have hsz : s.size ≤ 1000 := by omega
      have hA : (⟨#[91]⟩ ++ s : ByteArray).data.toList = 91 :: s.data.toList := by rw [app_data]; rfl
      have hB : (⟨#[91, 94]⟩ ++ s : ByteArray).data.toList = 91 :: 94 :: s.data.toList := by rw [app_data]; rfl
      have sA : (⟨#[91]⟩ ++ s : ByteArray).size ≤ 4000000 := by rw [Lib.size_eq, hA]; have := Lib.size_eq s; simp; omega
      have sB : (⟨#[91, 94]⟩ ++ s : ByteArray).size ≤ 4000000 := by rw [Lib.size_eq, hB]; have := Lib.size_eq s; simp; omega
      have o1 : ¬ 9223372036854775807 < 1 + s.size := by omega
      have o2 : ¬ 9223372036854775807 < 2 + s.size := by omega
      cases hr : restP true S4.zero s.data.toList with
      | none =>
        obtain ⟨p1, p2⟩ := hv.1 hr
        have P1 := parse_call _ S4.zero 0 10 sA (by rw [hA]; exact p1)
        have P2 := parse_call _ S4.zero 0 10 sB (by rw [hB]; exact p2)
        clear hv hA hB sA sB hr p1 p2 hp
        rcases hg with hg | ⟨hg0, hg⟩
        all_goals
          go_enter Try.func7, Try.ntmps7
          go_wp2_with fail
          refine (AW.out _ HM.out).mono ?_
          rintro e w1 ⟨rfl, b1⟩
          have B1 : Hid (Below w.heap.size w w1) := b1
          have M1 : Hid (MaxL w1) := HM.out.below b1
          clear b1
          go_wp2_with fail
          refine (P1.out _ M1.out).mono ?_
          rintro e w2 ⟨x0, x1, x2, x3, rfl, sv, b2⟩
          have B2 : Hid (Below w.heap.size w w2) := B1.out.trans (b2.mono B1.out.size)
          have M2 : Hid (MaxL (w2.alloc (.cells #[.int .u64 x0, .int .u64 x1, .int .u64 x2, .int .u64 x3] 26))) := (M1.out.below b2).alloc _
          clear b2 sv
          go_wp2_with fail
          refine (P2.out _ M2.out).mono ?_
          rintro e w3 ⟨y0, y1, y2, y3, rfl, sv, b3⟩
          have B3 : Hid (Below w.heap.size w w3) := (B2.out.alloc B2.out.size _).trans (b3.mono (by have := B2.out.size; simp; omega))
          clear b3 sv
          go_wp2
          try go_region
          go_wp2
          go_ret
          exact ⟨rfl, (B3.out.alloc B3.out.size _).drew⟩
      | some mt =>
        obtain ⟨m, t⟩ := mt
        obtain ⟨p1, p2⟩ := hv.2 m t hr
        have P1 := parse_call _ m ((s.data.toList.length : Int) + 1 - t.length) 0 sA (by rw [hA]; exact p1)
        have P2 := parse_call _ m.not ((s.data.toList.length : Int) + 1 - t.length + 1) 0 sB (by rw [hB]; exact p2)
        obtain ⟨N, hN⟩ : ∃ N, (s.data.toList.length : Int) + 1 - t.length = N := ⟨_, rfl⟩
        have hN0 : 0 ≤ N := by have := exprP_le (show exprP s.data.toList = some (m, t) by rw [exprP_eq, hp]; exact hr); omega
        have hN1 : N ≤ 100000 := by have := Lib.size_eq s; omega
        rw [hN] at P1 P2
        clear hv hA hB sA sB hr p1 p2 hp hN
        rcases hg with hg | ⟨hg0, hg⟩
        all_goals
          go_enter Try.func7, Try.ntmps7
          go_wp2_with fail
          refine (AW.out _ HM.out).mono ?_
          rintro e w1 ⟨rfl, b1⟩
          have B1 : Hid (Below w.heap.size w w1) := b1
          have M1 : Hid (MaxL w1) := HM.out.below b1
          clear b1
          go_wp2_with fail
          refine (P1.out _ M1.out).mono ?_
          rintro e w2 ⟨x0, x1, x2, x3, rfl, sv, b2⟩
          have B2 : Hid (Below w.heap.size w w2) := B1.out.trans (b2.mono B1.out.size)
          have M2 : Hid (MaxL (w2.alloc (.cells #[.int .u64 x0, .int .u64 x1, .int .u64 x2, .int .u64 x3] 26))) := (M1.out.below b2).alloc _
          have GN := not_at m x0 x1 x2 x3 sv
          clear b2 sv
          go_wp2_with fail
          refine (P2.out _ M2.out).mono ?_
          rintro e w3 ⟨y0, y1, y2, y3, rfl, sv, b3⟩
          have B3 : Hid (Below w.heap.size w w3) := (B2.out.alloc B2.out.size _).trans (b3.mono (by have := B2.out.size; simp; omega))
          have X3 : Hid (BoxS w3 w2.heap.size x0 x1 x2 x3) := (BoxS.new w2 26 x0 x1 x2 x3).below b3 (by simp)
          have hz3 : w2.heap.size < w3.heap.size := by have := b3.size; simp at this; omega
          have HSV : Hid (SV m.not y0 y1 y2 y3) := sv
          have GN : Hid (∀ W, Calls Try.prog 16 #[.agg #[.int .u64 x0, .int .u64 x1, .int .u64 x2, .int .u64 x3]] W fun e w' => e = .returned (.agg #[.int .u64 y0, .int .u64 y1, .int .u64 y2, .int .u64 y3]) ∧ Below W.heap.size W w') := fun W => (GN.out W).mono fun e w' ⟨z0, z1, z2, z3, he, hz, hb⟩ => by
            obtain ⟨rfl, rfl, rfl, rfl⟩ := HSV.out.uniq hz
            exact ⟨he, hb⟩
          have heq : ∀ W, (Op.equalIn 10000 26 (.agg #[.int .u64 y0, .int .u64 y1, .int .u64 y2, .int .u64 y3]) (.agg #[.int .u64 y0, .int .u64 y1, .int .u64 y2, .int .u64 y3])).run Try.prog W = .ok true W := fun W => eq26_self y0 y1 y2 y3 W
          obtain ⟨⟨ka, kb, kc, kd⟩, _⟩ := id X3.out
          clear b3 sv HSV
          go_wp2
          obtain ⟨W, hW⟩ : ∃ W, W = w3.alloc (.cells #[.int .u64 y0, .int .u64 y1, .int .u64 y2, .int .u64 y3] 26) := ⟨_, rfl⟩
          have BA : Hid (BoxS W w2.heap.size x0 x1 x2 x3) := by rw [hW]; exact X3.out.below ((Below.refl _ _).alloc (Nat.le_refl _) _) hz3
          have BB : Hid (BoxS W w3.heap.size y0 y1 y2 y3) := by rw [hW]; exact BoxS.new w3 26 y0 y1 y2 y3
          have BW : Hid (Below w.heap.size w W ∧ w.heap.size ≤ W.heap.size) := by rw [hW]; exact ⟨B3.out.alloc B3.out.size _, by have := B3.out.size; simp; omega⟩
          have hwb : w3.heap.size < W.heap.size := by rw [hW]; simp
          have hwa : w2.heap.size < W.heap.size := by omega
          rw [← hW]
          clear hW ka kb kc kd X3
          refine wp_region_noPanic ?_
          refine wp_region_held_drew (S := fun w' => Below W.heap.size W w') (by kernel_rfl) ((Below.refl _ _).drew) (fun hHeld => ?_)
          try simp only [Act.put, List.setIfInBounds_toArray, List.set_cons_zero, List.set_cons_succ]
          refine wpAnyH_take (i := 0) (oi := { dst := some 44, op := Go.Op.move (Go.Operand.tmp 5), type := 39, pos := "law.go:66", after := #[], guard := none }) (v := ?_) rfl (by kernel_rfl) (by kernel_rfl) (by kernel_rfl) (fun _ _ _ h => h) (Or.inl ⟨by rfl, ?_⟩) hHeld ?_
          rotate_left 1
          · (intro wq hSq; (try dsimp only at hSq); go_simp; first | done | with_reducible rfl)
          try simp only [Act.put, List.setIfInBounds_toArray, List.set_cons_zero, List.set_cons_succ]
          refine wpAnyH_take (i := 1) (oi := { dst := some 45, op := Go.Op.binOp Go.BinOp.neq 39 (Go.Operand.tmp 44) (Go.Operand.const (Go.Value.int Go.IntKind.i64 0)) 39, type := 4, pos := "law.go:66", after := #[{ on := 0, ground := Go.Ground.data }], guard := none }) (v := ?_) rfl (by kernel_rfl) (by kernel_rfl) (by kernel_rfl) (fun _ _ _ h => h) (Or.inl ⟨by rfl, ?_⟩) hHeld ?_
          rotate_left 1
          · (intro wq hSq; (try dsimp only at hSq); go_simp; first | done | with_reducible rfl)
          try simp only [Act.put, List.setIfInBounds_toArray, List.set_cons_zero, List.set_cons_succ]
          refine wpAnyH_take (i := 2) (oi := { dst := some 46, op := Go.Op.move (Go.Operand.tmp 45), type := 4, pos := "law.go:66", after := #[{ on := 1, ground := Go.Ground.data }], guard := none }) (v := ?_) rfl (by kernel_rfl) (by kernel_rfl) (by kernel_rfl) (fun _ _ _ h => h) (Or.inl ⟨by rfl, ?_⟩) hHeld ?_
          rotate_left 1
          · (intro wq hSq; (try dsimp only at hSq); go_simp; first | done | with_reducible rfl)
          try simp only [Act.put, List.setIfInBounds_toArray, List.set_cons_zero, List.set_cons_succ]
          refine wpAnyH_take (i := 3) (oi := { dst := some 47, op := Go.Op.move (Go.Operand.tmp 4), type := 3, pos := "law.go:66", after := #[{ on := 2, ground := Go.Ground.guard }], guard := some (2, true) }) (v := undef) rfl (by kernel_rfl) (by kernel_rfl) (by kernel_rfl) (fun _ _ _ h => h) (Or.inr ⟨by rfl, rfl⟩) hHeld ?_
          try simp only [Act.put, List.setIfInBounds_toArray, List.set_cons_zero, List.set_cons_succ]
          refine wpAnyH_take (i := 4) (oi := { dst := some 48, op := Go.Op.binOp Go.BinOp.eql 3 (Go.Operand.tmp 47) (Go.Operand.const (Go.Value.int Go.IntKind.i64 0)) 3, type := 4, pos := "law.go:66", after := #[{ on := 3, ground := Go.Ground.data }, { on := 2, ground := Go.Ground.guard }], guard := some (2, true) }) (v := undef) rfl (by kernel_rfl) (by kernel_rfl) (by kernel_rfl) (fun _ _ _ h => h) (Or.inr ⟨by rfl, rfl⟩) hHeld ?_
          try simp only [Act.put, List.setIfInBounds_toArray, List.set_cons_zero, List.set_cons_succ]
          refine wpAnyH_take (i := 5) (oi := { dst := some 49, op := Go.Op.pick (Go.Operand.tmp 46) (Go.Operand.tmp 48) (Go.Operand.const (Go.Value.bool false)), type := 4, pos := "law.go:66", after := #[{ on := 2, ground := Go.Ground.data }, { on := 4, ground := Go.Ground.data }], guard := none }) (v := ?_) rfl (by kernel_rfl) (by kernel_rfl) (by kernel_rfl) (fun _ _ _ h => h) (Or.inl ⟨by rfl, ?_⟩) hHeld ?_
          rotate_left 1
          · (intro wq hSq; (try dsimp only at hSq); go_simp; first | done | with_reducible rfl)
          try simp only [Act.put, List.setIfInBounds_toArray, List.set_cons_zero, List.set_cons_succ]
          refine wpAnyH_take (i := 6) (oi := { dst := some 50, op := Go.Op.move (Go.Operand.tmp 49), type := 4, pos := "law.go:66", after := #[{ on := 5, ground := Go.Ground.data }, { on := 2, ground := Go.Ground.chain }], guard := none }) (v := ?_) rfl (by kernel_rfl) (by kernel_rfl) (by kernel_rfl) (fun _ _ _ h => h) (Or.inl ⟨by rfl, ?_⟩) hHeld ?_
          rotate_left 1
          · (intro wq hSq; (try dsimp only at hSq); go_simp; first | done | with_reducible rfl)
          try simp only [Act.put, List.setIfInBounds_toArray, List.set_cons_zero, List.set_cons_succ]
          refine wpAnyH_take (i := 7) (oi := { dst := some 51, op := Go.Op.move (Go.Operand.tmp 7), type := 3, pos := "law.go:66", after := #[{ on := 6, ground := Go.Ground.guard }], guard := some (6, true) }) (v := undef) rfl (by kernel_rfl) (by kernel_rfl) (by kernel_rfl) (fun _ _ _ h => h) (Or.inr ⟨by rfl, rfl⟩) hHeld ?_
          try simp only [Act.put, List.setIfInBounds_toArray, List.set_cons_zero, List.set_cons_succ]
          refine wpAnyH_take (i := 8) (oi := { dst := some 52, op := Go.Op.binOp Go.BinOp.eql 3 (Go.Operand.tmp 51) (Go.Operand.const (Go.Value.int Go.IntKind.i64 0)) 3, type := 4, pos := "law.go:66", after := #[{ on := 7, ground := Go.Ground.data }, { on := 6, ground := Go.Ground.guard }], guard := some (6, true) }) (v := undef) rfl (by kernel_rfl) (by kernel_rfl) (by kernel_rfl) (fun _ _ _ h => h) (Or.inr ⟨by rfl, rfl⟩) hHeld ?_
          try simp only [Act.put, List.setIfInBounds_toArray, List.set_cons_zero, List.set_cons_succ]
          refine wpAnyH_take (i := 9) (oi := { dst := some 53, op := Go.Op.pick (Go.Operand.tmp 50) (Go.Operand.tmp 52) (Go.Operand.const (Go.Value.bool false)), type := 4, pos := "law.go:66", after := #[{ on := 6, ground := Go.Ground.data }, { on := 8, ground := Go.Ground.data }], guard := none }) (v := ?_) rfl (by kernel_rfl) (by kernel_rfl) (by kernel_rfl) (fun _ _ _ h => h) (Or.inl ⟨by rfl, ?_⟩) hHeld ?_
          rotate_left 1
          · (intro wq hSq; (try dsimp only at hSq); go_simp; first | done | with_reducible rfl)
          try simp only [Act.put, List.setIfInBounds_toArray, List.set_cons_zero, List.set_cons_succ]
          refine wpAnyH_take (i := 10) (oi := { dst := some 54, op := Go.Op.move (Go.Operand.tmp 53), type := 4, pos := "law.go:66", after := #[{ on := 9, ground := Go.Ground.data }, { on := 6, ground := Go.Ground.chain }], guard := none }) (v := ?_) rfl (by kernel_rfl) (by kernel_rfl) (by kernel_rfl) (fun _ _ _ h => h) (Or.inl ⟨by rfl, ?_⟩) hHeld ?_
          rotate_left 1
          · (intro wq hSq; (try dsimp only at hSq); go_simp; first | done | with_reducible rfl)
          try simp only [Act.put, List.setIfInBounds_toArray, List.set_cons_zero, List.set_cons_succ]
          refine wpAnyH_take (i := 11) (oi := { dst := some 55, op := Go.Op.move (Go.Operand.tmp 5), type := 39, pos := "law.go:66", after := #[{ on := 10, ground := Go.Ground.guard }], guard := some (10, false) }) (v := ?_) rfl (by kernel_rfl) (by kernel_rfl) (by kernel_rfl) (fun _ _ _ h => h) (Or.inl ⟨by rfl, ?_⟩) hHeld ?_
          rotate_left 1
          · (intro wq hSq; (try dsimp only at hSq); go_simp; first | done | with_reducible rfl)
          try simp only [Act.put, List.setIfInBounds_toArray, List.set_cons_zero, List.set_cons_succ]
          refine wpAnyH_take (i := 12) (oi := { dst := some 56, op := Go.Op.binOp Go.BinOp.eql 39 (Go.Operand.tmp 55) (Go.Operand.const (Go.Value.int Go.IntKind.i64 0)) 39, type := 4, pos := "law.go:66", after := #[{ on := 11, ground := Go.Ground.data }, { on := 10, ground := Go.Ground.guard }], guard := some (10, false) }) (v := ?_) rfl (by kernel_rfl) (by kernel_rfl) (by kernel_rfl) (fun _ _ _ h => h) (Or.inl ⟨by rfl, ?_⟩) hHeld ?_
          rotate_left 1
          · (intro wq hSq; (try dsimp only at hSq); go_simp; first | done | with_reducible rfl)
          try simp only [Act.put, List.setIfInBounds_toArray, List.set_cons_zero, List.set_cons_succ]
          refine wpAnyH_take (i := 13) (oi := { dst := some 57, op := Go.Op.move (Go.Operand.tmp 56), type := 4, pos := "law.go:66", after := #[{ on := 12, ground := Go.Ground.data }, { on := 10, ground := Go.Ground.chain }, { on := 10, ground := Go.Ground.guard }], guard := some (10, false) }) (v := ?_) rfl (by kernel_rfl) (by kernel_rfl) (by kernel_rfl) (fun _ _ _ h => h) (Or.inl ⟨by rfl, ?_⟩) hHeld ?_
          rotate_left 1
          · (intro wq hSq; (try dsimp only at hSq); go_simp; first | done | with_reducible rfl)
          try simp only [Act.put, List.setIfInBounds_toArray, List.set_cons_zero, List.set_cons_succ]
          refine wpAnyH_take (i := 14) (oi := { dst := some 58, op := Go.Op.load 26 (Go.Operand.tmp 6), type := 26, pos := "law.go:66", after := #[{ on := 13, ground := Go.Ground.guard }], guard := some (13, true) }) (v := .agg #[.int .u64 y0, .int .u64 y1, .int .u64 y2, .int .u64 y3]) rfl (by kernel_rfl) (by kernel_rfl) (by kernel_rfl) (fun _ _ _ h => h) (Or.inl ⟨by rfl, ?_⟩) hHeld ?_
          · (intro wq hSq; (try dsimp only at hSq); obtain ⟨⟨qa, qb, qc, qd⟩, _⟩ := BB.out.below hSq hwb; go_simp; first | done | with_reducible rfl)
          try simp only [Act.put, List.setIfInBounds_toArray, List.set_cons_zero, List.set_cons_succ]
          refine wpAnyH_take (i := 15) (oi := { dst := some 59, op := Go.Op.load 26 (Go.Operand.tmp 3), type := 26, pos := "law.go:66", after := #[{ on := 13, ground := Go.Ground.guard }], guard := some (13, true) }) (v := .agg #[.int .u64 x0, .int .u64 x1, .int .u64 x2, .int .u64 x3]) rfl (by kernel_rfl) (by kernel_rfl) (by kernel_rfl) (fun _ _ _ h => h) (Or.inl ⟨by rfl, ?_⟩) hHeld ?_
          · (intro wq hSq; (try dsimp only at hSq); obtain ⟨⟨qa, qb, qc, qd⟩, _⟩ := BA.out.below hSq hwa; go_simp; first | done | with_reducible rfl)
          try simp only [Act.put, List.setIfInBounds_toArray, List.set_cons_zero, List.set_cons_succ]
          refine wpAnyH_ready (rs := [16]) (by kernel_rfl) (by simp) ?_
          refine AllReadyH.cons (o := { dst := some 60, op := Go.Op.call { callee := Go.Callee.value (Go.Operand.func 16), args := #[Go.Operand.tmp 59], argTypes := #[26] }, type := 26, pos := "law.go:66", after := #[{ on := 15, ground := Go.Ground.data }, { on := 13, ground := Go.Ground.chain }, { on := 13, ground := Go.Ground.guard }], guard := some (13, true) }) rfl (fun K hK => ?_) AllReadyH.nil
          go_simp
          refine (GN.out _).mono ?_
          rintro e w5 ⟨rfl, b5⟩
          refine hK.out _ _ (hHeld.trans (b5.mono hHeld.size)) (fun hHeld1 => ?_)
          clear hK K hHeld
          try simp only [Act.put, List.setIfInBounds_toArray, List.set_cons_zero, List.set_cons_succ]
          refine wpAnyH_take (i := 17) (oi := { dst := some 61, op := Go.Op.binOp Go.BinOp.eql 26 (Go.Operand.tmp 58) (Go.Operand.tmp 60) 26, type := 4, pos := "law.go:66", after := #[{ on := 14, ground := Go.Ground.data }, { on := 16, ground := Go.Ground.data }, { on := 13, ground := Go.Ground.guard }], guard := some (13, true) }) (v := .bool true) rfl (by kernel_rfl) (by kernel_rfl) (by kernel_rfl) (fun _ _ _ h => h) (Or.inl ⟨by rfl, ?_⟩) hHeld1 ?_
          · (intro wq hSq; (try dsimp only at hSq); go_simp; first | done | with_reducible rfl)
          try simp only [Act.put, List.setIfInBounds_toArray, List.set_cons_zero, List.set_cons_succ]
          refine wpAnyH_take (i := 18) (oi := { dst := some 62, op := Go.Op.pick (Go.Operand.tmp 57) (Go.Operand.tmp 61) (Go.Operand.const (Go.Value.bool false)), type := 4, pos := "law.go:66", after := #[{ on := 13, ground := Go.Ground.data }, { on := 17, ground := Go.Ground.data }, { on := 10, ground := Go.Ground.guard }], guard := some (10, false) }) (v := ?_) rfl (by kernel_rfl) (by kernel_rfl) (by kernel_rfl) (fun _ _ _ h => h) (Or.inl ⟨by rfl, ?_⟩) hHeld1 ?_
          rotate_left 1
          · (intro wq hSq; (try dsimp only at hSq); go_simp; first | done | with_reducible rfl)
          try simp only [Act.put, List.setIfInBounds_toArray, List.set_cons_zero, List.set_cons_succ]
          refine wpAnyH_take (i := 19) (oi := { dst := some 63, op := Go.Op.move (Go.Operand.tmp 62), type := 4, pos := "law.go:66", after := #[{ on := 18, ground := Go.Ground.data }, { on := 16, ground := Go.Ground.chain }, { on := 10, ground := Go.Ground.guard }], guard := some (10, false) }) (v := ?_) rfl (by kernel_rfl) (by kernel_rfl) (by kernel_rfl) (fun _ _ _ h => h) (Or.inl ⟨by rfl, ?_⟩) hHeld1 ?_
          rotate_left 1
          · (intro wq hSq; (try dsimp only at hSq); go_simp; first | done | with_reducible rfl)
          try simp only [Act.put, List.setIfInBounds_toArray, List.set_cons_zero, List.set_cons_succ]
          refine wpAnyH_take (i := 20) (oi := { dst := some 64, op := Go.Op.move (Go.Operand.tmp 7), type := 3, pos := "law.go:66", after := #[{ on := 19, ground := Go.Ground.guard }], guard := some (19, true) }) (v := ?_) rfl (by kernel_rfl) (by kernel_rfl) (by kernel_rfl) (fun _ _ _ h => h) (Or.inl ⟨by rfl, ?_⟩) hHeld1 ?_
          rotate_left 1
          · (intro wq hSq; (try dsimp only at hSq); go_simp; first | done | with_reducible rfl)
          try simp only [Act.put, List.setIfInBounds_toArray, List.set_cons_zero, List.set_cons_succ]
          refine wpAnyH_take (i := 21) (oi := { dst := some 65, op := Go.Op.move (Go.Operand.tmp 4), type := 3, pos := "law.go:66", after := #[{ on := 19, ground := Go.Ground.guard }], guard := some (19, true) }) (v := ?_) rfl (by kernel_rfl) (by kernel_rfl) (by kernel_rfl) (fun _ _ _ h => h) (Or.inl ⟨by rfl, ?_⟩) hHeld1 ?_
          rotate_left 1
          · (intro wq hSq; (try dsimp only at hSq); go_simp; first | done | with_reducible rfl)
          try simp only [Act.put, List.setIfInBounds_toArray, List.set_cons_zero, List.set_cons_succ]
          refine wpAnyH_take (i := 22) (oi := { dst := some 66, op := Go.Op.binOp Go.BinOp.add 3 (Go.Operand.tmp 65) (Go.Operand.const (Go.Value.int Go.IntKind.i64 1)) 3, type := 3, pos := "law.go:66", after := #[{ on := 21, ground := Go.Ground.data }, { on := 19, ground := Go.Ground.guard }], guard := some (19, true) }) (v := ?_) rfl (by kernel_rfl) (by kernel_rfl) (by kernel_rfl) (fun _ _ _ h => h) (Or.inl ⟨by rfl, ?_⟩) hHeld1 ?_
          rotate_left 1
          · (intro wq hSq; (try dsimp only at hSq); go_simp; first | done | with_reducible rfl)
          try simp only [Act.put, List.setIfInBounds_toArray, List.set_cons_zero, List.set_cons_succ]
          refine wpAnyH_take (i := 23) (oi := { dst := some 67, op := Go.Op.binOp Go.BinOp.eql 3 (Go.Operand.tmp 64) (Go.Operand.tmp 66) 3, type := 4, pos := "law.go:66", after := #[{ on := 20, ground := Go.Ground.data }, { on := 22, ground := Go.Ground.data }, { on := 19, ground := Go.Ground.guard }], guard := some (19, true) }) (v := ?_) rfl (by kernel_rfl) (by kernel_rfl) (by kernel_rfl) (fun _ _ _ h => h) (Or.inl ⟨by rfl, ?_⟩) hHeld1 ?_
          rotate_left 1
          · (intro wq hSq; (try dsimp only at hSq); go_simp; first | done | with_reducible rfl)
          try simp only [Act.put, List.setIfInBounds_toArray, List.set_cons_zero, List.set_cons_succ]
          refine wpAnyH_take (i := 24) (oi := { dst := some 68, op := Go.Op.pick (Go.Operand.tmp 63) (Go.Operand.tmp 67) (Go.Operand.const (Go.Value.bool false)), type := 4, pos := "law.go:66", after := #[{ on := 19, ground := Go.Ground.data }, { on := 23, ground := Go.Ground.data }, { on := 10, ground := Go.Ground.guard }], guard := some (10, false) }) (v := ?_) rfl (by kernel_rfl) (by kernel_rfl) (by kernel_rfl) (fun _ _ _ h => h) (Or.inl ⟨by rfl, ?_⟩) hHeld1 ?_
          rotate_left 1
          · (intro wq hSq; (try dsimp only at hSq); go_simp; first | done | with_reducible rfl)
          try simp only [Act.put, List.setIfInBounds_toArray, List.set_cons_zero, List.set_cons_succ]
          refine wpAnyH_take (i := 25) (oi := { dst := some 69, op := Go.Op.pick (Go.Operand.tmp 54) (Go.Operand.const (Go.Value.bool true)) (Go.Operand.tmp 68), type := 4, pos := "law.go:66", after := #[{ on := 10, ground := Go.Ground.data }, { on := 24, ground := Go.Ground.data }], guard := none }) (v := ?_) rfl (by kernel_rfl) (by kernel_rfl) (by kernel_rfl) (fun _ _ _ h => h) (Or.inl ⟨by rfl, ?_⟩) hHeld1 ?_
          rotate_left 1
          · (intro wq hSq; (try dsimp only at hSq); go_simp; first | done | with_reducible rfl)
          try simp only [Act.put, List.setIfInBounds_toArray, List.set_cons_zero, List.set_cons_succ]
          refine wpAnyH_take (i := 26) (oi := { dst := some 2, op := Go.Op.assign (Go.Operand.tmp 69), type := 4, pos := "law.go:66", after := #[{ on := 25, ground := Go.Ground.data }, { on := 19, ground := Go.Ground.chain }, { on := 0, ground := Go.Ground.phase }, { on := 1, ground := Go.Ground.phase }, { on := 2, ground := Go.Ground.phase }, { on := 3, ground := Go.Ground.phase }, { on := 4, ground := Go.Ground.phase }, { on := 5, ground := Go.Ground.phase }, { on := 6, ground := Go.Ground.phase }, { on := 7, ground := Go.Ground.phase }, { on := 8, ground := Go.Ground.phase }, { on := 9, ground := Go.Ground.phase }, { on := 10, ground := Go.Ground.phase }, { on := 11, ground := Go.Ground.phase }, { on := 12, ground := Go.Ground.phase }, { on := 13, ground := Go.Ground.phase }, { on := 14, ground := Go.Ground.phase }, { on := 15, ground := Go.Ground.phase }, { on := 16, ground := Go.Ground.phase }, { on := 17, ground := Go.Ground.phase }, { on := 18, ground := Go.Ground.phase }, { on := 19, ground := Go.Ground.phase }, { on := 20, ground := Go.Ground.phase }, { on := 21, ground := Go.Ground.phase }, { on := 22, ground := Go.Ground.phase }, { on := 23, ground := Go.Ground.phase }, { on := 24, ground := Go.Ground.phase }, { on := 25, ground := Go.Ground.phase }], guard := none }) (v := ?_) rfl (by kernel_rfl) (by kernel_rfl) (by kernel_rfl) (fun _ _ _ h => h) (Or.inl ⟨by rfl, ?_⟩) hHeld1 ?_
          rotate_left 1
          · (intro wq hSq; (try dsimp only at hSq); go_simp; first | done | with_reducible rfl)
          try simp only [Act.put, List.setIfInBounds_toArray, List.set_cons_zero, List.set_cons_succ]
          refine wpAnyH_done (by kernel_rfl) ?_ _
          refine NoPanic.normal ?_
          go_wp2
          go_ret
          exact ⟨by show Ending.returned (.bool (N + 1 == IntKind.i64.wrap (N + 1))) = _; rw [show IntKind.i64.wrap (N + 1) = N + 1 by rw [IntKind.wrap_i64]; omega]; simp, BW.out.1.trans (hHeld1.mono BW.out.2)⟩
    · have hg : ∃ h : 0 < s.size, (((s[0]'h).toNat : Int) == 94) = true := by
        cases hq : s.data.toList with
        | nil => rw [hq] at hp; simp [pre, List.isPrefixOf] at hp
        | cons c t =>
          have h0 := (byte0 s c t hq).1
          refine ⟨h0, ?_⟩
          rw [hq] at hp
          have hc : c = 94 := by simp [pre, List.isPrefixOf] at hp; exact hp.symm
          rw [((byte0 s c t hq).2 h0).1, hc]; rfl
      obtain ⟨hg0, hg⟩ := hg
      clear hp
      go_enter Try.func7, Try.ntmps7
      go_wp2_with fail
      refine (AW.out _ HM.out).mono ?_
      rintro e w1 ⟨rfl, b1⟩
      have B1 : Hid (Below w.heap.size w w1) := b1
      have M1 : Hid (MaxL w1) := HM.out.below b1
      clear b1
      go_wp2_with fail
      refine (AW.out _ M1.out).mono ?_
      rintro e w2 ⟨rfl, b2⟩
      have B2 : Hid (Below w.heap.size w w2) := B1.out.trans (b2.mono B1.out.size)
      clear b2
      go_wp2
      go_ret
      exact ⟨rfl, B2.out⟩
end Go.Proofs.Ytnhbjjjoocpedaa
