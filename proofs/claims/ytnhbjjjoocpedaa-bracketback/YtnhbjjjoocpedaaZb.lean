import Derived.Test.YtnhbjjjoocpedaaZa
import Derived.Test.YtnhbjjjoocpedaaWe
import Derived.Deep.RegionHeld3
import Derived.Deep.RegionWith
namespace Go.Proofs.Ytnhbjjjoocpedaa
set_option linter.unusedSimpArgs false
set_option linter.unusedVariables false
open Go.RowKit
def tailR (f : UInt8) (t : List UInt8) : Option (S4 × List UInt8) := if t = [45] then some (S4.zero.rng f.toNat f.toNat, t) else tailP f t
def memberR (l : List UInt8) : Option (S4 × List UInt8) :=
  if pre [91, 61] l then (byteA [61, 93] (l.drop 2)).map (fun x => (S4.zero.rng x.1.toNat x.1.toNat, x.2))
  else if pre [91, 58] l then classP (l.drop 2)
  else match singleP l with
    | none => none
    | some (f, t) => tailR f t
/-- What the reference's member hands back. -/
def MemR (o : Option (S4 × List UInt8)) (s : ByteArray) (k : Nat) (w : World) (e : Ending) (w' : World) : Prop :=
  ∃ (x0 x1 x2 x3 : Int) (n : Nat) (ok : Bool), e = .returned (.tuple #[.agg #[.int .u64 x0, .int .u64 x1, .int .u64 x2, .int .u64 x3], .int .i64 n, .bool ok]) ∧ Below w.heap.size w w' ∧ o.isSome = ok ∧ (ok = true → ∃ m, o = some (m, from_ s n) ∧ SV m x0 x1 x2 x3 ∧ k < n ∧ n ≤ s.size)
def two0 (w : World) : World := (w.alloc (.cells #[.int .u64 0, .int .u64 0, .int .u64 0, .int .u64 0] 24)).alloc (.cells #[.int .u64 0, .int .u64 0, .int .u64 0, .int .u64 0] 24)
theorem two0_below (w : World) : Below w.heap.size w (two0 w) := ((Below.refl _ _).alloc (Nat.le_refl _) _).alloc (by simp) _
theorem two0_box (w : World) : Box4 (two0 w) w.heap.size := (Box4.new w 24).more (by simp) _
theorem two0_box2 (w : World) : Box4 (two0 w) (w.heap.size + 1) := by
  have := Box4.new (w.alloc (.cells #[.int .u64 0, .int .u64 0, .int .u64 0, .int .u64 0] 24)) 24
  have e : (w.alloc (.cells #[.int .u64 0, .int .u64 0, .int .u64 0, .int .u64 0] 24)).heap.size = w.heap.size + 1 := by simp
  rw [e] at this; exact this
theorem two0_size (w : World) : (two0 w).heap.size = w.heap.size + 2 := by simp [two0]
theorem put0 {w w2 : World} (h : Below w.heap.size w w2) (v0 v1 v2 v3 : Value) :
    Below w.heap.size w ((((w2.setCell ⟨w.heap.size, 0, none⟩ v0).setCell ⟨w.heap.size, 1, none⟩ v1).setCell ⟨w.heap.size, 2, none⟩ v2).setCell ⟨w.heap.size, 3, none⟩ v3) :=
  (((h.setCell (p := ⟨w.heap.size, 0, none⟩) (Nat.le_refl _) _).setCell (p := ⟨w.heap.size, 1, none⟩) (Nat.le_refl _) _).setCell (p := ⟨w.heap.size, 2, none⟩) (Nat.le_refl _) _).setCell (p := ⟨w.heap.size, 3, none⟩) (Nat.le_refl _) _
theorem with_zero15 (f t : Nat) (hf : f < 256) (ht : t < 256) :
    Hid (∀ w, Calls Try.prog 15 #[.agg #[.int .u64 0, .int .u64 0, .int .u64 0, .int .u64 0], .int .u8 f, .int .u8 t] w fun e w' => ∃ y0 y1 y2 y3, e = .returned (.agg #[.int .u64 y0, .int .u64 y1, .int .u64 y2, .int .u64 y3]) ∧ SV (S4.zero.rng f t) y0 y1 y2 y3 ∧ Below w.heap.size w w') := fun w => with_any15 S4.zero f t hf ht 0 0 0 0 SV.nought w
theorem sin_none (s : ByteArray) (k : Nat) (hs : s.size ≤ 4000000) (h : singleP (from_ s k) = none) :
    Hid (∀ w, Calls Try.prog 32 #[.string s, .int .i64 k] w fun e w' => ∃ (c n : Nat), e = .returned (.tuple #[.int .u8 c, .int .i64 n, .bool false]) ∧ w = w') := fun w => (single_any s k w hs).mono fun e w' ⟨c, n, ok, he, hw, h1, h2⟩ => by
  rw [h] at h1; cases ok
  · exact ⟨c, n, he, hw⟩
  · cases h1
theorem sin_some (s : ByteArray) (k : Nat) (hs : s.size ≤ 4000000) (x : UInt8) (n : Nat) (hn : n ≤ s.size) (h : singleP (from_ s k) = some (x, from_ s n)) :
    Hid (∀ w, Calls Try.prog 32 #[.string s, .int .i64 k] w fun e w' => e = .returned (.tuple #[.int .u8 (x.toNat : Int), .int .i64 n, .bool true]) ∧ w = w') := fun w => (single_any s k w hs).mono fun e w' ⟨c, n', ok, he, hw, h1, h2⟩ => by
  rw [h] at h1 h2
  cases ok
  · cases h1
  · obtain ⟨x', hc, hx, hk, hn'⟩ := h2 rfl
    simp only [Option.some.injEq, Prod.mk.injEq] at hx
    obtain ⟨rfl, hf⟩ := hx
    have := congrArg List.length hf
    rw [from_len, from_len] at this
    have e : n = n' := by omega
    subst e
    rw [hc] at he
    exact ⟨he, hw⟩
theorem single_shape (s : ByteArray) (k : Nat) (hs : s.size ≤ 4000000) (x : UInt8) (t : List UInt8) (h : singleP (from_ s k) = some (x, t)) : ∃ n, t = from_ s n ∧ k < n ∧ n ≤ s.size := by
  by_cases hk : k < s.size
  · have hl := singleP_lt h
    rw [from_len] at hl
    have hsuf : ∃ j, t = (from_ s k).drop j := by
      unfold singleP at h
      split at h
      · unfold byteA at h
        split at h
        · cases h
        · rename_i c u hu
          split at h
          · cases h
          · split at h
            · simp only [Option.some.injEq, Prod.mk.injEq] at h
              refine ⟨5, ?_⟩
              rw [← h.2]
              have : u = (from_ s k).drop 3 := by rw [show 3 = 2 + 1 from rfl, ← List.drop_drop, hu]; rfl
              rw [this, List.drop_drop]; rfl
            · cases h
      · split at h
        · simp only [Option.some.injEq, Prod.mk.injEq] at h
          exact ⟨2, h.2.symm⟩
        · unfold byteA at h
          split at h
          · cases h
          · rename_i c u hu
            split at h
            · cases h
            · split at h
              · simp only [Option.some.injEq, Prod.mk.injEq] at h
                refine ⟨1, ?_⟩
                rw [hu, ← h.2]; rfl
              · cases h
    obtain ⟨j, hj⟩ := hsuf
    rw [from_drop] at hj
    have hlen : t.length = s.size - (k + j) := by rw [hj, from_len]
    by_cases hjs : k + j ≤ s.size
    · exact ⟨k + j, hj, by omega, hjs⟩
    · refine ⟨s.size, ?_, by omega, Nat.le_refl _⟩
      rw [hj, from_nil s _ (by omega), from_nil s _ (Nat.le_refl _)]
  · rw [from_nil s k (by omega)] at h; cases h
set_option maxHeartbeats 2000000 in
set_option maxRecDepth 100000 in
theorem mem_eq_short (s : ByteArray) (k : Nat) (w : World) (hs : s.size ≤ 4000000) (h : k < s.size) (h1 : k + 1 < s.size) (h0 : s[k] = 91) (h2 : s[k + 1] = 61) (h5 : s.size < k + 5) : Calls Try.prog 26 #[.string s, .int .i64 k] w (MemR (memberR (from_ s k)) s k w) := by
  have HE0 : memberR (from_ s k) = (byteA [61, 93] (from_ s (k + 2))).map (fun x => (S4.zero.rng x.1.toNat x.1.toNat, x.2)) := by rw [from_cons s k h, from_cons s (k + 1) h1, h0, h2]; simp [memberR, pre2]
  have HE : Hid (memberR (from_ s k) = none) := by unfold Hid; rw [HE0, byteA_short _ _ (by rw [from_len]; simp; omega)]; rfl
  have hi2 : (2 : Int) ≤ s.size - k := by omega
  have hk0 : (k : Int) < s.size := by omega
  have hk1 : (k : Int) + 1 < s.size := by omega
  have hv : ((s[k]'h).toNat : Int) = 91 := by rw [h0]; rfl
  have hv1 : ((s[k + 1]'h1).toNat : Int) = 61 := by rw [h2]; rfl
  have hi5 : (s.size : Int) - k < 5 := by omega
  clear h0 h2 HE0
  go_enter Try.func26, Try.ntmps26
  go_wp2
  all_goals exact bodyPost_ret (v := .tuple #[.agg #[.int .u64 0, .int .u64 0, .int .u64 0, .int .u64 0], .int .i64 0, .bool false]) (by simp [results, Try.results26, go_sem]) rfl ⟨0, 0, 0, 0, 0, false, rfl, by (repeat first | exact Below.refl _ _ | refine Below.alloc ?_ (by simp) _ | refine Below.setCell ?_ (by simp) _), by rw [HE.out]; rfl, fun q => by cases q⟩
set_option maxHeartbeats 2000000 in
set_option maxRecDepth 100000 in
theorem mem_eq_lf (s : ByteArray) (k : Nat) (w : World) (hs : s.size ≤ 4000000) (h : k < s.size) (h1 : k + 1 < s.size) (h0 : s[k] = 91) (h2 : s[k + 1] = 61) (h5 : k + 5 ≤ s.size) (h3 : s[k + 2]'(by omega) = 10) : Calls Try.prog 26 #[.string s, .int .i64 k] w (MemR (memberR (from_ s k)) s k w) := by
  have HE0 : memberR (from_ s k) = (byteA [61, 93] (from_ s (k + 2))).map (fun x => (S4.zero.rng x.1.toNat x.1.toNat, x.2)) := by rw [from_cons s k h, from_cons s (k + 1) h1, h0, h2]; simp [memberR, pre2]
  have HE : Hid (memberR (from_ s k) = none) := by unfold Hid; rw [HE0, from_cons s (k + 2) (by omega), h3]; rfl
  have hi2 : (2 : Int) ≤ s.size - k := by omega
  have hk0 : (k : Int) < s.size := by omega
  have hk1 : (k : Int) + 1 < s.size := by omega
  have hv : ((s[k]'h).toNat : Int) = 91 := by rw [h0]; rfl
  have hv1 : ((s[k + 1]'h1).toNat : Int) = 61 := by rw [h2]; rfl
  have hi5 : ¬ (s.size : Int) - k < 5 := by omega
  have hk2 : (k : Int) + 2 < s.size := by omega
  have hv2 : ((s[k + 2]'(by omega)).toNat : Int) = 10 := by rw [h3]; rfl
  clear h0 h2 h3 HE0
  go_enter Try.func26, Try.ntmps26
  go_wp2
  all_goals exact bodyPost_ret (v := .tuple #[.agg #[.int .u64 0, .int .u64 0, .int .u64 0, .int .u64 0], .int .i64 0, .bool false]) (by simp [results, Try.results26, go_sem]) rfl ⟨0, 0, 0, 0, 0, false, rfl, by (repeat first | exact Below.refl _ _ | refine Below.alloc ?_ (by simp) _ | refine Below.setCell ?_ (by simp) _), by rw [HE.out]; rfl, fun q => by cases q⟩
set_option maxHeartbeats 2000000 in
set_option maxRecDepth 100000 in
theorem mem_eq_no (s : ByteArray) (k : Nat) (w : World) (hs : s.size ≤ 4000000) (h : k < s.size) (h1 : k + 1 < s.size) (h0 : s[k] = 91) (h2 : s[k + 1] = 61) (h5 : k + 5 ≤ s.size) (h3 : s[k + 2]'(by omega) ≠ 10) (h4 : pre [61, 93] (from_ s (k + 3)) = false) : Calls Try.prog 26 #[.string s, .int .i64 k] w (MemR (memberR (from_ s k)) s k w) := by
  have HE0 : memberR (from_ s k) = (byteA [61, 93] (from_ s (k + 2))).map (fun x => (S4.zero.rng x.1.toNat x.1.toNat, x.2)) := by rw [from_cons s k h, from_cons s (k + 1) h1, h0, h2]; simp [memberR, pre2]
  have HE : Hid (memberR (from_ s k) = none) := by unfold Hid; rw [HE0, from_cons s (k + 2) (by omega)]; simp [byteA, h3, h4]
  have hi2 : (2 : Int) ≤ s.size - k := by omega
  have hk0 : (k : Int) < s.size := by omega
  have hk1 : (k : Int) + 1 < s.size := by omega
  have hv : ((s[k]'h).toNat : Int) = 91 := by rw [h0]; rfl
  have hv1 : ((s[k + 1]'h1).toNat : Int) = 61 := by rw [h2]; rfl
  have hi5 : ¬ (s.size : Int) - k < 5 := by omega
  have hk2 : (k : Int) + 2 < s.size := by omega
  have hk3 : (k : Int) + 5 ≤ s.size := by omega
  have hsl : ((s.extract (k + 3) (k + 5)).toList == [61, 93]) = false := by rw [ext2 s (k + 3) 61 93 (by omega)]; exact h4
  have n2 : (((s[k + 2]'(by omega)).toNat : Int) == 10) = false := u8_ne (s[k + 2]'(by omega)) 10 (by decide) h3
  clear h0 h2 h3 h4 HE0
  go_enter Try.func26, Try.ntmps26
  go_wp2
  all_goals exact bodyPost_ret (v := .tuple #[.agg #[.int .u64 0, .int .u64 0, .int .u64 0, .int .u64 0], .int .i64 0, .bool false]) (by simp [results, Try.results26, go_sem]) rfl ⟨0, 0, 0, 0, 0, false, rfl, by (repeat first | exact Below.refl _ _ | refine Below.alloc ?_ (by simp) _ | refine Below.setCell ?_ (by simp) _), by rw [HE.out]; rfl, fun q => by cases q⟩
set_option maxHeartbeats 2000000 in
set_option maxRecDepth 100000 in
theorem mem_eq_yes (s : ByteArray) (k : Nat) (w : World) (hs : s.size ≤ 4000000) (h : k < s.size) (h1 : k + 1 < s.size) (h0 : s[k] = 91) (h2 : s[k + 1] = 61) (h5 : k + 5 ≤ s.size) (h3 : s[k + 2]'(by omega) ≠ 10) (h4 : pre [61, 93] (from_ s (k + 3)) = true) : Calls Try.prog 26 #[.string s, .int .i64 k] w (MemR (memberR (from_ s k)) s k w) := by
  have HE0 : memberR (from_ s k) = (byteA [61, 93] (from_ s (k + 2))).map (fun x => (S4.zero.rng x.1.toNat x.1.toNat, x.2)) := by rw [from_cons s k h, from_cons s (k + 1) h1, h0, h2]; simp [memberR, pre2]
  obtain ⟨c, hc⟩ : ∃ c, s[k + 2]'(by omega) = c := ⟨_, rfl⟩
  have HE : Hid (memberR (from_ s k) = some (S4.zero.rng c.toNat c.toNat, from_ s (k + 5))) := by unfold Hid; rw [HE0, from_cons s (k + 2) (by omega), hc]; rw [hc] at h3; simp only [byteA, h3, if_false]; rw [if_pos h4, from_drop]; rfl
  have hi2 : (2 : Int) ≤ s.size - k := by omega
  have hk0 : (k : Int) < s.size := by omega
  have hk1 : (k : Int) + 1 < s.size := by omega
  have hv : ((s[k]'h).toNat : Int) = 91 := by rw [h0]; rfl
  have hv1 : ((s[k + 1]'h1).toNat : Int) = 61 := by rw [h2]; rfl
  have hi5 : ¬ (s.size : Int) - k < 5 := by omega
  have hk2 : (k : Int) + 2 < s.size := by omega
  have hk3 : (k : Int) + 5 ≤ s.size := by omega
  have hsl : ((s.extract (k + 3) (k + 5)).toList == [61, 93]) = true := by rw [ext2 s (k + 3) 61 93 (by omega)]; exact h4
  have n2 : (((s[k + 2]'(by omega)).toNat : Int) == 10) = false := u8_ne (s[k + 2]'(by omega)) 10 (by decide) h3
  have hcv : ((s[k + 2]'(by omega)).toNat : Int) = c.toNat := by rw [hc]
  have G := with_zero15 c.toNat c.toNat c.toNat_lt c.toNat_lt
  rw [hcv] at n2
  clear h0 h2 h3 h4 HE0 hc
  go_enter Try.func26, Try.ntmps26
  go_wp2
  have hw2 : IntKind.i64.wrap ((k : Int) + 2) = (k : Int) + 2 := by rw [IntKind.wrap_i64]; omega
  have hw5 : IntKind.i64.wrap ((k : Int) + 5) = (k : Int) + 5 := by rw [IntKind.wrap_i64]; omega
  have hix : ∀ q, ((s[((k : Int) + 2).toNat]'q).toNat : Int) = c.toNat := fun q => by
    have e : ((k : Int) + 2).toNat = k + 2 := by omega
    simp only [e]; exact hcv
  refine wp_region_noPanic ?_
  refine wp_region_held_drew (S := fun w' => Below w.heap.size w w' ∧ Box4 w' (w.heap.size + 1) ∧ w.heap.size + 1 < w'.heap.size ∧ ∃ z0 z1 z2 z3, BoxS w' w.heap.size z0 z1 z2 z3) (by kernel_rfl) (⟨(two0_below w).drew, two0_box2 w, by show _ < (two0 w).heap.size; rw [two0_size]; omega, ⟨0, 0, 0, 0, two0_box w⟩⟩) (fun hHeld => ?_)
  try simp only [Act.put, List.setIfInBounds_toArray, List.set_cons_zero, List.set_cons_succ]
  refine wpAnyH_take (i := 0) (oi := { dst := some 56, op := Go.Op.load 24 (Go.Operand.tmp 7), type := 24, pos := "ref.go:96", after := #[], guard := none }) (v := .agg #[.int .u64 0, .int .u64 0, .int .u64 0, .int .u64 0]) rfl (by kernel_rfl) (by kernel_rfl) (by kernel_rfl) (fun _ _ _ h => h) (Or.inl ⟨by rfl, ?_⟩) hHeld ?_
  · (intro wq hSq; (try dsimp only at hSq); obtain ⟨⟨qa, qb, qc, qd⟩, _⟩ := id hSq.2.1; go_simp; first | done | with_reducible rfl)
  try simp only [Act.put, List.setIfInBounds_toArray, List.set_cons_zero, List.set_cons_succ]
  refine wpAnyH_take (i := 1) (oi := { dst := some 57, op := Go.Op.move (Go.Operand.tmp 0), type := 9, pos := "ref.go:96", after := #[], guard := none }) (v := ?_) rfl (by kernel_rfl) (by kernel_rfl) (by kernel_rfl) (fun _ _ _ h => h) (Or.inl ⟨by rfl, ?_⟩) hHeld ?_
  rotate_left 1
  · (intro wq hSq; (try dsimp only at hSq); go_simp; first | done | with_reducible rfl)
  try simp only [Act.put, List.setIfInBounds_toArray, List.set_cons_zero, List.set_cons_succ]
  refine wpAnyH_take (i := 2) (oi := { dst := some 58, op := Go.Op.move (Go.Operand.tmp 1), type := 3, pos := "ref.go:96", after := #[], guard := none }) (v := ?_) rfl (by kernel_rfl) (by kernel_rfl) (by kernel_rfl) (fun _ _ _ h => h) (Or.inl ⟨by rfl, ?_⟩) hHeld ?_
  rotate_left 1
  · (intro wq hSq; (try dsimp only at hSq); go_simp; first | done | with_reducible rfl)
  try simp only [Act.put, List.setIfInBounds_toArray, List.set_cons_zero, List.set_cons_succ]
  refine wpAnyH_take (i := 3) (oi := { dst := some 59, op := Go.Op.binOp Go.BinOp.add 3 (Go.Operand.tmp 58) (Go.Operand.const (Go.Value.int Go.IntKind.i64 2)) 3, type := 3, pos := "ref.go:96", after := #[{ on := 2, ground := Go.Ground.data }], guard := none }) (v := .int .i64 ((k : Int) + 2)) rfl (by kernel_rfl) (by kernel_rfl) (by kernel_rfl) (fun _ _ _ h => h) (Or.inl ⟨by rfl, ?_⟩) hHeld ?_
  · (intro wq hSq; (try dsimp only at hSq); go_simp; first | done | with_reducible rfl)
  try simp only [Act.put, List.setIfInBounds_toArray, List.set_cons_zero, List.set_cons_succ]
  refine wpAnyH_take (i := 4) (oi := { dst := some 60, op := Go.Op.index 9 (Go.Operand.tmp 57) (Go.Operand.tmp 59), type := 5, pos := "ref.go:96", after := #[{ on := 1, ground := Go.Ground.data }, { on := 3, ground := Go.Ground.data }], guard := none }) (v := .int .u8 (c.toNat : Int)) rfl (by kernel_rfl) (by kernel_rfl) (by kernel_rfl) (fun _ _ _ h => h) (Or.inl ⟨by rfl, ?_⟩) hHeld ?_
  · (intro wq hSq; (try dsimp only at hSq); go_simp; (try exact hix _))
  try simp only [Act.put, List.setIfInBounds_toArray, List.set_cons_zero, List.set_cons_succ]
  refine wpAnyH_take (i := 5) (oi := { dst := some 61, op := Go.Op.move (Go.Operand.tmp 0), type := 9, pos := "ref.go:96", after := #[], guard := none }) (v := ?_) rfl (by kernel_rfl) (by kernel_rfl) (by kernel_rfl) (fun _ _ _ h => h) (Or.inl ⟨by rfl, ?_⟩) hHeld ?_
  rotate_left 1
  · (intro wq hSq; (try dsimp only at hSq); go_simp; first | done | with_reducible rfl)
  try simp only [Act.put, List.setIfInBounds_toArray, List.set_cons_zero, List.set_cons_succ]
  refine wpAnyH_take (i := 6) (oi := { dst := some 62, op := Go.Op.move (Go.Operand.tmp 1), type := 3, pos := "ref.go:96", after := #[], guard := none }) (v := ?_) rfl (by kernel_rfl) (by kernel_rfl) (by kernel_rfl) (fun _ _ _ h => h) (Or.inl ⟨by rfl, ?_⟩) hHeld ?_
  rotate_left 1
  · (intro wq hSq; (try dsimp only at hSq); go_simp; first | done | with_reducible rfl)
  try simp only [Act.put, List.setIfInBounds_toArray, List.set_cons_zero, List.set_cons_succ]
  refine wpAnyH_take (i := 7) (oi := { dst := some 63, op := Go.Op.binOp Go.BinOp.add 3 (Go.Operand.tmp 62) (Go.Operand.const (Go.Value.int Go.IntKind.i64 2)) 3, type := 3, pos := "ref.go:96", after := #[{ on := 6, ground := Go.Ground.data }], guard := none }) (v := .int .i64 ((k : Int) + 2)) rfl (by kernel_rfl) (by kernel_rfl) (by kernel_rfl) (fun _ _ _ h => h) (Or.inl ⟨by rfl, ?_⟩) hHeld ?_
  · (intro wq hSq; (try dsimp only at hSq); go_simp; first | done | with_reducible rfl)
  try simp only [Act.put, List.setIfInBounds_toArray, List.set_cons_zero, List.set_cons_succ]
  refine wpAnyH_take (i := 8) (oi := { dst := some 64, op := Go.Op.index 9 (Go.Operand.tmp 61) (Go.Operand.tmp 63), type := 5, pos := "ref.go:96", after := #[{ on := 5, ground := Go.Ground.data }, { on := 7, ground := Go.Ground.data }], guard := none }) (v := .int .u8 (c.toNat : Int)) rfl (by kernel_rfl) (by kernel_rfl) (by kernel_rfl) (fun _ _ _ h => h) (Or.inl ⟨by rfl, ?_⟩) hHeld ?_
  · (intro wq hSq; (try dsimp only at hSq); go_simp; (try exact hix _))
  try simp only [Act.put, List.setIfInBounds_toArray, List.set_cons_zero, List.set_cons_succ]
  refine wpAnyH_take (i := 10) (oi := { dst := some 66, op := Go.Op.move (Go.Operand.tmp 1), type := 3, pos := "ref.go:96", after := #[{ on := 12, ground := Go.Ground.gcOnly Go.Departure.lateStores }], guard := none }) (v := ?_) rfl (by kernel_rfl) (by kernel_rfl) (by kernel_rfl) (fun _ _ _ h => h) (Or.inl ⟨by rfl, ?_⟩) hHeld ?_
  rotate_left 1
  · (intro wq hSq; (try dsimp only at hSq); go_simp; first | done | with_reducible rfl)
  try simp only [Act.put, List.setIfInBounds_toArray, List.set_cons_zero, List.set_cons_succ]
  refine wpAnyH_take (i := 11) (oi := { dst := some 67, op := Go.Op.binOp Go.BinOp.add 3 (Go.Operand.tmp 66) (Go.Operand.const (Go.Value.int Go.IntKind.i64 5)) 3, type := 3, pos := "ref.go:96", after := #[{ on := 10, ground := Go.Ground.data }, { on := 12, ground := Go.Ground.gcOnly Go.Departure.lateStores }], guard := none }) (v := .int .i64 ((k : Int) + 5)) rfl (by kernel_rfl) (by kernel_rfl) (by kernel_rfl) (fun _ _ _ h => h) (Or.inl ⟨by rfl, ?_⟩) hHeld ?_
  · (intro wq hSq; (try dsimp only at hSq); go_simp; first | done | with_reducible rfl)
  try simp only [Act.put, List.setIfInBounds_toArray, List.set_cons_zero, List.set_cons_succ]
  refine wpAnyH_ready (rs := [9]) (by kernel_rfl) (by simp) ?_
  refine AllReadyH.cons (o := { dst := some 65, op := Go.Op.call { callee := Go.Callee.value (Go.Operand.func 15), args := #[Go.Operand.tmp 56, Go.Operand.tmp 60, Go.Operand.tmp 64], argTypes := #[24, 5, 5] }, type := 24, pos := "ref.go:96", after := #[{ on := 0, ground := Go.Ground.data }, { on := 4, ground := Go.Ground.data }, { on := 8, ground := Go.Ground.data }], guard := none }) rfl (fun K hK => ?_) AllReadyH.nil
  go_simp
  refine (G.out _).mono ?_
  rintro e w5 ⟨y0, y1, y2, y3, rfl, sv, b5⟩
  refine hK.out _ _ (⟨hHeld.1.trans (b5.mono (by have := hHeld.2.2.1; omega)), hHeld.2.1.below b5 hHeld.2.2.1, Nat.lt_of_lt_of_le hHeld.2.2.1 b5.size, by obtain ⟨z0, z1, z2, z3, hz⟩ := hHeld.2.2.2; exact ⟨z0, z1, z2, z3, hz.below b5 (by have := hHeld.2.2.1; omega)⟩⟩) (fun hHeld1 => ?_)
  clear hK K hHeld
  try simp only [Act.put, List.setIfInBounds_toArray, List.set_cons_zero, List.set_cons_succ]
  have HSV : Hid (SV (S4.zero.rng c.toNat c.toNat) y0 y1 y2 y3) := sv
  obtain ⟨z0, z1, z2, z3, hz⟩ := id hHeld1.2.2.2
  have HH1 : Hid (Below w.heap.size w w5 ∧ Box4 w5 (w.heap.size + 1) ∧ w.heap.size + 1 < w5.heap.size) := ⟨hHeld1.1, hHeld1.2.1, hHeld1.2.2.1⟩
  have HBZ : Hid (BoxS w5 w.heap.size z0 z1 z2 z3) := hz
  obtain ⟨⟨ka, kb, kc, kd⟩, ja, jb, jc, jd⟩ := id hz
  clear b5 sv hz
  refine wpAnyH_ready (rs := [12]) (by kernel_rfl) (by simp) ?_
  refine AllReadyH.cons (o := { dst := none, op := Go.Op.store 24 (Go.Operand.tmp 4) (Go.Operand.tmp 65), type := 0, pos := "ref.go:96", after := #[{ on := 9, ground := Go.Ground.data }, { on := 9, ground := Go.Ground.chain }, { on := 0, ground := Go.Ground.phase }, { on := 1, ground := Go.Ground.phase }, { on := 2, ground := Go.Ground.phase }, { on := 3, ground := Go.Ground.phase }, { on := 4, ground := Go.Ground.phase }, { on := 5, ground := Go.Ground.phase }, { on := 6, ground := Go.Ground.phase }, { on := 7, ground := Go.Ground.phase }, { on := 8, ground := Go.Ground.phase }, { on := 9, ground := Go.Ground.phase }, { on := 10, ground := Go.Ground.textOnly Go.Departure.lateStores }, { on := 11, ground := Go.Ground.textOnly Go.Departure.lateStores }], guard := none }) rfl (fun K hK => ?_) AllReadyH.nil
  go_simp
  refine hK.out _ _ (⟨put0 HH1.out.1 _ _ _ _, (((HH1.out.2.1.own (by omega) _ _).own (by omega) _ _).own (by omega) _ _).own (by omega) _ _, by simpa [World.setCell] using HH1.out.2.2, ⟨_, _, _, _, HBZ.out.put y0 y1 y2 y3⟩⟩) (fun hHeld2 => ?_)
  clear hK K hHeld1
  try simp only [Act.put, List.setIfInBounds_toArray, List.set_cons_zero, List.set_cons_succ]
  refine wpAnyH_take (i := 13) (oi := { dst := some 5, op := Go.Op.assign (Go.Operand.tmp 67), type := 3, pos := "ref.go:96", after := #[{ on := 11, ground := Go.Ground.data }, { on := 12, ground := Go.Ground.chain }, { on := 0, ground := Go.Ground.phase }, { on := 1, ground := Go.Ground.phase }, { on := 2, ground := Go.Ground.phase }, { on := 3, ground := Go.Ground.phase }, { on := 4, ground := Go.Ground.phase }, { on := 5, ground := Go.Ground.phase }, { on := 6, ground := Go.Ground.phase }, { on := 7, ground := Go.Ground.phase }, { on := 8, ground := Go.Ground.phase }, { on := 9, ground := Go.Ground.phase }, { on := 10, ground := Go.Ground.phase }, { on := 11, ground := Go.Ground.phase }, { on := 12, ground := Go.Ground.phase }], guard := none }) (v := ?_) rfl (by kernel_rfl) (by kernel_rfl) (by kernel_rfl) (fun _ _ _ h => h) (Or.inl ⟨by rfl, ?_⟩) hHeld2 ?_
  rotate_left 1
  · (intro wq hSq; (try dsimp only at hSq); go_simp; first | done | with_reducible rfl)
  try simp only [Act.put, List.setIfInBounds_toArray, List.set_cons_zero, List.set_cons_succ]
  refine wpAnyH_take (i := 14) (oi := { dst := some 6, op := Go.Op.assign (Go.Operand.const (Go.Value.bool true)), type := 4, pos := "ref.go:96", after := #[{ on := 13, ground := Go.Ground.chain }, { on := 0, ground := Go.Ground.phase }, { on := 1, ground := Go.Ground.phase }, { on := 2, ground := Go.Ground.phase }, { on := 3, ground := Go.Ground.phase }, { on := 4, ground := Go.Ground.phase }, { on := 5, ground := Go.Ground.phase }, { on := 6, ground := Go.Ground.phase }, { on := 7, ground := Go.Ground.phase }, { on := 8, ground := Go.Ground.phase }, { on := 9, ground := Go.Ground.phase }, { on := 10, ground := Go.Ground.phase }, { on := 11, ground := Go.Ground.phase }, { on := 12, ground := Go.Ground.phase }, { on := 13, ground := Go.Ground.phase }], guard := none }) (v := ?_) rfl (by kernel_rfl) (by kernel_rfl) (by kernel_rfl) (fun _ _ _ h => h) (Or.inl ⟨by rfl, ?_⟩) hHeld2 ?_
  rotate_left 1
  · (intro wq hSq; (try dsimp only at hSq); go_simp; first | done | with_reducible rfl)
  try simp only [Act.put, List.setIfInBounds_toArray, List.set_cons_zero, List.set_cons_succ]
  refine wpAnyH_done (by kernel_rfl) ?_ _
  refine NoPanic.normal ?_
  go_wp2
  exact bodyPost_ret (v := .tuple #[.agg #[.int .u64 y0, .int .u64 y1, .int .u64 y2, .int .u64 y3], .int .i64 ((k + 5 : Nat) : Int), .bool true]) (by simp [results, Try.results26, go_sem, ka, kb, kc, kd, ja, jb, jc, jd]) rfl ⟨y0, y1, y2, y3, k + 5, true, rfl, hHeld2.1, by rw [HE.out]; rfl, fun _ => ⟨_, HE.out, HSV.out, by omega, by omega⟩⟩
theorem cut_at (l : List UInt8) (i : Nat) (hi : i ≤ l.length) (h1 : Lib.occAt l [58, 93] i = true) (h2 : ∀ j, j < i → Lib.occAt l [58, 93] j = false) : Lib.cut l [58, 93] = (l.take i, l.drop (i + 2), true) := by
  unfold Lib.cut; rw [Lib.index_first hi h1 h2, if_pos (by omega)]; simp
theorem cut_no (l : List UInt8) (h : ∀ j, j ≤ l.length → Lib.occAt l [58, 93] j = false) : Lib.cut l [58, 93] = (l, [], false) := by
  unfold Lib.cut; rw [Lib.index_none h, if_neg (by omega)]
theorem occ_from (s : ByteArray) (k j : Nat) : Lib.occAt (from_ s k) [58, 93] j = pre [58, 93] (from_ s (k + j)) := by
  unfold Lib.occAt pre; rw [from_drop]
set_option maxHeartbeats 2000000 in
set_option maxRecDepth 100000 in
theorem mem_class (s : ByteArray) (k : Nat) (w : World) (hs : s.size ≤ 4000000) (h : k < s.size) (h1 : k + 1 < s.size) (h0 : s[k] = 91) (h2 : s[k + 1] = 58) : Calls Try.prog 26 #[.string s, .int .i64 k] w (MemR (memberR (from_ s k)) s k w) := by
  have HE0 : Hid (memberR (from_ s k) = classP (from_ s (k + 2))) := by unfold Hid; rw [from_cons s k h, from_cons s (k + 1) h1, h0, h2]; simp [memberR, pre2]
  have hv : ((s[k]'h).toNat : Int) = 91 := by rw [h0]; rfl
  have hv1 : ((s[k + 1]'h1).toNat : Int) = 58 := by rw [h2]; rfl
  have hi2 : (2 : Int) ≤ s.size - k := by omega
  have hk0 : (k : Int) < s.size := by omega
  have hk1 : (k : Int) + 1 < s.size := by omega
  clear h0 h2
  go_enter Try.func26, Try.ntmps26
  go_wp2
  go_loop [8] (fun s8 => ∃ n : Nat, s8 = .int .i64 n ∧ k + 2 ≤ n ∧ n ≤ s.size ∧ Hid (∀ j, j < n - (k + 2) → Lib.occAt (from_ s (k + 2)) [58, 93] j = false)) (fun s8 => s.size + 1 - (intOf s8).toNat)
  case atStart => exact ⟨k + 2, by simp, by omega, by omega, fun j hj => by omega⟩
  case round =>
    obtain ⟨n, rfl, hn1, hn2, hocc⟩ := hrel
    by_cases hlt : n + 1 < s.size
    · have hlti : (n : Int) + 1 < s.size := by omega
      have hn2i : (n : Int) + 2 ≤ s.size := by omega
      cases hp : pre [58, 93] (from_ s n)
      · have hsl : ((s.extract n (n + 2)).toList == [58, 93]) = false := by rw [ext2 s n 58 93 (by omega)]; exact hp
        have HO : Hid (∀ j, j < n + 1 - (k + 2) → Lib.occAt (from_ s (k + 2)) [58, 93] j = false) := fun j hj => by
          by_cases e : j = n - (k + 2)
          · rw [e, occ_from, show k + 2 + (n - (k + 2)) = n by omega]; exact hp
          · exact hocc.out j (by omega)
        clear hp hocc
        go_wp2
        go_round
        case rel => exact ⟨n + 1, by go_num, by omega, by omega, HO.out⟩
        case measure => simp [intOf]; omega
      · have hsl : ((s.extract n (n + 2)).toList == [58, 93]) = true := by rw [ext2 s n 58 93 (by omega)]; exact hp
        have hcut : Lib.cut (from_ s (k + 2)) [58, 93] = ((from_ s (k + 2)).take (n - (k + 2)), (from_ s (k + 2)).drop (n - (k + 2) + 2), true) :=
          cut_at _ _ (by rw [from_len]; omega) (by rw [occ_from, show k + 2 + (n - (k + 2)) = n by omega]; exact hp) hocc.out
        have hx : (s.extract (k + 2) n).data.toList = (from_ s (k + 2)).take (n - (k + 2)) := by rw [Lib.extract_data]; rfl
        have HE : Hid (memberR (from_ s k) = (classS (s.extract (k + 2) n).data.toList).map fun c => (c, from_ s (n + 2))) := by
          unfold Hid; rw [HE0.out, hx]; unfold classP; rw [hcut]; simp only [if_true]; rw [from_drop, show k + 2 + (n - (k + 2) + 2) = n + 2 by omega]
        have CL := fun W => class_any19 (s.extract (k + 2) n) W
        have CL : Hid (∀ W, Calls Try.prog 19 #[.string (s.extract (k + 2) n)] W fun e w' => ∃ y0 y1 y2 y3, e = .returned (.tuple #[.agg #[.int .u64 y0, .int .u64 y1, .int .u64 y2, .int .u64 y3], .bool (classS (s.extract (k + 2) n).data.toList).isSome]) ∧ SV ((classS (s.extract (k + 2) n).data.toList).getD S4.zero) y0 y1 y2 y3 ∧ Below W.heap.size W w') := CL
        clear hp hocc hcut hx HE0
        generalize classS (s.extract (k + 2) n).data.toList = cn at *
        obtain ⟨ok, hok⟩ : ∃ ok, cn.isSome = ok := ⟨_, rfl⟩
        rw [hok] at CL
        have HOK : Hid (cn.isSome = ok) := hok
        clear hok
        have hk2n : (k : Int) + 2 ≤ n := by omega
        have hns : (n : Int) ≤ s.size := by omega
        go_wp2_with fail
        refine (CL.out _).mono ?_
        rintro e w2 ⟨y0, y1, y2, y3, rfl, sv, b2⟩
        have HSV : Hid (SV (cn.getD S4.zero) y0 y1 y2 y3) := sv
        have B2 : Hid (Below w.heap.size w w2) := (two0_below w).trans (b2.mono (by simp; omega))
        have X2 : Hid (Box4 w2 w.heap.size) := (two0_box w).below b2 (by simp; omega)
        have hz2 : w.heap.size < w2.heap.size := by have := b2.size; simp at this; omega
        obtain ⟨⟨ca, cb, cc, cd⟩, fa, fb, fc, fd⟩ := id X2.out
        clear b2 sv CL
        go_wp2
        refine bodyPost_ret (v := .tuple #[.agg #[.int .u64 y0, .int .u64 y1, .int .u64 y2, .int .u64 y3], .int .i64 ((n + 2 : Nat) : Int), .bool ok]) (by simp [results, Try.results26, go_sem, ca, cb, cc, cd, fa, fb, fc, fd, hz2]) rfl ⟨y0, y1, y2, y3, n + 2, ok, rfl, below_put B2.out _ _ _ _ _, ?_, fun hq => ?_⟩
        · rw [HE.out, Option.isSome_map]; exact HOK.out
        · cases cn with
          | none => have := HOK.out; rw [hq] at this; cases this
          | some x => exact ⟨x, HE.out, HSV.out, by omega, by omega⟩
    · have hlti : ¬ (n : Int) + 1 < s.size := by omega
      have HE : Hid (memberR (from_ s k) = none) := by
        unfold Hid; rw [HE0.out]; unfold classP; rw [cut_no]
        · rfl
        · intro j hj
          by_cases e : j < n - (k + 2)
          · exact hocc.out j e
          · rw [occ_from]
            have hl := from_len s (k + 2 + j)
            match hq : from_ s (k + 2 + j) with
            | [] => rfl
            | [x] => exact pre2_one _ _ _
            | x :: y :: u => rw [hq] at hl; simp at hl; omega
      clear HE0 hocc
      go_wp2
      exact bodyPost_ret (v := .tuple #[.agg #[.int .u64 0, .int .u64 0, .int .u64 0, .int .u64 0], .int .i64 0, .bool false]) (by simp [results, Try.results26, go_sem]) rfl ⟨0, 0, 0, 0, 0, false, rfl, by (repeat first | exact Below.refl _ _ | refine Below.alloc ?_ (by simp) _ | refine Below.setCell ?_ (by simp) _), by rw [HE.out]; rfl, fun q => by cases q⟩
end Go.Proofs.Ytnhbjjjoocpedaa
