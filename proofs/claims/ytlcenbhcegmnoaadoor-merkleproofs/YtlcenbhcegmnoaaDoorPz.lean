import Derived.Test.YtlcenbhcegmnoaaDoorOgz
import Derived.Test.YtlcenbhcegmnoaaDoorNz
namespace Go.Proofs.YtlcenbhcegmnoaaDoor
set_option linter.unusedSimpArgs false
set_option linter.unusedVariables false
open Go.RowKit
attribute [local go_sem ↓] Go.wp_at_zero Go.wp_at_succ
/-- The hashes beside the way, from the leaf up. -/
def pathD : Nat → List (List Int) → Nat → List (List Int)
  | 0, _, _ => []
  | d + 1, hs, i => if i < halfN hs.length then pathD d (hs.take (halfN hs.length)) i ++ [overH (hs.drop (halfN hs.length))] else pathD d (hs.drop (halfN hs.length)) (i - halfN hs.length) ++ [overH (hs.take (halfN hs.length))]
theorem pathD_length (d : Nat) : ∀ hs i, (pathD d hs i).length = d := by
  induction d with
  | zero => intro hs i; rfl
  | succ d ih => intro hs i; unfold pathD; split <;> simp [ih]
theorem pathD_hashes (d : Nat) : ∀ hs i, Hashes hs → Hashes (pathD d hs i) := by
  induction d with
  | zero => intro hs i _ h hh; simp [pathD] at hh
  | succ d ih =>
    intro hs i hH h hh
    unfold pathD at hh
    split at hh
    · rcases List.mem_append.1 hh with h1 | h1
      · exact ih _ _ (hH.take _) h h1
      · obtain rfl := List.mem_singleton.1 h1
        exact overH_hash _ (hH.drop _)
    · rcases List.mem_append.1 hh with h1 | h1
      · exact ih _ _ (hH.drop _) h h1
      · obtain rfl := List.mem_singleton.1 h1
        exact overH_hash _ (hH.take _)
theorem step_buildH {ops : Array Oper} {o : Oper} {a : Act} {w : World} {K : Act → World → Prop} {Q : Exit → Act → World → Prop} {E : Prop} (hgd : o.guard = none) (x : Operand) (ho : o.op = .buildSlice 44 1 #[(0, x)]) (h : List Int) (hl : h.length = 32) (hx : a.eval x = .agg (vB h))
    (hK : K (a.put o.dst (.slice (some ⟨w.heap.size, 0, none⟩) 1 1)) (w.alloc (.cells (vB h) 24))) : if Region.wanted o (yielded ops a.tmps) = true then Oper.wp Tryd.prog o a w K Q else E := by
  have hw : Region.wanted o (yielded ops a.tmps) = true := by simp [Region.wanted, hgd]
  rw [if_pos hw]
  have hrun := buildH h hl w
  unfold Oper.wp execOp
  simp only [ho]
  rw [show (#[(0, x)].map fun (i, x) => (i, a.eval x)) = #[(0, .agg (vB h))] by simp [hx]]
  simp only [Sem.run_bind, hrun, Result.andThen_ok]
  exact hK
theorem step_appendH {ops : Array Oper} {o : Oper} {a : Act} {w : World} {K : Act → World → Prop} {Q : Exit → Act → World → Prop} {E : Prop} (hgd : o.guard = none) (s x : Operand)
    (ho : o.op = .call { callee := .builtin .append, args := #[s, x], argTypes := #[44, 44] }) (base : Nat) (v : Value) (hs : List (List Int)) (hv : a.eval s = v) (hown : HashRow base hs v w)
    (h : List Int) (hl : h.length = 32) (hx : a.eval x = .slice (some ⟨w.heap.size, 0, none⟩) 1 1) (hn : hs.length ≤ 1000000000000) (hbase : base ≤ w.heap.size)
    (hK : ∀ v' w', HashRow base (hs ++ [h]) v' w' → (w.alloc (.cells (vB h) 24)).grownBy w' v.ownBlock → K (a.put o.dst v') w') : if Region.wanted o (yielded ops a.tmps) = true then Oper.wp Tryd.prog o a (w.alloc (.cells (vB h) 24)) K Q else E := by
  have hw : Region.wanted o (yielded ops a.tmps) = true := by simp [Region.wanted, hgd]
  rw [if_pos hw]
  obtain ⟨i, hi, hz0, hz1, hz2⟩ := info_parts info24
  have hh : (vB h).toList.length = 1 * 32 := by rw [Array.length_toList, vB_size, hl]
  obtain ⟨v', w', hr, h2, h3, h4, h5⟩ := run_append_own_at (P := Tryd.prog) (w.alloc (.cells (vB h) 24)) base 44 o.type 24 i (.agg (vB (zs 32))) 32 32 Tryd.underlying44 hi hz0 hz1 hz2 rfl (by omega) v hs.length (vB hs.flatten).toList (own_alloc hown _) ⟨w.heap.size, 0, none⟩ 1 1 (vB h).toList hh cells_of_new
    (fun v hv => by simp [vB] at hv; obtain ⟨y, _, rfl⟩ := hv; rfl) (by unfold maxLen; omega) (by omega) (by simp; omega)
  unfold Oper.wp
  simp [execOp, ho, resolve, invoke, builtin, hv, hx, hr, Result.andThen]
  refine hK v' w' ?_ h3
  unfold HashRow
  simpa [vB] using h2
set_option maxRecDepth 100000 in
set_option maxHeartbeats 1000000 in
theorem path_one (av : Option Addr) (cp : Nat) (i : Int) (w : World) : Calls Tryd.prog 55 #[.slice av 1 cp, .int .i64 i] w fun e w' => ∃ u, e = .returned u ∧ HashRow w.heap.size [] u w' ∧ Below w.heap.size w w' := by
  go_enter Tryd.func55, Tryd.ntmps55
  go_wp2
  go_ret
  exact ⟨_, rfl, HashRow.nil _ _, Below.refl _ _⟩
set_option maxRecDepth 100000 in
set_option maxHeartbeats 600000 in
theorem path_lo (P : List (List Int)) (R : List Int) (n i k b o cp : Nat) (w : World) (hik : i < k) (hk1 : 0 < k) (hkn : k < n) (hn : n ≤ 1000000) (hcp : n ≤ cp) (hcp2 : cp ≤ 9223372036854775807) (hR : R.length = 32) (hPl : P.length ≤ 1000)
    (C0 : ∀ w' : World, Calls Tryd.prog 54 #[.int .i64 n] w' fun e w'' => e = .returned (.int .i64 k) ∧ w'' = w')
    (C1 : ∀ w', Below w.heap.size w w' → Calls Tryd.prog 55 #[.slice (some ⟨b, o, none⟩) k cp, .int .i64 i] w' fun e w'' => ∃ u, e = .returned u ∧ HashRow w'.heap.size P u w'' ∧ Below w'.heap.size w' w'')
    (C2 : ∀ w', Below w.heap.size w w' → Calls Tryd.prog 33 #[.slice (some ⟨b, o + k * 32, none⟩) (n - k) (cp - k)] w' fun e w'' => e = .returned (.agg (vB R)) ∧ Below w'.heap.size w' w'') :
    Calls Tryd.prog 55 #[.slice (some ⟨b, o, none⟩) n cp, .int .i64 i] w fun e w' => ∃ u, e = .returned u ∧ HashRow w.heap.size (P ++ [R]) u w' ∧ Below w.heap.size w w' := by
  have D0 : Hid (∀ w' : World, Calls Tryd.prog 54 #[.int .i64 n] w' fun e w'' => e = .returned (.int .i64 k) ∧ w'' = w') := C0
  have D1 : Hid (∀ w', Below w.heap.size w w' → Calls Tryd.prog 55 #[.slice (some ⟨b, o, none⟩) k cp, .int .i64 i] w' fun e w'' => ∃ u, e = .returned u ∧ HashRow w.heap.size P u w'' ∧ Below w.heap.size w w'') := fun w' q => (C1 w' q).mono (by
    rintro e w5 ⟨u, rfl, h1, h2⟩
    exact ⟨u, rfl, own_mono h1 q.size, q.trans (h2.mono q.size)⟩)
  have D2 : Hid (∀ w', Below w.heap.size w w' → Calls Tryd.prog 33 #[.slice (some ⟨b, o + k * 32, none⟩) (n - k) (cp - k)] w' fun e w'' => e = .returned (.agg (vB R)) ∧ Below w'.heap.size w' w'') := C2
  have i1 : (0 : Int) ≤ (k : Int) := by omega
  have i2 : (k : Int) ≤ (n : Int) := by omega
  have i3 : (k : Int) ≤ (cp : Int) := by omega
  have i4 : (n : Int) ≤ (cp : Int) := by omega
  have hn1' : ¬ (n : Int) = 1 := by omega
  have i5 : ¬ cp = k := by omega
  clear C0 C1 C2
  go_enter Tryd.func55, Tryd.ntmps55
  go_wp2_with (first | (go_at_call 54; refine (D0.out _).mono ?_; rintro e w' ⟨rfl, hw'⟩; have hw'' := hw'.symm; clear hw'; subst hw''))
  refine wp_region_noPanic ?_
  refine wp_region_held_drew (S := fun _ => True) (by kernel_rfl) (trivial) (fun hHeld => ?_)
  try simp only [Act.put, List.setIfInBounds_toArray, List.set_cons_zero, List.set_cons_succ]
  refine wpAnyH_take (i := 0) (oi := { dst := some 15, op := Go.Op.move (Go.Operand.tmp 0), type := 44, pos := "ref.go:126", after := #[], guard := none }) (v := ?_) rfl (by kernel_rfl) (by kernel_rfl) (by kernel_rfl) (fun _ _ _ h => h) (Or.inl ⟨by rfl, ?_⟩) hHeld ?_
  rotate_left 1
  · (intro wq hSq; (try dsimp only at hSq); go_simp; first | done | with_reducible rfl)
  try simp only [Act.put, List.setIfInBounds_toArray, List.set_cons_zero, List.set_cons_succ]
  refine wpAnyH_take (i := 1) (oi := { dst := some 16, op := Go.Op.move (Go.Operand.tmp 5), type := 3, pos := "ref.go:126", after := #[], guard := none }) (v := ?_) rfl (by kernel_rfl) (by kernel_rfl) (by kernel_rfl) (fun _ _ _ h => h) (Or.inl ⟨by rfl, ?_⟩) hHeld ?_
  rotate_left 1
  · (intro wq hSq; (try dsimp only at hSq); go_simp; first | done | with_reducible rfl)
  try simp only [Act.put, List.setIfInBounds_toArray, List.set_cons_zero, List.set_cons_succ]
  refine wpAnyH_take (i := 2) (oi := { dst := some 17, op := Go.Op.slice 44 (Go.Operand.tmp 15) none (some (Go.Operand.tmp 16)) none, type := 44, pos := "ref.go:126", after := #[{ on := 0, ground := Go.Ground.data }, { on := 1, ground := Go.Ground.data }], guard := none }) (v := ?_) rfl (by kernel_rfl) (by kernel_rfl) (by kernel_rfl) (fun _ _ _ h => h) (Or.inl ⟨by rfl, ?_⟩) hHeld ?_
  rotate_left 1
  · (intro wq hSq; (try dsimp only at hSq); go_simp; first | done | with_reducible rfl)
  try simp only [Act.put, List.setIfInBounds_toArray, List.set_cons_zero, List.set_cons_succ]
  refine wpAnyH_take (i := 3) (oi := { dst := some 18, op := Go.Op.move (Go.Operand.tmp 1), type := 3, pos := "ref.go:126", after := #[], guard := none }) (v := ?_) rfl (by kernel_rfl) (by kernel_rfl) (by kernel_rfl) (fun _ _ _ h => h) (Or.inl ⟨by rfl, ?_⟩) hHeld ?_
  rotate_left 1
  · (intro wq hSq; (try dsimp only at hSq); go_simp; first | done | with_reducible rfl)
  try simp only [Act.put, List.setIfInBounds_toArray, List.set_cons_zero, List.set_cons_succ]
  refine wpAnyH_take (i := 5) (oi := { dst := some 20, op := Go.Op.move (Go.Operand.tmp 0), type := 44, pos := "ref.go:126", after := #[], guard := none }) (v := ?_) rfl (by kernel_rfl) (by kernel_rfl) (by kernel_rfl) (fun _ _ _ h => h) (Or.inl ⟨by rfl, ?_⟩) hHeld ?_
  rotate_left 1
  · (intro wq hSq; (try dsimp only at hSq); go_simp; first | done | with_reducible rfl)
  try simp only [Act.put, List.setIfInBounds_toArray, List.set_cons_zero, List.set_cons_succ]
  refine wpAnyH_take (i := 6) (oi := { dst := some 21, op := Go.Op.move (Go.Operand.tmp 5), type := 3, pos := "ref.go:126", after := #[], guard := none }) (v := ?_) rfl (by kernel_rfl) (by kernel_rfl) (by kernel_rfl) (fun _ _ _ h => h) (Or.inl ⟨by rfl, ?_⟩) hHeld ?_
  rotate_left 1
  · (intro wq hSq; (try dsimp only at hSq); go_simp; first | done | with_reducible rfl)
  try simp only [Act.put, List.setIfInBounds_toArray, List.set_cons_zero, List.set_cons_succ]
  refine wpAnyH_take (i := 7) (oi := { dst := some 22, op := Go.Op.slice 44 (Go.Operand.tmp 20) (some (Go.Operand.tmp 21)) none none, type := 44, pos := "ref.go:126", after := #[{ on := 5, ground := Go.Ground.data }, { on := 6, ground := Go.Ground.data }], guard := none }) (v := ?_) rfl (by kernel_rfl) (by kernel_rfl) (by kernel_rfl) (fun _ _ _ h => h) (Or.inl ⟨by rfl, ?_⟩) hHeld ?_
  rotate_left 1
  · (intro wq hSq; (try dsimp only at hSq); go_simp; first | done | with_reducible rfl)
  try simp only [Act.put, List.setIfInBounds_toArray, List.set_cons_zero, List.set_cons_succ]
  refine wpAnyH_ready (rs := [4]) (by kernel_rfl) (by simp) ?_
  refine AllReadyH.cons (o := { dst := some 19, op := Go.Op.call { callee := Go.Callee.value (Go.Operand.func 55), args := #[Go.Operand.tmp 17, Go.Operand.tmp 18], argTypes := #[44, 3] }, type := 44, pos := "ref.go:126", after := #[{ on := 2, ground := Go.Ground.data }, { on := 3, ground := Go.Ground.data }], guard := none }) rfl (fun K hK => ?_) AllReadyH.nil
  go_simp
  refine (D1.out _ (below_drew (Below.refl w.heap.size w))).mono ?_
  rintro e w4 ⟨u, rfl, o4, b4⟩
  refine hK.out _ _ (trivial) (fun hHeld1 => ?_)
  clear hK K hHeld
  try simp only [Act.put, List.setIfInBounds_toArray, List.set_cons_zero, List.set_cons_succ]
  refine wpAnyH_ready (rs := [8]) (by kernel_rfl) (by simp) ?_
  refine AllReadyH.cons (o := { dst := some 23, op := Go.Op.call { callee := Go.Callee.value (Go.Operand.func 33), args := #[Go.Operand.tmp 22], argTypes := #[44] }, type := 24, pos := "ref.go:126", after := #[{ on := 7, ground := Go.Ground.data }, { on := 4, ground := Go.Ground.chain }], guard := none }) rfl (fun K hK => ?_) AllReadyH.nil
  go_simp
  refine (D2.out _ b4).mono ?_
  rintro e w5 ⟨rfl, b45⟩
  have b5 := b4.trans (b45.mono b4.size)
  have o5 := o4.below b45
  refine hK.out _ _ (trivial) (fun hHeld2 => ?_)
  clear hK K hHeld1
  try simp only [Act.put, List.setIfInBounds_toArray, List.set_cons_zero, List.set_cons_succ]
  refine wpAnyH_ready (rs := [9]) (by kernel_rfl) (by simp) ?_
  refine AllReadyH.cons (o := { dst := some 24, op := Go.Op.buildSlice 44 1 #[(0, Go.Operand.tmp 23)], type := 44, pos := "ref.go:126", after := #[{ on := 8, ground := Go.Ground.data }], guard := none }) rfl (fun K hK => ?_) AllReadyH.nil
  refine step_buildH rfl _ rfl R hR (by rfl) ?_
  refine hK.out _ _ (trivial) (fun hHeld3 => ?_)
  clear hK K hHeld2
  try simp only [Act.put, List.setIfInBounds_toArray, List.set_cons_zero, List.set_cons_succ]
  refine wpAnyH_ready (rs := [10]) (by kernel_rfl) (by simp) ?_
  refine AllReadyH.cons (o := { dst := some 25, op := Go.Op.call { callee := Go.Callee.builtin Go.Builtin.append, args := #[Go.Operand.tmp 19, Go.Operand.tmp 24], argTypes := #[44, 44] }, type := 44, pos := "ref.go:126", after := #[{ on := 4, ground := Go.Ground.data }, { on := 9, ground := Go.Ground.data }, { on := 8, ground := Go.Ground.chain }], guard := none }) rfl (fun K hK => ?_) AllReadyH.nil
  refine step_appendH rfl _ _ rfl w.heap.size u P (by rfl) o5 R hR (by rfl) (by omega) b5.size ?_
  intro v6 w6 o6 g6
  refine hK.out _ _ (trivial) (fun hHeld4 => ?_)
  clear hK K hHeld3
  try simp only [Act.put, List.setIfInBounds_toArray, List.set_cons_zero, List.set_cons_succ]
  refine wpAnyH_take (i := 11) (oi := { dst := some 4, op := Go.Op.assign (Go.Operand.tmp 25), type := 44, pos := "ref.go:126", after := #[{ on := 10, ground := Go.Ground.data }, { on := 10, ground := Go.Ground.chain }, { on := 0, ground := Go.Ground.phase }, { on := 1, ground := Go.Ground.phase }, { on := 2, ground := Go.Ground.phase }, { on := 3, ground := Go.Ground.phase }, { on := 4, ground := Go.Ground.phase }, { on := 5, ground := Go.Ground.phase }, { on := 6, ground := Go.Ground.phase }, { on := 7, ground := Go.Ground.phase }, { on := 8, ground := Go.Ground.phase }, { on := 9, ground := Go.Ground.phase }, { on := 10, ground := Go.Ground.phase }], guard := none }) (v := ?_) rfl (by kernel_rfl) (by kernel_rfl) (by kernel_rfl) (fun _ _ _ h => h) (Or.inl ⟨by rfl, ?_⟩) hHeld4 ?_
  rotate_left 1
  · (intro wq hSq; (try dsimp only at hSq); go_simp; first | done | with_reducible rfl)
  try simp only [Act.put, List.setIfInBounds_toArray, List.set_cons_zero, List.set_cons_succ]
  refine wpAnyH_done (by kernel_rfl) ?_ _
  refine NoPanic.normal ?_
  go_wp2
  go_ret
  exact ⟨_, rfl, o6, (b5.alloc b5.size _).grown g6 (by have := b5.size; simp; omega) (fun j hj => (own_lt o5 j hj).2)⟩
set_option maxRecDepth 100000 in
set_option maxHeartbeats 600000 in
theorem path_hi (P : List (List Int)) (R : List Int) (n i k b o cp : Nat) (w : World) (hik : ¬ i < k) (hk1 : 0 < k) (hkn : k < n) (hin : i < n) (hn : n ≤ 1000000) (hcp : n ≤ cp) (hcp2 : cp ≤ 9223372036854775807) (hR : R.length = 32) (hPl : P.length ≤ 1000)
    (C0 : ∀ w' : World, Calls Tryd.prog 54 #[.int .i64 n] w' fun e w'' => e = .returned (.int .i64 k) ∧ w'' = w')
    (C1 : ∀ w', Below w.heap.size w w' → Calls Tryd.prog 55 #[.slice (some ⟨b, o + k * 32, none⟩) (n - k) (cp - k), .int .i64 ((i : Int) - (k : Int))] w' fun e w'' => ∃ u, e = .returned u ∧ HashRow w'.heap.size P u w'' ∧ Below w'.heap.size w' w'')
    (C2 : ∀ w', Below w.heap.size w w' → Calls Tryd.prog 33 #[.slice (some ⟨b, o, none⟩) k cp] w' fun e w'' => e = .returned (.agg (vB R)) ∧ Below w'.heap.size w' w'') :
    Calls Tryd.prog 55 #[.slice (some ⟨b, o, none⟩) n cp, .int .i64 i] w fun e w' => ∃ u, e = .returned u ∧ HashRow w.heap.size (P ++ [R]) u w' ∧ Below w.heap.size w w' := by
  have D0 : Hid (∀ w' : World, Calls Tryd.prog 54 #[.int .i64 n] w' fun e w'' => e = .returned (.int .i64 k) ∧ w'' = w') := C0
  have D1 : Hid (∀ w', Below w.heap.size w w' → Calls Tryd.prog 55 #[.slice (some ⟨b, o + k * 32, none⟩) (n - k) (cp - k), .int .i64 ((i : Int) - (k : Int))] w' fun e w'' => ∃ u, e = .returned u ∧ HashRow w.heap.size P u w'' ∧ Below w.heap.size w w'') := fun w' q => (C1 w' q).mono (by
    rintro e w5 ⟨u, rfl, h1, h2⟩
    exact ⟨u, rfl, own_mono h1 q.size, q.trans (h2.mono q.size)⟩)
  have D2 : Hid (∀ w', Below w.heap.size w w' → Calls Tryd.prog 33 #[.slice (some ⟨b, o, none⟩) k cp] w' fun e w'' => e = .returned (.agg (vB R)) ∧ Below w'.heap.size w' w'') := C2
  have i1 : (0 : Int) ≤ (k : Int) := by omega
  have i2 : (k : Int) ≤ (n : Int) := by omega
  have i3 : (k : Int) ≤ (cp : Int) := by omega
  have i4 : (n : Int) ≤ (cp : Int) := by omega
  have hn1' : ¬ (n : Int) = 1 := by omega
  have i5 : ¬ cp = k := by omega
  have j5 : IntKind.i64.wrap ((i : Int) - (k : Int)) = (i : Int) - (k : Int) := by rw [IntKind.wrap_i64]; omega
  clear C0 C1 C2
  go_enter Tryd.func55, Tryd.ntmps55
  go_wp2_with (first | (go_at_call 54; refine (D0.out _).mono ?_; rintro e w' ⟨rfl, hw'⟩; have hw'' := hw'.symm; clear hw'; subst hw''))
  refine wp_region_noPanic ?_
  refine wp_region_held_drew (S := fun _ => True) (by kernel_rfl) (trivial) (fun hHeld => ?_)
  try simp only [Act.put, List.setIfInBounds_toArray, List.set_cons_zero, List.set_cons_succ]
  refine wpAnyH_take (i := 0) (oi := { dst := some 26, op := Go.Op.move (Go.Operand.tmp 0), type := 44, pos := "ref.go:128", after := #[], guard := none }) (v := ?_) rfl (by kernel_rfl) (by kernel_rfl) (by kernel_rfl) (fun _ _ _ h => h) (Or.inl ⟨by rfl, ?_⟩) hHeld ?_
  rotate_left 1
  · (intro wq hSq; (try dsimp only at hSq); go_simp; first | done | with_reducible rfl)
  try simp only [Act.put, List.setIfInBounds_toArray, List.set_cons_zero, List.set_cons_succ]
  refine wpAnyH_take (i := 1) (oi := { dst := some 27, op := Go.Op.move (Go.Operand.tmp 5), type := 3, pos := "ref.go:128", after := #[], guard := none }) (v := ?_) rfl (by kernel_rfl) (by kernel_rfl) (by kernel_rfl) (fun _ _ _ h => h) (Or.inl ⟨by rfl, ?_⟩) hHeld ?_
  rotate_left 1
  · (intro wq hSq; (try dsimp only at hSq); go_simp; first | done | with_reducible rfl)
  try simp only [Act.put, List.setIfInBounds_toArray, List.set_cons_zero, List.set_cons_succ]
  refine wpAnyH_take (i := 2) (oi := { dst := some 28, op := Go.Op.slice 44 (Go.Operand.tmp 26) (some (Go.Operand.tmp 27)) none none, type := 44, pos := "ref.go:128", after := #[{ on := 0, ground := Go.Ground.data }, { on := 1, ground := Go.Ground.data }], guard := none }) (v := ?_) rfl (by kernel_rfl) (by kernel_rfl) (by kernel_rfl) (fun _ _ _ h => h) (Or.inl ⟨by rfl, ?_⟩) hHeld ?_
  rotate_left 1
  · (intro wq hSq; (try dsimp only at hSq); go_simp; first | done | with_reducible rfl)
  try simp only [Act.put, List.setIfInBounds_toArray, List.set_cons_zero, List.set_cons_succ]
  refine wpAnyH_take (i := 3) (oi := { dst := some 29, op := Go.Op.move (Go.Operand.tmp 1), type := 3, pos := "ref.go:128", after := #[], guard := none }) (v := ?_) rfl (by kernel_rfl) (by kernel_rfl) (by kernel_rfl) (fun _ _ _ h => h) (Or.inl ⟨by rfl, ?_⟩) hHeld ?_
  rotate_left 1
  · (intro wq hSq; (try dsimp only at hSq); go_simp; first | done | with_reducible rfl)
  try simp only [Act.put, List.setIfInBounds_toArray, List.set_cons_zero, List.set_cons_succ]
  refine wpAnyH_take (i := 4) (oi := { dst := some 30, op := Go.Op.move (Go.Operand.tmp 5), type := 3, pos := "ref.go:128", after := #[], guard := none }) (v := ?_) rfl (by kernel_rfl) (by kernel_rfl) (by kernel_rfl) (fun _ _ _ h => h) (Or.inl ⟨by rfl, ?_⟩) hHeld ?_
  rotate_left 1
  · (intro wq hSq; (try dsimp only at hSq); go_simp; first | done | with_reducible rfl)
  try simp only [Act.put, List.setIfInBounds_toArray, List.set_cons_zero, List.set_cons_succ]
  refine wpAnyH_take (i := 5) (oi := { dst := some 31, op := Go.Op.binOp Go.BinOp.sub 3 (Go.Operand.tmp 29) (Go.Operand.tmp 30) 3, type := 3, pos := "ref.go:128", after := #[{ on := 3, ground := Go.Ground.data }, { on := 4, ground := Go.Ground.data }], guard := none }) (v := ?_) rfl (by kernel_rfl) (by kernel_rfl) (by kernel_rfl) (fun _ _ _ h => h) (Or.inl ⟨by rfl, ?_⟩) hHeld ?_
  rotate_left 1
  · (intro wq hSq; (try dsimp only at hSq); go_simp; first | done | with_reducible rfl)
  try simp only [Act.put, List.setIfInBounds_toArray, List.set_cons_zero, List.set_cons_succ]
  refine wpAnyH_take (i := 7) (oi := { dst := some 33, op := Go.Op.move (Go.Operand.tmp 0), type := 44, pos := "ref.go:128", after := #[], guard := none }) (v := ?_) rfl (by kernel_rfl) (by kernel_rfl) (by kernel_rfl) (fun _ _ _ h => h) (Or.inl ⟨by rfl, ?_⟩) hHeld ?_
  rotate_left 1
  · (intro wq hSq; (try dsimp only at hSq); go_simp; first | done | with_reducible rfl)
  try simp only [Act.put, List.setIfInBounds_toArray, List.set_cons_zero, List.set_cons_succ]
  refine wpAnyH_take (i := 8) (oi := { dst := some 34, op := Go.Op.move (Go.Operand.tmp 5), type := 3, pos := "ref.go:128", after := #[], guard := none }) (v := ?_) rfl (by kernel_rfl) (by kernel_rfl) (by kernel_rfl) (fun _ _ _ h => h) (Or.inl ⟨by rfl, ?_⟩) hHeld ?_
  rotate_left 1
  · (intro wq hSq; (try dsimp only at hSq); go_simp; first | done | with_reducible rfl)
  try simp only [Act.put, List.setIfInBounds_toArray, List.set_cons_zero, List.set_cons_succ]
  refine wpAnyH_take (i := 9) (oi := { dst := some 35, op := Go.Op.slice 44 (Go.Operand.tmp 33) none (some (Go.Operand.tmp 34)) none, type := 44, pos := "ref.go:128", after := #[{ on := 7, ground := Go.Ground.data }, { on := 8, ground := Go.Ground.data }], guard := none }) (v := ?_) rfl (by kernel_rfl) (by kernel_rfl) (by kernel_rfl) (fun _ _ _ h => h) (Or.inl ⟨by rfl, ?_⟩) hHeld ?_
  rotate_left 1
  · (intro wq hSq; (try dsimp only at hSq); go_simp; first | done | with_reducible rfl)
  try simp only [Act.put, List.setIfInBounds_toArray, List.set_cons_zero, List.set_cons_succ]
  refine wpAnyH_ready (rs := [6]) (by kernel_rfl) (by simp) ?_
  refine AllReadyH.cons (o := { dst := some 32, op := Go.Op.call { callee := Go.Callee.value (Go.Operand.func 55), args := #[Go.Operand.tmp 28, Go.Operand.tmp 31], argTypes := #[44, 3] }, type := 44, pos := "ref.go:128", after := #[{ on := 2, ground := Go.Ground.data }, { on := 5, ground := Go.Ground.data }], guard := none }) rfl (fun K hK => ?_) AllReadyH.nil
  go_simp
  refine (D1.out _ (below_drew (Below.refl w.heap.size w))).mono ?_
  rintro e w4 ⟨u, rfl, o4, b4⟩
  refine hK.out _ _ (trivial) (fun hHeld1 => ?_)
  clear hK K hHeld
  try simp only [Act.put, List.setIfInBounds_toArray, List.set_cons_zero, List.set_cons_succ]
  refine wpAnyH_ready (rs := [10]) (by kernel_rfl) (by simp) ?_
  refine AllReadyH.cons (o := { dst := some 36, op := Go.Op.call { callee := Go.Callee.value (Go.Operand.func 33), args := #[Go.Operand.tmp 35], argTypes := #[44] }, type := 24, pos := "ref.go:128", after := #[{ on := 9, ground := Go.Ground.data }, { on := 6, ground := Go.Ground.chain }], guard := none }) rfl (fun K hK => ?_) AllReadyH.nil
  go_simp
  refine (D2.out _ b4).mono ?_
  rintro e w5 ⟨rfl, b45⟩
  have b5 := b4.trans (b45.mono b4.size)
  have o5 := o4.below b45
  refine hK.out _ _ (trivial) (fun hHeld2 => ?_)
  clear hK K hHeld1
  try simp only [Act.put, List.setIfInBounds_toArray, List.set_cons_zero, List.set_cons_succ]
  refine wpAnyH_ready (rs := [11]) (by kernel_rfl) (by simp) ?_
  refine AllReadyH.cons (o := { dst := some 37, op := Go.Op.buildSlice 44 1 #[(0, Go.Operand.tmp 36)], type := 44, pos := "ref.go:128", after := #[{ on := 10, ground := Go.Ground.data }], guard := none }) rfl (fun K hK => ?_) AllReadyH.nil
  refine step_buildH rfl _ rfl R hR (by rfl) ?_
  refine hK.out _ _ (trivial) (fun hHeld3 => ?_)
  clear hK K hHeld2
  try simp only [Act.put, List.setIfInBounds_toArray, List.set_cons_zero, List.set_cons_succ]
  refine wpAnyH_ready (rs := [12]) (by kernel_rfl) (by simp) ?_
  refine AllReadyH.cons (o := { dst := some 38, op := Go.Op.call { callee := Go.Callee.builtin Go.Builtin.append, args := #[Go.Operand.tmp 32, Go.Operand.tmp 37], argTypes := #[44, 44] }, type := 44, pos := "ref.go:128", after := #[{ on := 6, ground := Go.Ground.data }, { on := 11, ground := Go.Ground.data }, { on := 10, ground := Go.Ground.chain }], guard := none }) rfl (fun K hK => ?_) AllReadyH.nil
  refine step_appendH rfl _ _ rfl w.heap.size u P (by rfl) o5 R hR (by rfl) (by omega) b5.size ?_
  intro v6 w6 o6 g6
  refine hK.out _ _ (trivial) (fun hHeld4 => ?_)
  clear hK K hHeld3
  try simp only [Act.put, List.setIfInBounds_toArray, List.set_cons_zero, List.set_cons_succ]
  refine wpAnyH_take (i := 13) (oi := { dst := some 4, op := Go.Op.assign (Go.Operand.tmp 38), type := 44, pos := "ref.go:128", after := #[{ on := 12, ground := Go.Ground.data }, { on := 12, ground := Go.Ground.chain }, { on := 0, ground := Go.Ground.phase }, { on := 1, ground := Go.Ground.phase }, { on := 2, ground := Go.Ground.phase }, { on := 3, ground := Go.Ground.phase }, { on := 4, ground := Go.Ground.phase }, { on := 5, ground := Go.Ground.phase }, { on := 6, ground := Go.Ground.phase }, { on := 7, ground := Go.Ground.phase }, { on := 8, ground := Go.Ground.phase }, { on := 9, ground := Go.Ground.phase }, { on := 10, ground := Go.Ground.phase }, { on := 11, ground := Go.Ground.phase }, { on := 12, ground := Go.Ground.phase }], guard := none }) (v := ?_) rfl (by kernel_rfl) (by kernel_rfl) (by kernel_rfl) (fun _ _ _ h => h) (Or.inl ⟨by rfl, ?_⟩) hHeld4 ?_
  rotate_left 1
  · (intro wq hSq; (try dsimp only at hSq); go_simp; first | done | with_reducible rfl)
  try simp only [Act.put, List.setIfInBounds_toArray, List.set_cons_zero, List.set_cons_succ]
  refine wpAnyH_done (by kernel_rfl) ?_ _
  refine NoPanic.normal ?_
  go_wp2
  go_ret
  exact ⟨_, rfl, o6, (b5.alloc b5.size _).grown g6 (by have := b5.size; simp; omega) (fun j hj => (own_lt o5 j hj).2)⟩
theorem path_any (d : Nat) : ∀ (hs : List (List Int)) (i : Nat) (v : Value) (w : World), depthN hs.length i = d → i < hs.length → hs.length ≤ 1000000 → d ≤ 1000 → Hashes hs → 0 < w.heap.size → ListAt w v hs →
    Calls Tryd.prog 55 #[v, .int .i64 i] w fun e w' => ∃ u, e = .returned u ∧ HashRow w.heap.size (pathD d hs i) u w' ∧ Below w.heap.size w w' := by
  induction d with
  | zero =>
    intro hs i v w hd hi hn _ _ h0 hv
    have : hs.length = 1 := by
      rcases Nat.lt_or_ge hs.length 2 with h | h
      · omega
      · by_cases hk : i < halfN hs.length
        · rw [depthN_lo hs.length i h hk] at hd; omega
        · rw [depthN_hi hs.length i h hk] at hd; omega
    obtain ⟨av, b, o, cp, rfl, _⟩ := hv
    rw [this]
    exact path_one av cp i w
  | succ d ih =>
    intro hs i v w hdep hin hn hd hH h0 hv
    obtain ⟨av, b, o, cp, rfl, hcp, hcp2, hav, hr, hb, _⟩ := hv
    obtain rfl := hav (by omega)
    have h2n : 2 ≤ hs.length := by
      rcases Nat.lt_or_ge hs.length 2 with h | h
      · rw [depthN_one hs.length i h] at hdep; omega
      · exact h
    have hk1 := halfN_pos hs.length
    have hk2 := halfN_lt hs.length h2n
    have hC0 : ∀ w' : World, Calls Tryd.prog 54 #[.int .i64 hs.length] w' fun e w'' => e = .returned (.int .i64 (halfN hs.length)) ∧ w'' = w' := fun w' => half_any hs.length h2n (by omega) w'
    have hT : ∀ w', Below w.heap.size w w' → ListAt w' (.slice (some ⟨b, o, none⟩) (halfN hs.length) cp) (hs.take (halfN hs.length)) := fun w' q => ListAt.take rfl (range_below hr q hb) hH (Nat.lt_of_lt_of_le hb q.size) hcp2 hcp (halfN hs.length) (by omega)
    have hD : ∀ w', Below w.heap.size w w' → ListAt w' (.slice (some ⟨b, o + halfN hs.length * 32, none⟩) (hs.length - halfN hs.length) (cp - halfN hs.length)) (hs.drop (halfN hs.length)) := fun w' q => ListAt.drop rfl (range_below hr q hb) hH (Nat.lt_of_lt_of_le hb q.size) hcp2 hcp (halfN hs.length) (by omega)
    have lT : (hs.take (halfN hs.length)).length = halfN hs.length := by simp; omega
    have lD : (hs.drop (halfN hs.length)).length = hs.length - halfN hs.length := by simp
    unfold pathD
    by_cases hik : i < halfN hs.length
    · rw [if_pos hik]
      rw [depthN_lo hs.length i h2n hik] at hdep
      exact path_lo (pathD d (hs.take (halfN hs.length)) i) (overH (hs.drop (halfN hs.length))) hs.length i (halfN hs.length) b o cp w hik hk1 hk2 hn hcp hcp2 (overH_hash _ (hH.drop _)).1 (by rw [pathD_length]; omega) hC0
        (fun w' q => ih _ i _ w' (by rw [lT]; omega) (by rw [lT]; omega) (by rw [lT]; omega) (by omega) (hH.take _) (by have := q.size; omega) (hT w' q))
        (fun w' q => rover_any _ _ _ w' (Nat.le_refl _) (by rw [lD]; omega) (hH.drop _) (by have := q.size; omega) (hD w' q))
    · rw [if_neg hik]
      rw [depthN_hi hs.length i h2n hik] at hdep
      refine path_hi (pathD d (hs.drop (halfN hs.length)) (i - halfN hs.length)) (overH (hs.take (halfN hs.length))) hs.length i (halfN hs.length) b o cp w hik hk1 hk2 hin hn hcp hcp2 (overH_hash _ (hH.take _)).1 (by rw [pathD_length]; omega) hC0
        (fun w' q => ?_)
        (fun w' q => rover_any _ _ _ w' (Nat.le_refl _) (by rw [lT]; omega) (hH.take _) (by have := q.size; omega) (hT w' q))
      have := ih _ (i - halfN hs.length) _ w' (by rw [lD]; omega) (by rw [lD]; omega) (by rw [lD]; omega) (by omega) (hH.drop _) (by have := q.size; omega) (hD w' q)
      rw [show ((i - halfN hs.length : Nat) : Int) = (i : Int) - (halfN hs.length : Int) by omega] at this
      exact this
end Go.Proofs.YtlcenbhcegmnoaaDoor
namespace Go.Proofs.YtlcenbhcegmnoaaDoor
set_option linter.unusedSimpArgs false
set_option linter.unusedVariables false
open Go.RowKit
theorem depthN_small (m : Nat) : ∀ n i, n ≤ m → depthN n i ≤ n := by
  induction m with
  | zero => intro n i h; rw [depthN_one n i (by omega)]; omega
  | succ m ih =>
    intro n i h
    rcases Nat.lt_or_ge n 2 with h2 | h2
    · rw [depthN_one n i h2]; omega
    · have k1 := halfN_pos n
      have k2 := halfN_lt n h2
      by_cases hk : i < halfN n
      · rw [depthN_lo n i h2 hk]
        have := ih (halfN n) i (by omega)
        omega
      · rw [depthN_hi n i h2 hk]
        have := ih (n - halfN n) (i - halfN n) (by omega)
        omega
theorem leavesL_length (bs : List Int) : (leavesL bs).length = (bs.length + 31) / 32 := by unfold leavesL; rw [List.length_map, chunksL_length]
set_option maxRecDepth 100000 in
set_option maxHeartbeats 600000 in
/-- The reference's Proof, of an index that is there. -/
theorem rproof_in (v : Value) (bs : List Int) (i : Nat) (w : World) (h0 : 0 < w.heap.size) (hp : PartAt w v bs) (hn : bs.length ≤ 30000) (hby : Bytes bs) (hi : i < (leavesL bs).length) :
    Calls Tryd.prog 35 #[v, .int .i64 i] w fun e w' => ∃ u, e = .returned (.tuple #[u, .int .i64 0]) ∧ HashRow w.heap.size (pathD (depthN (leavesL bs).length i) (leavesL bs) i) u w' ∧ Below w.heap.size w w' := by
  have hl := leavesL_length bs
  have hd := depthN_small _ (leavesL bs).length i (Nat.le_refl _)
  have C1 : Hid (Calls Tryd.prog 52 #[v] w fun e w' => ∃ v', e = .returned v' ∧ ListAt w' v' (leavesL bs) ∧ Below w.heap.size w w') := rleaves_any v bs w h0 hp (by omega) hby
  have C2 : Hid (∀ w' x, 0 < w'.heap.size → ListAt w' x (leavesL bs) → Calls Tryd.prog 55 #[x, .int .i64 i] w' fun e w'' => ∃ u, e = .returned u ∧ HashRow w'.heap.size (pathD (depthN (leavesL bs).length i) (leavesL bs) i) u w'' ∧ Below w'.heap.size w' w'') := fun w' x q hx => path_any _ (leavesL bs) i x w' rfl hi (by omega) (by omega) (leavesL_hashes bs) q hx
  have hsm : (leavesL bs).length ≤ 1000 := by omega
  generalize pathD (depthN (leavesL bs).length i) (leavesL bs) i = P at *
  generalize leavesL bs = ls at *
  clear hl hd hby
  obtain ⟨av, _, _, cp, rfl, _⟩ := hp
  go_enter Tryd.func35, Tryd.ntmps35
  go_wp2_with fail
  refine C1.out.mono ?_
  rintro e w2 ⟨x, rfl, px, b2⟩
  have px0 := px
  obtain ⟨avx, bx, ox, cpx, rfl, _⟩ := px
  have i1 : ¬ (i : Int) < 0 := by omega
  have i2 : ¬ (ls.length : Int) ≤ (i : Int) := by omega
  have D2 := C2.out w2 _ (by have := b2.size; omega) px0
  have HD2 : Hid (Calls Tryd.prog 55 #[.slice avx ls.length cpx, .int .i64 i] w2 fun e w'' => ∃ u, e = .returned u ∧ HashRow w2.heap.size P u w'' ∧ Below w2.heap.size w2 w'') := D2
  clear D2 C1 C2 px0
  go_wp2_with (first | (go_at_call 55; refine HD2.out.mono ?_; rintro e w3 ⟨u, rfl, o3, b3⟩))
  go_ret2
  exact ⟨u, rfl, own_mono o3 b2.size, b2.trans (b3.mono b2.size)⟩
set_option maxRecDepth 100000 in
set_option maxHeartbeats 600000 in
/-- The reference's Proof, of an index that is not. -/
theorem rproof_out (v : Value) (bs : List Int) (i : Int) (w : World) (h0 : 0 < w.heap.size) (hp : PartAt w v bs) (hn : bs.length ≤ 30000) (hby : Bytes bs) (hi : i < 0 ∨ (leavesL bs).length ≤ i) :
    Calls Tryd.prog 35 #[v, .int .i64 i] w fun e w' => e = .returned (.tuple #[.slice none 0 0, .int .i64 1]) ∧ Below w.heap.size w w' := by
  have hl := leavesL_length bs
  have C1 : Hid (Calls Tryd.prog 52 #[v] w fun e w' => ∃ v', e = .returned v' ∧ ListAt w' v' (leavesL bs) ∧ Below w.heap.size w w') := rleaves_any v bs w h0 hp (by omega) hby
  have hsm : (leavesL bs).length ≤ 1000 := by omega
  generalize leavesL bs = ls at *
  clear hl hby
  obtain ⟨av, _, _, cp, rfl, _⟩ := hp
  by_cases hneg : i < 0
  all_goals go_enter Tryd.func35, Tryd.ntmps35
  all_goals go_wp2_with fail
  all_goals refine C1.out.mono ?_
  all_goals rintro e w2 ⟨x, rfl, px, b2⟩
  all_goals obtain ⟨avx, bx, ox, cpx, rfl, _⟩ := px
  · go_wp2
    go_ret2
    exact ⟨rfl, b2⟩
  · have i2 : (ls.length : Int) ≤ i := by omega
    go_wp2
    go_ret2
    exact ⟨rfl, b2⟩
end Go.Proofs.YtlcenbhcegmnoaaDoor
namespace Go.Proofs.YtlcenbhcegmnoaaDoor
set_option linter.unusedSimpArgs false
set_option linter.unusedVariables false
open Go.RowKit
theorem overH_only (hs : List (List Int)) (h : hs.length = 1) : overH hs = hs[0]?.getD [] := by
  match hs, h with
  | [x], _ => unfold overH; rfl
/-- A way with the hashes beside it leads to the root. -/
theorem lead_path (d : Nat) : ∀ (hs : List (List Int)) (i : Nat), depthN hs.length i = d → i < hs.length → leadD d (hs[i]?.getD []) hs.length i (pathD d hs i) = overH hs := by
  induction d with
  | zero =>
    intro hs i hd hi
    have h1 : hs.length = 1 := by
      rcases Nat.lt_or_ge hs.length 2 with h | h
      · omega
      · by_cases hk : i < halfN hs.length
        · rw [depthN_lo hs.length i h hk] at hd; omega
        · rw [depthN_hi hs.length i h hk] at hd; omega
    obtain rfl : i = 0 := by omega
    rw [overH_only hs h1]
    rfl
  | succ d ih =>
    intro hs i hdep hin
    have h2n : 2 ≤ hs.length := by
      rcases Nat.lt_or_ge hs.length 2 with h | h
      · rw [depthN_one hs.length i h] at hdep; omega
      · exact h
    have hk1 := halfN_pos hs.length
    have hk2 := halfN_lt hs.length h2n
    have lT : (hs.take (halfN hs.length)).length = halfN hs.length := by simp; omega
    have lD : (hs.drop (halfN hs.length)).length = hs.length - halfN hs.length := by simp
    rw [overH_more hs h2n]
    unfold leadD pathD
    by_cases hik : i < halfN hs.length
    · rw [depthN_lo hs.length i h2n hik] at hdep
      have e := ih (hs.take (halfN hs.length)) i (by rw [lT]; omega) (by rw [lT]; omega)
      rw [lT, List.getElem?_take, if_pos hik] at e
      have pl := pathD_length d (hs.take (halfN hs.length)) i
      simp only [if_pos hik]
      rw [← leadD_take d d _ _ _ (pathD d (hs.take (halfN hs.length)) i ++ _) (Nat.le_refl _), List.take_left' pl, e, List.getElem?_append_right (by omega), pl, Nat.sub_self]
      rfl
    · rw [depthN_hi hs.length i h2n hik] at hdep
      have e := ih (hs.drop (halfN hs.length)) (i - halfN hs.length) (by rw [lD]; omega) (by rw [lD]; omega)
      rw [lD, List.getElem?_drop, show halfN hs.length + (i - halfN hs.length) = i by omega] at e
      have pl := pathD_length d (hs.drop (halfN hs.length)) (i - halfN hs.length)
      simp only [if_neg hik]
      rw [← leadD_take d d _ _ _ (pathD d (hs.drop (halfN hs.length)) (i - halfN hs.length) ++ _) (Nat.le_refl _), List.take_left' pl, e, List.getElem?_append_right (by omega), pl, Nat.sub_self]
      rfl
end Go.Proofs.YtlcenbhcegmnoaaDoor
namespace Go.Proofs.YtlcenbhcegmnoaaDoor
set_option linter.unusedSimpArgs false
set_option linter.unusedVariables false
open Go.RowKit
/-- make([]Hash, n). -/
theorem make44n (n : Nat) (h : n ≤ 4398046511104) (w : World) : ∃ cs : Array Value, cs.size = n * 32 ∧ (Instr.makeSlice 44 (.int .i64 n) (.int .i64 n)).run Tryd.prog w = .ok (.slice (some ⟨w.heap.size, 0, none⟩) n n) (w.alloc (.cells cs 24)) := by
  obtain ⟨i, hi, hz0, hz1, hz2⟩ := info_parts info24
  have := run_make (P := Tryd.prog) w 44 24 i (.agg (vB (zs 32))) Tryd.underlying44 hi hz0 .i64 .i64 n n (by omega) (by omega) (by rw [hz2]; omega) (by omega)
  refine ⟨_, size_madeCells (Value.cells (.agg (vB (zs 32)))) (n * 32), ?_⟩
  simpa [hz1] using this
/-- The block g holds, from the hash j on, the hashes of P. -/
def RowFrom (W : World) (g d j : Nat) (P : List (List Int)) : Prop := ∃ cs : Array Value, W.heap[g]? = some (.cells cs 24) ∧ cs.size = d * 32 ∧ cs.toList.drop (j * 32) = (vB P.flatten).toList
theorem RowFrom.start {w W : World} {g d : Nat} {cs : Array Value} (hg : W.heap[g]? = some (.cells cs 24)) (hs : cs.size = d * 32) : RowFrom W g d d [] :=
  ⟨cs, hg, hs, by rw [List.drop_of_length_le (by simp; omega)]; rfl⟩
theorem RowFrom.below {W W' : World} {g d j : Nat} {P : List (List Int)} (h : RowFrom W g d j P) (hb : Below W.heap.size W W') : RowFrom W' g d j P := by
  obtain ⟨cs, h1, h2, h3⟩ := h
  exact ⟨cs, by rw [hb.block _ (Array.getElem?_eq_some_iff.1 h1).1]; exact h1, h2, h3⟩
/-- A row that is filled to its front is a list of hashes. -/
theorem RowFrom.list {W : World} {g d : Nat} {P : List (List Int)} (h : RowFrom W g d 0 P) (hP : P.length = d) (hd : d ≤ 1000000) : ListAt W (.slice (some ⟨g, 0, none⟩) d d) P := by
  obtain ⟨cs, h1, h2, h3⟩ := h
  rw [Nat.zero_mul, List.drop_zero] at h3
  refine ⟨some ⟨g, 0, none⟩, g, 0, d, by rw [hP], by omega, by omega, fun _ => rfl, fun j x hx => ?_, (Array.getElem?_eq_some_iff.1 h1).1, fun h => by cases h⟩
  rw [Nat.zero_add, cell_of_row W g j cs 24 (0, 0) h1]
  rw [← h3] at hx
  simpa using hx
end Go.Proofs.YtlcenbhcegmnoaaDoor
namespace Go.Proofs.YtlcenbhcegmnoaaDoor
set_option linter.unusedSimpArgs false
set_option linter.unusedVariables false
open Go.RowKit
theorem drop_put (l m r : List Value) (p n : Nat) (hp : p ≤ l.length) (hm : m.length = n) (h : l.drop (p + n) = r) : (l.take p ++ (m ++ l.drop (p + n))).drop p = m ++ r := by
  rw [List.drop_append_of_le_length (by simp; omega), List.drop_of_length_le (by simp; omega), List.nil_append, h]
theorem RowFrom.there {W : World} {g d j : Nat} {P : List (List Int)} (h : RowFrom W g d j P) (k : Nat) (hk : k < d) : W.there g (k * 32) 32 := by
  obtain ⟨cs, h1, h2, h3⟩ := h
  have := there_of_block (n := d * 32) h1 (by omega)
  intro q hq
  have e := this (k * 32 + q) (by omega)
  simpa [Nat.zero_add] using e
theorem RowFrom.put {W : World} {g d j : Nat} {P : List (List Int)} {H : List Int} (h : RowFrom W g d (j + 1) P) (hj : j < d) (hH : H.length = 32) : RowFrom (W.setCells g (j * 32) (vB H).toList) g d j (H :: P) := by
  obtain ⟨cs, h1, h2, h3⟩ := h
  have hb := setCells_block g 24 (vB H).toList (j * 32) W cs h1 (by rw [Array.length_toList, vB_size, hH]; omega)
  refine ⟨_, hb, ?_, ?_⟩
  · simp [vB, hH, h2]; omega
  · have e := drop_put cs.toList (vB H).toList (vB P.flatten).toList (j * 32) 32 (by simp; omega) (by simp [vB, hH]) (by rw [show j * 32 + 32 = (j + 1) * 32 by omega]; exact h3)
    have hl : (vB H).toList.length = 32 := by simp [vB, hH]
    simp only [hl]
    simpa [vB] using e
end Go.Proofs.YtlcenbhcegmnoaaDoor
namespace Go.Proofs.YtlcenbhcegmnoaaDoor
set_option linter.unusedSimpArgs false
set_option linter.unusedVariables false
open Go.RowKit
attribute [local go_sem ↓] Go.wp_at_zero Go.wp_at_succ
/-- Where the way stands: the leaves that are left, the index in them, the row filled from its place j on. -/
def WayAt (w2 wr : World) (g d : Nat) (All : List (List Int)) (x : Value) (i' j : Nat) : Prop :=
  ∃ (m Q : List (List Int)), ListAt w2 x m ∧ Hashes m ∧ depthN m.length i' = j ∧ i' < m.length ∧ m.length ≤ 1000 ∧ RowFrom wr g d j Q ∧ All = pathD j m i' ++ Q
set_option maxRecDepth 100000 in
set_option maxHeartbeats 1000000 in
theorem proof_core (av : Option Addr) (N cp i d : Nat) (ls All : List (List Int)) (w : World) (hL : Laid w) (hi : i < ls.length) (hdd : depthN ls.length i = d) (hAll : All = pathD d ls i) (hHs : Hashes ls) (hsm : ls.length ≤ 1000) (hd1 : d ≤ 1000)
    (K0 : ∀ w' : World, Calls Tryd.prog 49 #[.slice av N cp] w' fun e w'' => e = .returned (.int .i64 ls.length) ∧ w'' = w')
    (K1 : Calls Tryd.prog 51 #[.slice av N cp] w fun e w' => ∃ v', e = .returned v' ∧ ListAt w' v' ls ∧ Below w.heap.size w w')
    (KD : ∀ w' : World, Calls Tryd.prog 36 #[.int .i64 ls.length, .int .i64 i] w' fun e w'' => e = .returned (.int .i64 d) ∧ w'' = w') :
    Calls Tryd.prog 34 #[.slice av N cp, .int .i64 i] w fun e w' => ∃ u, e = .returned (.tuple #[u, .int .i64 0]) ∧ ListAt w' u All ∧ Below w.heap.size w w' := by
  have h2 := hL.two
  have hpl : All.length = d := by rw [hAll]; exact pathD_length d ls i
  have C0 : Hid (∀ w' : World, Calls Tryd.prog 49 #[.slice av N cp] w' fun e w'' => e = .returned (.int .i64 ls.length) ∧ w'' = w') := K0
  have C1 : Hid (Calls Tryd.prog 51 #[.slice av N cp] w fun e w' => ∃ v', e = .returned v' ∧ ListAt w' v' ls ∧ Below w.heap.size w w') := K1
  have CD : Hid (∀ w' : World, Calls Tryd.prog 36 #[.int .i64 ls.length, .int .i64 i] w' fun e w'' => e = .returned (.int .i64 d) ∧ w'' = w') := KD
  have i1 : ¬ (i : Int) < 0 := by omega
  have i2 : ¬ (ls.length : Int) ≤ (i : Int) := by omega
  have HW0 : Hid (∀ (w2 wr : World) (x : Value) (g : Nat) (cs : Array Value), ListAt w2 x ls → wr.heap[g]? = some (.cells cs 24) → cs.size = d * 32 → WayAt w2 wr g d All x i d) := fun w2 wr x g cs k1 k2 k3 => ⟨ls, [], k1, hHs, hdd, hi, hsm, RowFrom.start (w := w2) k2 k3, by rw [hAll, List.append_nil]⟩
  clear K0 K1 KD hdd hAll hHs
  go_enter Tryd.func34, Tryd.ntmps34
  go_wp2_with (first | (go_at_call 49; refine (C0.out _).mono ?_; rintro e w' ⟨rfl, hw'⟩; have hw'' := hw'.symm; clear hw'; subst hw'') | (go_at_call 51; refine C1.out.mono ?_; rintro e w2 ⟨x, rfl, px, b2⟩; have PX : Hid (ListAt w2 x ls) := px; obtain ⟨avx, bx, ox, cpx, rfl, _⟩ := px; obtain ⟨cs, hcs, hmk⟩ := make44n d (by omega) w2) | (go_at_call 36; refine (CD.out _).mono ?_; rintro e w' ⟨rfl, hw'⟩; have hw'' := hw'.symm; clear hw'; subst hw''))
  have s2 := b2.size
  have f1 : (w2.alloc (.cells cs 24)).heap[w2.heap.size]? = some (.cells cs 24) := heap_alloc_new _ _
  have W0 : Hid (WayAt w2 (w2.alloc (.cells cs 24)) w2.heap.size d All (.slice avx ls.length cpx) i d) := HW0.out _ _ _ _ _ PX.out f1 hcs
  have bA : Below w2.heap.size w2 (w2.alloc (.cells cs 24)) := (Below.refl _ _).alloc (Nat.le_refl _) _
  have hLa := hL.below b2 h2
  clear C0 C1 CD HW0 PX f1 hmk
  go_loopw [1, 6, 8] (fun ti x tj wr => ∃ (j i' : Nat), j ≤ d ∧ ti = .int .i64 i' ∧ tj = .int .i64 ((j : Int) - 1) ∧ Below w2.heap.size w2 wr ∧ Hid (WayAt w2 wr w2.heap.size d All x i' j)) (fun _ _ tj _ => (intOf tj + 1).toNat)
  case atStart => exact ⟨d, i, Nat.le_refl _, rfl, by go_num, bA, W0⟩
  case round =>
    obtain ⟨j, i', hj, rfl, rfl, bl, WI⟩ := hrel
    obtain ⟨m, Q, hm, hHm, hdm, him, hml, hrow, hAll⟩ := WI.out
    have hbs := bl.size
    clear WI
    rcases Nat.eq_zero_or_pos j with rfl | hj0
    · have LR : Hid (ListAt wr (.slice (some ⟨w2.heap.size, 0, none⟩) d d) All) := by
        rw [hAll, pathD, List.nil_append]
        exact hrow.list (by rw [hAll, pathD, List.nil_append] at hpl; exact hpl) (by omega)
      clear hrow hm hHm
      go_wp2
      go_ret2
      exact ⟨_, rfl, LR.out, b2.trans (bl.mono s2)⟩
    · obtain ⟨q, rfl⟩ : ∃ q, j = q + 1 := ⟨j - 1, by omega⟩
      have h2n : 2 ≤ m.length := by
        rcases Nat.lt_or_ge m.length 2 with h | h
        · rw [depthN_one m.length i' h] at hdm; omega
        · exact h
      have hk1 := halfN_pos m.length
      have hk2 := halfN_lt m.length h2n
      have hm0 := hm
      obtain ⟨avm, bm, om, cpm, rfl, hcp, hcp2, hav, hr, hb, _⟩ := hm
      obtain rfl := hav (by omega)
      have CL : Hid (∀ w' : World, Calls Tryd.prog 53 #[.int .i64 m.length] w' fun e w'' => e = .returned (.int .i64 (halfN m.length)) ∧ w'' = w') := fun w' => left_any m.length h2n (by omega) w'
      have TT : ListAt w2 (.slice (some ⟨bm, om, none⟩) (halfN m.length) cpm) (m.take (halfN m.length)) := ListAt.take rfl hr hHm hb hcp2 hcp (halfN m.length) (by omega)
      have DD : ListAt w2 (.slice (some ⟨bm, om + halfN m.length * 32, none⟩) (m.length - halfN m.length) (cpm - halfN m.length)) (m.drop (halfN m.length)) := ListAt.drop rfl hr hHm hb hcp2 hcp (halfN m.length) (by omega)
      have lT : (m.take (halfN m.length)).length = halfN m.length := by simp; omega
      have lD : (m.drop (halfN m.length)).length = m.length - halfN m.length := by simp
      have hi24 : ∀ H : List Int, H.length = 32 → (Tryd.prog.info? 24).map (·.size) = some (vB H).size := fun H h => by rw [vB_size, h]; kernel_rfl
      have HI24 : Hid (∀ H : List Int, H.length = 32 → (Tryd.prog.info? 24).map (·.size) = some (vB H).size) := hi24
      have RW : Hid (RowFrom wr w2.heap.size d (q + 1) Q) := hrow
      rw [show (((q + 1 : Nat) : Int) - 1) = (q : Int) by omega]
      by_cases hik : i' < halfN m.length
      · rw [depthN_lo m.length i' h2n hik] at hdm
        obtain ⟨H, hH⟩ : ∃ H, H = overH (m.drop (halfN m.length)) := ⟨_, rfl⟩
        have hHl : H.length = 32 := by rw [hH]; exact (overH_hash _ (hHm.drop _)).1
        have CO : Hid (∀ w', Below w2.heap.size w2 w' → Calls Tryd.prog 32 #[.slice (some ⟨bm, om + halfN m.length * 32, none⟩) (m.length - halfN m.length) (cpm - halfN m.length)] w' fun e w'' => e = .returned (.agg (vB H)) ∧ Below w'.heap.size w' w'') := fun w' k => by rw [hH]; exact over_any _ _ _ w' (Nat.le_refl _) (by rw [lD]; omega) (hHm.drop _) (hLa.below k hLa.two) (DD.below k)
        have WN : Hid (∀ w6, RowFrom w6 w2.heap.size d q (H :: Q) → WayAt w2 w6 w2.heap.size d All (.slice (some ⟨bm, om, none⟩) (halfN m.length) cpm) i' q) := fun w6 k => ⟨m.take (halfN m.length), H :: Q, TT, hHm.take _, by rw [lT]; omega, by rw [lT]; omega, by rw [lT]; omega, k, by rw [hAll, pathD, if_pos hik, ← hH, List.append_assoc]; rfl⟩
        clear hH TT DD hrow hr hm0 hHm hAll hi24 lT lD hdm
        generalize m.length = n at *
        generalize halfN n = k at *
        have e1 : (0 : Int) ≤ (k : Int) := by omega
        have e2 : (k : Int) ≤ (n : Int) := by omega
        have e3 : (k : Int) ≤ (cpm : Int) := by omega
        have e4 : (n : Int) ≤ (cpm : Int) := by omega
        have e5 : ¬ cpm = k := by omega
        have e6 : (0 : Int) ≤ (q : Int) := by omega
        have e7 : (q : Int) < (d : Int) := by omega
        have e8 : IntKind.i64.wrap ((q : Int) - 1) = (q : Int) - 1 := by rw [IntKind.wrap_i64]; omega
        go_wp2_with (first | (go_at_call 53; refine (CL.out _).mono ?_; rintro e w' ⟨rfl, hw'⟩; have hw'' := hw'.symm; clear hw'; subst hw'') | (go_at_call 32; refine (CO.out _ bl).mono ?_; rintro e w5 ⟨rfl, b5⟩; have R5 : Hid (RowFrom w5 w2.heap.size d (q + 1) Q) := RW.out.below b5) | (refine wpList_store_mid rfl 24 _ _ rfl w2.heap.size (q * 32) (vB H) (by rfl) (by rfl) (by rw [vB_size, hHl]; exact R5.out.there q (by omega)) (HI24.out H hHl) (vB_all H) ?_))
        have r6 := R5.out.put (j := q) (by omega) hHl
        have b6 : Below w2.heap.size w2 (w5.setCells w2.heap.size (q * 32) (vB H).toList) := below_setCells (bl.trans (b5.mono hbs)) (Nat.le_refl _) _
        go_roundw
        case rel => exact ⟨q, i', by omega, rfl, rfl, b6, WN.out _ r6⟩
        case measure => simp [intOf]
      · rw [depthN_hi m.length i' h2n hik] at hdm
        obtain ⟨H, hH⟩ : ∃ H, H = overH (m.take (halfN m.length)) := ⟨_, rfl⟩
        have hHl : H.length = 32 := by rw [hH]; exact (overH_hash _ (hHm.take _)).1
        have CO : Hid (∀ w', Below w2.heap.size w2 w' → Calls Tryd.prog 32 #[.slice (some ⟨bm, om, none⟩) (halfN m.length) cpm] w' fun e w'' => e = .returned (.agg (vB H)) ∧ Below w'.heap.size w' w'') := fun w' k => by rw [hH]; exact over_any _ _ _ w' (Nat.le_refl _) (by rw [lT]; omega) (hHm.take _) (hLa.below k hLa.two) (TT.below k)
        have WN : Hid (∀ w6, RowFrom w6 w2.heap.size d q (H :: Q) → WayAt w2 w6 w2.heap.size d All (.slice (some ⟨bm, om + halfN m.length * 32, none⟩) (m.length - halfN m.length) (cpm - halfN m.length)) (i' - halfN m.length) q) := fun w6 k => ⟨m.drop (halfN m.length), H :: Q, DD, hHm.drop _, by rw [lD]; omega, by rw [lD]; omega, by rw [lD]; omega, k, by rw [hAll, pathD, if_neg hik, ← hH, List.append_assoc]; rfl⟩
        clear hH TT DD hrow hr hm0 hHm hAll hi24 lT lD hdm
        generalize m.length = n at *
        generalize halfN n = k at *
        have e1 : (0 : Int) ≤ (k : Int) := by omega
        have e2 : (k : Int) ≤ (n : Int) := by omega
        have e3 : (k : Int) ≤ (cpm : Int) := by omega
        have e4 : (n : Int) ≤ (cpm : Int) := by omega
        have e5 : ¬ cpm = k := by omega
        have e6 : (0 : Int) ≤ (q : Int) := by omega
        have e7 : (q : Int) < (d : Int) := by omega
        have e8 : IntKind.i64.wrap ((q : Int) - 1) = (q : Int) - 1 := by rw [IntKind.wrap_i64]; omega
        have e9 : IntKind.i64.wrap ((i' : Int) - (k : Int)) = (i' : Int) - (k : Int) := by rw [IntKind.wrap_i64]; omega
        go_wp2_with (first | (go_at_call 53; refine (CL.out _).mono ?_; rintro e w' ⟨rfl, hw'⟩; have hw'' := hw'.symm; clear hw'; subst hw'') | (go_at_call 32; refine (CO.out _ bl).mono ?_; rintro e w5 ⟨rfl, b5⟩; have R5 : Hid (RowFrom w5 w2.heap.size d (q + 1) Q) := RW.out.below b5) | (refine wpList_store_mid rfl 24 _ _ rfl w2.heap.size (q * 32) (vB H) (by rfl) (by rfl) (by rw [vB_size, hHl]; exact R5.out.there q (by omega)) (HI24.out H hHl) (vB_all H) ?_))
        have r6 := R5.out.put (j := q) (by omega) hHl
        have b6 : Below w2.heap.size w2 (w5.setCells w2.heap.size (q * 32) (vB H).toList) := below_setCells (bl.trans (b5.mono hbs)) (Nat.le_refl _) _
        go_roundw
        case rel => exact ⟨q, i' - k, by omega, by go_num, rfl, b6, WN.out _ r6⟩
        case measure => simp [intOf]
theorem proof_in (v : Value) (bs : List Int) (i : Nat) (w : World) (hL : Laid w) (hp : PartAt w v bs) (hn : bs.length ≤ 30000) (hi : i < (leavesL bs).length) :
    Calls Tryd.prog 34 #[v, .int .i64 i] w fun e w' => ∃ u, e = .returned (.tuple #[u, .int .i64 0]) ∧ ListAt w' u (pathD (depthN (leavesL bs).length i) (leavesL bs) i) ∧ Below w.heap.size w w' := by
  have hl := leavesL_length bs
  have hd := depthN_small _ (leavesL bs).length i (Nat.le_refl _)
  have C1 := leaves_any v bs w hL hp (by omega)
  obtain ⟨av, _, _, cp, rfl, _⟩ := hp
  refine proof_core av bs.length cp i _ (leavesL bs) _ w hL hi rfl rfl (leavesL_hashes bs) (by omega) (by omega) (fun w' => ?_) C1 (fun w' => ?_)
  · rw [hl]; exact count_any av bs.length cp (by omega) w'
  · have := depth_any (leavesL bs).length i w'
    rw [show depthI (leavesL bs).length i = ((depthN (leavesL bs).length i : Nat) : Int) by unfold depthI; rw [if_neg (by omega)]; simp] at this
    exact this
end Go.Proofs.YtlcenbhcegmnoaaDoor
