import Derived.Test.YtffhjjgkoapioaaDoorOg
import Derived.Test.YtffhjjgkoapioaaDoorNc
namespace Go.Proofs.YtffhjjgkoapioaaDoor
set_option linter.unusedSimpArgs false
set_option linter.unusedVariables false
open Go.RowKit
attribute [local go_sem ↓] Go.wp_at_zero Go.wp_at_succ
/-- The hashes beside the way, from the leaf up. -/
def pathD : Nat → List (List Int) → Nat → List (List Int)
  | 0, _, _ => []
  | d + 1, hs, i => if i < halfN hs.length then pathD d (hs.take (halfN hs.length)) i ++ [overH (hs.drop (halfN hs.length))] else pathD d (hs.drop (halfN hs.length)) (i - halfN hs.length) ++ [overH (hs.take (halfN hs.length))]
set_option maxRecDepth 100000 in
theorem pathD_length (d : Nat) : ∀ hs i, (pathD d hs i).length = d := by
  induction d with
  | zero => intro hs i; rfl
  | succ d ih => intro hs i; unfold pathD; split <;> simp [ih]
set_option maxRecDepth 100000 in
theorem pathD_hashes (d : Nat) : ∀ hs i, Hashes hs → Hashes (pathD d hs i) := by
  induction d with
  | zero => intro hs i _ h hh; simp [pathD] at hh
  | succ d ih =>
    intro hs i hH h hh
    unfold pathD at hh
    split at hh
    · rcases List.mem_append.1 hh with h1 | h1
      · exact ih _ _ (hH.take _) h h1
      · obtain rfl := List.mem_singleton.1 h1
        exact overH_hash _ (hH.drop _)
    · rcases List.mem_append.1 hh with h1 | h1
      · exact ih _ _ (hH.drop _) h h1
      · obtain rfl := List.mem_singleton.1 h1
        exact overH_hash _ (hH.take _)
set_option maxRecDepth 100000 in
theorem step_buildH {ops : Array Oper} {o : Oper} {a : Act} {w : World} {K : Act → World → Prop} {Q : Exit → Act → World → Prop} {E : Prop} (hgd : o.guard = none) (x : Operand) (ho : o.op = .buildSlice 44 1 #[(0, x)]) (h : List Int) (hl : h.length = 32) (hx : a.eval x = .agg (vB h))
    (hK : K (a.put o.dst (.slice (some ⟨w.heap.size, 0, none⟩) 1 1)) (w.alloc (.cells (vB h) 24))) : if Region.wanted o (yielded ops a.tmps) = true then Oper.wp Tryd.prog o a w K Q else E := by
  have hw : Region.wanted o (yielded ops a.tmps) = true := by simp [Region.wanted, hgd]
  rw [if_pos hw]
  have hrun := buildH h hl w
  unfold Oper.wp execOp
  simp only [ho]
  rw [show (#[(0, x)].map fun (i, x) => (i, a.eval x)) = #[(0, .agg (vB h))] by simp [hx]]
  simp only [Sem.run_bind, hrun, Result.andThen_ok]
  exact hK
set_option maxRecDepth 100000 in
theorem step_appendH {ops : Array Oper} {o : Oper} {a : Act} {w : World} {K : Act → World → Prop} {Q : Exit → Act → World → Prop} {E : Prop} (hgd : o.guard = none) (s x : Operand)
    (ho : o.op = .call { callee := .builtin .append, args := #[s, x], argTypes := #[44, 44] }) (base : Nat) (v : Value) (hs : List (List Int)) (hv : a.eval s = v) (hown : HashRow base hs v w)
    (h : List Int) (hl : h.length = 32) (hx : a.eval x = .slice (some ⟨w.heap.size, 0, none⟩) 1 1) (hn : hs.length ≤ 1000000000000) (hbase : base ≤ w.heap.size)
    (hK : ∀ v' w', HashRow base (hs ++ [h]) v' w' → (w.alloc (.cells (vB h) 24)).grownBy w' v.ownBlock → K (a.put o.dst v') w') : if Region.wanted o (yielded ops a.tmps) = true then Oper.wp Tryd.prog o a (w.alloc (.cells (vB h) 24)) K Q else E := by
  have hw : Region.wanted o (yielded ops a.tmps) = true := by simp [Region.wanted, hgd]
  rw [if_pos hw]
  obtain ⟨i, hi, hz0, hz1, hz2⟩ := info_parts info24
  have hh : (vB h).toList.length = 1 * 32 := by rw [Array.length_toList, vB_size, hl]
  obtain ⟨v', w', hr, h2, h3, h4, h5⟩ := run_append_own_at (P := Tryd.prog) (w.alloc (.cells (vB h) 24)) base 44 o.type 24 i (.agg (vB (zs 32))) 32 32 Tryd.underlying44 hi hz0 hz1 hz2 rfl (by omega) v hs.length (vB hs.flatten).toList (own_alloc hown _) ⟨w.heap.size, 0, none⟩ 1 1 (vB h).toList hh cells_of_new
    (fun v hv => by simp [vB] at hv; obtain ⟨y, _, rfl⟩ := hv; rfl) (by unfold maxLen; omega) (by omega) (by simp; omega)
  unfold Oper.wp
  simp [execOp, ho, resolve, invoke, builtin, hv, hx, hr, Result.andThen]
  refine hK v' w' ?_ h3
  unfold HashRow
  simpa [vB] using h2
set_option maxRecDepth 100000 in
set_option maxHeartbeats 1000000 in
theorem path_one (av : Option Addr) (cp : Nat) (i : Int) (w : World) : Calls Tryd.prog 67 #[.slice av 1 cp, .int .i64 i] w fun e w' => ∃ u, e = .returned u ∧ HashRow w.heap.size [] u w' ∧ Below w.heap.size w w' := by
  go_enter Tryd.func67, Tryd.ntmps67
  go_wp2
  go_ret
  exact ⟨_, rfl, HashRow.nil _ _, Below.refl _ _⟩
set_option maxRecDepth 100000 in
set_option maxHeartbeats 600000 in
theorem path_lo (P : List (List Int)) (R : List Int) (n i k b o cp : Nat) (w : World) (hik : i < k) (hk1 : 0 < k) (hkn : k < n) (hn : n ≤ 1000000) (hcp : n ≤ cp) (hcp2 : cp ≤ 9223372036854775807) (hR : R.length = 32) (hPl : P.length ≤ 1000)
    (C0 : ∀ w' : World, Calls Tryd.prog 66 #[.int .i64 n] w' fun e w'' => e = .returned (.int .i64 k) ∧ w'' = w')
    (C1 : ∀ w', Below w.heap.size w w' → Calls Tryd.prog 67 #[.slice (some ⟨b, o, none⟩) k cp, .int .i64 i] w' fun e w'' => ∃ u, e = .returned u ∧ HashRow w'.heap.size P u w'' ∧ Below w'.heap.size w' w'')
    (C2 : ∀ w', Below w.heap.size w w' → Calls Tryd.prog 37 #[.slice (some ⟨b, o + k * 32, none⟩) (n - k) (cp - k)] w' fun e w'' => e = .returned (.agg (vB R)) ∧ Below w'.heap.size w' w'') :
    Calls Tryd.prog 67 #[.slice (some ⟨b, o, none⟩) n cp, .int .i64 i] w fun e w' => ∃ u, e = .returned u ∧ HashRow w.heap.size (P ++ [R]) u w' ∧ Below w.heap.size w w' := by
  have D0 : Hid (∀ w' : World, Calls Tryd.prog 66 #[.int .i64 n] w' fun e w'' => e = .returned (.int .i64 k) ∧ w'' = w') := C0
  have D1 : Hid (∀ w', Below w.heap.size w w' → Calls Tryd.prog 67 #[.slice (some ⟨b, o, none⟩) k cp, .int .i64 i] w' fun e w'' => ∃ u, e = .returned u ∧ HashRow w.heap.size P u w'' ∧ Below w.heap.size w w'') := fun w' q => (C1 w' q).mono (by
    rintro e w5 ⟨u, rfl, h1, h2⟩
    exact ⟨u, rfl, own_mono h1 q.size, q.trans (h2.mono q.size)⟩)
  have D2 : Hid (∀ w', Below w.heap.size w w' → Calls Tryd.prog 37 #[.slice (some ⟨b, o + k * 32, none⟩) (n - k) (cp - k)] w' fun e w'' => e = .returned (.agg (vB R)) ∧ Below w'.heap.size w' w'') := C2
  have i1 : (0 : Int) ≤ (k : Int) := by omega
  have i2 : (k : Int) ≤ (n : Int) := by omega
  have i3 : (k : Int) ≤ (cp : Int) := by omega
  have i4 : (n : Int) ≤ (cp : Int) := by omega
  have hn1' : ¬ (n : Int) = 1 := by omega
  have i5 : ¬ cp = k := by omega
  clear C0 C1 C2
  go_enter Tryd.func67, Tryd.ntmps67
  go_wp2_with (first | (go_at_call 66; refine (D0.out _).mono ?_; rintro e w' ⟨rfl, hw'⟩; have hw'' := hw'.symm; clear hw'; subst hw''))
  refine wp_region_noPanic ?_
  refine wp_region_held_drew (S := fun _ => True) (by kernel_rfl) (trivial) (fun hHeld => ?_)
  try simp only [Act.put, List.setIfInBounds_toArray, List.set_cons_zero, List.set_cons_succ]
  refine wpAnyH_take (i := 0) (oi := { dst := some 15, op := Go.Op.move (Go.Operand.tmp 0), type := 44, pos := "ref.go:126", after := #[], guard := none }) (v := ?_) rfl (by kernel_rfl) (by kernel_rfl) (by kernel_rfl) (fun _ _ _ h => h) (Or.inl ⟨by rfl, ?_⟩) hHeld ?_
  rotate_left 1
  · (intro wq hSq; (try dsimp only at hSq); go_simp; first | done | with_reducible rfl)
  try simp only [Act.put, List.setIfInBounds_toArray, List.set_cons_zero, List.set_cons_succ]
  refine wpAnyH_take (i := 1) (oi := { dst := some 16, op := Go.Op.move (Go.Operand.tmp 5), type := 3, pos := "ref.go:126", after := #[], guard := none }) (v := ?_) rfl (by kernel_rfl) (by kernel_rfl) (by kernel_rfl) (fun _ _ _ h => h) (Or.inl ⟨by rfl, ?_⟩) hHeld ?_
  rotate_left 1
  · (intro wq hSq; (try dsimp only at hSq); go_simp; first | done | with_reducible rfl)
  try simp only [Act.put, List.setIfInBounds_toArray, List.set_cons_zero, List.set_cons_succ]
  refine wpAnyH_take (i := 2) (oi := { dst := some 17, op := Go.Op.slice 44 (Go.Operand.tmp 15) none (some (Go.Operand.tmp 16)) none, type := 44, pos := "ref.go:126", after := #[{ on := 0, ground := Go.Ground.data }, { on := 1, ground := Go.Ground.data }], guard := none }) (v := ?_) rfl (by kernel_rfl) (by kernel_rfl) (by kernel_rfl) (fun _ _ _ h => h) (Or.inl ⟨by rfl, ?_⟩) hHeld ?_
  rotate_left 1
  · (intro wq hSq; (try dsimp only at hSq); go_simp; first | done | with_reducible rfl)
  try simp only [Act.put, List.setIfInBounds_toArray, List.set_cons_zero, List.set_cons_succ]
  refine wpAnyH_take (i := 3) (oi := { dst := some 18, op := Go.Op.move (Go.Operand.tmp 1), type := 3, pos := "ref.go:126", after := #[], guard := none }) (v := ?_) rfl (by kernel_rfl) (by kernel_rfl) (by kernel_rfl) (fun _ _ _ h => h) (Or.inl ⟨by rfl, ?_⟩) hHeld ?_
  rotate_left 1
  · (intro wq hSq; (try dsimp only at hSq); go_simp; first | done | with_reducible rfl)
  try simp only [Act.put, List.setIfInBounds_toArray, List.set_cons_zero, List.set_cons_succ]
  refine wpAnyH_take (i := 5) (oi := { dst := some 20, op := Go.Op.move (Go.Operand.tmp 0), type := 44, pos := "ref.go:126", after := #[], guard := none }) (v := ?_) rfl (by kernel_rfl) (by kernel_rfl) (by kernel_rfl) (fun _ _ _ h => h) (Or.inl ⟨by rfl, ?_⟩) hHeld ?_
  rotate_left 1
  · (intro wq hSq; (try dsimp only at hSq); go_simp; first | done | with_reducible rfl)
  try simp only [Act.put, List.setIfInBounds_toArray, List.set_cons_zero, List.set_cons_succ]
  refine wpAnyH_take (i := 6) (oi := { dst := some 21, op := Go.Op.move (Go.Operand.tmp 5), type := 3, pos := "ref.go:126", after := #[], guard := none }) (v := ?_) rfl (by kernel_rfl) (by kernel_rfl) (by kernel_rfl) (fun _ _ _ h => h) (Or.inl ⟨by rfl, ?_⟩) hHeld ?_
  rotate_left 1
  · (intro wq hSq; (try dsimp only at hSq); go_simp; first | done | with_reducible rfl)
  try simp only [Act.put, List.setIfInBounds_toArray, List.set_cons_zero, List.set_cons_succ]
  refine wpAnyH_take (i := 7) (oi := { dst := some 22, op := Go.Op.slice 44 (Go.Operand.tmp 20) (some (Go.Operand.tmp 21)) none none, type := 44, pos := "ref.go:126", after := #[{ on := 5, ground := Go.Ground.data }, { on := 6, ground := Go.Ground.data }], guard := none }) (v := ?_) rfl (by kernel_rfl) (by kernel_rfl) (by kernel_rfl) (fun _ _ _ h => h) (Or.inl ⟨by rfl, ?_⟩) hHeld ?_
  rotate_left 1
  · (intro wq hSq; (try dsimp only at hSq); go_simp; first | done | with_reducible rfl)
  try simp only [Act.put, List.setIfInBounds_toArray, List.set_cons_zero, List.set_cons_succ]
  refine wpAnyH_ready (rs := [4]) (by kernel_rfl) (by simp) ?_
  refine AllReadyH.cons (o := { dst := some 19, op := Go.Op.call { callee := Go.Callee.value (Go.Operand.func 67), args := #[Go.Operand.tmp 17, Go.Operand.tmp 18], argTypes := #[44, 3] }, type := 44, pos := "ref.go:126", after := #[{ on := 2, ground := Go.Ground.data }, { on := 3, ground := Go.Ground.data }], guard := none }) rfl (fun K hK => ?_) AllReadyH.nil
  go_simp
  refine (D1.out _ (below_drew (Below.refl w.heap.size w))).mono ?_
  rintro e w4 ⟨u, rfl, o4, b4⟩
  refine hK.out _ _ (trivial) (fun hHeld1 => ?_)
  clear hK K hHeld
  try simp only [Act.put, List.setIfInBounds_toArray, List.set_cons_zero, List.set_cons_succ]
  refine wpAnyH_ready (rs := [8]) (by kernel_rfl) (by simp) ?_
  refine AllReadyH.cons (o := { dst := some 23, op := Go.Op.call { callee := Go.Callee.value (Go.Operand.func 37), args := #[Go.Operand.tmp 22], argTypes := #[44] }, type := 24, pos := "ref.go:126", after := #[{ on := 7, ground := Go.Ground.data }, { on := 4, ground := Go.Ground.chain }], guard := none }) rfl (fun K hK => ?_) AllReadyH.nil
  go_simp
  refine (D2.out _ b4).mono ?_
  rintro e w5 ⟨rfl, b45⟩
  have b5 := b4.trans (b45.mono b4.size)
  have o5 := o4.below b45
  refine hK.out _ _ (trivial) (fun hHeld2 => ?_)
  clear hK K hHeld1
  try simp only [Act.put, List.setIfInBounds_toArray, List.set_cons_zero, List.set_cons_succ]
  refine wpAnyH_ready (rs := [9]) (by kernel_rfl) (by simp) ?_
  refine AllReadyH.cons (o := { dst := some 24, op := Go.Op.buildSlice 44 1 #[(0, Go.Operand.tmp 23)], type := 44, pos := "ref.go:126", after := #[{ on := 8, ground := Go.Ground.data }], guard := none }) rfl (fun K hK => ?_) AllReadyH.nil
  refine step_buildH rfl _ rfl R hR (by rfl) ?_
  refine hK.out _ _ (trivial) (fun hHeld3 => ?_)
  clear hK K hHeld2
  try simp only [Act.put, List.setIfInBounds_toArray, List.set_cons_zero, List.set_cons_succ]
  refine wpAnyH_ready (rs := [10]) (by kernel_rfl) (by simp) ?_
  refine AllReadyH.cons (o := { dst := some 25, op := Go.Op.call { callee := Go.Callee.builtin Go.Builtin.append, args := #[Go.Operand.tmp 19, Go.Operand.tmp 24], argTypes := #[44, 44] }, type := 44, pos := "ref.go:126", after := #[{ on := 4, ground := Go.Ground.data }, { on := 9, ground := Go.Ground.data }, { on := 8, ground := Go.Ground.chain }], guard := none }) rfl (fun K hK => ?_) AllReadyH.nil
  refine step_appendH rfl _ _ rfl w.heap.size u P (by rfl) o5 R hR (by rfl) (by omega) b5.size ?_
  intro v6 w6 o6 g6
  refine hK.out _ _ (trivial) (fun hHeld4 => ?_)
  clear hK K hHeld3
  try simp only [Act.put, List.setIfInBounds_toArray, List.set_cons_zero, List.set_cons_succ]
  refine wpAnyH_take (i := 11) (oi := { dst := some 4, op := Go.Op.assign (Go.Operand.tmp 25), type := 44, pos := "ref.go:126", after := #[{ on := 10, ground := Go.Ground.data }, { on := 10, ground := Go.Ground.chain }, { on := 0, ground := Go.Ground.phase }, { on := 1, ground := Go.Ground.phase }, { on := 2, ground := Go.Ground.phase }, { on := 3, ground := Go.Ground.phase }, { on := 4, ground := Go.Ground.phase }, { on := 5, ground := Go.Ground.phase }, { on := 6, ground := Go.Ground.phase }, { on := 7, ground := Go.Ground.phase }, { on := 8, ground := Go.Ground.phase }, { on := 9, ground := Go.Ground.phase }, { on := 10, ground := Go.Ground.phase }], guard := none }) (v := ?_) rfl (by kernel_rfl) (by kernel_rfl) (by kernel_rfl) (fun _ _ _ h => h) (Or.inl ⟨by rfl, ?_⟩) hHeld4 ?_
  rotate_left 1
  · (intro wq hSq; (try dsimp only at hSq); go_simp; first | done | with_reducible rfl)
  try simp only [Act.put, List.setIfInBounds_toArray, List.set_cons_zero, List.set_cons_succ]
  refine wpAnyH_done (by kernel_rfl) ?_ _
  refine NoPanic.normal ?_
  go_wp2
  go_ret
  exact ⟨_, rfl, o6, (b5.alloc b5.size _).grown g6 (by have := b5.size; simp; omega) (fun j hj => (own_lt o5 j hj).2)⟩
set_option maxRecDepth 100000 in
set_option maxHeartbeats 600000 in
theorem path_hi (P : List (List Int)) (R : List Int) (n i k b o cp : Nat) (w : World) (hik : ¬ i < k) (hk1 : 0 < k) (hkn : k < n) (hin : i < n) (hn : n ≤ 1000000) (hcp : n ≤ cp) (hcp2 : cp ≤ 9223372036854775807) (hR : R.length = 32) (hPl : P.length ≤ 1000)
    (C0 : ∀ w' : World, Calls Tryd.prog 66 #[.int .i64 n] w' fun e w'' => e = .returned (.int .i64 k) ∧ w'' = w')
    (C1 : ∀ w', Below w.heap.size w w' → Calls Tryd.prog 67 #[.slice (some ⟨b, o + k * 32, none⟩) (n - k) (cp - k), .int .i64 ((i : Int) - (k : Int))] w' fun e w'' => ∃ u, e = .returned u ∧ HashRow w'.heap.size P u w'' ∧ Below w'.heap.size w' w'')
    (C2 : ∀ w', Below w.heap.size w w' → Calls Tryd.prog 37 #[.slice (some ⟨b, o, none⟩) k cp] w' fun e w'' => e = .returned (.agg (vB R)) ∧ Below w'.heap.size w' w'') :
    Calls Tryd.prog 67 #[.slice (some ⟨b, o, none⟩) n cp, .int .i64 i] w fun e w' => ∃ u, e = .returned u ∧ HashRow w.heap.size (P ++ [R]) u w' ∧ Below w.heap.size w w' := by
  have D0 : Hid (∀ w' : World, Calls Tryd.prog 66 #[.int .i64 n] w' fun e w'' => e = .returned (.int .i64 k) ∧ w'' = w') := C0
  have D1 : Hid (∀ w', Below w.heap.size w w' → Calls Tryd.prog 67 #[.slice (some ⟨b, o + k * 32, none⟩) (n - k) (cp - k), .int .i64 ((i : Int) - (k : Int))] w' fun e w'' => ∃ u, e = .returned u ∧ HashRow w.heap.size P u w'' ∧ Below w.heap.size w w'') := fun w' q => (C1 w' q).mono (by
    rintro e w5 ⟨u, rfl, h1, h2⟩
    exact ⟨u, rfl, own_mono h1 q.size, q.trans (h2.mono q.size)⟩)
  have D2 : Hid (∀ w', Below w.heap.size w w' → Calls Tryd.prog 37 #[.slice (some ⟨b, o, none⟩) k cp] w' fun e w'' => e = .returned (.agg (vB R)) ∧ Below w'.heap.size w' w'') := C2
  have i1 : (0 : Int) ≤ (k : Int) := by omega
  have i2 : (k : Int) ≤ (n : Int) := by omega
  have i3 : (k : Int) ≤ (cp : Int) := by omega
  have i4 : (n : Int) ≤ (cp : Int) := by omega
  have hn1' : ¬ (n : Int) = 1 := by omega
  have i5 : ¬ cp = k := by omega
  have j5 : IntKind.i64.wrap ((i : Int) - (k : Int)) = (i : Int) - (k : Int) := by rw [IntKind.wrap_i64]; omega
  clear C0 C1 C2
  go_enter Tryd.func67, Tryd.ntmps67
  go_wp2_with (first | (go_at_call 66; refine (D0.out _).mono ?_; rintro e w' ⟨rfl, hw'⟩; have hw'' := hw'.symm; clear hw'; subst hw''))
  refine wp_region_noPanic ?_
  refine wp_region_held_drew (S := fun _ => True) (by kernel_rfl) (trivial) (fun hHeld => ?_)
  try simp only [Act.put, List.setIfInBounds_toArray, List.set_cons_zero, List.set_cons_succ]
  refine wpAnyH_take (i := 0) (oi := { dst := some 26, op := Go.Op.move (Go.Operand.tmp 0), type := 44, pos := "ref.go:128", after := #[], guard := none }) (v := ?_) rfl (by kernel_rfl) (by kernel_rfl) (by kernel_rfl) (fun _ _ _ h => h) (Or.inl ⟨by rfl, ?_⟩) hHeld ?_
  rotate_left 1
  · (intro wq hSq; (try dsimp only at hSq); go_simp; first | done | with_reducible rfl)
  try simp only [Act.put, List.setIfInBounds_toArray, List.set_cons_zero, List.set_cons_succ]
  refine wpAnyH_take (i := 1) (oi := { dst := some 27, op := Go.Op.move (Go.Operand.tmp 5), type := 3, pos := "ref.go:128", after := #[], guard := none }) (v := ?_) rfl (by kernel_rfl) (by kernel_rfl) (by kernel_rfl) (fun _ _ _ h => h) (Or.inl ⟨by rfl, ?_⟩) hHeld ?_
  rotate_left 1
  · (intro wq hSq; (try dsimp only at hSq); go_simp; first | done | with_reducible rfl)
  try simp only [Act.put, List.setIfInBounds_toArray, List.set_cons_zero, List.set_cons_succ]
  refine wpAnyH_take (i := 2) (oi := { dst := some 28, op := Go.Op.slice 44 (Go.Operand.tmp 26) (some (Go.Operand.tmp 27)) none none, type := 44, pos := "ref.go:128", after := #[{ on := 0, ground := Go.Ground.data }, { on := 1, ground := Go.Ground.data }], guard := none }) (v := ?_) rfl (by kernel_rfl) (by kernel_rfl) (by kernel_rfl) (fun _ _ _ h => h) (Or.inl ⟨by rfl, ?_⟩) hHeld ?_
  rotate_left 1
  · (intro wq hSq; (try dsimp only at hSq); go_simp; first | done | with_reducible rfl)
  try simp only [Act.put, List.setIfInBounds_toArray, List.set_cons_zero, List.set_cons_succ]
  refine wpAnyH_take (i := 3) (oi := { dst := some 29, op := Go.Op.move (Go.Operand.tmp 1), type := 3, pos := "ref.go:128", after := #[], guard := none }) (v := ?_) rfl (by kernel_rfl) (by kernel_rfl) (by kernel_rfl) (fun _ _ _ h => h) (Or.inl ⟨by rfl, ?_⟩) hHeld ?_
  rotate_left 1
  · (intro wq hSq; (try dsimp only at hSq); go_simp; first | done | with_reducible rfl)
  try simp only [Act.put, List.setIfInBounds_toArray, List.set_cons_zero, List.set_cons_succ]
  refine wpAnyH_take (i := 4) (oi := { dst := some 30, op := Go.Op.move (Go.Operand.tmp 5), type := 3, pos := "ref.go:128", after := #[], guard := none }) (v := ?_) rfl (by kernel_rfl) (by kernel_rfl) (by kernel_rfl) (fun _ _ _ h => h) (Or.inl ⟨by rfl, ?_⟩) hHeld ?_
  rotate_left 1
  · (intro wq hSq; (try dsimp only at hSq); go_simp; first | done | with_reducible rfl)
  try simp only [Act.put, List.setIfInBounds_toArray, List.set_cons_zero, List.set_cons_succ]
  refine wpAnyH_take (i := 5) (oi := { dst := some 31, op := Go.Op.binOp Go.BinOp.sub 3 (Go.Operand.tmp 29) (Go.Operand.tmp 30) 3, type := 3, pos := "ref.go:128", after := #[{ on := 3, ground := Go.Ground.data }, { on := 4, ground := Go.Ground.data }], guard := none }) (v := ?_) rfl (by kernel_rfl) (by kernel_rfl) (by kernel_rfl) (fun _ _ _ h => h) (Or.inl ⟨by rfl, ?_⟩) hHeld ?_
  rotate_left 1
  · (intro wq hSq; (try dsimp only at hSq); go_simp; first | done | with_reducible rfl)
  try simp only [Act.put, List.setIfInBounds_toArray, List.set_cons_zero, List.set_cons_succ]
  refine wpAnyH_take (i := 7) (oi := { dst := some 33, op := Go.Op.move (Go.Operand.tmp 0), type := 44, pos := "ref.go:128", after := #[], guard := none }) (v := ?_) rfl (by kernel_rfl) (by kernel_rfl) (by kernel_rfl) (fun _ _ _ h => h) (Or.inl ⟨by rfl, ?_⟩) hHeld ?_
  rotate_left 1
  · (intro wq hSq; (try dsimp only at hSq); go_simp; first | done | with_reducible rfl)
  try simp only [Act.put, List.setIfInBounds_toArray, List.set_cons_zero, List.set_cons_succ]
  refine wpAnyH_take (i := 8) (oi := { dst := some 34, op := Go.Op.move (Go.Operand.tmp 5), type := 3, pos := "ref.go:128", after := #[], guard := none }) (v := ?_) rfl (by kernel_rfl) (by kernel_rfl) (by kernel_rfl) (fun _ _ _ h => h) (Or.inl ⟨by rfl, ?_⟩) hHeld ?_
  rotate_left 1
  · (intro wq hSq; (try dsimp only at hSq); go_simp; first | done | with_reducible rfl)
  try simp only [Act.put, List.setIfInBounds_toArray, List.set_cons_zero, List.set_cons_succ]
  refine wpAnyH_take (i := 9) (oi := { dst := some 35, op := Go.Op.slice 44 (Go.Operand.tmp 33) none (some (Go.Operand.tmp 34)) none, type := 44, pos := "ref.go:128", after := #[{ on := 7, ground := Go.Ground.data }, { on := 8, ground := Go.Ground.data }], guard := none }) (v := ?_) rfl (by kernel_rfl) (by kernel_rfl) (by kernel_rfl) (fun _ _ _ h => h) (Or.inl ⟨by rfl, ?_⟩) hHeld ?_
  rotate_left 1
  · (intro wq hSq; (try dsimp only at hSq); go_simp; first | done | with_reducible rfl)
  try simp only [Act.put, List.setIfInBounds_toArray, List.set_cons_zero, List.set_cons_succ]
  refine wpAnyH_ready (rs := [6]) (by kernel_rfl) (by simp) ?_
  refine AllReadyH.cons (o := { dst := some 32, op := Go.Op.call { callee := Go.Callee.value (Go.Operand.func 67), args := #[Go.Operand.tmp 28, Go.Operand.tmp 31], argTypes := #[44, 3] }, type := 44, pos := "ref.go:128", after := #[{ on := 2, ground := Go.Ground.data }, { on := 5, ground := Go.Ground.data }], guard := none }) rfl (fun K hK => ?_) AllReadyH.nil
  go_simp
  refine (D1.out _ (below_drew (Below.refl w.heap.size w))).mono ?_
  rintro e w4 ⟨u, rfl, o4, b4⟩
  refine hK.out _ _ (trivial) (fun hHeld1 => ?_)
  clear hK K hHeld
  try simp only [Act.put, List.setIfInBounds_toArray, List.set_cons_zero, List.set_cons_succ]
  refine wpAnyH_ready (rs := [10]) (by kernel_rfl) (by simp) ?_
  refine AllReadyH.cons (o := { dst := some 36, op := Go.Op.call { callee := Go.Callee.value (Go.Operand.func 37), args := #[Go.Operand.tmp 35], argTypes := #[44] }, type := 24, pos := "ref.go:128", after := #[{ on := 9, ground := Go.Ground.data }, { on := 6, ground := Go.Ground.chain }], guard := none }) rfl (fun K hK => ?_) AllReadyH.nil
  go_simp
  refine (D2.out _ b4).mono ?_
  rintro e w5 ⟨rfl, b45⟩
  have b5 := b4.trans (b45.mono b4.size)
  have o5 := o4.below b45
  refine hK.out _ _ (trivial) (fun hHeld2 => ?_)
  clear hK K hHeld1
  try simp only [Act.put, List.setIfInBounds_toArray, List.set_cons_zero, List.set_cons_succ]
  refine wpAnyH_ready (rs := [11]) (by kernel_rfl) (by simp) ?_
  refine AllReadyH.cons (o := { dst := some 37, op := Go.Op.buildSlice 44 1 #[(0, Go.Operand.tmp 36)], type := 44, pos := "ref.go:128", after := #[{ on := 10, ground := Go.Ground.data }], guard := none }) rfl (fun K hK => ?_) AllReadyH.nil
  refine step_buildH rfl _ rfl R hR (by rfl) ?_
  refine hK.out _ _ (trivial) (fun hHeld3 => ?_)
  clear hK K hHeld2
  try simp only [Act.put, List.setIfInBounds_toArray, List.set_cons_zero, List.set_cons_succ]
  refine wpAnyH_ready (rs := [12]) (by kernel_rfl) (by simp) ?_
  refine AllReadyH.cons (o := { dst := some 38, op := Go.Op.call { callee := Go.Callee.builtin Go.Builtin.append, args := #[Go.Operand.tmp 32, Go.Operand.tmp 37], argTypes := #[44, 44] }, type := 44, pos := "ref.go:128", after := #[{ on := 6, ground := Go.Ground.data }, { on := 11, ground := Go.Ground.data }, { on := 10, ground := Go.Ground.chain }], guard := none }) rfl (fun K hK => ?_) AllReadyH.nil
  refine step_appendH rfl _ _ rfl w.heap.size u P (by rfl) o5 R hR (by rfl) (by omega) b5.size ?_
  intro v6 w6 o6 g6
  refine hK.out _ _ (trivial) (fun hHeld4 => ?_)
  clear hK K hHeld3
  try simp only [Act.put, List.setIfInBounds_toArray, List.set_cons_zero, List.set_cons_succ]
  refine wpAnyH_take (i := 13) (oi := { dst := some 4, op := Go.Op.assign (Go.Operand.tmp 38), type := 44, pos := "ref.go:128", after := #[{ on := 12, ground := Go.Ground.data }, { on := 12, ground := Go.Ground.chain }, { on := 0, ground := Go.Ground.phase }, { on := 1, ground := Go.Ground.phase }, { on := 2, ground := Go.Ground.phase }, { on := 3, ground := Go.Ground.phase }, { on := 4, ground := Go.Ground.phase }, { on := 5, ground := Go.Ground.phase }, { on := 6, ground := Go.Ground.phase }, { on := 7, ground := Go.Ground.phase }, { on := 8, ground := Go.Ground.phase }, { on := 9, ground := Go.Ground.phase }, { on := 10, ground := Go.Ground.phase }, { on := 11, ground := Go.Ground.phase }, { on := 12, ground := Go.Ground.phase }], guard := none }) (v := ?_) rfl (by kernel_rfl) (by kernel_rfl) (by kernel_rfl) (fun _ _ _ h => h) (Or.inl ⟨by rfl, ?_⟩) hHeld4 ?_
  rotate_left 1
  · (intro wq hSq; (try dsimp only at hSq); go_simp; first | done | with_reducible rfl)
  try simp only [Act.put, List.setIfInBounds_toArray, List.set_cons_zero, List.set_cons_succ]
  refine wpAnyH_done (by kernel_rfl) ?_ _
  refine NoPanic.normal ?_
  go_wp2
  go_ret
  exact ⟨_, rfl, o6, (b5.alloc b5.size _).grown g6 (by have := b5.size; simp; omega) (fun j hj => (own_lt o5 j hj).2)⟩
set_option maxRecDepth 100000 in
theorem path_any (d : Nat) : ∀ (hs : List (List Int)) (i : Nat) (v : Value) (w : World), depthN hs.length i = d → i < hs.length → hs.length ≤ 1000000 → d ≤ 1000 → Hashes hs → 0 < w.heap.size → ListAt w v hs →
    Calls Tryd.prog 67 #[v, .int .i64 i] w fun e w' => ∃ u, e = .returned u ∧ HashRow w.heap.size (pathD d hs i) u w' ∧ Below w.heap.size w w' := by
  induction d with
  | zero =>
    intro hs i v w hd hi hn _ _ h0 hv
    have : hs.length = 1 := by
      rcases Nat.lt_or_ge hs.length 2 with h | h
      · omega
      · by_cases hk : i < halfN hs.length
        · rw [depthN_lo hs.length i h hk] at hd; omega
        · rw [depthN_hi hs.length i h hk] at hd; omega
    obtain ⟨av, b, o, cp, rfl, _⟩ := hv
    rw [this]
    exact path_one av cp i w
  | succ d ih =>
    intro hs i v w hdep hin hn hd hH h0 hv
    obtain ⟨av, b, o, cp, rfl, hcp, hcp2, hav, hr, hb, _⟩ := hv
    obtain rfl := hav (by omega)
    have h2n : 2 ≤ hs.length := by
      rcases Nat.lt_or_ge hs.length 2 with h | h
      · rw [depthN_one hs.length i h] at hdep; omega
      · exact h
    have hk1 := halfN_pos hs.length
    have hk2 := halfN_lt hs.length h2n
    have hC0 : ∀ w' : World, Calls Tryd.prog 66 #[.int .i64 hs.length] w' fun e w'' => e = .returned (.int .i64 (halfN hs.length)) ∧ w'' = w' := fun w' => half_any hs.length h2n (by omega) w'
    have hT : ∀ w', Below w.heap.size w w' → ListAt w' (.slice (some ⟨b, o, none⟩) (halfN hs.length) cp) (hs.take (halfN hs.length)) := fun w' q => ListAt.take rfl (range_below hr q hb) hH (Nat.lt_of_lt_of_le hb q.size) hcp2 hcp (halfN hs.length) (by omega)
    have hD : ∀ w', Below w.heap.size w w' → ListAt w' (.slice (some ⟨b, o + halfN hs.length * 32, none⟩) (hs.length - halfN hs.length) (cp - halfN hs.length)) (hs.drop (halfN hs.length)) := fun w' q => ListAt.drop rfl (range_below hr q hb) hH (Nat.lt_of_lt_of_le hb q.size) hcp2 hcp (halfN hs.length) (by omega)
    have lT : (hs.take (halfN hs.length)).length = halfN hs.length := by simp; omega
    have lD : (hs.drop (halfN hs.length)).length = hs.length - halfN hs.length := by simp
    unfold pathD
    by_cases hik : i < halfN hs.length
    · rw [if_pos hik]
      rw [depthN_lo hs.length i h2n hik] at hdep
      exact path_lo (pathD d (hs.take (halfN hs.length)) i) (overH (hs.drop (halfN hs.length))) hs.length i (halfN hs.length) b o cp w hik hk1 hk2 hn hcp hcp2 (overH_hash _ (hH.drop _)).1 (by rw [pathD_length]; omega) hC0
        (fun w' q => ih _ i _ w' (by rw [lT]; omega) (by rw [lT]; omega) (by rw [lT]; omega) (by omega) (hH.take _) (by have := q.size; omega) (hT w' q))
        (fun w' q => rover_any _ _ _ w' (Nat.le_refl _) (by rw [lD]; omega) (hH.drop _) (by have := q.size; omega) (hD w' q))
    · rw [if_neg hik]
      rw [depthN_hi hs.length i h2n hik] at hdep
      refine path_hi (pathD d (hs.drop (halfN hs.length)) (i - halfN hs.length)) (overH (hs.take (halfN hs.length))) hs.length i (halfN hs.length) b o cp w hik hk1 hk2 hin hn hcp hcp2 (overH_hash _ (hH.take _)).1 (by rw [pathD_length]; omega) hC0
        (fun w' q => ?_)
        (fun w' q => rover_any _ _ _ w' (Nat.le_refl _) (by rw [lT]; omega) (hH.take _) (by have := q.size; omega) (hT w' q))
      have := ih _ (i - halfN hs.length) _ w' (by rw [lD]; omega) (by rw [lD]; omega) (by rw [lD]; omega) (by omega) (hH.drop _) (by have := q.size; omega) (hD w' q)
      rw [show ((i - halfN hs.length : Nat) : Int) = (i : Int) - (halfN hs.length : Int) by omega] at this
      exact this
end Go.Proofs.YtffhjjgkoapioaaDoor
