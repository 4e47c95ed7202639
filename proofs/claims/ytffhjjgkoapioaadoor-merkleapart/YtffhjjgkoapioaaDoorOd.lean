import Derived.Test.YtffhjjgkoapioaaDoorOc
import Derived.Test.YtffhjjgkoapioaaDoorNa
namespace Go.Proofs.YtffhjjgkoapioaaDoor
set_option linter.unusedSimpArgs false
set_option linter.unusedVariables false
open Go.RowKit
/-- Whether the way lies left, from the leaf up. -/
def turnsD : Nat → Nat → Nat → List Bool
  | 0, _, _ => []
  | d + 1, n, i => if i < halfN n then turnsD d (halfN n) i ++ [true] else turnsD d (n - halfN n) (i - halfN n) ++ [false]
set_option maxRecDepth 100000 in
theorem turnsD_length (d : Nat) : ∀ n i, (turnsD d n i).length = d := by
  induction d with
  | zero => intro n i; rfl
  | succ d ih => intro n i; unfold turnsD; split <;> simp [ih]
/-- The slice u has the truths bl, in a row of its own. -/
def BoolRow (base : Nat) (bl : List Bool) (u : Value) (W : World) : Prop := W.ownsRow base 4 1 u bl.length (bl.map Value.bool)
set_option maxRecDepth 100000 in
theorem info4 : (Tryd.prog.info? 4).map (fun i => (i.zero, i.size, i.bytes)) = some (some (.bool false), 1, 1) := by kernel_rfl
set_option maxRecDepth 100000 in
theorem appendT {ops : Array Oper} {rest : List Oper} {o : Oper} {a : Act} {w : World} {Q : Exit → Act → World → Prop} (hgd : o.guard = none) (s x : Operand)
    (ho : o.op = .call { callee := .builtin .append, args := #[s, x], argTypes := #[89, 89] }) (base : Nat) (v : Value) (bl : List Bool) (hv : a.eval s = v) (hown : BoolRow base bl v w)
    (t : Bool) (hx : a.eval x = .slice (some ⟨w.heap.size, 0, none⟩) 1 1) (hn : bl.length ≤ 1000000) (hbase : base ≤ w.heap.size)
    (K : ∀ v' w', BoolRow base (bl ++ [t]) v' w' → (w.alloc (.cells #[.bool t] 4)).grownBy w' v.ownBlock → wpList Tryd.prog ops Q rest (a.put o.dst v') w') : wpList Tryd.prog ops Q (o :: rest) a (w.alloc (.cells #[.bool t] 4)) := by
  obtain ⟨i, hi, hz0, hz1, hz2⟩ := info_parts info4
  refine wpList_append_own_at _ hgd s x 89 ho base 4 i (.bool false) 1 1 Tryd.underlying89 hi hz0 hz1 hz2 rfl (by omega) v bl.length (bl.map Value.bool) hv (own_alloc hown _) ⟨w.heap.size, 0, none⟩ 1 1 [.bool t] hx rfl (cell_one_new _ _ _)
    (by simp [Value.oneCell']) (by unfold maxLen; omega) (by omega) (by simp; omega) ?_
  intro v' w' o' g' _ _
  refine K v' w' ?_ g'
  unfold BoolRow
  simpa using o'
set_option maxRecDepth 100000 in
set_option maxHeartbeats 1000000 in
theorem turns_zero (n : Nat) (i : Int) (w : World) (hn : n ≤ 1) : Calls Tryd.prog 69 #[.int .i64 n, .int .i64 i] w fun e w' => ∃ v, e = .returned v ∧ BoolRow w.heap.size [] v w' ∧ Below w.heap.size w w' := by
  go_enter Tryd.func69, Tryd.ntmps69
  go_wp2
  go_ret
  exact ⟨_, rfl, ⟨rfl, Or.inl ⟨rfl, rfl⟩⟩, Below.refl _ _⟩
set_option maxRecDepth 100000 in
set_option maxHeartbeats 1000000 in
theorem turns_any (d : Nat) : ∀ (n i : Nat) (w : World), depthN n i = d → i < n → n ≤ 1073741824 → d ≤ 1000 →
    Calls Tryd.prog 69 #[.int .i64 n, .int .i64 i] w fun e w' => ∃ v, e = .returned v ∧ BoolRow w.heap.size (turnsD d n i) v w' ∧ Below w.heap.size w w' := by
  induction d with
  | zero =>
    intro n i w hd hi hn _
    have : n ≤ 1 := by
      rcases Nat.lt_or_ge n 2 with h | h
      · omega
      · by_cases hk : i < halfN n
        · rw [depthN_lo n i h hk] at hd; omega
        · rw [depthN_hi n i h hk] at hd; omega
    exact turns_zero n i w this
  | succ d ih =>
    intro n i w hdep hin hn hd
    have h2n : 2 ≤ n := by
      rcases Nat.lt_or_ge n 2 with h | h
      · rw [depthN_one n i h] at hdep; omega
      · exact h
    have hk1 := halfN_pos n
    have hk2 := halfN_lt n h2n
    have C0 : Hid (∀ w' : World, Calls Tryd.prog 66 #[.int .i64 n] w' fun e w'' => e = .returned (.int .i64 (halfN n)) ∧ w'' = w') := fun w' => half_any n h2n (by omega) w'
    unfold turnsD
    by_cases hik : i < halfN n
    · rw [if_pos hik]
      rw [depthN_lo n i h2n hik] at hdep
      have C1 : Hid (Calls Tryd.prog 69 #[.int .i64 (halfN n), .int .i64 i] w fun e w' => ∃ v, e = .returned v ∧ BoolRow w.heap.size (turnsD d (halfN n) i) v w' ∧ Below w.heap.size w w') := ih (halfN n) i w (by omega) hik (by omega) (by omega)
      have hl := turnsD_length d (halfN n) i
      generalize turnsD d (halfN n) i = T at *
      generalize halfN n = k at *
      clear ih hdep
      go_enter Tryd.func69, Tryd.ntmps69
      go_wp2_with (first | (go_at_call 66; refine (C0.out _).mono ?_; rintro e w' ⟨rfl, hw'⟩; have hw'' := hw'.symm; clear hw'; subst hw'') | (go_at_call 69; refine C1.out.mono ?_; rintro e w1 ⟨v1, rfl, o1, b1⟩; have s1 := b1.size) | (at_builtin; refine appendT rfl _ _ rfl w.heap.size v1 T (by rfl) o1 true (by rfl) (by omega) s1 ?_; intro v2 w2 o2 g2))
      go_ret
      exact ⟨_, rfl, o2, (b1.alloc s1 _).grown g2 (by simp; omega) (fun j hj => (own_lt o1 j hj).2)⟩
    · rw [if_neg hik]
      rw [depthN_hi n i h2n hik] at hdep
      have C1 : Hid (Calls Tryd.prog 69 #[.int .i64 ((n : Int) - (halfN n : Int)), .int .i64 ((i : Int) - (halfN n : Int))] w fun e w' => ∃ v, e = .returned v ∧ BoolRow w.heap.size (turnsD d (n - halfN n) (i - halfN n)) v w' ∧ Below w.heap.size w w') := by
        have := ih (n - halfN n) (i - halfN n) w (by omega) (by omega) (by omega) (by omega)
        rw [show ((n - halfN n : Nat) : Int) = (n : Int) - (halfN n : Int) by omega, show ((i - halfN n : Nat) : Int) = (i : Int) - (halfN n : Int) by omega] at this
        exact this
      have hl := turnsD_length d (n - halfN n) (i - halfN n)
      generalize turnsD d (n - halfN n) (i - halfN n) = T at *
      generalize halfN n = k at *
      clear ih hdep
      go_enter Tryd.func69, Tryd.ntmps69
      go_wp2_with (first | (go_at_call 66; refine (C0.out _).mono ?_; rintro e w' ⟨rfl, hw'⟩; have hw'' := hw'.symm; clear hw'; subst hw'') | (go_at_call 69; refine C1.out.mono ?_; rintro e w1 ⟨v1, rfl, o1, b1⟩; have s1 := b1.size) | (at_builtin; refine appendT rfl _ _ rfl w.heap.size v1 T (by rfl) o1 false (by rfl) (by omega) s1 ?_; intro v2 w2 o2 g2))
      go_ret
      exact ⟨_, rfl, o2, (b1.alloc s1 _).grown g2 (by simp; omega) (fun j hj => (own_lt o1 j hj).2)⟩
end Go.Proofs.YtffhjjgkoapioaaDoor
