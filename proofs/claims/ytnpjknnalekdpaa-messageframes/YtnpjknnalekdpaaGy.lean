import Derived.Test.YtnpjknnalekdpaaGa
import Derived.Deep.MidRow
namespace Go.Proofs.Ytnpjknnalekdpaa
set_option linter.unusedSimpArgs false
set_option linter.unusedVariables false
open Go.RowKit
def kindB (k : Int) : Bool := decide (1 ≤ k ∧ k ≤ 6)
def nodeB (k : Int) : Bool := decide (0 ≤ k ∧ k ≤ 16)
def inB (m : Msg) : Bool := if m.kind = 1 then decide (m.base ≤ 4294967295 ∧ m.s.size ≤ 500) else if m.kind = 2 then (m.yes || decide (1 ≤ m.code ∧ m.code ≤ 17)) else true
set_option maxRecDepth 100000 in
theorem isKind_any (k : Int) (w : World) : Calls Try.prog 15 #[.int .i64 k] w fun e w' => e = .returned (.bool (kindB k)) ∧ w' = w := by
  by_cases h1 : 1 ≤ k <;> by_cases h2 : k ≤ 6
  all_goals
    have HK : Hid (kindB k = decide (1 ≤ k ∧ k ≤ 6)) := rfl
    go_enter Try.func15, Try.ntmps15
    go_wp2
    go_ret
    exact ⟨by rw [HK.out]; simp [h1, h2] <;> rfl, rfl⟩
set_option maxRecDepth 100000 in
theorem isNode_any (k : Int) (w : World) : Calls Try.prog 16 #[.int .i64 k] w fun e w' => e = .returned (.bool (nodeB k)) ∧ w' = w := by
  by_cases h1 : 0 ≤ k <;> by_cases h2 : k ≤ 16
  all_goals
    have HK : Hid (nodeB k = decide (0 ≤ k ∧ k ≤ 16)) := rfl
    go_enter Try.func16, Try.ntmps16
    go_wp2
    go_ret
    exact ⟨by rw [HK.out]; simp [h1, h2] <;> rfl, rfl⟩
set_option maxHeartbeats 1000000 in
set_option maxRecDepth 100000 in
theorem inBounds_any (m : Msg) (hm : m.Ok) (w : World) : Calls Try.prog 18 #[.agg (mC m).toArray] w fun e w' => e = .returned (.bool (inB m)) ∧ Below w.heap.size w w' := by
  have hg := heap_alloc_new w (.cells (mC m).toArray 32)
  have c0 := row_cell hg (mC_0 m)
  have c4 := row_cell hg (mC_4 m)
  have c5 := row_cell hg (mC_5 m)
  have c40 := row_cell hg (mC_40 m hm)
  have c41 := row_cell hg (mC_41 m hm)
  have B1 : Hid (Below w.heap.size w (w.alloc (.cells (mC m).toArray 32))) := (Below.refl _ _).alloc (Nat.le_refl _) _
  have hs := hm.s
  have HI : Hid (inB m = if m.kind = 1 then decide (m.base ≤ 4294967295 ∧ m.s.size ≤ 500) else if m.kind = 2 then (m.yes || decide (1 ≤ m.code ∧ m.code ≤ 17)) else true) := rfl
  generalize inB m = R at *
  generalize (mC m).toArray = C at *
  obtain ⟨k, f, t, i, b, s, q, x, h, y, c, v, r, z⟩ := m
  simp only at *
  clear hg hm
  by_cases h1 : k = 1
  · subst h1
    rw [if_pos rfl] at HI
    by_cases a1 : b ≤ 4294967295 <;> by_cases a2 : (s.size : Int) ≤ 500
    all_goals
      have a3 : s.size ≤ 500 ↔ (s.size : Int) ≤ 500 := by omega
      go_enter Try.func18, Try.ntmps18
      go_wp2
      go_ret
      exact ⟨by rw [HI.out]; simp [a1, a2, a3] <;> rfl, B1.out⟩
  · have h1b : (k == 1) = false := by simpa using h1
    rw [if_neg h1] at HI
    by_cases h2 : k = 2
    · subst h2
      rw [if_pos rfl] at HI
      cases y <;> by_cases a1 : 1 ≤ c <;> by_cases a2 : c ≤ 17
      all_goals first
        | (exfalso; omega)
        | (go_enter Try.func18, Try.ntmps18
           go_wp2
           go_ret
           exact ⟨by rw [HI.out]; simp [a1, a2] <;> rfl, B1.out⟩)
    · have h2b : (k == 2) = false := by simpa using h2
      rw [if_neg h2] at HI
      go_enter Try.func18, Try.ntmps18
      go_wp2
      go_ret
      exact ⟨by rw [HI.out]; rfl, B1.out⟩
end Go.Proofs.Ytnpjknnalekdpaa
namespace Go.Proofs.Ytnpjknnalekdpaa
set_option linter.unusedSimpArgs false
set_option linter.unusedVariables false
open Go.RowKit
/-- A message's box. -/
def BoxM (T : TypeId) (w : World) (g : Nat) (m : Msg) : Prop := w.heap[g]? = some (.cells (mC m).toArray T)
theorem BoxM.lt {T : TypeId} {w : World} {g : Nat} {m : Msg} (h : BoxM T w g m) : g < w.heap.size := (Array.getElem?_eq_some_iff.1 h).1
theorem BoxM.below {T : TypeId} {w w' : World} {g : Nat} {m : Msg} (h : BoxM T w g m) (b : Below w.heap.size w w') : BoxM T w' g m := by
  unfold BoxM; rw [b.block g h.lt]; exact h
theorem BoxM.under {T : TypeId} {B : Nat} {w w' : World} {g : Nat} {m : Msg} (h : BoxM T w g m) (b : Below B w w') (hg : g < B) : BoxM T w' g m := by
  unfold BoxM; rw [b.block g hg]; exact h
theorem set_at (A C : List Value) (x v : Value) (a : Nat) (ha : A.length = a) : (A ++ x :: C).set a v = A ++ v :: C := by
  rw [List.set_append_right _ _ (by omega), ha, Nat.sub_self]; rfl
theorem repl (A B C V : List Value) (a n : Nat) (ha : A.length = a) (hB : B.length = n) (hV : V.length = n) : (A ++ (B ++ C)).take a ++ V ++ (A ++ (B ++ C)).drop (a + V.length) = A ++ (V ++ C) := by
  have e1 : (A ++ (B ++ C)).take a = A := by rw [List.take_append_of_le_length (by omega), List.take_of_length_le (by omega)]
  have e2 : (A ++ (B ++ C)).drop (a + V.length) = C := by
    rw [← List.append_assoc, List.drop_left' (by simp; omega)]
  rw [e1, e2, List.append_assoc]
theorem boxCell {T : TypeId} {w : World} {g : Nat} {m m' : Msg} (h : BoxM T w g m) (o : Nat) (v : Value) (he : (mC m).set o v = mC m') : BoxM T (w.setCell ⟨g, o, none⟩ v) g m' := by
  unfold BoxM at h ⊢
  rw [heap_setCell_same w g o _ T v h, List.setIfInBounds_toArray, he]
theorem boxCells {T : TypeId} {w : World} {g : Nat} {m m' : Msg} (h : BoxM T w g m) (o : Nat) (vs : List Value) (hl : o + vs.length ≤ (mC m).length) (he : (mC m).take o ++ vs ++ (mC m).drop (o + vs.length) = mC m') : BoxM T (w.setCells g o vs) g m' := by
  unfold BoxM at h ⊢
  rw [setCells_block g T vs o w _ h (by simpa using hl), List.toList_toArray, he]
theorem set_base (m : Msg) (b : Int) : (mC m).set 4 (.int .u64 b) = mC { m with base := b } := rfl
theorem set_yes (m : Msg) (hm : m.Ok) (b : Bool) : (mC m).set 40 (.bool b) = mC { m with yes := b } := by
  have e : ∀ x : Msg, mC x = ([.int .i64 x.kind, .int .i64 x.frm, .int .i64 x.to, .int .u64 x.id, .int .u64 x.base] ++ eC x) ++ .bool x.yes :: ([.int .i64 x.code] ++ ((vB x.vh).toList ++ ((vB x.vr).toList ++ [.bool x.commit]))) := fun x => by unfold mC; simp only [List.append_assoc, List.cons_append, List.nil_append]
  rw [e, e, set_at _ _ _ _ 40 (by simp only [List.length_append, eC_length m hm, List.length_cons, List.length_nil])]; rfl
theorem set_code (m : Msg) (hm : m.Ok) (c : Int) : (mC m).set 41 (.int .i64 c) = mC { m with code := c } := by
  have e : ∀ x : Msg, mC x = ([.int .i64 x.kind, .int .i64 x.frm, .int .i64 x.to, .int .u64 x.id, .int .u64 x.base] ++ eC x ++ [.bool x.yes]) ++ .int .i64 x.code :: (((vB x.vh).toList ++ ((vB x.vr).toList ++ [.bool x.commit]))) := fun x => by unfold mC; simp only [List.append_assoc, List.cons_append, List.nil_append]
  rw [e, e, set_at _ _ _ _ 41 (by simp only [List.length_append, eC_length m hm, List.length_cons, List.length_nil])]; rfl
theorem set_commit (m : Msg) (hm : m.Ok) (b : Bool) : (mC m).set 106 (.bool b) = mC { m with commit := b } := by
  have e : ∀ x : Msg, mC x = ([.int .i64 x.kind, .int .i64 x.frm, .int .i64 x.to, .int .u64 x.id, .int .u64 x.base] ++ eC x ++ [.bool x.yes, .int .i64 x.code] ++ (vB x.vh).toList ++ (vB x.vr).toList) ++ .bool x.commit :: [] := fun x => by unfold mC; simp only [List.append_assoc, List.cons_append, List.nil_append]
  rw [e, e, set_at _ _ _ _ 106 (by simp only [List.length_append, eC_length m hm, vBl, hm.v, hm.r, List.length_cons, List.length_nil])]; rfl
theorem set_edit (m x : Msg) (hm : m.Ok) (hx : x.Ok) : (mC m).take 5 ++ eC x ++ (mC m).drop (5 + (eC x).length) = mC { m with s := x.s, quiet := x.quiet, ext := x.ext, hash := x.hash } := by
  have := repl [.int .i64 m.kind, .int .i64 m.frm, .int .i64 m.to, .int .u64 m.id, .int .u64 m.base] (eC m) ([.bool m.yes, .int .i64 m.code] ++ ((vB m.vh).toList ++ ((vB m.vr).toList ++ [.bool m.commit]))) (eC x) 5 35 rfl (eC_length m hm) (eC_length x hx)
  exact this
theorem set_vh (m : Msg) (hm : m.Ok) (l : List Int) (hl : l.length = 32) : (mC m).take 42 ++ (vB l).toList ++ (mC m).drop (42 + (vB l).toList.length) = mC { m with vh := l } := by
  have e : ∀ x : Msg, mC x = ([.int .i64 x.kind, .int .i64 x.frm, .int .i64 x.to, .int .u64 x.id, .int .u64 x.base] ++ eC x ++ [.bool x.yes, .int .i64 x.code]) ++ ((vB x.vh).toList ++ ((vB x.vr).toList ++ [.bool x.commit])) := fun x => by unfold mC; simp only [List.append_assoc]
  rw [e, e]
  exact repl _ _ _ _ 42 32 (by simp only [List.length_append, eC_length m hm, List.length_cons, List.length_nil]) (by rw [vBl, hm.v]) (by rw [vBl, hl])
theorem set_vr (m : Msg) (hm : m.Ok) (l : List Int) (hl : l.length = 32) : (mC m).take 74 ++ (vB l).toList ++ (mC m).drop (74 + (vB l).toList.length) = mC { m with vr := l } := by
  have e : ∀ x : Msg, mC x = ([.int .i64 x.kind, .int .i64 x.frm, .int .i64 x.to, .int .u64 x.id, .int .u64 x.base] ++ eC x ++ [.bool x.yes, .int .i64 x.code] ++ (vB x.vh).toList) ++ ((vB x.vr).toList ++ [.bool x.commit]) := fun x => by unfold mC; simp only [List.append_assoc]
  rw [e, e]
  exact repl _ _ _ _ 74 32 (by simp only [List.length_append, eC_length m hm, vBl, hm.v, List.length_cons, List.length_nil]) (by rw [vBl, hm.r]) (by rw [vBl, hl])
theorem there_of {T : TypeId} {w : World} {g : Nat} {m : Msg} (h : BoxM T w g m) (o n : Nat) (hn : o + n ≤ (mC m).length) : w.there g o n := fun j hj => by
  have hc := cell_of_row w g (o + j) (mC m).toArray T (0, 0) h
  refine ⟨?_, unfrozen h⟩
  rw [hc, List.getElem?_toArray, List.getElem?_eq_getElem (by omega)]; rfl
theorem range_of {T : TypeId} {w : World} {g : Nat} {m : Msg} (h : BoxM T w g m) (o n : Nat) (cs : Array Value) (he : (mC m).toArray.extract o (o + n) = cs) : w.rangeAt g o cs.toList := by
  rw [← he]; exact World.rangeAt_of_block h o n
theorem mC_one (m : Msg) : ∀ v ∈ mC m, v.oneCell' = true := by
  intro v hv
  unfold mC eC vB at hv
  simp only [List.mem_append, List.mem_cons, List.not_mem_nil, or_false, List.mem_map, List.toList_toArray] at hv
  rcases hv with (rfl | rfl | rfl | rfl | rfl) | ((rfl | rfl | rfl) | ⟨_, _, rfl⟩) | (rfl | rfl) | ⟨_, _, rfl⟩ | ⟨_, _, rfl⟩ | rfl <;> rfl
theorem eC_one (m : Msg) : ∀ v ∈ eC m, v.oneCell' = true := by
  intro v hv
  unfold eC vB at hv
  simp only [List.mem_append, List.mem_cons, List.not_mem_nil, or_false, List.mem_map, List.toList_toArray] at hv
  rcases hv with (rfl | rfl | rfl) | ⟨_, _, rfl⟩ <;> rfl
theorem vB_one (l : List Int) : ∀ v ∈ (vB l).toList, v.oneCell' = true := by
  intro v hv
  unfold vB at hv
  simp only [List.mem_map, List.toList_toArray] at hv
  obtain ⟨_, _, rfl⟩ := hv; rfl
/-- Nothing but a kind, from, to and a number. -/
def own0 (m : Msg) : Msg := ⟨m.kind, m.frm, m.to, m.id, 0, ⟨#[]⟩, false, false, zs 32, false, 0, zs 32, zs 32, false⟩
def msg0 : Msg := ⟨0, 0, 0, 0, 0, ⟨#[]⟩, false, false, zs 32, false, 0, zs 32, zs 32, false⟩
theorem zs_bytes (n : Nat) : Bytes (zs n) := fun x hx => by unfold zs at hx; rw [List.eq_of_mem_replicate hx]; omega
theorem own0_ok (m : Msg) (h : m.Ok) : (own0 m).Ok := ⟨h.k, h.f, h.t, h.i, by simp [own0], by simp [own0], (by show (0 : Nat) ≤ _; omega), by simp [own0, zs], by simp [own0, zs], by simp [own0, zs], zs_bytes _, zs_bytes _, zs_bytes _⟩
theorem msg0_ok : msg0.Ok := ⟨by simp [msg0], by simp [msg0], by simp [msg0], by simp [msg0], by simp [msg0], by simp [msg0], (by show (0 : Nat) ≤ _; omega), by simp [msg0, zs], by simp [msg0, zs], by simp [msg0, zs], zs_bytes _, zs_bytes _, zs_bytes _⟩
def zcel32 : Array Value := (mC msg0).toArray
def zcel37 : Array Value := (mC msg0).toArray
set_option maxRecDepth 100000 in
@[simp] theorem zeroV32 (w : World) : (zeroValue 32).run Try.prog w = .ok (.agg zcel32) w := by kernel_rfl
set_option maxRecDepth 100000 in
@[simp] theorem zeroV37 (w : World) : (zeroValue 37).run Try.prog w = .ok (.agg zcel37) w := by kernel_rfl
set_option maxRecDepth 100000 in
theorem zcel32_size : zcel32.size = 107 := by kernel_rfl
set_option maxRecDepth 100000 in
theorem zcel37_size : zcel37.size = 107 := by kernel_rfl
@[simp] theorem zcel32_ne : zcel32 ≠ #[] := fun h => by have := zcel32_size; rw [h] at this; cases this
@[simp] theorem zcel37_ne : zcel37 ≠ #[] := fun h => by have := zcel37_size; rw [h] at this; cases this
set_option maxRecDepth 100000 in
theorem zero68 : zcel32 = (mC msg0).toArray := by kernel_rfl
set_option maxRecDepth 100000 in
theorem zero65 : zcel37 = (mC msg0).toArray := by kernel_rfl
/-- What its kind has, and nothing else. -/
def ofKind (m : Msg) : Msg :=
  if m.kind = 1 then { own0 m with base := m.base, s := m.s, quiet := m.quiet, ext := m.ext, hash := m.hash }
  else if m.kind = 2 then (if m.yes = true then { own0 m with yes := true, vh := m.vh, vr := m.vr } else { own0 m with code := m.code })
  else if m.kind = 3 ∨ m.kind = 6 then { own0 m with commit := m.commit } else own0 m
theorem box_range {T : TypeId} {w : World} {g : Nat} {m : Msg} (h : BoxM T w g m) : w.rangeAt g 0 (mC m) := fun j v hv => by
  rw [Nat.zero_add, cell_of_row w g j _ T (0, 0) h]; simpa using hv
set_option maxRecDepth 100000 in
theorem size68 : (Try.prog.info? 32).map (·.size) = some 107 := by kernel_rfl
theorem loadM68 {ops : Array Oper} {rest : List Oper} {o : Oper} {a : Act} {w : World} {Q : Exit → Act → World → Prop} (hgd : o.guard = none) (x : Operand) (ho : o.op = .load 32 x) (g : Nat) (hx : a.eval x = .pointer (some ⟨g, 0, none⟩)) (m : Msg) (hm : m.Ok) (hb : BoxM 32 w g m)
    (h : wpList Try.prog ops Q rest (a.put o.dst (.agg (mC m).toArray)) w) : wpList Try.prog ops Q (o :: rest) a w :=
  wpList_load_mid hgd 32 x ho g 0 hx (mC m) _ (box_range hb) Try.underlying32 rfl (by rw [size68, mC_length m hm]) h
theorem storeM68 {ops : Array Oper} {rest : List Oper} {o : Oper} {a : Act} {w : World} {Q : Exit → Act → World → Prop} (hgd : o.guard = none) (x y : Operand) (ho : o.op = .store 32 x y) (g : Nat) (hx : a.eval x = .pointer (some ⟨g, 0, none⟩)) (m m0 : Msg) (hy : a.eval y = .agg (mC m).toArray) (hm : m.Ok) (hm0 : m0.Ok) (hb : BoxM 32 w g m0)
    (h : wpList Try.prog ops Q rest (a.put o.dst undef) (w.setRow g (mC m).toArray)) : wpList Try.prog ops Q (o :: rest) a w :=
  wpList_store_row hgd 32 x y ho g _ hx hy 32 _ hb (by rw [size68, List.size_toArray, mC_length m hm]) (by rw [List.size_toArray, List.size_toArray, mC_length m hm, mC_length m0 hm0]) (all_oneCell_toArray (mC_one m)) h
/-- A message as a result that lies in a box. -/
theorem resM68 {fn : Func} (p : Tmp) (h : fn.results = #[.cell p 32]) (tmps : Array Value) (w : World) (g : Nat) (m : Msg) (hm : m.Ok) (hp : tmps.getD p undef = .pointer (some ⟨g, 0, none⟩)) (hb : BoxM 32 w g m) : (results fn tmps).run Try.prog w = .ok (.agg (mC m).toArray) w :=
  results_cell_row h tmps w g 32 _ (0, 0) _ hp hb Try.underlying32 rfl (by rw [size68, List.size_toArray, mC_length m hm])
set_option maxRecDepth 100000 in
theorem size65 : (Try.prog.info? 37).map (·.size) = some 107 := by kernel_rfl
theorem loadM65 {ops : Array Oper} {rest : List Oper} {o : Oper} {a : Act} {w : World} {Q : Exit → Act → World → Prop} (hgd : o.guard = none) (x : Operand) (ho : o.op = .load 37 x) (g : Nat) (hx : a.eval x = .pointer (some ⟨g, 0, none⟩)) (m : Msg) (hm : m.Ok) (hb : BoxM 37 w g m)
    (h : wpList Try.prog ops Q rest (a.put o.dst (.agg (mC m).toArray)) w) : wpList Try.prog ops Q (o :: rest) a w :=
  wpList_load_mid hgd 37 x ho g 0 hx (mC m) _ (box_range hb) Try.underlying37 rfl (by rw [size65, mC_length m hm]) h
theorem storeM65 {ops : Array Oper} {rest : List Oper} {o : Oper} {a : Act} {w : World} {Q : Exit → Act → World → Prop} (hgd : o.guard = none) (x y : Operand) (ho : o.op = .store 37 x y) (g : Nat) (hx : a.eval x = .pointer (some ⟨g, 0, none⟩)) (m m0 : Msg) (hy : a.eval y = .agg (mC m).toArray) (hm : m.Ok) (hm0 : m0.Ok) (hb : BoxM 37 w g m0)
    (h : wpList Try.prog ops Q rest (a.put o.dst undef) (w.setRow g (mC m).toArray)) : wpList Try.prog ops Q (o :: rest) a w :=
  wpList_store_row hgd 37 x y ho g _ hx hy 37 _ hb (by rw [size65, List.size_toArray, mC_length m hm]) (by rw [List.size_toArray, List.size_toArray, mC_length m hm, mC_length m0 hm0]) (all_oneCell_toArray (mC_one m)) h
/-- A message as a result that lies in a box. -/
theorem resM65 {fn : Func} (p : Tmp) (h : fn.results = #[.cell p 37]) (tmps : Array Value) (w : World) (g : Nat) (m : Msg) (hm : m.Ok) (hp : tmps.getD p undef = .pointer (some ⟨g, 0, none⟩)) (hb : BoxM 37 w g m) : (results fn tmps).run Try.prog w = .ok (.agg (mC m).toArray) w :=
  results_cell_row h tmps w g 37 _ (0, 0) _ hp hb Try.underlying37 rfl (by rw [size65, List.size_toArray, mC_length m hm])
theorem box_set {T : TypeId} {w : World} {g : Nat} {m0 : Msg} (h : BoxM T w g m0) (m : Msg) : BoxM T (w.setRow g (mC m).toArray) g m := setRow_same h
set_option maxRecDepth 100000 in
theorem size24 : (Try.prog.info? 27).map (·.size) = some 32 := by kernel_rfl
set_option maxRecDepth 100000 in
theorem size63 : (Try.prog.info? 29).map (·.size) = some 35 := by kernel_rfl
theorem wp_storeH {o : Oper} {a : Act} {w : World} {K : Act → World → Prop} {Q : Exit → Act → World → Prop} (x y : Operand) (ho : o.op = .store 27 x y) (g off : Nat) (hx : a.eval x = .pointer (some ⟨g, off, none⟩)) (l : List Int) (hl : l.length = 32) (hy : a.eval y = .agg (vB l).toList.toArray) (ht : w.there g off 32)
    (h : K (a.put o.dst undef) (w.setCells g off (vB l).toList)) : o.wp Try.prog a w K Q := by
  have hs : (vB l).toList.toArray.size = 32 := by rw [List.size_toArray, vBl, hl]
  exact wp_store_mid 27 x y ho g off _ hx hy (by rw [hs]; exact ht) (by rw [hs]; exact size24) (all_oneCell_toArray (vB_one l)) (by rw [List.toList_toArray]; exact h)
theorem wp_storeE {o : Oper} {a : Act} {w : World} {K : Act → World → Prop} {Q : Exit → Act → World → Prop} (x y : Operand) (ho : o.op = .store 29 x y) (g off : Nat) (hx : a.eval x = .pointer (some ⟨g, off, none⟩)) (m : Msg) (hm : m.Ok) (hy : a.eval y = .agg (eC m).toArray) (ht : w.there g off 35)
    (h : K (a.put o.dst undef) (w.setCells g off (eC m))) : o.wp Try.prog a w K Q := by
  have hs : (eC m).toArray.size = 35 := by rw [List.size_toArray, eC_length m hm]
  exact wp_store_mid 29 x y ho g off _ hx hy (by rw [hs]; exact ht) (by rw [hs]; exact size63) (all_oneCell_toArray (eC_one m)) (by rw [List.toList_toArray]; exact h)
theorem box_cells_far {T : TypeId} {w : World} {g k o : Nat} {m : Msg} {vs : List Value} (h : BoxM T w k m) (hk : k ≠ g) : BoxM T (w.setCells g o vs) k m := by
  unfold BoxM; rw [setCells_far g vs o w k hk]; exact h
theorem box_cell_far {T : TypeId} {w : World} {g k o : Nat} {m : Msg} {v : Value} (h : BoxM T w k m) (hk : k ≠ g) : BoxM T (w.setCell ⟨g, o, none⟩ v) k m := by
  unfold BoxM; rw [Below.heap_setCell _ _ _ _ hk]; exact h
theorem below_cells {B : Nat} {a w : World} {g o : Nat} {vs : List Value} (h : Below B a w) (hg : B ≤ g) (hB : B ≤ w.heap.size) : Below B a (w.setCells g o vs) := h.grown (grown_setCells w g o vs) hB (fun k hk => by injection hk; omega)
theorem ofKind_ok (m : Msg) (h : m.Ok) : (ofKind m).Ok := by
  have o := own0_ok m h
  unfold ofKind
  split
  · exact ⟨o.k, o.f, o.t, o.i, h.b, o.c, h.s, h.h, o.v, o.r, h.hb, o.vb, o.rb⟩
  split
  · split
    · exact ⟨o.k, o.f, o.t, o.i, o.b, o.c, o.s, o.h, h.v, h.r, o.hb, h.vb, h.rb⟩
    · exact ⟨o.k, o.f, o.t, o.i, o.b, h.c, o.s, o.h, o.v, o.r, o.hb, o.vb, o.rb⟩
  split
  · exact ⟨o.k, o.f, o.t, o.i, o.b, o.c, o.s, o.h, o.v, o.r, o.hb, o.vb, o.rb⟩
  · exact o
end Go.Proofs.Ytnpjknnalekdpaa
