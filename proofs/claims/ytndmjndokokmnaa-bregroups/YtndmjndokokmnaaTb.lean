import Derived.Test.YtndmjndokokmnaaTa
import Derived.WalkKit
import Derived.BigFrame
import Derived.Laws.Build
import Derived.Laws.ResultCell
import Derived.Below
import Derived.Deep.MidRow
import Derived.Deep.WholeRow
import Derived.Laws.StructEq
namespace Go.Proofs.Ytndmjndokokmnaa
set_option linter.unusedSimpArgs false
set_option linter.unusedVariables false
open Go.RowKit
open Go.Deep
theorem row_cell {w : World} {g j : Nat} {cs : Array Value} {t : TypeId} {v : Value} (hg : w.heap[g]? = some (.cells cs t)) (h : cs[j]? = some v) : w.cell? ⟨g, j, none⟩ = some v := by
  rw [cell_of_row w g j cs t (0, 0) hg, h]
theorem unfrozen {w : World} {g j : Nat} {cs : Array Value} {t : TypeId} (hg : w.heap[g]? = some (.cells cs t)) : w.frozen? ⟨g, j, none⟩ = false := by
  simp [World.frozen?, hg]
/-- A node's cells. -/
def cN (h : Hd) (u : Value) : List Value := [.int .i64 h.k, .int .u8 (h.c : Int), .int .u64 (h.x0 : Int), .int .u64 h.x1, .int .u64 h.x2, .int .u64 h.x3, .int .i64 h.n, .int .i64 h.lo, .int .i64 h.hi, u]
/-- A node as a value. -/
def vN (h : Hd) (u : Value) : Value := .agg #[.int .i64 h.k, .int .u8 (h.c : Int), .int .u64 (h.x0 : Int), .int .u64 h.x1, .int .u64 h.x2, .int .u64 h.x3, .int .i64 h.n, .int .i64 h.lo, .int .i64 h.hi, u]
def lenB : BT P7 → Nat
  | .nil => 0
  | .node _ _ _ _ r => lenB r + 1
theorem lenB_lf : ∀ l : List T, lenB (lf l) = l.length
  | [] => rfl
  | t :: r => by simp only [lf, lenB, lenB_lf r, List.length_cons]
/-- Nodes lie there, one behind the other, with all nodes in them, in blocks of S. -/
def LB (S : Nat → Prop) (w : World) : BT P7 → Nat → Nat → Prop
  | .nil, _, _ => True
  | .node c x0 p l r, b, o => (∃ (av : Option Addr) (cp b2 o2 : Nat), w.rangeAt b o (cN (p.hd c x0) (.slice av (lenB l) cp)) ∧ S b ∧ b < w.heap.size ∧ lenB l ≤ cp ∧ cp ≤ 9223372036854775807 ∧ (0 < lenB l → av = some ⟨b2, o2, none⟩) ∧ LB S w l b2 o2) ∧ LB S w r b (o + 10)
def LAt (S : Nat → Prop) (w : World) (b o : Nat) (l : List T) : Prop := LB S w (lf l) b o
/-- The node lies there, with all nodes in it, in blocks of S. -/
def NAt (S : Nat → Prop) (w : World) (b o : Nat) (t : T) : Prop := ∃ (av : Option Addr) (cp b2 o2 : Nat), w.rangeAt b o (cN t.hd (.slice av (lenB t.kf) cp)) ∧ S b ∧ b < w.heap.size ∧ lenB t.kf ≤ cp ∧ cp ≤ 9223372036854775807 ∧ (0 < lenB t.kf → av = some ⟨b2, o2, none⟩) ∧ LB S w t.kf b2 o2
theorem LAt_cons (S : Nat → Prop) (w : World) (b o : Nat) (t : T) (r : List T) : LAt S w b o (t :: r) = (NAt S w b o t ∧ LAt S w b (o + 10) r) := rfl
theorem NAt_mk (S : Nat → Prop) (w : World) (b o : Nat) (h : Hd) (l : List T) : NAt S w b o (.mk h l) = ∃ (av : Option Addr) (cp b2 o2 : Nat), w.rangeAt b o (cN h (.slice av l.length cp)) ∧ S b ∧ b < w.heap.size ∧ l.length ≤ cp ∧ cp ≤ 9223372036854775807 ∧ (0 < l.length → av = some ⟨b2, o2, none⟩) ∧ LAt S w b2 o2 l := by
  unfold NAt T.mk LAt
  simp only [lenB_lf]
/-- A slice of nodes. -/
def SV (S : Nat → Prop) (w : World) (u : Value) (l : List T) : Prop := ∃ (av : Option Addr) (cp b o : Nat), u = .slice av l.length cp ∧ l.length ≤ cp ∧ cp ≤ 9223372036854775807 ∧ (0 < l.length → av = some ⟨b, o, none⟩) ∧ LAt S w b o l
theorem NAt.mk {S : Nat → Prop} {w : World} {b o : Nat} {h : Hd} {l : List T} {u : Value} (h1 : w.rangeAt b o (cN h u)) (h2 : S b) (h3 : b < w.heap.size) (h4 : SV S w u l) : NAt S w b o (.mk h l) := by
  obtain ⟨av, cp, b2, o2, rfl, q1, q2, q3, q4⟩ := h4
  rw [NAt_mk]
  exact ⟨av, cp, b2, o2, h1, h2, h3, q1, q2, q3, q4⟩
theorem NAt.out {S : Nat → Prop} {w : World} {b o : Nat} {h : Hd} {l : List T} (h0 : NAt S w b o (.mk h l)) : ∃ u, w.rangeAt b o (cN h u) ∧ S b ∧ b < w.heap.size ∧ SV S w u l := by
  rw [NAt_mk] at h0
  obtain ⟨av, cp, b2, o2, h1, h2, h3, q1, q2, q3, q4⟩ := h0
  exact ⟨_, h1, h2, h3, av, cp, b2, o2, rfl, q1, q2, q3, q4⟩
theorem range_block {w w' : World} {b o : Nat} {cs : List Value} (h : w.rangeAt b o cs) (e : w'.heap[b]? = w.heap[b]?) : w'.rangeAt b o cs := fun j v hv => by
  rw [World.cell?_of_block (w := w) e]; exact h j v hv
theorem keepBoth {S S' : Nat → Prop} {w w' : World} (hs : w.heap.size ≤ w'.heap.size) (hk : ∀ b, S b → b < w.heap.size → S' b ∧ w'.heap[b]? = w.heap[b]?) :
    (∀ t, ∀ b o, NAt S w b o t → NAt S' w' b o t) ∧ ∀ l, ∀ b o, LAt S w b o l → LAt S' w' b o l := by
  refine T.both (p := fun t => ∀ b o, NAt S w b o t → NAt S' w' b o t) (q := fun l => ∀ b o, LAt S w b o l → LAt S' w' b o l) (fun h l q b o hn => ?_) (fun b o _ => trivial) (fun t r x y b o hl => ?_)
  · rw [NAt_mk] at hn ⊢
    obtain ⟨av, cp, b2, o2, h1, h2, h3, q1, q2, q3, q4⟩ := hn
    exact ⟨av, cp, b2, o2, range_block h1 (hk b h2 h3).2, (hk b h2 h3).1, by omega, q1, q2, q3, q _ _ q4⟩
  · exact ⟨x _ _ hl.1, y _ _ hl.2⟩
theorem SV.keep {S S' : Nat → Prop} {w w' : World} {u : Value} {l : List T} (h : SV S w u l) (hs : w.heap.size ≤ w'.heap.size) (hk : ∀ b, S b → b < w.heap.size → S' b ∧ w'.heap[b]? = w.heap[b]?) : SV S' w' u l := by
  obtain ⟨av, cp, b, o, h1, h2, h3, h4, h5⟩ := h
  exact ⟨av, cp, b, o, h1, h2, h3, h4, (keepBoth hs hk).2 l b o h5⟩
theorem SV.below {S : Nat → Prop} {w w' : World} {u : Value} {l : List T} (h : SV S w u l) (hb : Below w.heap.size w w') : SV S w' u l :=
  h.keep hb.size fun b h1 h2 => ⟨h1, hb.block b h2⟩
theorem SV.weak {S S' : Nat → Prop} {w : World} {u : Value} {l : List T} (h : SV S w u l) (hS : ∀ b, S b → b < w.heap.size → S' b) : SV S' w u l :=
  h.keep (Nat.le_refl _) fun b h1 h2 => ⟨hS b h1 h2, rfl⟩
def AnyB : Nat → Prop := fun _ => True
theorem SV.any {S : Nat → Prop} {w : World} {u : Value} {l : List T} (h : SV S w u l) : SV AnyB w u l := h.weak fun _ _ _ => trivial
theorem LAt.get {S : Nat → Prop} {w : World} {b : Nat} : ∀ {l : List T} {o k : Nat} {t : T}, LAt S w b o l → l[k]? = some t → NAt S w b (o + k * 10) t
  | [], _, _, _, _, h => by simp at h
  | t :: r, o, 0, u, hl, h => by
    have e : t = u := by simpa using h
    subst e; rw [LAt_cons] at hl; simpa using hl.1
  | t :: r, o, k + 1, u, hl, h => by
    have e : r[k]? = some u := by simpa using h
    have := LAt.get (LAt_cons S w b o t r ▸ hl).2 e
    rw [show o + (k + 1) * 10 = o + 10 + k * 10 by omega]; exact this
theorem LAt.of {S : Nat → Prop} {w : World} {b : Nat} : ∀ {l : List T} {o : Nat}, (∀ k t, l[k]? = some t → NAt S w b (o + k * 10) t) → LAt S w b o l
  | [], _, _ => trivial
  | t :: r, o, h => LAt_cons S w b o t r ▸ ⟨(by have := h 0 t rfl; simpa using this), LAt.of fun k u hu => by
      have := h (k + 1) u (by simpa using hu)
      rw [show o + 10 + k * 10 = o + (k + 1) * 10 by omega]; exact this⟩
theorem SV.nil (S : Nat → Prop) (w : World) : SV S w (.slice none 0 0) [] := ⟨none, 0, 0, 0, rfl, Nat.le_refl _, by omega, fun h => by simp at h, trivial⟩
theorem cN_one (h : Hd) (av : Option Addr) (n cp : Nat) : ∀ v ∈ cN h (.slice av n cp), v.oneCell' = true := by
  intro v hv
  simp only [cN, List.mem_cons, List.not_mem_nil, or_false] at hv
  rcases hv with rfl | rfl | rfl | rfl | rfl | rfl | rfl | rfl | rfl | rfl <;> rfl
theorem size51 : (Try.prog.info? 51).map (·.size) = some 10 := by kernel_rfl
theorem size55 : (Try.prog.info? 55).map (·.size) = some 10 := by kernel_rfl
/-- A node's box. -/
def BoxN (E : TypeId) (w : World) (g : Nat) (h : Hd) (u : Value) : Prop := w.heap[g]? = some (.cells (cN h u).toArray E)
theorem BoxN.lt {E : TypeId} {w : World} {g : Nat} {h : Hd} {u : Value} (k : BoxN E w g h u) : g < w.heap.size := (Array.getElem?_eq_some_iff.1 k).1
theorem BoxN.below {E : TypeId} {B : Nat} {w w' : World} {g : Nat} {h : Hd} {u : Value} (k : BoxN E w g h u) (b : Below B w w') (hg : g < B) : BoxN E w' g h u := by
  unfold BoxN; rw [b.block g hg]; exact k
theorem BoxN.new (E : TypeId) (w : World) (h : Hd) (u : Value) : BoxN E (w.alloc (.cells (cN h u).toArray E)) w.heap.size h u := heap_alloc_last w _
theorem BoxN.range {E : TypeId} {w : World} {g : Nat} {h : Hd} {u : Value} (k : BoxN E w g h u) : w.rangeAt g 0 (cN h u) := fun j v hv => by
  rw [Nat.zero_add, cell_of_row w g j _ E (0, 0) k]; simpa using hv
theorem BoxN.cell {E : TypeId} {w : World} {g : Nat} {h : Hd} {u : Value} (k : BoxN E w g h u) (j : Nat) (v : Value) (hv : (cN h u)[j]? = some v) : w.cell? ⟨g, j, none⟩ = some v := by
  rw [cell_of_row w g j _ E (0, 0) k]; simpa using hv
theorem loadN55 {ops : Array Oper} {rest : List Oper} {o : Oper} {a : Act} {w : World} {Q : Exit → Act → World → Prop} (hgd : o.guard = none) (x : Operand) (ho : o.op = .load 55 x) (b i : Nat) (hx : a.eval x = .pointer (some ⟨b, i, none⟩)) (hd : Hd) (u : Value) (hr : w.rangeAt b i (cN hd u))
    (h : wpList Try.prog ops Q rest (a.put o.dst (vN hd u)) w) : wpList Try.prog ops Q (o :: rest) a w :=
  wpList_load_mid hgd 55 x ho b i hx (cN hd u) _ hr Try.underlying55 rfl size55 h
theorem loadN51 {ops : Array Oper} {rest : List Oper} {o : Oper} {a : Act} {w : World} {Q : Exit → Act → World → Prop} (hgd : o.guard = none) (x : Operand) (ho : o.op = .load 51 x) (b i : Nat) (hx : a.eval x = .pointer (some ⟨b, i, none⟩)) (hd : Hd) (u : Value) (hr : w.rangeAt b i (cN hd u))
    (h : wpList Try.prog ops Q rest (a.put o.dst (vN hd u)) w) : wpList Try.prog ops Q (o :: rest) a w :=
  wpList_load_mid hgd 51 x ho b i hx (cN hd u) _ hr Try.underlying51 rfl size51 h
theorem loadN55g {ops : Array Oper} {rest : List Oper} {o : Oper} {a : Act} {w : World} {Q : Exit → Act → World → Prop} (hw : Region.wanted o (yielded ops a.tmps) = true) (x : Operand) (ho : o.op = .load 55 x) (b i : Nat) (hx : a.eval x = .pointer (some ⟨b, i, none⟩)) (hd : Hd) (u : Value) (hr : w.rangeAt b i (cN hd u))
    (h : wpList Try.prog ops Q rest (a.put o.dst (vN hd u)) w) : wpList Try.prog ops Q (o :: rest) a w := by
  unfold wpList
  rw [if_pos hw]
  exact Or.inl (wp_load_mid 55 x ho b i hx (cN hd u) _ hr Try.underlying55 rfl size55 h)
theorem loadN51g {ops : Array Oper} {rest : List Oper} {o : Oper} {a : Act} {w : World} {Q : Exit → Act → World → Prop} (hw : Region.wanted o (yielded ops a.tmps) = true) (x : Operand) (ho : o.op = .load 51 x) (b i : Nat) (hx : a.eval x = .pointer (some ⟨b, i, none⟩)) (hd : Hd) (u : Value) (hr : w.rangeAt b i (cN hd u))
    (h : wpList Try.prog ops Q rest (a.put o.dst (vN hd u)) w) : wpList Try.prog ops Q (o :: rest) a w := by
  unfold wpList
  rw [if_pos hw]
  exact Or.inl (wp_load_mid 51 x ho b i hx (cN hd u) _ hr Try.underlying51 rfl size51 h)
theorem storeN55 {ops : Array Oper} {rest : List Oper} {o : Oper} {a : Act} {w : World} {Q : Exit → Act → World → Prop} (hgd : o.guard = none) (x y : Operand) (ho : o.op = .store 55 x y) (hx : a.eval x = .pointer (some ⟨w.heap.size, 0, none⟩)) (hd : Hd) (av : Option Addr) (n cp : Nat) (hy : a.eval y = vN hd (.slice av n cp))
    (h : wpList Try.prog ops Q rest (a.put o.dst undef) (w.alloc (.cells (cN hd (.slice av n cp)).toArray 55))) : wpList Try.prog ops Q (o :: rest) a (w.alloc (.cells #[.int .i64 0, .int .u8 0, .int .u64 0, .int .u64 0, .int .u64 0, .int .u64 0, .int .i64 0, .int .i64 0, .int .i64 0, .slice none 0 0] 55)) := by
  refine wpList_store_row hgd 55 x y ho w.heap.size _ hx hy 55 _ (heap_alloc_last w _) size55 rfl (all_oneCell_toArray (cN_one hd av n cp)) ?_
  rw [World.setRow_alloc_new]
  exact h
theorem storeN51 {ops : Array Oper} {rest : List Oper} {o : Oper} {a : Act} {w : World} {Q : Exit → Act → World → Prop} (hgd : o.guard = none) (x y : Operand) (ho : o.op = .store 51 x y) (hx : a.eval x = .pointer (some ⟨w.heap.size, 0, none⟩)) (hd : Hd) (av : Option Addr) (n cp : Nat) (hy : a.eval y = vN hd (.slice av n cp))
    (h : wpList Try.prog ops Q rest (a.put o.dst undef) (w.alloc (.cells (cN hd (.slice av n cp)).toArray 51))) : wpList Try.prog ops Q (o :: rest) a (w.alloc (.cells #[.int .i64 0, .int .u8 0, .int .u64 0, .int .u64 0, .int .u64 0, .int .u64 0, .int .i64 0, .int .i64 0, .int .i64 0, .slice none 0 0] 51)) := by
  refine wpList_store_row hgd 51 x y ho w.heap.size _ hx hy 51 _ (heap_alloc_last w _) size51 rfl (all_oneCell_toArray (cN_one hd av n cp)) ?_
  rw [World.setRow_alloc_new]
  exact h
end Go.Proofs.Ytndmjndokokmnaa
