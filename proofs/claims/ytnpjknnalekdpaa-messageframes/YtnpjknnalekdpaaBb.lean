import Derived.Test.YtnpjknnalekdpaaBa
import Derived.Test.YtnpjknnalekdpaaFw
namespace Go.Proofs.Ytnpjknnalekdpaa
set_option linter.unusedSimpArgs false
set_option linter.unusedVariables false
open Go.RowKit
/-- What is old stays; what is new keeps its cells (marks may turn). -/
structure Keep (n : Nat) (w w' : World) : Prop where
  below : Below n w w'
  cell : ∀ b o, b < w.heap.size → w'.cell? ⟨b, o, none⟩ = w.cell? ⟨b, o, none⟩
  shape : ∀ b, b < w.heap.size → w'.shape? b = w.shape? b
theorem Keep.refl (n : Nat) (w : World) : Keep n w w := ⟨Below.refl _ _, fun _ _ _ => rfl, fun _ _ => rfl⟩
theorem Keep.trans {n : Nat} {a b c : World} (h : Keep n a b) (k : Keep n b c) : Keep n a c :=
  ⟨h.below.trans k.below, fun x o hx => (k.cell x o (Nat.lt_of_lt_of_le hx h.below.size)).trans (h.cell x o hx), fun x hx => (k.shape x (Nat.lt_of_lt_of_le hx h.below.size)).trans (h.shape x hx)⟩
theorem Keep.of {n : Nat} {w w' : World} (h : Below w.heap.size w w') (hn : n ≤ w.heap.size) : Keep n w w' :=
  ⟨h.mono hn, fun b o hb => h.cell hb, fun b hb => by unfold World.shape?; rw [h.block b hb]⟩
theorem Keep.alloc {n : Nat} (w : World) (o : Obj) (hn : n ≤ w.heap.size) : Keep n w (w.alloc o) :=
  Keep.of ((Below.refl _ _).alloc (Nat.le_refl _) _) hn
theorem Keep.range {n : Nat} {w w' : World} (h : Keep n w w') {b o : Nat} {cs : List Value} (hb : b < w.heap.size) (hr : w.rangeAt b o cs) : w'.rangeAt b o cs := fun j v hv => by
  rw [h.cell b _ hb]; exact hr j v hv
theorem PartAt.keep {n : Nat} {w w' : World} {v : Value} {bs : List Int} (h : PartAt w v bs) (hk : Keep n w w') : PartAt w' v bs := by
  obtain ⟨av, b, o, cp, h1, h2, h3, h4, h5, h6, h7⟩ := h
  exact ⟨av, b, o, cp, h1, h2, h3, h4, hk.range h6 h5, Nat.lt_of_lt_of_le h6 hk.below.size, h7⟩
theorem keep_modify (n : Nat) (w : World) (g : Nat) (F : Obj → Obj) (hn : n ≤ g) (hc : ∀ c e m, ∃ m', F (.cells c e m) = .cells c e m') (ho : ∀ o, (∀ c e m, o ≠ .cells c e m) → F o = o) : Keep n w { w with heap := w.heap.modify g F } := by
  have hb : ∀ (b : Nat), (w.heap.modify g F)[b]? = if b = g then (w.heap[b]?).map F else w.heap[b]? := fun b => by
    rw [Array.getElem?_modify]
    by_cases h : b = g
    · subst h; simp
    · have h' : ¬ g = b := fun e => h e.symm
      simp [h, h']
  have alt : ∀ b : Nat, (({ w with heap := w.heap.modify g F } : World).heap[b]? = w.heap[b]?) ∨ ∃ c e m m', w.heap[b]? = some (.cells c e m) ∧ ({ w with heap := w.heap.modify g F } : World).heap[b]? = some (.cells c e m') := fun b => by
    show ((w.heap.modify g F)[b]? = _) ∨ ∃ c e m m', _ ∧ (w.heap.modify g F)[b]? = _
    rw [hb]
    by_cases h : b = g
    · rw [if_pos h]
      rcases hx : w.heap[b]? with _ | ob
      · exact .inl rfl
      · by_cases hq : ∀ c e m, ob ≠ .cells c e m
        · rw [Option.map_some, ho ob hq]; exact .inl rfl
        · obtain ⟨c, e, m, rfl⟩ : ∃ c e m, ob = .cells c e m := Classical.byContradiction fun q => hq fun c e m r => q ⟨c, e, m, r⟩
          obtain ⟨m', hm⟩ := hc c e m
          rw [Option.map_some, hm]; exact .inr ⟨c, e, m, m', rfl, rfl⟩
    · rw [if_neg h]; exact .inl rfl
  refine ⟨⟨rfl, rfl, rfl, by simp, fun b hbn => ?_⟩, fun b o hbs => ?_, fun b hbs => ?_⟩
  · show (w.heap.modify g F)[b]? = _
    rw [hb, if_neg (by omega)]
  · rcases alt b with h | ⟨c, e, m, m', h1, h2⟩
    · exact World.cell?_of_block (w := w) h
    · simp only [World.cell?, h1, h2]
  · rcases alt b with h | ⟨c, e, m, m', h1, h2⟩
    · simp only [World.shape?, h]
    · simp only [World.shape?, h1, h2]
theorem keep_freeze (n : Nat) (w : World) (g k m : Nat) (hn : n ≤ g) : Keep n w (w.freeze ⟨g, k, none⟩ m) := by
  unfold World.freeze
  by_cases hm : m = 0
  · rw [if_pos hm]; exact Keep.refl _ _
  rw [if_neg hm]
  exact keep_modify n w g _ hn (fun c e m => ⟨_, rfl⟩) (fun o h => by
    cases o
    all_goals first | rfl | exact absurd rfl (h _ _ _))
/-- A string constant as bytes, wherever its row lies. -/
theorem conv_const (w : World) (g n c k : Nat) (hs : w.shape? g = some (5, k)) :
    (convert 22 22 (.slice (some ⟨g, 0, none⟩) n c)).run Try.prog w = .ok (.slice (some ⟨g, 0, none⟩) n c) (w.freeze ⟨g, k, none⟩ 1) := by
  simp [convert, run_underlying Try.underlying22, run_underlying Try.underlying5, markStringish, hs]
theorem range_alloc (w : World) (cs : List Value) (t : TypeId) : (w.alloc (Obj.cells cs.toArray t)).rangeAt w.heap.size 0 cs := fun j v hv => by
  rw [Nat.zero_add, cell_of_row _ _ j _ t (0, 0) (heap_alloc_new _ _)]; simpa using hv
theorem parts_nil {w : World} : ∀ (i : Nat) (v : Value) (l : List Int), ([] : List Value)[i]? = some v → ([] : List (List Int))[i]? = some l → PartAt w v l := fun i v l h _ => by simp at h
theorem parts_cons {w : World} {x : Value} {a : List Int} {xs : List Value} {ls : List (List Int)} (h : PartAt w x a) (hs : ∀ (i : Nat) (v : Value) (l : List Int), xs[i]? = some v → ls[i]? = some l → PartAt w v l) :
    ∀ (i : Nat) (v : Value) (l : List Int), (x :: xs)[i]? = some v → (a :: ls)[i]? = some l → PartAt w v l := fun i v l h1 h2 => by
  cases i with
  | zero => simp at h1 h2; subst h1 h2; exact h
  | succ i => simp at h1 h2; exact hs i v l h1 h2
theorem shape_alloc (w : World) (cs : Array Value) (t : TypeId) : (w.alloc (Obj.cells cs t)).shape? w.heap.size = some (t, cs.size) := by
  unfold World.shape?; rw [heap_alloc_new]
end Go.Proofs.Ytnpjknnalekdpaa
