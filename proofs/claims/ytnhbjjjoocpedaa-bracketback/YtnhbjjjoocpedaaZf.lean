import Derived.Test.YtnhbjjjoocpedaaZd
import Derived.Test.YtnhbjjjoocpedaaZe
import Derived.Test.YtnhbjjjoocpedaaZi
namespace Go.Proofs.Ytnhbjjjoocpedaa
set_option linter.unusedSimpArgs false
set_option linter.unusedVariables false
open Go.RowKit
theorem two_at (s : ByteArray) (k : Nat) (a b : UInt8) (h : pre [a, b] (from_ s k) = true) : ∃ h1 : k + 1 < s.size, s[k]'(Nat.lt_of_succ_lt h1) = a ∧ s[k + 1]'h1 = b := by
  have hl := pre_len h
  rw [from_len] at hl
  have h1 : k + 1 < s.size := by simp at hl; omega
  refine ⟨h1, ?_⟩
  rw [from_cons s k (by omega), from_cons s (k + 1) h1, pre2] at h
  simp at h
  exact ⟨h.1.symm, h.2.symm⟩
theorem mem_any (s : ByteArray) (k : Nat) (w : World) (hs : s.size ≤ 4000000) (hks : k < s.size) : Calls Try.prog 26 #[.string s, .int .i64 k] w (MemR (memberR (from_ s k)) s k w) := by
  cases hp : pre [91, 61] (from_ s k)
  · cases hq : pre [91, 58] (from_ s k)
    · cases h1 : singleP (from_ s k) with
      | none => exact mem_none s k w hs hks hp hq h1
      | some x =>
        obtain ⟨f, t⟩ := x
        obtain ⟨n, rfl, hkn, hn⟩ := single_shape s k hs f t h1
        rcases tail_ways s n f hn with ⟨hone, ht⟩ | ⟨h, ha, hb, ht⟩
        · exact mem_one s k w hs hks hp hq f n hkn hn h1 hone ht
        · cases h2 : singleP (from_ s (n + 1)) with
          | none => exact mem_two_none s k w hs hks hp hq f n hkn hn h1 h ha hb ht h2
          | some y =>
            obtain ⟨g, t2⟩ := y
            obtain ⟨m, rfl, hnm, hm⟩ := single_shape s (n + 1) hs g t2 h2
            cases hp3 : pre [91, 61] (from_ s (n + 1))
            · cases hq3 : pre [91, 58] (from_ s (n + 1))
              · by_cases hl : g.toNat < f.toNat
                · exact mem_two_less s k w hs hks hp hq f n hkn hn h1 h ha hb ht g m hm hnm h2 hp3 hq3 hl
                · by_cases hd : s[n + 1] = 45
                  · by_cases hms : m < s.size
                    · by_cases hm9 : s[m] = 93
                      · exact mem_dash_yes s k w hs hks hp hq f n hkn hn h1 h ha hb ht g m hm hnm h2 hp3 hq3 hl hd hms hm9
                      · exact mem_dash_no s k w hs hks hp hq f n hkn hn h1 h ha hb ht g m hm hnm h2 hp3 hq3 hl hd hms hm9
                    · exact mem_dash_end s k w hs hks hp hq f n hkn hn h1 h ha hb ht g m hm hnm h2 hp3 hq3 hl hd (by omega)
                  · exact mem_range s k w hs hks hp hq f n hkn hn h1 h ha hb ht g m hm hnm h2 hp3 hq3 hl hd
              · obtain ⟨h3, hc, hdd⟩ := two_at s (n + 1) 91 58 hq3
                exact mem_two_colon s k w hs hks hp hq f n hkn hn h1 h ha hb ht g m hm hnm h2 h3 hc hdd
            · obtain ⟨h3, hc, hdd⟩ := two_at s (n + 1) 91 61 hp3
              exact mem_two_eq s k w hs hks hp hq f n hkn hn h1 h ha hb ht g m hm hnm h2 h3 hc hdd
    · obtain ⟨h1, hc, hd⟩ := two_at s k 91 58 hq
      exact mem_class s k w hs hks h1 hc hd
  · obtain ⟨h1, hc, hd⟩ := two_at s k 91 61 hp
    by_cases h5 : k + 5 ≤ s.size
    · by_cases h3 : s[k + 2]'(by omega) = 10
      · exact mem_eq_lf s k w hs hks h1 hc hd h5 h3
      · cases h4 : pre [61, 93] (from_ s (k + 3))
        · exact mem_eq_no s k w hs hks h1 hc hd h5 h3 h4
        · exact mem_eq_yes s k w hs hks h1 hc hd h5 h3 h4
    · exact mem_eq_short s k w hs hks h1 hc hd (by omega)
theorem tailP_dash (f : UInt8) : tailP f [45] = none := by
  have : signP [] = none := rfl
  unfold tailP; simp [pre, List.isPrefixOf, this]
theorem memR_none {l : List UInt8} (h : memberR l = none) : memberP l = none := by
  unfold memberR at h; unfold memberP
  cases hp : pre [91, 61] l
  · cases hq : pre [91, 58] l
    · have e : signP l = singleP l := by unfold signP; rw [hp, hq]; rfl
      rw [hp, hq] at h
      simp only [Bool.false_eq_true, if_false] at h ⊢
      rw [e]
      cases h1 : singleP l with
      | none => rfl
      | some x =>
        rw [h1] at h
        simp only at h ⊢
        unfold tailR at h
        split at h
        · cases h
        · exact h
    · rw [hp, hq] at h; simpa using h
  · rw [hp] at h; simpa using h
theorem memR_some {l t : List UInt8} {m : S4} (h : memberR l = some (m, t)) : memberP l = some (m, t) ∨ (memberP l = none ∧ t = [45]) := by
  unfold memberR at h; unfold memberP
  cases hp : pre [91, 61] l
  · cases hq : pre [91, 58] l
    · have e : signP l = singleP l := by unfold signP; rw [hp, hq]; rfl
      rw [hp, hq] at h
      simp only [Bool.false_eq_true, if_false] at h ⊢
      rw [e]
      cases h1 : singleP l with
      | none => rw [h1] at h; cases h
      | some x =>
        rw [h1] at h
        simp only at h ⊢
        unfold tailR at h
        split at h
        · rename_i hx
          simp only [Option.some.injEq, Prod.mk.injEq] at h
          right
          rw [hx]
          exact ⟨tailP_dash _, by rw [← h.2, hx]⟩
        · exact .inl h
    · rw [hp, hq] at h; left; simpa using h
  · rw [hp] at h; left; simpa using h
theorem memberP_nil : memberP [] = none := rfl
theorem restP_nil (first : Bool) (acc : S4) : restP first acc [] = none := restP_none first acc [] (by simp [pre, List.isPrefixOf]) memberP_nil
theorem restP_dash (acc : S4) : restP false acc [45] = none := by
  have hm : memberP [45] = some (S4.zero.rng 45 45, []) := rfl
  rw [restP_some false acc [45] (by simp [pre, List.isPrefixOf]) hm]
  exact restP_nil _ _
theorem restR_none (first : Bool) (acc : S4) (l : List UInt8) (h : ¬ (first = false ∧ pre [93] l = true)) (hm : memberR l = none) : restP first acc l = none := restP_none first acc l h (memR_none hm)
theorem restR_some (first : Bool) (acc : S4) (l : List UInt8) (h : ¬ (first = false ∧ pre [93] l = true)) {m : S4} {t : List UInt8} (hm : memberR l = some (m, t)) : restP first acc l = restP false (acc.or m) t := by
  rcases memR_some hm with hm' | ⟨hm', rfl⟩
  · exact restP_some first acc l h hm'
  · rw [restP_none first acc l h hm', restP_dash]
theorem or_at27 (s t : S4) (x0 x1 x2 x3 z0 z1 z2 z3 : Int) (hs : SV s x0 x1 x2 x3) (ht : SV t z0 z1 z2 z3) :
    Hid (∀ w, Calls Try.prog 27 #[.agg #[.int .u64 x0, .int .u64 x1, .int .u64 x2, .int .u64 x3], .agg #[.int .u64 z0, .int .u64 z1, .int .u64 z2, .int .u64 z3]] w fun e w' => ∃ y0 y1 y2 y3, e = .returned (.agg #[.int .u64 y0, .int .u64 y1, .int .u64 y2, .int .u64 y3]) ∧ SV (s.or t) y0 y1 y2 y3 ∧ Below w.heap.size w w') := fun w => or_any27 s t x0 x1 x2 x3 z0 z1 z2 z3 hs ht w
theorem not_at17 (s : S4) (x0 x1 x2 x3 : Int) (hs : SV s x0 x1 x2 x3) :
    Hid (∀ w, Calls Try.prog 17 #[.agg #[.int .u64 x0, .int .u64 x1, .int .u64 x2, .int .u64 x3]] w fun e w' => ∃ y0 y1 y2 y3, e = .returned (.agg #[.int .u64 y0, .int .u64 y1, .int .u64 y2, .int .u64 y3]) ∧ SV s.not y0 y1 y2 y3 ∧ Below w.heap.size w w') := fun w => not_any17 s x0 x1 x2 x3 hs w
/-- In the reference's Bracket: its result's box, and the set's, b. -/
structure Sb (w wr : World) (x0 x1 x2 x3 : Int) : Prop where
  bel : Below w.heap.size w wr
  box : Box4 wr w.heap.size
  set : BoxS wr (w.heap.size + 1) x0 x1 x2 x3
  size : w.heap.size + 1 < wr.heap.size
theorem Sb.start (w : World) : Sb w (two0 w) 0 0 0 0 := ⟨two0_below w, two0_box w, two0_box2 w, by rw [two0_size]; omega⟩
theorem Sb.below {w wr w2 : World} {x0 x1 x2 x3 : Int} (h : Sb w wr x0 x1 x2 x3) (b : Below wr.heap.size wr w2) : Sb w w2 x0 x1 x2 x3 :=
  ⟨h.bel.trans (b.mono (by have := h.size; omega)), h.box.below b (by have := h.size; omega), h.set.below b h.size, Nat.lt_of_lt_of_le h.size b.size⟩
theorem Sb.put {w wr : World} {x0 x1 x2 x3 : Int} (h : Sb w wr x0 x1 x2 x3) (z0 z1 z2 z3 : Int) :
    Sb w ((((wr.setCell ⟨w.heap.size + 1, 0, none⟩ (.int .u64 z0)).setCell ⟨w.heap.size + 1, 1, none⟩ (.int .u64 z1)).setCell ⟨w.heap.size + 1, 2, none⟩ (.int .u64 z2)).setCell ⟨w.heap.size + 1, 3, none⟩ (.int .u64 z3)) z0 z1 z2 z3 :=
  ⟨(((h.bel.setCell (p := ⟨w.heap.size + 1, 0, none⟩) (Nat.le_succ _) _).setCell (p := ⟨w.heap.size + 1, 1, none⟩) (Nat.le_succ _) _).setCell (p := ⟨w.heap.size + 1, 2, none⟩) (Nat.le_succ _) _).setCell (p := ⟨w.heap.size + 1, 3, none⟩) (Nat.le_succ _) _,
   (((h.box.own (by omega) _ _).own (by omega) _ _).own (by omega) _ _).own (by omega) _ _, h.set.put z0 z1 z2 z3, by simpa [World.setCell] using h.size⟩
theorem Sb.alloc {w wr : World} {x0 x1 x2 x3 : Int} (h : Sb w wr x0 x1 x2 x3) (o : Obj) : Sb w (wr.alloc o) x0 x1 x2 x3 := h.below ((Below.refl _ _).alloc (Nat.le_refl _) o)
theorem below_al {w w' : World} (h : Below w.heap.size w w') (o : Obj) : Below w.heap.size w (w'.alloc o) := h.alloc h.size o
end Go.Proofs.Ytnhbjjjoocpedaa
