import Derived.Test.YtnpjknnalekdpaaDoorTh
import Derived.Test.YtnpjknnalekdpaaDoorTj
import Derived.Test.YtnpjknnalekdpaaDoorTl
import Derived.Test.YtnpjknnalekdpaaDoorTe
namespace Go.Proofs.YtnpjknnalekdpaaDoor
set_option linter.unusedSimpArgs false
set_option linter.unusedVariables false
open Go.RowKit
theorem begins_no (j : Int) (l : List Int) (h : j ≠ 114) : beginsB (j :: l) = false := by
  unfold beginsB
  rw [decide_eq_false_iff_not]
  rintro ⟨h0, _⟩
  rw [gi_beg _ 0 (by omega), if_pos (by simp)] at h0
  exact h h0
/-- Junk without the first byte of a frame is dropped, byte for byte. -/
theorem feedR_junk : ∀ (J E : List Int), (∀ x ∈ J, x ≠ 114) → feedR (J ++ E) = ((feedR E).1, (feedR E).2.1 + J.length, (feedR E).2.2)
  | [], E, _ => by simp
  | j :: J, E, h => by
    have hd : decR (j :: (J ++ E)) = (0, [], 0, 2) := by
      unfold decR; rw [if_pos (begins_no j _ (h j (by simp)))]
    have h1 := feedR_junk J E (fun x hx => h x (by simp [hx]))
    rw [List.cons_append, feedR_drop _ (by simp) (by rw [hd]; simp) (by rw [hd]; simp), List.drop_one, List.tail_cons, h1]
    simp only [List.length_cons]
    congr 2
theorem feed_junk_enc (t : Int) (ht : 0 < t ∧ t ≤ 255) (b J : List Int) (h : b.length ≤ 1000) (hJ : ∀ x ∈ J, x ≠ 114) : feedR (J ++ encB t b) = ([(t, b)], J.length, []) := by
  rw [feedR_junk J _ hJ, feed_enc t ht b h]; simp
end Go.Proofs.YtnpjknnalekdpaaDoor
namespace Go.Proofs.YtnpjknnalekdpaaDoor
set_option linter.unusedSimpArgs false
set_option linter.unusedVariables false
open Go.RowKit
/-- The value v is a slice of slices, which hold the texts ls. -/
def PartsAt (w : World) (v : Value) (ls : List (List Int)) : Prop := ∃ (av : Option Addr) (b o cp : Nat) (vs : List Value), v = .slice av ls.length cp ∧ ls.length ≤ cp ∧ cp ≤ 9223372036854775807 ∧ (0 < ls.length → av = some ⟨b, o, none⟩) ∧ vs.length = ls.length ∧ w.rangeAt b o vs ∧ b < w.heap.size ∧ (∀ (i : Nat) (x : Value) (l : List Int), vs[i]? = some x → ls[i]? = some l → PartAt w x l)
set_option maxRecDepth 100000 in
theorem PartsAt.below {w w' : World} {v : Value} {ls : List (List Int)} (h : PartsAt w v ls) (hb : Below w.heap.size w w') : PartsAt w' v ls := by
  obtain ⟨av, b, o, cp, vs, h1, h2, h3, h4, h5, h6, h7, h8⟩ := h
  exact ⟨av, b, o, cp, vs, h1, h2, h3, h4, h5, range_below h6 hb h7, Nat.lt_of_lt_of_le h7 hb.size, fun i x l k1 k2 => (h8 i x l k1 k2).below hb⟩
theorem own_range {w : World} {base e : Nat} {v : Value} {n : Nat} {xs : List Value} (h : w.ownsRow base e 2 v n xs) (hn : 0 < n) : ∃ g cap, v = .slice (some ⟨g, 0, none⟩) n cap ∧ g < w.heap.size ∧ w.rangeAt g 0 xs := by
  obtain ⟨h1, h2⟩ := h
  rcases h2 with ⟨_, q⟩ | ⟨g, cap, cur, q1, q2, q3, q4, q5, q6, q7⟩
  · omega
  · refine ⟨g, cap, q1, (Array.getElem?_eq_some_iff.1 q3).1, fun j x hx => ?_⟩
    rw [← q7, List.getElem?_take] at hx
    split at hx
    · rw [Nat.zero_add]; exact row_cell q3 (by simpa using hx)
    · cases hx
end Go.Proofs.YtnpjknnalekdpaaDoor
namespace Go.Proofs.YtnpjknnalekdpaaDoor
set_option linter.unusedSimpArgs false
set_option linter.unusedVariables false
open Go.RowKit
theorem cellsF_app : ∀ (fs : List (Int × List Int)) (us : List Value) (fs' : List (Int × List Int)) (us' : List Value), us.length = fs.length → cellsF (fs ++ fs') (us ++ us') = cellsF fs us ++ cellsF fs' us'
  | [], [], _, _, _ => rfl
  | [], _ :: _, _, _, h => by cases h
  | _ :: _, [], _, _, h => by cases h
  | f0 :: fs, u0 :: us, fs', us', h => by
    show .int .u8 f0.1 :: u0 :: cellsF (fs ++ fs') (us ++ us') = .int .u8 f0.1 :: u0 :: (cellsF fs us ++ cellsF fs' us')
    rw [cellsF_app fs us fs' us' (by simpa using h)]
theorem FrO.keepB {w w' : World} {base B : Nat} {v x : Value} {fs : List (Int × List Int)} {us : List Value} {l : List Int} (h : FrO w base v fs us) (gr : w.grownBy w' v.ownBlock) (hx : OwnB w B x l) : OwnB w' B x l :=
  own_keep hx fun g cur _ hg _ => gr.block g (Array.getElem?_eq_some_iff.1 hg).1 (h.five g cur (0, 0) hg)
theorem FrO.app {w w' : World} {b B : Nat} {v v' u : Value} {fs fs' : List (Int × List Int)} {us us' : List Value} (h : FrO w b v fs us) (k : FrO w B u fs' us') (hB : b ≤ B)
    (ho : w'.ownsRow b 46 2 v' (fs.length + fs'.length) (cellsF fs us ++ cellsF fs' us')) (gr : w.grownBy w' v.ownBlock) : FrO w' b v' (fs ++ fs') (us ++ us') := by
  refine ⟨by rw [List.length_append, List.length_append, h.len, k.len], ?_, fun i x f h1 h2 => ?_⟩
  · rw [cellsF_app fs us fs' us' h.len, List.length_append]; exact ho
  · rcases Nat.lt_or_ge i fs.length with hi | hi
    · rw [List.getElem?_append_left (by rw [h.len]; exact hi)] at h1
      rw [List.getElem?_append_left hi] at h2
      exact h.keepB gr (h.part i x f h1 h2)
    · rw [List.getElem?_append_right (by rw [h.len]; exact hi), h.len] at h1
      rw [List.getElem?_append_right hi] at h2
      exact h.keepB gr (own_lowerR (k.part _ x f h1 h2) hB)
theorem own_lt {w : World} {base : Nat} {v : Value} {l : List Int} (h : OwnB w base v l) (b : Nat) (hb : v.ownBlock = some b) : base ≤ b ∧ b < w.heap.size := by
  rcases h.2 with ⟨q, _⟩ | ⟨g0, cap, cur0, q1, q2, q3, _⟩
  · rw [q] at hb; cases hb
  · rw [q1] at hb
    have hb : some g0 = some b := hb
    injection hb with hb
    subst hb
    exact ⟨q2, (Array.getElem?_eq_some_iff.1 q3).1⟩
/-- The law's memory between two pieces. -/
structure FeedS (w : World) (g : Nat) (acc F : List Int) (G : List (Int × List Int)) (D : Nat) (v4 v5 : Value) (w' : World) : Prop where
  bel : Below w.heap.size w w'
  lg : w.heap.size ≤ g
  st : SBox w' g F D
  fr : ∃ us, FrO w' (g + 1) v4 G us ∧ ∀ (i : Nat) u, us[i]? = some u → ∀ b, u.ownBlock = some b → v5.ownBlock ≠ some b
  all : OwnB w' (g + 1) v5 acc
theorem FeedS.below {w w' w'' : World} {g : Nat} {acc F : List Int} {G : List (Int × List Int)} {D : Nat} {v4 v5 : Value} (h : FeedS w g acc F G D v4 v5 w') (b : Below w'.heap.size w' w'') : FeedS w g acc F G D v4 v5 w'' := by
  obtain ⟨us, f1, f2⟩ := h.fr
  exact ⟨h.bel.trans (b.mono h.bel.size), h.lg, h.st.below b, ⟨us, f1.below b, f2⟩, own_belowR h.all b⟩
/-- Behind the append to all. -/
theorem FeedS.more {w w1 w2 : World} {g : Nat} {acc F bs : List Int} {G : List (Int × List Int)} {D : Nat} {v4 v5 v6 : Value} (h : FeedS w g acc F G D v4 v5 w1) (ho : OwnB w2 (g + 1) v6 (acc ++ bs)) (gr : w1.grownBy w2 v5.ownBlock) (hv : v6.ownBlock = v5.ownBlock ∨ v6.ownBlock = some w1.heap.size) :
    FeedS w g (acc ++ bs) F G D v4 v6 w2 := by
  obtain ⟨us, f1, f2⟩ := h.fr
  have lo : ∀ b, v5.ownBlock = some b → g + 1 ≤ b := fun b hb => (own_lt h.all b hb).1
  have body : ∀ (i : Nat) u f, us[i]? = some u → G[i]? = some f → OwnB w2 (g + 1) u f.2 := fun i u f a b => own_keep (f1.part i u f a b) fun k cur _ hc hk => gr.block k (Array.getElem?_eq_some_iff.1 hc).1 (fun e => f2 i u a k hk e.symm)
  refine ⟨h.bel.grown gr h.bel.size (fun b hb => by have := lo b hb; have := h.lg; omega), h.lg, ?_, ⟨us, ⟨f1.len, own_keep f1.own fun k cur _ hc _ => gr.block k (Array.getElem?_eq_some_iff.1 hc).1 (fun e => ?_), body⟩, fun i u hu b hb e => ?_⟩, ho⟩
  · have := h.st
    unfold SBox at this ⊢
    rw [gr.block g h.st.lt (fun e => by have := lo g e.symm; omega)]; exact this
  · rcases h.all.2 with ⟨q, _⟩ | ⟨g0, cap, cur0, q1, _, q3, _⟩
    · rw [q] at e; cases e
    · rw [q1] at e
      have e : some k = some g0 := e
      injection e with e
      subst e
      rw [hc] at q3
      injection q3 with q3
      injection q3 with _ q3
      cases q3
  · rcases hv with hv | hv
    · rw [hv] at e; exact f2 i u hu b hb e
    · rw [hv] at e
      injection e with e
      obtain ⟨f, hf⟩ : ∃ f, G[i]? = some f := ⟨G[i]'(by rw [← f1.len]; exact (List.getElem?_eq_some_iff.1 hu).1), List.getElem?_eq_getElem _⟩
      have := own_lt (f1.part i u f hu hf) b hb
      omega
end Go.Proofs.YtnpjknnalekdpaaDoor
namespace Go.Proofs.YtnpjknnalekdpaaDoor
set_option linter.unusedSimpArgs false
set_option linter.unusedVariables false
open Go.RowKit
/-- A piece: a type, a body, junk. -/
abbrev Pc := Int × List Int × List Int
/-- The value v is a slice of pieces. -/
def PiecesAt (w : World) (v : Value) (ps : List Pc) : Prop := ∃ (av : Option Addr) (b o cp : Nat), v = .slice av ps.length cp ∧ ps.length ≤ cp ∧ cp ≤ 9223372036854775807 ∧ (0 < ps.length → av = some ⟨b, o, none⟩) ∧
  (∀ (i : Nat) (p : Pc), ps[i]? = some p → b < w.heap.size ∧ ∃ x y, w.rangeAt b (o + i * 3) [.int .u8 p.1, x, y] ∧ PartAt w x p.2.1 ∧ PartAt w y p.2.2) ∧
  ∀ p ∈ ps, (0 ≤ p.1 ∧ p.1 ≤ 255) ∧ Bytes p.2.1 ∧ Bytes p.2.2
theorem PiecesAt.cells {w : World} {av : Option Addr} {n cp : Nat} {ps : List Pc} (h : PiecesAt w (.slice av n cp) ps) : n = ps.length ∧ ∃ b o, (0 < n → av = some ⟨b, o, none⟩) ∧ ∀ (i : Nat) (p : Pc), ps[i]? = some p → ∃ x y, ∀ W, Below w.heap.size w W →
    W.cell? ⟨b, o + i * 3, none⟩ = some (.int .u8 p.1) ∧ W.cell? ⟨b, o + i * 3 + 1, none⟩ = some x ∧ W.cell? ⟨b, o + i * 3 + 2, none⟩ = some y ∧ PartAt W x p.2.1 ∧ PartAt W y p.2.2 := by
  obtain ⟨av', b, o, cp', h1, h2, h3, h4, h5, h6⟩ := h
  injection h1 with h1 h1n h1c
  subst h1
  refine ⟨h1n, b, o, by rw [h1n]; exact h4, fun i p hp => ?_⟩
  obtain ⟨hb, x, y, r, p1, p2⟩ := h5 i p hp
  refine ⟨x, y, fun W q => ?_⟩
  have r' := range_below r q hb
  exact ⟨by simpa using r' 0 _ rfl, r' 1 _ rfl, r' 2 _ rfl, p1.below q, p2.below q⟩
/-- The frames that are wanted: in a row of the call's own, their bodies where the pieces have them. -/
structure WantS (w0 w : World) (v : Value) (fs : List (Int × List Int)) (us : List Value) : Prop where
  len : us.length = fs.length
  own : w.ownsRow w0.heap.size 48 2 v fs.length (cellsF fs us)
  part : ∀ (i : Nat) (u : Value) (f : Int × List Int), us[i]? = some u → fs[i]? = some f → PartAt w0 u f.2
theorem WantS.nil (w0 w : World) : WantS w0 w (.slice none 0 0) [] [] := ⟨rfl, ⟨rfl, .inl ⟨rfl, rfl⟩⟩, fun i u f h => by simp at h⟩
theorem WantS.below {w0 w w' : World} {v : Value} {fs : List (Int × List Int)} {us : List Value} (h : WantS w0 w v fs us) (b : Below w.heap.size w w') : WantS w0 w' v fs us :=
  ⟨h.len, own_belowR h.own b, h.part⟩
theorem WantS.form {w0 w : World} {v : Value} {fs : List (Int × List Int)} {us : List Value} (h : WantS w0 w v fs us) : ∃ av cp, v = .slice av fs.length cp := by
  rcases h.own.2 with ⟨q, q0⟩ | ⟨g0, cap, cur0, q1, _⟩
  · exact ⟨none, 0, by rw [q, q0]⟩
  · exact ⟨_, cap, q1⟩
theorem WantS.low {w0 w : World} {v : Value} {fs : List (Int × List Int)} {us : List Value} (h : WantS w0 w v fs us) (b : Nat) (hb : v.ownBlock = some b) : w0.heap.size ≤ b ∧ ∃ C m, w.heap[b]? = some (.cells C 48 m) := by
  rcases h.own.2 with ⟨q, _⟩ | ⟨g0, cap, cur0, q1, q2, q3, q4, q5, q6, q7⟩
  · rw [q] at hb; cases hb
  · rw [q1] at hb
    have hb : some g0 = some b := hb
    injection hb with hb
    subst hb
    exact ⟨q2, _, _, q3⟩
theorem WantS.snoc {w0 w w' : World} {v v' : Value} {fs : List (Int × List Int)} {us : List Value} (h : WantS w0 w v fs us) (t : Int) (bd : List Int) (u : Value) (hu : PartAt w0 u bd)
    (ho : w'.ownsRow w0.heap.size 48 2 v' (fs.length + 1) (cellsF fs us ++ [.int .u8 t, u])) : WantS w0 w' v' (fs ++ [(t, bd)]) (us ++ [u]) := by
  refine ⟨by rw [List.length_append, List.length_append, h.len]; rfl, ?_, fun i x f h1 h2 => ?_⟩
  · rw [cellsF_snoc fs us (t, bd) u h.len, List.length_append]; exact ho
  · rcases Nat.lt_or_ge i fs.length with hi | hi
    · rw [List.getElem?_append_left (by rw [h.len]; exact hi)] at h1
      rw [List.getElem?_append_left hi] at h2
      exact h.part i x f h1 h2
    · rw [List.getElem?_append_right (by rw [h.len]; exact hi), h.len] at h1
      rw [List.getElem?_append_right hi] at h2
      match hk : i - fs.length, h1, h2 with
      | 0, h1, h2 =>
        simp at h1 h2
        rw [← h1, ← h2]; exact hu
      | j + 1, h1, h2 => simp at h1
end Go.Proofs.YtnpjknnalekdpaaDoor
