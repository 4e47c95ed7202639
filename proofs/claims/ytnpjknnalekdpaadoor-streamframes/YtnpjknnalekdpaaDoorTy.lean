import Derived.Test.YtnpjknnalekdpaaDoorTh
import Derived.Test.YtnpjknnalekdpaaDoorTj
import Derived.Test.YtnpjknnalekdpaaDoorTl
import Derived.Test.YtnpjknnalekdpaaDoorTe
namespace Go.Proofs.YtnpjknnalekdpaaDoor
set_option linter.unusedSimpArgs false
set_option linter.unusedVariables false
open Go.RowKit
/-- Frames written one behind the other. -/
def allE : List (Int × List Int) → List Int
  | [] => []
  | f :: l => encB f.1 f.2 ++ allE l
theorem feed_all : ∀ (l : List (Int × List Int)), (∀ f ∈ l, (0 < f.1 ∧ f.1 ≤ 255) ∧ f.2.length ≤ 1000 ∧ Bytes (encB f.1 f.2)) → Bytes (allE l) → feedR (allE l) = (l, 0, [])
  | [], _, _ => rfl
  | f :: l, h, hB => by
    obtain ⟨h1, h2, h3⟩ := h f (by simp)
    have hz : Bytes (allE l) := fun x hx => hB x (by unfold allE; exact List.mem_append_right _ hx)
    have ih := feed_all l (fun g hg => h g (by simp [hg])) hz
    unfold allE
    rw [feedR_more _ _ h3 hz, feed_enc _ h1 _ h2, List.nil_append, ih]
    simp
end Go.Proofs.YtnpjknnalekdpaaDoor
namespace Go.Proofs.YtnpjknnalekdpaaDoor
set_option linter.unusedSimpArgs false
set_option linter.unusedVariables false
open Go.RowKit
/-- The value v is a slice of slices, which hold the texts ls. -/
def PartsAt (w : World) (v : Value) (ls : List (List Int)) : Prop := ∃ (av : Option Addr) (b o cp : Nat) (vs : List Value), v = .slice av ls.length cp ∧ ls.length ≤ cp ∧ cp ≤ 9223372036854775807 ∧ (0 < ls.length → av = some ⟨b, o, none⟩) ∧ vs.length = ls.length ∧ w.rangeAt b o vs ∧ b < w.heap.size ∧ (∀ (i : Nat) (x : Value) (l : List Int), vs[i]? = some x → ls[i]? = some l → PartAt w x l)
set_option maxRecDepth 100000 in
theorem PartsAt.below {w w' : World} {v : Value} {ls : List (List Int)} (h : PartsAt w v ls) (hb : Below w.heap.size w w') : PartsAt w' v ls := by
  obtain ⟨av, b, o, cp, vs, h1, h2, h3, h4, h5, h6, h7, h8⟩ := h
  exact ⟨av, b, o, cp, vs, h1, h2, h3, h4, h5, range_below h6 hb h7, Nat.lt_of_lt_of_le h7 hb.size, fun i x l k1 k2 => (h8 i x l k1 k2).below hb⟩
set_option maxRecDepth 100000 in
theorem samef_zero (av bv : Option Addr) (cp cq : Nat) (w : World) : Calls Tryd.prog 50 #[.slice av 0 cp, .slice bv 0 cq] w fun e w' => e = .returned (.bool true) ∧ Below w.heap.size w w' := by
  have hb : Below w.heap.size w w := Below.refl _ _
  go_enter Tryd.func50, Tryd.ntmps50
  go_wp2
  go_loopw [13] (fun i wr => i = .int .i64 0 ∧ wr = w) (fun _ _ => 0)
  case atStart => exact ⟨rfl, rfl⟩
  case round =>
    obtain ⟨rfl, rfl⟩ := hrel
    go_wp2
    go_ret
    exact ⟨rfl, hb⟩
theorem own_range {w : World} {base e : Nat} {v : Value} {n : Nat} {xs : List Value} (h : w.ownsRow base e 2 v n xs) (hn : 0 < n) : ∃ g cap, v = .slice (some ⟨g, 0, none⟩) n cap ∧ g < w.heap.size ∧ w.rangeAt g 0 xs := by
  obtain ⟨h1, h2⟩ := h
  rcases h2 with ⟨_, q⟩ | ⟨g, cap, cur, q1, q2, q3, q4, q5, q6, q7⟩
  · omega
  · refine ⟨g, cap, q1, (Array.getElem?_eq_some_iff.1 q3).1, fun j x hx => ?_⟩
    rw [← q7, List.getElem?_take] at hx
    split at hx
    · rw [Nat.zero_add]; exact row_cell q3 (by simpa using hx)
    · cases hx
end Go.Proofs.YtnpjknnalekdpaaDoor
namespace Go.Proofs.YtnpjknnalekdpaaDoor
set_option linter.unusedSimpArgs false
set_option linter.unusedVariables false
open Go.RowKit
theorem feedF_count : ∀ (n : Nat) (l : List Int), (feedF n l).1.length ≤ l.length
  | 0, l => by show 0 ≤ l.length; omega
  | n + 1, l => by
    unfold feedF
    by_cases h0 : l = []
    · rw [if_pos h0]; simp
    rw [if_neg h0]
    by_cases h4 : (decR l).2.2.2 = 4
    · rw [if_pos h4]; simp
    rw [if_neg h4]
    have hl := List.length_pos_iff.2 h0
    by_cases hz : (decR l).2.2.2 = 0
    · rw [if_pos hz]
      have hp := decR_pos l hz
      have ih := feedF_count n (l.drop (decR l).2.2.1.toNat)
      rw [List.length_drop] at ih
      show ((feedF n (l.drop (decR l).2.2.1.toNat)).1).length + 1 ≤ l.length
      omega
    · rw [if_neg hz]
      have ih := feedF_count n (l.drop 1)
      rw [List.length_drop] at ih
      show ((feedF n (l.drop 1)).1).length ≤ l.length
      omega
theorem feedR_count (l : List Int) : (feedR l).1.length ≤ l.length := feedF_count _ l
theorem cellsF_app : ∀ (fs : List (Int × List Int)) (us : List Value) (fs' : List (Int × List Int)) (us' : List Value), us.length = fs.length → cellsF (fs ++ fs') (us ++ us') = cellsF fs us ++ cellsF fs' us'
  | [], [], _, _, _ => rfl
  | [], _ :: _, _, _, h => by cases h
  | _ :: _, [], _, _, h => by cases h
  | f0 :: fs, u0 :: us, fs', us', h => by
    show .int .u8 f0.1 :: u0 :: cellsF (fs ++ fs') (us ++ us') = .int .u8 f0.1 :: u0 :: (cellsF fs us ++ cellsF fs' us')
    rw [cellsF_app fs us fs' us' (by simpa using h)]
theorem FrO.keepB {w w' : World} {base B : Nat} {v x : Value} {fs : List (Int × List Int)} {us : List Value} {l : List Int} (h : FrO w base v fs us) (gr : w.grownBy w' v.ownBlock) (hx : OwnB w B x l) : OwnB w' B x l :=
  own_keep hx fun g cur _ hg _ => gr.block g (Array.getElem?_eq_some_iff.1 hg).1 (h.five g cur (0, 0) hg)
theorem FrO.keepg {w w' : World} {g : Nat} {v : Value} {fs : List (Int × List Int)} {us : List Value} (h : FrO w (g + 1) v fs us) (gr : w.grownBy w' (some g)) : FrO w' (g + 1) v fs us :=
  ⟨h.len, own_keep h.own fun k cur hk hc _ => gr.block k (Array.getElem?_eq_some_iff.1 hc).1 (fun e => by injection e with e; omega),
   fun i u f a b => own_keep (h.part i u f a b) fun k cur hk hc _ => gr.block k (Array.getElem?_eq_some_iff.1 hc).1 (fun e => by injection e with e; omega)⟩
theorem FrO.app {w w' : World} {b B : Nat} {v v' u : Value} {fs fs' : List (Int × List Int)} {us us' : List Value} (h : FrO w b v fs us) (k : FrO w B u fs' us') (hB : b ≤ B)
    (ho : w'.ownsRow b 46 2 v' (fs.length + fs'.length) (cellsF fs us ++ cellsF fs' us')) (gr : w.grownBy w' v.ownBlock) : FrO w' b v' (fs ++ fs') (us ++ us') := by
  refine ⟨by rw [List.length_append, List.length_append, h.len, k.len], ?_, fun i x f h1 h2 => ?_⟩
  · rw [cellsF_app fs us fs' us' h.len, List.length_append]; exact ho
  · rcases Nat.lt_or_ge i fs.length with hi | hi
    · rw [List.getElem?_append_left (by rw [h.len]; exact hi)] at h1
      rw [List.getElem?_append_left hi] at h2
      exact h.keepB gr (h.part i x f h1 h2)
    · rw [List.getElem?_append_right (by rw [h.len]; exact hi), h.len] at h1
      rw [List.getElem?_append_right hi] at h2
      exact h.keepB gr (own_lowerR (k.part _ x f h1 h2) hB)
theorem own_lt {w : World} {base : Nat} {v : Value} {l : List Int} (h : OwnB w base v l) (b : Nat) (hb : v.ownBlock = some b) : base ≤ b ∧ b < w.heap.size := by
  rcases h.2 with ⟨q, _⟩ | ⟨g0, cap, cur0, q1, q2, q3, _⟩
  · rw [q] at hb; cases hb
  · rw [q1] at hb
    have hb : some g0 = some b := hb
    injection hb with hb
    subst hb
    exact ⟨q2, (Array.getElem?_eq_some_iff.1 q3).1⟩
/-- The law's memory between two pieces. -/
structure FeedS (w : World) (g : Nat) (acc F : List Int) (G : List (Int × List Int)) (D : Nat) (v4 v5 : Value) (w' : World) : Prop where
  bel : Below w.heap.size w w'
  lg : w.heap.size ≤ g
  st : SBox w' g F D
  fr : ∃ us, FrO w' (g + 1) v4 G us ∧ ∀ (i : Nat) u, us[i]? = some u → ∀ b, u.ownBlock = some b → v5.ownBlock ≠ some b
  all : OwnB w' (g + 1) v5 acc
theorem FeedS.below {w w' w'' : World} {g : Nat} {acc F : List Int} {G : List (Int × List Int)} {D : Nat} {v4 v5 : Value} (h : FeedS w g acc F G D v4 v5 w') (b : Below w'.heap.size w' w'') : FeedS w g acc F G D v4 v5 w'' := by
  obtain ⟨us, f1, f2⟩ := h.fr
  exact ⟨h.bel.trans (b.mono h.bel.size), h.lg, h.st.below b, ⟨us, f1.below b, f2⟩, own_belowR h.all b⟩
/-- Behind a Feed. -/
theorem FeedS.fed {w w' w'' : World} {g : Nat} {acc F F' : List Int} {G G' : List (Int × List Int)} {D D' : Nat} {v4 v5 u : Value} {us' : List Value} (h : FeedS w g acc F G D v4 v5 w') (gr : w'.grownBy w'' (some g)) (s : SBox w'' g F' D') (k : FrO w'' w'.heap.size u G' us') :
    FeedS w g acc F' G D' v4 v5 w'' ∧ ∃ B us', g + 1 ≤ B ∧ FrO w'' B u G' us' ∧ ∀ (i : Nat) x, us'[i]? = some x → ∀ b, x.ownBlock = some b → v5.ownBlock ≠ some b := by
  obtain ⟨us, f1, f2⟩ := h.fr
  refine ⟨⟨h.bel.grown gr h.bel.size (fun k hk => by injection hk with hk; have := h.lg; omega), h.lg, s, ⟨us, f1.keepg gr, f2⟩, own_keep h.all fun k cur hk hc _ => gr.block k (Array.getElem?_eq_some_iff.1 hc).1 (fun e => by injection e with e; omega)⟩,
    w'.heap.size, us', h.st.lt, k, fun i x hx b hb e => ?_⟩
  have l1 := own_lt h.all b e
  obtain ⟨f, hf⟩ : ∃ f, G'[i]? = some f := ⟨G'[i]'(by rw [← k.len]; exact (List.getElem?_eq_some_iff.1 hx).1), List.getElem?_eq_getElem _⟩
  have l2 := own_lt (k.part i x f hx hf) b hb
  omega
/-- Frames are put behind frames. -/
theorem appendF {ops : Array Oper} {rest : List Oper} {o : Oper} {a : Act} {w1 : World} {Q : Exit → Act → World → Prop} (hgd : o.guard = none) (s x : Operand)
    (ho : o.op = .call { callee := .builtin .append, args := #[s, x], argTypes := #[79, 79] }) {w : World} {g : Nat} {acc F : List Int} {G G' : List (Int × List Int)} {D : Nat} {v4 v5 u : Value} (hs : a.eval s = v4) (hx : a.eval x = u)
    (h0 : FeedS w g acc F G D v4 v5 w1) (k : ∃ B us', g + 1 ≤ B ∧ FrO w1 B u G' us' ∧ ∀ (i : Nat) x, us'[i]? = some x → ∀ b, x.ownBlock = some b → v5.ownBlock ≠ some b)
    (hn : G.length + G'.length ≤ 1000000)
    (h : ∀ v' w', FeedS w g acc F (G ++ G') D v' v5 w' → w1.heap.size ≤ w'.heap.size → Below w.heap.size w w' → wpList Tryd.prog ops Q rest (a.put o.dst v') w') : wpList Tryd.prog ops Q (o :: rest) a w1 := by
  have hi1 := info46
  have hi2 : (Tryd.prog.info? 46).map (fun i => decide (i.bytes ≤ 64)) = some true := by kernel_rfl
  obtain ⟨us, f1, f2⟩ := h0.fr
  obtain ⟨B, us', hB, k1, k2⟩ := k
  cases hi : Tryd.prog.info? 46 with
  | none => rw [hi] at hi1; cases hi1
  | some ii =>
    rw [hi] at hi1 hi2
    simp only [Option.map_some] at hi1 hi2
    injection hi1 with hi1
    injection hi1 with hi3 hi4
    injection hi2 with hi2
    have hi2 := of_decide_eq_true hi2
    cases hz : ii.zero with
    | none => rw [hz] at hi4; cases hi4
    | some zz =>
      rw [hz] at hi4
      simp only [Option.map_some] at hi4
      injection hi4 with hi4
      rcases k1.own.2 with ⟨q, q0⟩ | ⟨g0, cap, cur0, q1, q2, q3, q4, q5, q6, q7⟩
      · have hG : G' = [] := List.eq_nil_of_length_eq_zero q0
        subst hG
        subst q
        refine wpList_append_own_none hgd s x 79 ho (g + 1) 46 ii 2 Tryd.underlying79 hi v4 G.length (cellsF G us) hs f1.own hx ?_
        refine h v4 w1 (by rw [List.append_nil]; exact h0) (Nat.le_refl _) h0.bel
      · have hby : (G.length + G'.length) * ii.bytes ≤ 140737488355328 := by
          have := Nat.mul_le_mul hn hi2
          omega
        have hnews : ∀ j y, (cellsF G' us')[j]? = some y → w1.cell? ((⟨g0, 0, none⟩ : Addr).add j) = some y := fun j y hy => by
          rw [Addr.add_mid, Nat.zero_add]
          rw [← q7, List.getElem?_take] at hy
          split at hy
          · exact row_cell q3 (by simpa using hy)
          · cases hy
        have hone : ∀ y ∈ cellsF G' us', y.oneCell' = true := by
          have : ∀ (fs : List (Int × List Int)) (vs : List Value), (∀ (i : Nat) x f, vs[i]? = some x → fs[i]? = some f → x.oneCell' = true) → ∀ y ∈ cellsF fs vs, y.oneCell' = true := by
            intro fs
            induction fs with
            | nil => intro vs _ y hy; simp [cellsF] at hy
            | cons f fs ih =>
              intro vs hv y hy
              cases vs with
              | nil => simp [cellsF] at hy
              | cons v vs =>
                simp only [cellsF, List.mem_cons] at hy
                rcases hy with rfl | rfl | hy
                · rfl
                · exact hv 0 y f rfl rfl
                · exact ih vs (fun i x f' a b => hv (i + 1) x f' (by simpa using a) (by simpa using b)) y hy
          refine this G' us' fun i x f a b => ?_
          rcases (k1.part i x f a b).2 with ⟨e, _⟩ | ⟨_, _, _, e, _⟩
          · rw [e]; rfl
          · rw [e]; rfl
        refine wpList_append_own_at w1 hgd s x 79 ho (g + 1) 46 ii zz 2 ii.bytes Tryd.underlying79 hi hz hi3 rfl hi4 (by omega) v4 G.length (cellsF G us) hs f1.own ⟨g0, 0, none⟩ G'.length cap (cellsF G' us') (by rw [hx, q1]) k1.own.1 hnews hone (by unfold maxLen; omega) hby h0.st.lt ?_
        intro v' w' o1 g1 _ _
        have lo : ∀ b, v4.ownBlock = some b → g + 1 ≤ b := fun b hb => f1.low b hb
        refine h v' w' ⟨h0.bel.grown g1 h0.bel.size (fun b hb => by have := lo b hb; have := h0.lg; omega), h0.lg, ?_, ⟨us ++ us', f1.app k1 hB o1 g1, fun i y hy b hb => ?_⟩, f1.keepB g1 h0.all⟩ g1.size (h0.bel.grown g1 h0.bel.size (fun b hb => by have := lo b hb; have := h0.lg; omega))
        · have := h0.st
          unfold SBox at this ⊢
          rw [g1.block g h0.st.lt (fun e => by have := lo g e.symm; omega)]; exact this
        · rcases Nat.lt_or_ge i us.length with hl | hl
          · rw [List.getElem?_append_left hl] at hy; exact f2 i y hy b hb
          · rw [List.getElem?_append_right hl] at hy; exact k2 _ y hy b hb
/-- Behind the append to all. -/
theorem FeedS.more {w w1 w2 : World} {g : Nat} {acc F bs : List Int} {G : List (Int × List Int)} {D : Nat} {v4 v5 v6 : Value} (h : FeedS w g acc F G D v4 v5 w1) (ho : OwnB w2 (g + 1) v6 (acc ++ bs)) (gr : w1.grownBy w2 v5.ownBlock) (hv : v6.ownBlock = v5.ownBlock ∨ v6.ownBlock = some w1.heap.size) :
    FeedS w g (acc ++ bs) F G D v4 v6 w2 := by
  obtain ⟨us, f1, f2⟩ := h.fr
  have lo : ∀ b, v5.ownBlock = some b → g + 1 ≤ b := fun b hb => (own_lt h.all b hb).1
  have body : ∀ (i : Nat) u f, us[i]? = some u → G[i]? = some f → OwnB w2 (g + 1) u f.2 := fun i u f a b => own_keep (f1.part i u f a b) fun k cur _ hc hk => gr.block k (Array.getElem?_eq_some_iff.1 hc).1 (fun e => f2 i u a k hk e.symm)
  refine ⟨h.bel.grown gr h.bel.size (fun b hb => by have := lo b hb; have := h.lg; omega), h.lg, ?_, ⟨us, ⟨f1.len, own_keep f1.own fun k cur _ hc _ => gr.block k (Array.getElem?_eq_some_iff.1 hc).1 (fun e => ?_), body⟩, fun i u hu b hb e => ?_⟩, ho⟩
  · have := h.st
    unfold SBox at this ⊢
    rw [gr.block g h.st.lt (fun e => by have := lo g e.symm; omega)]; exact this
  · rcases h.all.2 with ⟨q, _⟩ | ⟨g0, cap, cur0, q1, _, q3, _⟩
    · rw [q] at e; cases e
    · rw [q1] at e
      have e : some k = some g0 := e
      injection e with e
      subst e
      rw [hc] at q3
      injection q3 with q3
      injection q3 with _ q3
      cases q3
  · rcases hv with hv | hv
    · rw [hv] at e; exact f2 i u hu b hb e
    · rw [hv] at e
      injection e with e
      obtain ⟨f, hf⟩ : ∃ f, G[i]? = some f := ⟨G[i]'(by rw [← f1.len]; exact (List.getElem?_eq_some_iff.1 hu).1), List.getElem?_eq_getElem _⟩
      have := own_lt (f1.part i u f hu hf) b hb
      omega
end Go.Proofs.YtnpjknnalekdpaaDoor
namespace Go.Proofs.YtnpjknnalekdpaaDoor
set_option linter.unusedSimpArgs false
set_option linter.unusedVariables false
open Go.RowKit
/-- A piece: a type, a body, junk. -/
abbrev Pc := Int × List Int × List Int
/-- The value v is a slice of pieces. -/
def PiecesAt (w : World) (v : Value) (ps : List Pc) : Prop := ∃ (av : Option Addr) (b o cp : Nat), v = .slice av ps.length cp ∧ ps.length ≤ cp ∧ cp ≤ 9223372036854775807 ∧ (0 < ps.length → av = some ⟨b, o, none⟩) ∧
  (∀ (i : Nat) (p : Pc), ps[i]? = some p → b < w.heap.size ∧ ∃ x y, w.rangeAt b (o + i * 3) [.int .u8 p.1, x, y] ∧ PartAt w x p.2.1 ∧ PartAt w y p.2.2) ∧
  ∀ p ∈ ps, (0 ≤ p.1 ∧ p.1 ≤ 255) ∧ Bytes p.2.1 ∧ Bytes p.2.2
theorem PiecesAt.cells {w : World} {av : Option Addr} {n cp : Nat} {ps : List Pc} (h : PiecesAt w (.slice av n cp) ps) : n = ps.length ∧ ∃ b o, (0 < n → av = some ⟨b, o, none⟩) ∧ ∀ (i : Nat) (p : Pc), ps[i]? = some p → ∃ x y, ∀ W, Below w.heap.size w W →
    W.cell? ⟨b, o + i * 3, none⟩ = some (.int .u8 p.1) ∧ W.cell? ⟨b, o + i * 3 + 1, none⟩ = some x ∧ W.cell? ⟨b, o + i * 3 + 2, none⟩ = some y ∧ PartAt W x p.2.1 ∧ PartAt W y p.2.2 := by
  obtain ⟨av', b, o, cp', h1, h2, h3, h4, h5, h6⟩ := h
  injection h1 with h1 h1n h1c
  subst h1
  refine ⟨h1n, b, o, by rw [h1n]; exact h4, fun i p hp => ?_⟩
  obtain ⟨hb, x, y, r, p1, p2⟩ := h5 i p hp
  refine ⟨x, y, fun W q => ?_⟩
  have r' := range_below r q hb
  exact ⟨by simpa using r' 0 _ rfl, r' 1 _ rfl, r' 2 _ rfl, p1.below q, p2.below q⟩
/-- A piece's frame. -/
def frP (p : Pc) : Int × List Int := (max p.1 1, p.2.1)
theorem allE_snoc : ∀ (l : List (Int × List Int)) (f : Int × List Int), allE (l ++ [f]) = allE l ++ encB f.1 f.2
  | [], f => by simp [allE]
  | g :: l, f => by
    show encB g.1 g.2 ++ allE (l ++ [f]) = encB g.1 g.2 ++ allE l ++ encB f.1 f.2
    rw [allE_snoc l f, List.append_assoc]
/-- The frames that are wanted: in a row of the call's own, their bodies where the pieces have them. -/
structure WantS (w0 w : World) (v : Value) (fs : List (Int × List Int)) (us : List Value) : Prop where
  len : us.length = fs.length
  own : w.ownsRow w0.heap.size 48 2 v fs.length (cellsF fs us)
  part : ∀ (i : Nat) (u : Value) (f : Int × List Int), us[i]? = some u → fs[i]? = some f → PartAt w0 u f.2
theorem WantS.nil (w0 w : World) : WantS w0 w (.slice none 0 0) [] [] := ⟨rfl, ⟨rfl, .inl ⟨rfl, rfl⟩⟩, fun i u f h => by simp at h⟩
theorem WantS.below {w0 w w' : World} {v : Value} {fs : List (Int × List Int)} {us : List Value} (h : WantS w0 w v fs us) (b : Below w.heap.size w w') : WantS w0 w' v fs us :=
  ⟨h.len, own_belowR h.own b, h.part⟩
theorem WantS.form {w0 w : World} {v : Value} {fs : List (Int × List Int)} {us : List Value} (h : WantS w0 w v fs us) : ∃ av cp, v = .slice av fs.length cp := by
  rcases h.own.2 with ⟨q, q0⟩ | ⟨g0, cap, cur0, q1, _⟩
  · exact ⟨none, 0, by rw [q, q0]⟩
  · exact ⟨_, cap, q1⟩
theorem WantS.low {w0 w : World} {v : Value} {fs : List (Int × List Int)} {us : List Value} (h : WantS w0 w v fs us) (b : Nat) (hb : v.ownBlock = some b) : w0.heap.size ≤ b ∧ ∃ C m, w.heap[b]? = some (.cells C 48 m) := by
  rcases h.own.2 with ⟨q, _⟩ | ⟨g0, cap, cur0, q1, q2, q3, q4, q5, q6, q7⟩
  · rw [q] at hb; cases hb
  · rw [q1] at hb
    have hb : some g0 = some b := hb
    injection hb with hb
    subst hb
    exact ⟨q2, _, _, q3⟩
theorem WantS.snoc {w0 w w' : World} {v v' : Value} {fs : List (Int × List Int)} {us : List Value} (h : WantS w0 w v fs us) (t : Int) (bd : List Int) (u : Value) (hu : PartAt w0 u bd)
    (ho : w'.ownsRow w0.heap.size 48 2 v' (fs.length + 1) (cellsF fs us ++ [.int .u8 t, u])) : WantS w0 w' v' (fs ++ [(t, bd)]) (us ++ [u]) := by
  refine ⟨by rw [List.length_append, List.length_append, h.len]; rfl, ?_, fun i x f h1 h2 => ?_⟩
  · rw [cellsF_snoc fs us (t, bd) u h.len, List.length_append]; exact ho
  · rcases Nat.lt_or_ge i fs.length with hi | hi
    · rw [List.getElem?_append_left (by rw [h.len]; exact hi)] at h1
      rw [List.getElem?_append_left hi] at h2
      exact h.part i x f h1 h2
    · rw [List.getElem?_append_right (by rw [h.len]; exact hi), h.len] at h1
      rw [List.getElem?_append_right hi] at h2
      match hk : i - fs.length, h1, h2 with
      | 0, h1, h2 =>
        simp at h1 h2
        rw [← h1, ← h2]; exact hu
      | j + 1, h1, h2 => simp at h1
/-- same, of what came out and what is wanted. -/
theorem samef_want {w0 w : World} {B : Nat} {v v' : Value} {fs : List (Int × List Int)} {us us' : List Value} (h : FrO w B v fs us) (k : WantS w0 w v' fs us') (hw : Below w0.heap.size w0 w) (hn : fs.length ≤ 1000000) (h0 : 0 < w.heap.size) :
    Calls Tryd.prog 50 #[v, v'] w fun e w' => e = .returned (.bool true) ∧ Below w.heap.size w w' := by
  rcases Nat.eq_zero_or_pos fs.length with q | q
  · obtain ⟨a, c, rfl⟩ := h.form
    obtain ⟨a', c', rfl⟩ := k.form
    rw [q]
    exact samef_zero a a' c c' w
  · obtain ⟨g, cap, rfl, hg, hr⟩ := own_range h.own q
    obtain ⟨g', cap', rfl, hg', hr'⟩ := own_range k.own q
    refine samef_pos g 0 cap g' 0 cap' fs.length hn w fun i hi => ?_
    have hl := h.len
    have kl := k.len
    have f1 : fs[i]? = some fs[i] := List.getElem?_eq_getElem hi
    have u1 : us[i]? = some (us[i]'(by omega)) := List.getElem?_eq_getElem (by omega)
    have u2 : us'[i]? = some (us'[i]'(by omega)) := List.getElem?_eq_getElem (by omega)
    have c1 := cellsF_at fs us i _ _ f1 u1
    have c2 := cellsF_at fs us' i _ _ f1 u2
    have p1 := (h.part i _ _ u1 f1).partG h0
    have p2 := (k.part i _ _ u2 f1).below hw
    have two : ∀ (G : Nat) (L : List Value) (x y : Value), w.rangeAt G 0 L → L[i * 2]? = some x → L[i * 2 + 1]? = some y → w.rangeAt G (0 + i * 2) [x, y] := fun G L x y hr e1 e2 j z hz => by
      match j, hz with
      | 0, hz => have := hr (i * 2) x e1; simp at hz; rw [← hz]; simpa using this
      | 1, hz => have := hr (i * 2 + 1) y e2; simp at hz; rw [← hz]; simpa [Nat.add_assoc] using this
      | j + 2, hz => simp at hz
    exact ⟨fs[i].1, fs[i].2, _, _, fun W b => ⟨range_below (two g _ _ _ hr c1.1 c1.2) b hg, range_below (two g' _ _ _ hr' c2.1 c2.2) b hg', p1.below b, p2.below b⟩⟩
end Go.Proofs.YtnpjknnalekdpaaDoor
