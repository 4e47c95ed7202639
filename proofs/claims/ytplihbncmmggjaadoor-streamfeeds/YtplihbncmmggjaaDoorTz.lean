import Derived.Test.YtplihbncmmggjaaDoorTl
import Derived.Test.YtplihbncmmggjaaDoorTj
import Derived.Test.YtplihbncmmggjaaDoorTe
namespace Go.Proofs.YtplihbncmmggjaaDoor
set_option linter.unusedSimpArgs false
set_option linter.unusedVariables false
open Go.RowKit
/-- The value v is a slice of slices, which hold the texts ls. -/
def PartsAt (w : World) (v : Value) (ls : List (List Int)) : Prop := ∃ (av : Option Addr) (b o cp : Nat) (vs : List Value), v = .slice av ls.length cp ∧ ls.length ≤ cp ∧ cp ≤ 9223372036854775807 ∧ (0 < ls.length → av = some ⟨b, o, none⟩) ∧ vs.length = ls.length ∧ w.rangeAt b o vs ∧ b < w.heap.size ∧ (∀ (i : Nat) (x : Value) (l : List Int), vs[i]? = some x → ls[i]? = some l → PartAt w x l)
set_option maxRecDepth 100000 in
theorem PartsAt.below {w w' : World} {v : Value} {ls : List (List Int)} (h : PartsAt w v ls) (hb : Below w.heap.size w w') : PartsAt w' v ls := by
  obtain ⟨av, b, o, cp, vs, h1, h2, h3, h4, h5, h6, h7, h8⟩ := h
  exact ⟨av, b, o, cp, vs, h1, h2, h3, h4, h5, range_below h6 hb h7, Nat.lt_of_lt_of_le h7 hb.size, fun i x l k1 k2 => (h8 i x l k1 k2).below hb⟩
theorem flat_take (ls : List (List Int)) (k : Nat) (l : List Int) (h : ls[k]? = some l) : (ls.take (k + 1)).flatten = (ls.take k).flatten ++ l := by
  rw [List.take_add_one, h]; simp
def Few6 (ls : List (List Int)) (w : World) (e : Ending) (w' : World) : Prop := ∃ c, e = .returned (.bool c) ∧ w = w' ∧ (c = true → ls.length ≤ 60 ∧ ls.flatten.length ≤ 5000)
set_option maxHeartbeats 1000000 in
set_option maxRecDepth 100000 in
/-- law06's few. -/
theorem few6_any (v : Value) (ls : List (List Int)) (w : World) (hp : PartsAt w v ls) (hl : ∀ l ∈ ls, l.length ≤ 140737488351232) : Calls Tryd.prog 47 #[v] w (Few6 ls w) := by
  obtain ⟨av, b, o, cp, vs, rfl, h2, h3, h4, h5, h6, h7, h8⟩ := hp
  obtain ⟨n, hn⟩ : ∃ n, n = ls.length := ⟨_, rfl⟩
  have HL : Hid (∀ l ∈ ls, l.length ≤ 140737488351232) := hl
  have HN : Hid (n = ls.length) := hn
  have HV : Hid (vs.length = n) := by rw [hn]; exact h5
  have HA : Hid (0 < n → av = some ⟨b, o, none⟩) := by rw [hn]; exact h4
  have HR : Hid (w.rangeAt b o vs) := h6
  have HP : Hid (∀ (i : Nat) (x : Value) (l : List Int), vs[i]? = some x → ls[i]? = some l → PartAt w x l) := h8
  rw [← hn] at h2 ⊢
  clear hl h4 h5 h6 h8 hn
  go_enter Tryd.func47, Tryd.ntmps47
  go_wp2
  go_loopw [3, 7] (fun s i wr => ∃ k : Nat, k ≤ n ∧ i = .int .i64 k ∧ s = .int .i64 ((ls.take k).flatten.length : Nat) ∧ Hid (k ≤ 60 ∧ (ls.take k).flatten.length ≤ 5000) ∧ wr = w) (fun _ i _ => n - (intOf i).toNat)
  case atStart => exact ⟨0, by omega, rfl, by simp, by unfold Hid; simp, rfl⟩
  case round =>
    obtain ⟨k, hk, rfl, rfl, hle, rfl⟩ := hrel
    by_cases hlt : k < n
    · obtain ⟨x, hx⟩ : ∃ x, vs[k]? = some x := ⟨vs[k]'(by rw [HV.out]; exact hlt), List.getElem?_eq_getElem (by rw [HV.out]; exact hlt)⟩
      obtain ⟨l, hlk⟩ : ∃ l, ls[k]? = some l := ⟨ls[k]'(by rw [← HN.out]; exact hlt), List.getElem?_eq_getElem (by rw [← HN.out]; exact hlt)⟩
      obtain ⟨xa, xb, xo, xc, rfl, _⟩ := HP.out k x l hx hlk
      obtain rfl := HA.out (by omega)
      have hc := HR.out k _ hx
      have hll : l.length ≤ 140737488351232 := HL.out l (List.mem_of_getElem? hlk)
      have HT : Hid ((ls.take (k + 1)).flatten.length = (ls.take k).flatten.length + l.length) := by unfold Hid; rw [flat_take ls k l hlk, List.length_append]
      have hs := hle.out.2
      have i1 : (k : Int) < (n : Int) := by omega
      have i0 : (0 : Int) ≤ (k : Int) := by omega
      have HLT : Hid (k < n) := hlt
      generalize hA : (ls.take k).flatten.length = A at *
      have wA : IntKind.i64.wrap ((A : Int) + (l.length : Int)) = (A : Int) + (l.length : Int) := wrapI _ (by omega) (by omega)
      by_cases c1 : (60 : Int) ≤ (k : Int)
      · clear hx hlk hlt hA
        go_wp2
        go_ret
        exact ⟨false, rfl, rfl, fun h => by cases h⟩
      · by_cases c2 : (5000 : Int) < (A : Int) + (l.length : Int)
        · clear hx hlk hlt hA
          go_wp2
          go_ret
          exact ⟨false, rfl, rfl, fun h => by cases h⟩
        · have H5 : Hid (k + 1 ≤ 60 ∧ A + l.length ≤ 5000) := ⟨by omega, by omega⟩
          clear hx hlk hlt hA
          go_wp2
          go_roundw
          case rel => exact ⟨k + 1, by have := HLT.out; omega, by go_num, by rw [HT.out]; go_num, by unfold Hid; rw [HT.out]; exact H5.out, by first | rfl | trivial⟩
          case measure => have := HLT.out; simp [intOf]; omega
    · have i1 : ¬ (k : Int) < (n : Int) := by omega
      have HE : Hid (ls.length ≤ 60 ∧ ls.flatten.length ≤ 5000) := by
        have := hle.out
        rw [List.take_of_length_le (by rw [← HN.out]; omega)] at this
        exact ⟨by rw [← HN.out]; omega, this.2⟩
      clear hlt hle
      go_wp2
      go_ret
      exact ⟨true, rfl, rfl, fun _ => HE.out⟩
set_option maxRecDepth 100000 in
theorem samef_zero (av bv : Option Addr) (cp cq : Nat) (w : World) : Calls Tryd.prog 50 #[.slice av 0 cp, .slice bv 0 cq] w fun e w' => e = .returned (.bool true) ∧ Below w.heap.size w w' := by
  have hb : Below w.heap.size w w := Below.refl _ _
  go_enter Tryd.func50, Tryd.ntmps50
  go_wp2
  go_loopw [13] (fun i wr => i = .int .i64 0 ∧ wr = w) (fun _ _ => 0)
  case atStart => exact ⟨rfl, rfl⟩
  case round =>
    obtain ⟨rfl, rfl⟩ := hrel
    go_wp2
    go_ret
    exact ⟨rfl, hb⟩
theorem own_range {w : World} {base e : Nat} {v : Value} {n : Nat} {xs : List Value} (h : w.ownsRow base e 2 v n xs) (hn : 0 < n) : ∃ g cap, v = .slice (some ⟨g, 0, none⟩) n cap ∧ g < w.heap.size ∧ w.rangeAt g 0 xs := by
  obtain ⟨h1, h2⟩ := h
  rcases h2 with ⟨_, q⟩ | ⟨g, cap, cur, q1, q2, q3, q4, q5, q6, q7⟩
  · omega
  · refine ⟨g, cap, q1, (Array.getElem?_eq_some_iff.1 q3).1, fun j x hx => ?_⟩
    rw [← q7, List.getElem?_take] at hx
    split at hx
    · rw [Nat.zero_add]; exact row_cell q3 (by simpa using hx)
    · cases hx
/-- same, of the program's and the reference's frames. -/
theorem samef_any {w : World} {B B' : Nat} {v v' : Value} {fs : List (Int × List Int)} {us us' : List Value} (h : FrO w B v fs us) (k : FrQ w B' v' fs us') (hn : fs.length ≤ 1000000) (h0 : 0 < w.heap.size) :
    Calls Tryd.prog 50 #[v, v'] w fun e w' => e = .returned (.bool true) ∧ Below w.heap.size w w' := by
  rcases Nat.eq_zero_or_pos fs.length with q | q
  · obtain ⟨a, c, rfl⟩ := h.form
    obtain ⟨a', c', rfl⟩ := k.form
    rw [q]
    exact samef_zero a a' c c' w
  · obtain ⟨g, cap, rfl, hg, hr⟩ := own_range h.own q
    obtain ⟨g', cap', rfl, hg', hr'⟩ := own_range k.own q
    refine samef_pos g 0 cap g' 0 cap' fs.length hn w fun i hi => ?_
    have hl := h.len
    have kl := k.len
    have f1 : fs[i]? = some fs[i] := List.getElem?_eq_getElem hi
    have u1 : us[i]? = some (us[i]'(by omega)) := List.getElem?_eq_getElem (by omega)
    have u2 : us'[i]? = some (us'[i]'(by omega)) := List.getElem?_eq_getElem (by omega)
    have c1 := cellsF_at fs us i _ _ f1 u1
    have c2 := cellsF_at fs us' i _ _ f1 u2
    have p1 := (h.part i _ _ u1 f1).partG h0
    have p2 := (k.part i _ _ u2 f1).part
    have two : ∀ (G : Nat) (L : List Value) (x y : Value), w.rangeAt G 0 L → L[i * 2]? = some x → L[i * 2 + 1]? = some y → w.rangeAt G (0 + i * 2) [x, y] := fun G L x y hr e1 e2 j z hz => by
      match j, hz with
      | 0, hz => have := hr (i * 2) x e1; simp at hz; rw [← hz]; simpa using this
      | 1, hz => have := hr (i * 2 + 1) y e2; simp at hz; rw [← hz]; simpa [Nat.add_assoc] using this
      | j + 2, hz => simp at hz
    exact ⟨fs[i].1, fs[i].2, _, _, fun W b => ⟨range_below (two g _ _ _ hr c1.1 c1.2) b hg, range_below (two g' _ _ _ hr' c2.1 c2.2) b hg', p1.below b, p2.below b⟩⟩
end Go.Proofs.YtplihbncmmggjaaDoor
namespace Go.Proofs.YtplihbncmmggjaaDoor
set_option linter.unusedSimpArgs false
set_option linter.unusedVariables false
open Go.RowKit
theorem feedF_count : ∀ (n : Nat) (l : List Int), (feedF n l).1.length ≤ l.length
  | 0, l => by show 0 ≤ l.length; omega
  | n + 1, l => by
    unfold feedF
    by_cases h0 : l = []
    · rw [if_pos h0]; simp
    rw [if_neg h0]
    by_cases h4 : (decR l).2.2.2 = 4
    · rw [if_pos h4]; simp
    rw [if_neg h4]
    have hl := List.length_pos_iff.2 h0
    by_cases hz : (decR l).2.2.2 = 0
    · rw [if_pos hz]
      have hp := decR_pos l hz
      have ih := feedF_count n (l.drop (decR l).2.2.1.toNat)
      rw [List.length_drop] at ih
      show ((feedF n (l.drop (decR l).2.2.1.toNat)).1).length + 1 ≤ l.length
      omega
    · rw [if_neg hz]
      have ih := feedF_count n (l.drop 1)
      rw [List.length_drop] at ih
      show ((feedF n (l.drop 1)).1).length ≤ l.length
      omega
theorem feedR_count (l : List Int) : (feedR l).1.length ≤ l.length := feedF_count _ l
theorem cellsF_app : ∀ (fs : List (Int × List Int)) (us : List Value) (fs' : List (Int × List Int)) (us' : List Value), us.length = fs.length → cellsF (fs ++ fs') (us ++ us') = cellsF fs us ++ cellsF fs' us'
  | [], [], _, _, _ => rfl
  | [], _ :: _, _, _, h => by cases h
  | _ :: _, [], _, _, h => by cases h
  | f0 :: fs, u0 :: us, fs', us', h => by
    show .int .u8 f0.1 :: u0 :: cellsF (fs ++ fs') (us ++ us') = .int .u8 f0.1 :: u0 :: (cellsF fs us ++ cellsF fs' us')
    rw [cellsF_app fs us fs' us' (by simpa using h)]
theorem FrO.keepB {w w' : World} {base B : Nat} {v x : Value} {fs : List (Int × List Int)} {us : List Value} {l : List Int} (h : FrO w base v fs us) (gr : w.grownBy w' v.ownBlock) (hx : OwnB w B x l) : OwnB w' B x l :=
  own_keep hx fun g cur _ hg _ => gr.block g (Array.getElem?_eq_some_iff.1 hg).1 (h.five g cur (0, 0) hg)
theorem FrO.keepg {w w' : World} {g : Nat} {v : Value} {fs : List (Int × List Int)} {us : List Value} (h : FrO w (g + 1) v fs us) (gr : w.grownBy w' (some g)) : FrO w' (g + 1) v fs us :=
  ⟨h.len, own_keep h.own fun k cur hk hc _ => gr.block k (Array.getElem?_eq_some_iff.1 hc).1 (fun e => by injection e with e; omega),
   fun i u f a b => own_keep (h.part i u f a b) fun k cur hk hc _ => gr.block k (Array.getElem?_eq_some_iff.1 hc).1 (fun e => by injection e with e; omega)⟩
theorem FrO.app {w w' : World} {b B : Nat} {v v' u : Value} {fs fs' : List (Int × List Int)} {us us' : List Value} (h : FrO w b v fs us) (k : FrO w B u fs' us') (hB : b ≤ B)
    (ho : w'.ownsRow b 46 2 v' (fs.length + fs'.length) (cellsF fs us ++ cellsF fs' us')) (gr : w.grownBy w' v.ownBlock) : FrO w' b v' (fs ++ fs') (us ++ us') := by
  refine ⟨by rw [List.length_append, List.length_append, h.len, k.len], ?_, fun i x f h1 h2 => ?_⟩
  · rw [cellsF_app fs us fs' us' h.len, List.length_append]; exact ho
  · rcases Nat.lt_or_ge i fs.length with hi | hi
    · rw [List.getElem?_append_left (by rw [h.len]; exact hi)] at h1
      rw [List.getElem?_append_left hi] at h2
      exact h.keepB gr (h.part i x f h1 h2)
    · rw [List.getElem?_append_right (by rw [h.len]; exact hi), h.len] at h1
      rw [List.getElem?_append_right hi] at h2
      exact h.keepB gr (own_lowerR (k.part _ x f h1 h2) hB)
theorem own_lt {w : World} {base : Nat} {v : Value} {l : List Int} (h : OwnB w base v l) (b : Nat) (hb : v.ownBlock = some b) : base ≤ b ∧ b < w.heap.size := by
  rcases h.2 with ⟨q, _⟩ | ⟨g0, cap, cur0, q1, q2, q3, _⟩
  · rw [q] at hb; cases hb
  · rw [q1] at hb
    have hb : some g0 = some b := hb
    injection hb with hb
    subst hb
    exact ⟨q2, (Array.getElem?_eq_some_iff.1 q3).1⟩
/-- The law's memory between two pieces. -/
structure FeedS (w : World) (g : Nat) (acc F : List Int) (G : List (Int × List Int)) (D : Nat) (v4 v5 : Value) (w' : World) : Prop where
  bel : Below w.heap.size w w'
  lg : w.heap.size ≤ g
  st : SBox w' g F D
  fr : ∃ us, FrO w' (g + 1) v4 G us ∧ ∀ (i : Nat) u, us[i]? = some u → ∀ b, u.ownBlock = some b → v5.ownBlock ≠ some b
  all : OwnB w' (g + 1) v5 acc
theorem FeedS.below {w w' w'' : World} {g : Nat} {acc F : List Int} {G : List (Int × List Int)} {D : Nat} {v4 v5 : Value} (h : FeedS w g acc F G D v4 v5 w') (b : Below w'.heap.size w' w'') : FeedS w g acc F G D v4 v5 w'' := by
  obtain ⟨us, f1, f2⟩ := h.fr
  exact ⟨h.bel.trans (b.mono h.bel.size), h.lg, h.st.below b, ⟨us, f1.below b, f2⟩, own_belowR h.all b⟩
/-- Behind a Feed. -/
theorem FeedS.fed {w w' w'' : World} {g : Nat} {acc F F' : List Int} {G G' : List (Int × List Int)} {D D' : Nat} {v4 v5 u : Value} {us' : List Value} (h : FeedS w g acc F G D v4 v5 w') (gr : w'.grownBy w'' (some g)) (s : SBox w'' g F' D') (k : FrO w'' w'.heap.size u G' us') :
    FeedS w g acc F' G D' v4 v5 w'' ∧ ∃ B us', g + 1 ≤ B ∧ FrO w'' B u G' us' ∧ ∀ (i : Nat) x, us'[i]? = some x → ∀ b, x.ownBlock = some b → v5.ownBlock ≠ some b := by
  obtain ⟨us, f1, f2⟩ := h.fr
  refine ⟨⟨h.bel.grown gr h.bel.size (fun k hk => by injection hk with hk; have := h.lg; omega), h.lg, s, ⟨us, f1.keepg gr, f2⟩, own_keep h.all fun k cur hk hc _ => gr.block k (Array.getElem?_eq_some_iff.1 hc).1 (fun e => by injection e with e; omega)⟩,
    w'.heap.size, us', h.st.lt, k, fun i x hx b hb e => ?_⟩
  have l1 := own_lt h.all b e
  obtain ⟨f, hf⟩ : ∃ f, G'[i]? = some f := ⟨G'[i]'(by rw [← k.len]; exact (List.getElem?_eq_some_iff.1 hx).1), List.getElem?_eq_getElem _⟩
  have l2 := own_lt (k.part i x f hx hf) b hb
  omega
/-- Frames are put behind frames. -/
theorem appendF {ops : Array Oper} {rest : List Oper} {o : Oper} {a : Act} {w1 : World} {Q : Exit → Act → World → Prop} (hgd : o.guard = none) (s x : Operand)
    (ho : o.op = .call { callee := .builtin .append, args := #[s, x], argTypes := #[79, 79] }) {w : World} {g : Nat} {acc F : List Int} {G G' : List (Int × List Int)} {D : Nat} {v4 v5 u : Value} (hs : a.eval s = v4) (hx : a.eval x = u)
    (h0 : FeedS w g acc F G D v4 v5 w1) (k : ∃ B us', g + 1 ≤ B ∧ FrO w1 B u G' us' ∧ ∀ (i : Nat) x, us'[i]? = some x → ∀ b, x.ownBlock = some b → v5.ownBlock ≠ some b)
    (hn : G.length + G'.length ≤ 1000000)
    (h : ∀ v' w', FeedS w g acc F (G ++ G') D v' v5 w' → w1.heap.size ≤ w'.heap.size → Below w.heap.size w w' → wpList Tryd.prog ops Q rest (a.put o.dst v') w') : wpList Tryd.prog ops Q (o :: rest) a w1 := by
  have hi1 := info46
  have hi2 : (Tryd.prog.info? 46).map (fun i => decide (i.bytes ≤ 64)) = some true := by kernel_rfl
  obtain ⟨us, f1, f2⟩ := h0.fr
  obtain ⟨B, us', hB, k1, k2⟩ := k
  cases hi : Tryd.prog.info? 46 with
  | none => rw [hi] at hi1; cases hi1
  | some ii =>
    rw [hi] at hi1 hi2
    simp only [Option.map_some] at hi1 hi2
    injection hi1 with hi1
    injection hi1 with hi3 hi4
    injection hi2 with hi2
    have hi2 := of_decide_eq_true hi2
    cases hz : ii.zero with
    | none => rw [hz] at hi4; cases hi4
    | some zz =>
      rw [hz] at hi4
      simp only [Option.map_some] at hi4
      injection hi4 with hi4
      rcases k1.own.2 with ⟨q, q0⟩ | ⟨g0, cap, cur0, q1, q2, q3, q4, q5, q6, q7⟩
      · have hG : G' = [] := List.eq_nil_of_length_eq_zero q0
        subst hG
        subst q
        refine wpList_append_own_none hgd s x 79 ho (g + 1) 46 ii 2 Tryd.underlying79 hi v4 G.length (cellsF G us) hs f1.own hx ?_
        refine h v4 w1 (by rw [List.append_nil]; exact h0) (Nat.le_refl _) h0.bel
      · have hby : (G.length + G'.length) * ii.bytes ≤ 140737488355328 := by
          have := Nat.mul_le_mul hn hi2
          omega
        have hnews : ∀ j y, (cellsF G' us')[j]? = some y → w1.cell? ((⟨g0, 0, none⟩ : Addr).add j) = some y := fun j y hy => by
          rw [Addr.add_mid, Nat.zero_add]
          rw [← q7, List.getElem?_take] at hy
          split at hy
          · exact row_cell q3 (by simpa using hy)
          · cases hy
        have hone : ∀ y ∈ cellsF G' us', y.oneCell' = true := by
          have : ∀ (fs : List (Int × List Int)) (vs : List Value), (∀ (i : Nat) x f, vs[i]? = some x → fs[i]? = some f → x.oneCell' = true) → ∀ y ∈ cellsF fs vs, y.oneCell' = true := by
            intro fs
            induction fs with
            | nil => intro vs _ y hy; simp [cellsF] at hy
            | cons f fs ih =>
              intro vs hv y hy
              cases vs with
              | nil => simp [cellsF] at hy
              | cons v vs =>
                simp only [cellsF, List.mem_cons] at hy
                rcases hy with rfl | rfl | hy
                · rfl
                · exact hv 0 y f rfl rfl
                · exact ih vs (fun i x f' a b => hv (i + 1) x f' (by simpa using a) (by simpa using b)) y hy
          refine this G' us' fun i x f a b => ?_
          rcases (k1.part i x f a b).2 with ⟨e, _⟩ | ⟨_, _, _, e, _⟩
          · rw [e]; rfl
          · rw [e]; rfl
        refine wpList_append_own_at w1 hgd s x 79 ho (g + 1) 46 ii zz 2 ii.bytes Tryd.underlying79 hi hz hi3 rfl hi4 (by omega) v4 G.length (cellsF G us) hs f1.own ⟨g0, 0, none⟩ G'.length cap (cellsF G' us') (by rw [hx, q1]) k1.own.1 hnews hone (by unfold maxLen; omega) hby h0.st.lt ?_
        intro v' w' o1 g1 _ _
        have lo : ∀ b, v4.ownBlock = some b → g + 1 ≤ b := fun b hb => f1.low b hb
        refine h v' w' ⟨h0.bel.grown g1 h0.bel.size (fun b hb => by have := lo b hb; have := h0.lg; omega), h0.lg, ?_, ⟨us ++ us', f1.app k1 hB o1 g1, fun i y hy b hb => ?_⟩, f1.keepB g1 h0.all⟩ g1.size (h0.bel.grown g1 h0.bel.size (fun b hb => by have := lo b hb; have := h0.lg; omega))
        · have := h0.st
          unfold SBox at this ⊢
          rw [g1.block g h0.st.lt (fun e => by have := lo g e.symm; omega)]; exact this
        · rcases Nat.lt_or_ge i us.length with hl | hl
          · rw [List.getElem?_append_left hl] at hy; exact f2 i y hy b hb
          · rw [List.getElem?_append_right hl] at hy; exact k2 _ y hy b hb
/-- Behind the append to all. -/
theorem FeedS.more {w w1 w2 : World} {g : Nat} {acc F bs : List Int} {G : List (Int × List Int)} {D : Nat} {v4 v5 v6 : Value} (h : FeedS w g acc F G D v4 v5 w1) (ho : OwnB w2 (g + 1) v6 (acc ++ bs)) (gr : w1.grownBy w2 v5.ownBlock) (hv : v6.ownBlock = v5.ownBlock ∨ v6.ownBlock = some w1.heap.size) :
    FeedS w g (acc ++ bs) F G D v4 v6 w2 := by
  obtain ⟨us, f1, f2⟩ := h.fr
  have lo : ∀ b, v5.ownBlock = some b → g + 1 ≤ b := fun b hb => (own_lt h.all b hb).1
  have body : ∀ (i : Nat) u f, us[i]? = some u → G[i]? = some f → OwnB w2 (g + 1) u f.2 := fun i u f a b => own_keep (f1.part i u f a b) fun k cur _ hc hk => gr.block k (Array.getElem?_eq_some_iff.1 hc).1 (fun e => f2 i u a k hk e.symm)
  refine ⟨h.bel.grown gr h.bel.size (fun b hb => by have := lo b hb; have := h.lg; omega), h.lg, ?_, ⟨us, ⟨f1.len, own_keep f1.own fun k cur _ hc _ => gr.block k (Array.getElem?_eq_some_iff.1 hc).1 (fun e => ?_), body⟩, fun i u hu b hb e => ?_⟩, ho⟩
  · have := h.st
    unfold SBox at this ⊢
    rw [gr.block g h.st.lt (fun e => by have := lo g e.symm; omega)]; exact this
  · rcases h.all.2 with ⟨q, _⟩ | ⟨g0, cap, cur0, q1, _, q3, _⟩
    · rw [q] at e; cases e
    · rw [q1] at e
      have e : some k = some g0 := e
      injection e with e
      subst e
      rw [hc] at q3
      injection q3 with q3
      injection q3 with _ q3
      cases q3
  · rcases hv with hv | hv
    · rw [hv] at e; exact f2 i u hu b hb e
    · rw [hv] at e
      injection e with e
      obtain ⟨f, hf⟩ : ∃ f, G[i]? = some f := ⟨G[i]'(by rw [← f1.len]; exact (List.getElem?_eq_some_iff.1 hu).1), List.getElem?_eq_getElem _⟩
      have := own_lt (f1.part i u f hu hf) b hb
      omega
end Go.Proofs.YtplihbncmmggjaaDoor
namespace Go.Proofs.YtplihbncmmggjaaDoor
set_option linter.unusedSimpArgs false
set_option linter.unusedVariables false
open Go.RowKit
theorem own_form {w : World} {base : Nat} {v : Value} {l : List Int} (h : OwnB w base v l) : ∃ av cp, v = .slice av l.length cp := by
  rcases h.2 with ⟨q, q0⟩ | ⟨g0, cap, cur0, q1, _⟩
  · exact ⟨none, 0, by rw [q, q0]⟩
  · exact ⟨_, cap, q1⟩
abbrev FeedK (w : World) (g : Nat) (acc : List Int) (v4 v5 : Value) (w' : World) : Prop := FeedS w g acc (feedR acc).2.2 (feedR acc).1 (feedR acc).2.1 v4 v5 w'
theorem feeds_feed {w : World} (hL : Laid w) {g : Nat} {acc l : List Int} {v4 v5 x : Value} {W : World} (h : FeedK w g acc v4 v5 W) (ha : Bytes acc) (hal : acc.length ≤ 5000) (hl : Bytes l) (hll : l.length ≤ 5000) (hp : PartAt W x l) :
    Calls Tryd.prog 48 #[.pointer (some ⟨g, 0, none⟩), x] W fun e w' => ∃ u, e = .returned u ∧ FeedS w g acc (feedR (acc ++ l)).2.2 (feedR acc).1 (feedR (acc ++ l)).2.1 v4 v5 w' ∧ (∃ B us', g + 1 ≤ B ∧ FrO w' B u (feedR ((feedR acc).2.2 ++ l)).1 us' ∧ ∀ (i : Nat) x, us'[i]? = some x → ∀ b, x.ownBlock = some b → v5.ownBlock ≠ some b) := by
  have q := feedR_len acc ha
  have h2 := hL.two
  refine (feed_any g (feedR acc).2.2 l (feedR acc).2.1 q.2 hl (by omega) (by omega) (by omega) x W (hL.below h.bel h2) (by have := h.lg; omega) h.st hp).mono fun e w' ⟨u, us, r1, r2, r3, r4⟩ => ?_
  have m := feedR_more acc l ha hl
  have s : SBox w' g (feedR (acc ++ l)).2.2 ((feedR (acc ++ l)).2.1 : Nat) := by
    rw [m]
    have e : (((feedR acc).2.1 + (feedR ((feedR acc).2.2 ++ l)).2.1 : Nat) : Int) = ((feedR acc).2.1 : Int) + (feedR ((feedR acc).2.2 ++ l)).2.1 := by omega
    show SBox w' g (feedR ((feedR acc).2.2 ++ l)).2.2 _
    rw [e]; exact r3
  exact ⟨u, r1, h.fed r4 s r2⟩
set_option maxHeartbeats 4000000 in
set_option maxRecDepth 100000 in
/-- StreamFeeds, of whatever pieces. -/
theorem streamFeeds_walk (v : Value) (ls : List (List Int)) (w : World) (hL : Laid w) (hp : PartsAt w v ls) (hl : ∀ l ∈ ls, l.length ≤ 140737488351232) (hb : ∀ l ∈ ls, Bytes l) : Calls Tryd.prog 14 #[v] w fun e w' => e = .returned (.bool true) ∧ Below w.heap.size w w' := by
  have h2 := hL.two
  have AW : Hid (∀ W, Below w.heap.size w W → Calls Tryd.prog 46 #[] W fun e w' => e = .returned (.bool true) ∧ Below w.heap.size w w') := fun W q =>
    (awake6_any W (hL.below q h2)).mono fun e w' ⟨r1, r2⟩ => ⟨r1, q.trans (r2.mono q.size)⟩
  have FW : Hid (∀ W, Below w.heap.size w W → Calls Tryd.prog 47 #[v] W (Few6 ls W)) := fun W q => few6_any v ls W (hp.below q) hl
  obtain ⟨av, b, o, cp, vs, rfl, p2, p3, p4, p5, p6, p7, p8⟩ := hp
  obtain ⟨n, hn⟩ : ∃ n, n = ls.length := ⟨_, rfl⟩
  have HN : Hid (n = ls.length) := hn
  have HV : Hid (vs.length = n) := by rw [hn]; exact p5
  have HA : Hid (0 < n → av = some ⟨b, o, none⟩) := by rw [hn]; exact p4
  have HR : Hid (∀ W, Below w.heap.size w W → W.rangeAt b o vs) := fun W q => range_below p6 q p7
  have HP : Hid (∀ W, Below w.heap.size w W → ∀ (i : Nat) (x : Value) (l : List Int), vs[i]? = some x → ls[i]? = some l → PartAt W x l) := fun W q i x l h1 h3 => (p8 i x l h1 h3).below q
  have HB : Hid (∀ l ∈ ls, Bytes l) := hb
  have HL : Hid (Laid w) := hL
  rw [← hn] at FW ⊢
  have B0 : Hid (Below w.heap.size w w) := Below.refl _ _
  clear hL h2 hl hb p2 p4 p5 p6 p8 hn
  go_enter Tryd.func14, Tryd.ntmps14
  go_wp2_with fail
  refine (AW.out _ B0.out).mono ?_
  rintro e w1 ⟨rfl, b1⟩
  have B1 : Hid (Below w.heap.size w w1) := b1
  clear b1
  go_wp2_with fail
  refine (FW.out _ B1.out).mono ?_
  rintro e w2 ⟨c, rfl, rfl, hc⟩
  cases c with
  | false =>
    clear hc
    go_wp2_with fail
    refine (AW.out _ B1.out).mono ?_
    rintro e w3 ⟨rfl, b3⟩
    go_wp2
    go_ret
    exact ⟨rfl, b3⟩
  | true =>
    have hc := hc rfl
    have HC : Hid (n ≤ 60 ∧ ls.flatten.length ≤ 5000) := by rw [HN.out]; exact hc
    have ACC : Hid (∀ k, (ls.take k).flatten.length ≤ 5000 ∧ Bytes (ls.take k).flatten) := fun k => by
      have e : ls.flatten = (ls.take k).flatten ++ (ls.drop k).flatten := by rw [← List.flatten_append, List.take_append_drop]
      refine ⟨?_, fun y hy => ?_⟩
      · have := HC.out.2; rw [e, List.length_append] at this; omega
      · obtain ⟨l, h1, h3⟩ := List.mem_flatten.1 hy
        exact HB.out l (List.mem_of_mem_take h1) y h3
    clear hc AW FW
    have S0 : Hid (FeedK w w1.heap.size (ls.take 0).flatten (.slice none 0 0) (.slice none 0 0) (w1.alloc (.cells #[.string ⟨#[]⟩, .int .i64 0] 78))) := by
      exact ⟨B1.out.alloc B1.out.size _, B1.out.size, heap_alloc_new _ _, ⟨[], FrO.nil _ _, fun i u h => by simp at h⟩, ⟨rfl, Or.inl ⟨rfl, rfl⟩⟩⟩
    go_wp2
    go_loopw [4, 5, 20] (fun s4 s5 i wr => ∃ k : Nat, k ≤ n ∧ i = .int .i64 k ∧ Hid (FeedK w w1.heap.size (ls.take k).flatten s4 s5 wr)) (fun _ _ i _ => n - (intOf i).toNat)
    case atStart => exact ⟨0, by omega, rfl, S0.out⟩
    case round =>
      clear S0
      obtain ⟨k, hk, rfl, S1⟩ := hrel
      by_cases hlt : k < n
      · obtain ⟨x, hx⟩ : ∃ x, vs[k]? = some x := ⟨vs[k]'(by rw [HV.out]; exact hlt), List.getElem?_eq_getElem (by rw [HV.out]; exact hlt)⟩
        obtain ⟨l, hlk⟩ : ∃ l, ls[k]? = some l := ⟨ls[k]'(by rw [← HN.out]; exact hlt), List.getElem?_eq_getElem (by rw [← HN.out]; exact hlt)⟩
        obtain rfl := HA.out (by omega)
        have h60 : n ≤ 60 := HC.out.1
        have i1 : (k : Int) < (n : Int) := by omega
        have i0 : (0 : Int) ≤ (k : Int) := by omega
        have HLT : Hid (k < n) := hlt
        have CELL : Hid (∀ W, Below w.heap.size w W → W.cell? ⟨b, o + k, none⟩ = some x) := fun W q => HR.out W q k _ hx
        have PL : Hid (∀ W, Below w.heap.size w W → PartAt W x l) := fun W q => HP.out W q k _ _ hx hlk
        have A1 := ACC.out k
        have A2 := ACC.out (k + 1)
        have ft := flat_take ls k l hlk
        have FT : Hid ((ls.take (k + 1)).flatten = (ls.take k).flatten ++ l) := ft
        have HBL : Hid (Bytes l) := HB.out l (List.mem_of_getElem? hlk)
        rw [ft] at A2
        obtain ⟨acc, hacc⟩ : ∃ acc, acc = (ls.take k).flatten := ⟨_, rfl⟩
        rw [← hacc] at A1 A2 FT S1
        have hll : acc.length + l.length ≤ 5000 := by have := A2.1; rw [List.length_append] at this; exact this
        have HLL : Hid (acc.length + l.length ≤ 5000) := hll
        have FD := feeds_feed HL.out S1.out A1.2 A1.1 HBL.out (by omega) (PL.out _ S1.out.bel)
        have AB : Hid (Bytes (acc ++ l)) := A2.2
        have FDH : Hid (Calls Tryd.prog 48 #[.pointer (some ⟨w1.heap.size, 0, none⟩), x] wr _) := FD
        have c1 := CELL.out _ S1.out.bel
        have GG : Hid ((feedR (acc ++ l)).1 = (feedR acc).1 ++ (feedR ((feedR acc).2.2 ++ l)).1) := by unfold Hid; rw [feedR_more acc l A1.2 HBL.out]
        have HG2 : Hid ((feedR acc).1.length + (feedR ((feedR acc).2.2 ++ l)).1.length ≤ 1000000) := by
          have := feedR_count (acc ++ l)
          rw [GG.out, List.length_append, List.length_append] at this
          unfold Hid; omega
        have HG3 : Hid ((feedR (acc ++ l)).1.length ≤ 1000000) := by unfold Hid; rw [GG.out, List.length_append]; exact HG2.out
        have HLS : Hid (acc.length + l.length ≤ 140737488355328) := by unfold Hid; omega
        have HAL : Hid ((acc ++ l).length ≤ 1000000) := by unfold Hid; rw [List.length_append]; omega
        clear FD A1 A2 hacc ft hlt hx hlk hll
        go_wp2_with fail
        refine FDH.out.mono ?_
        rintro e w2 ⟨u, rfl, s2, k2⟩
        have S2 : Hid (FeedS w w1.heap.size acc (feedR (acc ++ l)).2.2 (feedR acc).1 (feedR (acc ++ l)).2.1 u4 u5 w2) := s2
        have K2 : Hid (∃ B us', w1.heap.size + 1 ≤ B ∧ FrO w2 B u (feedR ((feedR acc).2.2 ++ l)).1 us' ∧ ∀ (i : Nat) x, us'[i]? = some x → ∀ b, x.ownBlock = some b → u5.ownBlock ≠ some b) := k2
        clear s2 k2 FDH c1 S1
        go_wp2_with (first | (at_builtin; refine appendF rfl _ _ rfl rfl rfl S2.out K2.out HG2.out ?_; intro v4 w3 s3 z3 b3; have c3 := CELL.out _ b3; have S3 : Hid (FeedS w w1.heap.size acc (feedR (acc ++ l)).2.2 ((feedR acc).1 ++ (feedR ((feedR acc).2.2 ++ l)).1) (feedR (acc ++ l)).2.1 v4 u5 w3) := s3; have P3 : Hid (PartAt w3 x l) := PL.out _ b3; clear s3 z3 b3 S2 K2) | (at_builtin; refine appendB rfl _ _ rfl (w1.heap.size + 1) u5 acc rfl S3.out.all x l rfl P3.out HLS.out S3.out.st.lt ?_; intro v5 w4 o4 g4 d4; have S4 : Hid (FeedK w w1.heap.size (acc ++ l) v4 v5 w4) := (by have q := S3.out.more o4 g4 d4; rw [← GG.out] at q; exact q); clear o4 g4 d4 S3 P3 c3))
        have RS : Hid (Calls Tryd.prog 49 #[v5] w4 fun e w' => ∃ u us, e = .returned (.tuple #[u, .int .i64 (feedR (acc ++ l)).2.1, .int .i64 (feedR (acc ++ l)).2.2.length]) ∧ FrQ w' w4.heap.size u (feedR (acc ++ l)).1 us ∧ Below w4.heap.size w4 w') :=
          rstream_any (acc ++ l) AB.out HAL.out v5 w4 (by have := S4.out.st.lt; omega) (S4.out.all.partG (by have := S4.out.st.lt; omega))
        refine RS.out.mono ?_
        rintro e w5 ⟨u7, us7, rfl, q5, b5⟩
        have S5 : Hid (FeedK w w1.heap.size (acc ++ l) v4 v5 w5) := S4.out.below b5
        have SM : Hid (Calls Tryd.prog 50 #[v4, u7] w5 fun e w' => e = .returned (.bool true) ∧ Below w5.heap.size w5 w') := by
          obtain ⟨us, f1, _⟩ := S5.out.fr
          exact samef_any f1 q5 HG3.out (by have := S5.out.st.lt; omega)
        clear q5 b5 RS S4
        go_wp2_with fail
        refine SM.out.mono ?_
        rintro e w6 ⟨rfl, b6⟩
        have S6 : Hid (FeedK w w1.heap.size (acc ++ l) v4 v5 w6) := S5.out.below b6
        have DR : Hid (Calls Tryd.prog 51 #[.pointer (some ⟨w1.heap.size, 0, none⟩)] w6 fun e w' => e = .returned (.int .i64 (feedR (acc ++ l)).2.1) ∧ w6 = w') := dropped_any w1.heap.size _ _ w6 S6.out.st
        have WT : Hid (Calls Tryd.prog 52 #[.pointer (some ⟨w1.heap.size, 0, none⟩)] w6 fun e w' => e = .returned (.int .i64 (feedR (acc ++ l)).2.2.length) ∧ w6 = w') := waits_any w1.heap.size _ _ w6 S6.out.st
        have S7 : Hid (FeedK w w1.heap.size (ls.take (k + 1)).flatten v4 v5 w6) := by rw [FT.out]; exact S6.out
        clear b6 SM S5 S6
        generalize (feedR (acc ++ l)).2.1 = DD at *
        generalize (feedR (acc ++ l)).2.2.length = LL at *
        go_wp2_with fail
        refine DR.out.mono ?_
        rintro e w7 ⟨rfl, rfl⟩
        go_wp2_with fail
        refine WT.out.mono ?_
        rintro e w7 ⟨rfl, rfl⟩
        go_wp2
        go_roundw
        case rel => exact ⟨k + 1, by have := HLT.out; omega, by go_num, S7.out⟩
        case measure => have := HLT.out; simp [intOf]; omega
      · have i1 : ¬ (k : Int) < (n : Int) := by omega
        have A1 := ACC.out k
        have q := feedR_len _ A1.2
        obtain ⟨acc, hacc⟩ : ∃ acc, acc = (ls.take k).flatten := ⟨_, rfl⟩
        rw [← hacc] at A1 q S1
        have DR : Hid (Calls Tryd.prog 51 #[.pointer (some ⟨w1.heap.size, 0, none⟩)] wr fun e w' => e = .returned (.int .i64 (feedR acc).2.1) ∧ wr = w') := dropped_any w1.heap.size _ _ wr S1.out.st
        have WT : Hid (Calls Tryd.prog 52 #[.pointer (some ⟨w1.heap.size, 0, none⟩)] wr fun e w' => e = .returned (.int .i64 (feedR acc).2.2.length) ∧ wr = w') := waits_any w1.heap.size _ _ wr S1.out.st
        obtain ⟨av5, cp5, h5⟩ := own_form S1.out.all
        subst h5
        have q1 := q.1
        have a1 := A1.1
        have BE : Hid (Below w.heap.size w wr) := S1.out.bel
        clear A1 q S1 hacc hlt
        generalize (feedR acc).2.1 = DD at *
        generalize (feedR acc).2.2.length = LL at *
        generalize acc.length = AA at *
        have wS : IntKind.i64.wrap ((DD : Int) + (LL : Int)) = (DD : Int) + (LL : Int) := wrapI _ (by omega) (by omega)
        have dS : (DD : Int) + (LL : Int) ≤ (AA : Int) := by omega
        go_wp2_with fail
        refine DR.out.mono ?_
        rintro e w7 ⟨rfl, rfl⟩
        go_wp2_with fail
        refine WT.out.mono ?_
        rintro e w7 ⟨rfl, rfl⟩
        go_wp2
        go_ret
        exact ⟨by first | rfl | simp, BE.out⟩
end Go.Proofs.YtplihbncmmggjaaDoor
