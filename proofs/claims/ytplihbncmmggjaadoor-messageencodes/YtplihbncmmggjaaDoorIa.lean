import Derived.Test.YtplihbncmmggjaaDoorGl
import Derived.Test.YtplihbncmmggjaaDoorKo
namespace Go.Proofs.YtplihbncmmggjaaDoor
set_option linter.unusedSimpArgs false
set_option linter.unusedVariables false
open Go.RowKit
/-- What is left of a reader holds bytes. -/
def YSt (st : Option (List Int)) : Prop := ∀ l, st = some l → Bytes l
theorem YSt.some {l : List Int} (h : Bytes l) : YSt (some l) := fun l' e => by cases e; exact h
theorem Bytes.left {a b : List Int} (h : Bytes (a ++ b)) : Bytes a := fun x hx => h x (List.mem_append_left _ hx)
theorem Bytes.right {a b : List Int} (h : Bytes (a ++ b)) : Bytes b := fun x hx => h x (List.mem_append_right _ hx)
theorem numB_valB : ∀ (k : Nat) (l : List Int), l.length = k → k ≤ 8 → Bytes l → numB (valB l) k = l
  | 0, l, hl, _, _ => by rw [List.eq_nil_of_length_eq_zero hl]; rfl
  | n + 1, l, hl, hn, hb => by
    have hne : l ≠ [] := fun e => by rw [e] at hl; simp at hl
    have hd := List.dropLast_concat_getLast hne
    have hlb : Bytes l.dropLast := fun x hx => hb x (List.dropLast_subset _ hx)
    have hll : l.dropLast.length = n := by simp [hl]
    have ih := numB_valB n l.dropLast hll (by omega) hlb
    have hx := hb _ (List.getLast_mem hne)
    have hv := valB_bound n l.dropLast hll (by omega) hlb
    have hp := pow256 n (by omega)
    generalize l.getLast hne = x at *
    generalize l.dropLast = L at *
    rw [← hd, valB_snoc, stepB_eq _ _ hv.1 (by omega) hx.1 hx.2, numB_succ]
    have e1 : (valB L * 256 + x) / 256 = valB L := by omega
    have e2 : (valB L * 256 + x) % 256 = x := by omega
    rw [e1, e2, ih]
theorem take_inv {st : Option (List Int)} {k : Nat} {l' : List Int} (h : takeSt st k = some l') : ∃ l, st = some l ∧ k ≤ l.length ∧ l' = l.drop k ∧ takeV st k = l.take k := by
  unfold takeSt at h
  cases st with
  | none => cases h
  | some l =>
    by_cases hk : k ≤ l.length
    · simp only [if_pos hk] at h
      refine ⟨l, rfl, hk, by injection h with h; exact h.symm, ?_⟩
      unfold takeV; simp only [if_pos hk]
    · simp only [if_neg hk] at h; cases h
theorem YSt.take {st : Option (List Int)} (hb : YSt st) (k : Nat) : YSt (takeSt st k) := fun l' h => by
  obtain ⟨l, e, _, e2, _⟩ := take_inv h
  rw [e2]
  exact fun x hx => hb l e x (List.drop_subset _ _ hx)
theorem rnum_inv {st : Option (List Int)} (hb : YSt st) (k : Nat) (z : Int) (hz : sizeB z = true) (hk : z.toNat = k) (h8 : k ≤ 8) {l' : List Int} (h : rnumSt st z = some l') : st = some (numB (rnumV st z) k ++ l') ∧ Bytes l' := by
  unfold rnumSt at h
  rw [if_pos hz, hk] at h
  obtain ⟨l, e, h1, h2, h3⟩ := take_inv h
  have hv : rnumV st z = valB (l.take k) := by unfold rnumV; rw [if_pos hz, hk, h3]
  have hl := hb l e
  rw [hv, numB_valB k (l.take k) (by simp; omega) h8 (fun x hx => hl x (List.take_subset _ _ hx)), e, h2, List.take_append_drop]
  exact ⟨rfl, fun x hx => hl x (List.drop_subset _ _ hx)⟩
theorem takeV_B {st : Option (List Int)} (hb : YSt st) (k : Nat) : Bytes (takeV st k) := by
  unfold takeV
  cases st with
  | none => exact fun x hx => by cases hx
  | some l =>
    simp only
    by_cases h : k ≤ l.length
    · rw [if_pos h]; exact fun x hx => hb l rfl x (List.take_subset _ _ hx)
    · rw [if_neg h]; exact fun x hx => by cases hx
theorem pow_mono (a k : Nat) (h : a ≤ k) : (256 : Int) ^ a ≤ 256 ^ k := by
  have := Nat.pow_le_pow_right (show 0 < 256 by omega) h
  have e : ∀ n : Nat, (256 : Int) ^ n = ((256 ^ n : Nat) : Int) := fun n => by simp
  rw [e, e]; omega
theorem rnum_bound {st : Option (List Int)} (hb : YSt st) (k : Nat) (z : Int) (hk : z.toNat = k) (h8 : k ≤ 8) : 0 ≤ rnumV st z ∧ rnumV st z < 256 ^ k := by
  unfold rnumV
  by_cases hz : sizeB z = true
  · rw [if_pos hz, hk]
    have hl := takeV_length st k
    have := valB_bound (takeV st k).length (takeV st k) rfl (by omega) (takeV_B hb k)
    have := pow_mono _ _ hl
    omega
  · rw [if_neg hz]
    exact ⟨by omega, Int.pow_pos (by omega)⟩
theorem num1B (v : Int) (h : 0 ≤ v ∧ v < 256 ^ 1) : numB v 1 = [v] := by
  rw [numB_succ]; show [] ++ [v % 256] = [v]
  have : v % 256 = v := by omega
  rw [this]; rfl
theorem tb_eq (v : Int) (h0 : 0 ≤ v) (h1 : ¬ 1 < v) : tb (v == 1) = v := by
  have : v = 0 ∨ v = 1 := by omega
  rcases this with rfl | rfl <;> rfl
theorem rtruth_inv {st : Option (List Int)} (hb : YSt st) {l' : List Int} (h : rtruthSt st = some l') : st = some ([tb (rtruthV st)] ++ l') ∧ Bytes l' := by
  unfold rtruthSt at h
  have bd := rnum_bound hb 1 1 rfl (by omega)
  by_cases h1 : 1 < rnumV st 1
  · rw [if_pos h1] at h; cases h
  · rw [if_neg h1] at h
    have q := rnum_inv hb 1 1 rfl rfl (by omega) h
    unfold rtruthV
    rw [tb_eq _ bd.1 h1]
    rw [num1B _ bd] at q
    exact q
theorem hash_inv {st : Option (List Int)} {l' : List Int} (h : takeSt st 32 = some l') : st = some (rhashV st ++ l') := by
  obtain ⟨l, e, h1, h2, h3⟩ := take_inv h
  have hl : (l.take 32).length = 32 := by simp; omega
  have hv : rhashV st = l.take 32 := by unfold rhashV; rw [h3, if_pos hl]
  rw [hv, h2, List.take_append_drop, e]
theorem rhash_len (st : Option (List Int)) : (rhashV st).length = 32 := by
  unfold rhashV
  by_cases h : (takeV st 32).length = 32
  · rw [if_pos h]; exact h
  · rw [if_neg h]; simp [zs]
theorem rhash_bytes {st : Option (List Int)} (hb : YSt st) : Bytes (rhashV st) := by
  unfold rhashV
  by_cases h : (takeV st 32).length = 32
  · rw [if_pos h]; exact takeV_B hb 32
  · rw [if_neg h]; exact zs_bytes 32
theorem YSt.num {st : Option (List Int)} (hb : YSt st) (z : Int) : YSt (rnumSt st z) := by
  unfold rnumSt
  by_cases h : sizeB z = true
  · rw [if_pos h]; exact hb.take _
  · rw [if_neg h]; exact fun _ e => by cases e
theorem YSt.truth {st : Option (List Int)} (hb : YSt st) : YSt (rtruthSt st) := by
  unfold rtruthSt
  by_cases h : 1 < rnumV st 1
  · rw [if_pos h]; exact fun _ e => by cases e
  · rw [if_neg h]; exact hb.num 1
theorem text_inv {st : Option (List Int)} (hb : YSt st) {l' : List Int} (h : rtextSt st = some l') : st = some (numB (rtextV st).length 2 ++ (rtextV st ++ l')) ∧ Bytes (rtextV st) := by
  unfold rtextSt at h
  obtain ⟨l, e, h1, h2, h3⟩ := take_inv h
  have q := rnum_inv hb 2 2 rfl rfl (by omega) e
  have bd := rnum_bound hb 2 2 rfl (by omega)
  have hv : rtextV st = l.take (rnumV st 2).toNat := by unfold rtextV; exact h3
  have hn : ((l.take (rnumV st 2).toNat).length : Int) = rnumV st 2 := by simp; omega
  rw [hv, h2, List.take_append_drop, hn]
  exact ⟨q.1, fun x hx => q.2 x (List.take_subset _ _ hx)⟩
-- what was written is read
theorem takeSt_app (a r : List Int) (k : Nat) (h : a.length = k) : takeSt (some (a ++ r)) k = some r ∧ takeV (some (a ++ r)) k = a := by
  subst h
  unfold takeSt takeV
  have : a.length ≤ (a ++ r).length := by simp
  simp only [if_pos this]
  rw [List.drop_left' rfl, List.take_left' rfl]
  exact ⟨rfl, rfl⟩
theorem rnum_app (n : Int) (k : Nat) (z : Int) (hz : sizeB z = true) (hk : z.toNat = k) (h8 : k ≤ 8) (r : List Int) (h0 : 0 ≤ n) (h1 : n < 256 ^ k) : rnumSt (some (numB n k ++ r)) z = some r ∧ rnumV (some (numB n k ++ r)) z = n := by
  obtain ⟨q1, q2⟩ := takeSt_app (numB n k) r k (numB_length _ _)
  unfold rnumSt rnumV
  rw [if_pos hz, if_pos hz, hk, q1, q2, valB_numB k n h8 h0 h1]
  exact ⟨rfl, rfl⟩
theorem rtruth_app (b : Bool) (r : List Int) : rtruthSt (some ([tb b] ++ r)) = some r ∧ rtruthV (some ([tb b] ++ r)) = b := by
  have hb : 0 ≤ tb b ∧ tb b ≤ 1 := by cases b <;> simp [tb]
  have e : [tb b] = numB (tb b) 1 := (num1B _ (by omega)).symm
  obtain ⟨q1, q2⟩ := rnum_app (tb b) 1 1 rfl rfl (by omega) r (by omega) (by omega)
  unfold rtruthSt rtruthV
  rw [e, q1, q2, if_neg (by omega)]
  exact ⟨rfl, by cases b <;> rfl⟩
theorem hash_app (h r : List Int) (hl : h.length = 32) : takeSt (some (h ++ r)) 32 = some r ∧ rhashV (some (h ++ r)) = h := by
  obtain ⟨q1, q2⟩ := takeSt_app h r 32 hl
  unfold rhashV
  rw [q1, q2, if_pos hl]
  exact ⟨rfl, rfl⟩
theorem text_app (t r : List Int) (hl : t.length ≤ 500) : rtextSt (some (numB t.length 2 ++ (t ++ r))) = some r ∧ rtextV (some (numB t.length 2 ++ (t ++ r))) = t := by
  obtain ⟨q1, q2⟩ := rnum_app (t.length : Int) 2 2 rfl rfl (by omega) (t ++ r) (by omega) (by omega)
  unfold rtextSt rtextV
  rw [q1, q2]
  exact takeSt_app t r _ (by omega)
-- readOwn, plain
def rownS (st : Option (List Int)) (m : Msg) : Option (List Int) :=
  if m.kind = 1 then rtextSt (takeSt (rtruthSt (rtruthSt (rnumSt st 4))) 32)
  else if m.kind = 2 then (if rtruthV st = true then takeSt (takeSt (rtruthSt st) 32) 32 else rnumSt (rtruthSt st) 1)
  else if m.kind = 3 ∨ m.kind = 6 then rtruthSt st else st
def rownM (st : Option (List Int)) (m : Msg) : Msg :=
  if m.kind = 1 then { m with base := rnumV st 4, quiet := rtruthV (rnumSt st 4), ext := rtruthV (rtruthSt (rnumSt st 4)), hash := rhashV (rtruthSt (rtruthSt (rnumSt st 4))), s := strOfNums (rtextV (takeSt (rtruthSt (rtruthSt (rnumSt st 4))) 32)) }
  else if m.kind = 2 then (if rtruthV st = true then { m with yes := true, vh := rhashV (rtruthSt st), vr := rhashV (takeSt (rtruthSt st) 32) } else { m with yes := false, code := rnumV (rtruthSt st) 1 })
  else if m.kind = 3 ∨ m.kind = 6 then { m with commit := rtruthV st } else m
theorem own_sound (m : Msg) (st : Option (List Int)) (hb : YSt st) (l' : List Int) (h : rownS st m = some l') : st = some (ownB (rownM st m) ++ l') := by
  unfold rownS at h
  unfold rownM ownB
  by_cases k1 : m.kind = 1
  · simp only [if_pos k1] at h ⊢
    have b1 := hb.num 4
    have b2 := b1.truth
    have b3 := b2.truth
    have b4 := b3.take 32
    obtain ⟨e5, t5⟩ := text_inv b4 h
    have e4 := hash_inv e5
    obtain ⟨e3, _⟩ := rtruth_inv b2 e4
    obtain ⟨e2, _⟩ := rtruth_inv b1 e3
    obtain ⟨e1, _⟩ := rnum_inv hb 4 4 rfl rfl (by omega) e2
    rw [strOfNums_size, nB_str _ t5]
    generalize rtextV (takeSt (rtruthSt (rtruthSt (rnumSt st 4))) 32) = T at *
    generalize rhashV (rtruthSt (rtruthSt (rnumSt st 4))) = H at *
    generalize rtruthV (rtruthSt (rnumSt st 4)) = E at *
    generalize rtruthV (rnumSt st 4) = Q at *
    generalize rnumV st 4 = B at *
    rw [e1]; simp only [List.append_assoc]
  · simp only [if_neg k1] at h ⊢
    by_cases k2 : m.kind = 2
    · simp only [if_pos k2] at h ⊢
      cases hy : rtruthV st with
      | true =>
        rw [hy] at h
        simp only [if_true] at h ⊢
        have e3 := hash_inv h
        have e2 := hash_inv e3
        obtain ⟨e1, _⟩ := rtruth_inv hb e2
        rw [hy] at e1
        simp only [if_neg k1, if_pos k2, if_true]
        refine e1.trans ?_; simp only [List.append_assoc, tb, if_true]
      | false =>
        rw [hy] at h
        simp only [Bool.false_eq_true, if_false] at h ⊢
        obtain ⟨e2, _⟩ := rnum_inv hb.truth 1 1 rfl rfl (by omega) h
        rw [num1B _ (rnum_bound hb.truth 1 1 rfl (by omega))] at e2
        obtain ⟨e1, _⟩ := rtruth_inv hb e2
        rw [hy] at e1
        simp only [if_neg k1, if_pos k2, Bool.false_eq_true, if_false]
        refine e1.trans ?_; simp only [List.append_assoc, tb, Bool.false_eq_true, if_false]
    · simp only [if_neg k2] at h ⊢
      by_cases k3 : m.kind = 3 ∨ m.kind = 6
      · simp only [if_pos k3] at h ⊢
        obtain ⟨e1, _⟩ := rtruth_inv hb h
        simp only [if_neg k1, if_neg k2, if_pos k3]
        exact e1
      · simp only [if_neg k3] at h ⊢
        simp only [if_neg k1, if_neg k2, if_neg k3]
        exact h
theorem own_complete (m m0 : Msg) (hm : m.Ok) (hf : formB m = true) (h0 : m0 = own0 m) : rownS (some (ownB m)) m0 = some [] ∧ rownM (some (ownB m)) m0 = m := by
  obtain ⟨_, _, _, _, _, _, eo, ei⟩ := form_all hf
  have hk : m0.kind = m.kind := by rw [h0]; rfl
  unfold rownS rownM
  rw [hk]
  unfold inB at ei
  have e : ownB m = ownB m ++ [] := (List.append_nil _).symm
  suffices hs : ∀ M, ofKind m = M → (rownS (some (ownB m)) m0 = some [] ∧ rownM (some (ownB m)) m0 = M) by
    have := hs _ rfl
    rw [← eo] at this
    unfold rownS rownM at this
    rw [hk] at this
    exact this
  intro M hM
  unfold rownS rownM
  rw [hk]
  subst hM
  unfold ofKind ownB
  by_cases k1 : m.kind = 1
  · simp only [if_pos k1] at ei ⊢
    have ei := of_decide_eq_true ei
    have sz : (nB m.s).length = m.s.size := nB_length _
    obtain ⟨p1, q1⟩ := rnum_app m.base 4 4 rfl rfl (by omega) ([tb m.quiet] ++ ([tb m.ext] ++ (m.hash ++ (numB m.s.size 2 ++ nB m.s)))) hm.b.1 (by have := ei.1; omega)
    obtain ⟨p2, q2⟩ := rtruth_app m.quiet ([tb m.ext] ++ (m.hash ++ (numB m.s.size 2 ++ nB m.s)))
    obtain ⟨p3, q3⟩ := rtruth_app m.ext (m.hash ++ (numB m.s.size 2 ++ nB m.s))
    obtain ⟨p4, q4⟩ := hash_app m.hash (numB m.s.size 2 ++ nB m.s) hm.h
    obtain ⟨p5, q5⟩ := text_app (nB m.s) [] (by rw [sz]; exact ei.2)
    rw [sz, List.append_nil] at p5 q5
    rw [p1, p2, p3, p4, p5, q1, q2, q3, q4, q5, str_nB, h0]
    exact ⟨rfl, rfl⟩
  · simp only [if_neg k1] at ei ⊢
    by_cases k2 : m.kind = 2
    · simp only [if_pos k2] at ei ⊢
      cases hy : m.yes with
      | true =>
        simp only [if_true]
        obtain ⟨p1, q1⟩ := rtruth_app true (m.vh ++ m.vr)
        obtain ⟨p2, q2⟩ := hash_app m.vh m.vr hm.v
        obtain ⟨p3, q3⟩ := hash_app m.vr [] hm.r
        rw [List.append_nil] at p3 q3
        rw [show ([1] : List Int) = [tb true] from rfl, p1, q1]
        simp only [if_true]
        rw [p2, q2, p3, q3, h0]
        exact ⟨rfl, rfl⟩
      | false =>
        rw [hy] at ei
        have ei : 1 ≤ m.code ∧ m.code ≤ 17 := by simpa using ei
        simp only [Bool.false_eq_true, if_false]
        obtain ⟨p1, q1⟩ := rtruth_app false [m.code]
        obtain ⟨p2, q2⟩ := rnum_app m.code 1 1 rfl rfl (by omega) [] (by omega) (by omega)
        rw [num1B m.code (by omega), List.append_nil] at p2 q2
        rw [show ([0] : List Int) = [tb false] from rfl, p1, q1]
        simp only [Bool.false_eq_true, if_false]
        rw [p2, q2, h0]
        exact ⟨rfl, rfl⟩
    · simp only [if_neg k2] at ei ⊢
      by_cases k3 : m.kind = 3 ∨ m.kind = 6
      · simp only [if_pos k3]
        obtain ⟨p1, q1⟩ := rtruth_app m.commit []
        rw [List.append_nil] at p1 q1
        rw [p1, q1, h0]
        exact ⟨rfl, rfl⟩
      · simp only [if_neg k3]
        exact ⟨trivial, h0⟩
/-- The four fields ahead. -/
def headM (t : Int) (l : List Int) : Msg := ⟨t, rnumV (some l) 1, rnumV (rnumSt (some l) 1) 1, rnumV (rnumSt (rnumSt (some l) 1) 1) 4, 0, ⟨#[]⟩, false, false, zs 32, false, 0, zs 32, zs 32, false⟩
def headS (l : List Int) : Option (List Int) := rnumSt (rnumSt (rnumSt (some l) 1) 1) 4
def ofS (t : Int) (l : List Int) : Option (List Int) := rownS (headS l) (headM t l)
def ofM (t : Int) (l : List Int) : Msg := rownM (headS l) (headM t l)
theorem rownM_head (st : Option (List Int)) (m : Msg) : (rownM st m).kind = m.kind ∧ (rownM st m).frm = m.frm ∧ (rownM st m).to = m.to ∧ (rownM st m).id = m.id := by
  unfold rownM
  by_cases k1 : m.kind = 1
  · rw [if_pos k1]; exact ⟨rfl, rfl, rfl, rfl⟩
  · rw [if_neg k1]
    by_cases k2 : m.kind = 2
    · rw [if_pos k2]
      by_cases hy : rtruthV st = true
      · rw [if_pos hy]; exact ⟨rfl, rfl, rfl, rfl⟩
      · rw [if_neg hy]; exact ⟨rfl, rfl, rfl, rfl⟩
    · rw [if_neg k2]
      by_cases k3 : m.kind = 3 ∨ m.kind = 6
      · rw [if_pos k3]; exact ⟨rfl, rfl, rfl, rfl⟩
      · rw [if_neg k3]; exact ⟨rfl, rfl, rfl, rfl⟩
/-- What was read to the end is what stands there. -/
theorem of_sound (t : Int) (l : List Int) (hb : Bytes l) (h : ofS t l = some []) : bodyB (ofM t l) = l := by
  have b0 := YSt.some hb
  have e4 := own_sound (headM t l) (headS l) (((b0.num 1).num 1).num 4) [] h
  rw [List.append_nil] at e4
  obtain ⟨e3, _⟩ := rnum_inv ((b0.num 1).num 1) 4 4 rfl rfl (by omega) e4
  obtain ⟨e2, _⟩ := rnum_inv (b0.num 1) 1 1 rfl rfl (by omega) e3
  obtain ⟨e1, _⟩ := rnum_inv b0 1 1 rfl rfl (by omega) e2
  rw [num1B _ (rnum_bound (b0.num 1) 1 1 rfl (by omega))] at e1
  rw [num1B _ (rnum_bound b0 1 1 rfl (by omega))] at e1
  obtain ⟨_, h2, h3, h4⟩ := rownM_head (headS l) (headM t l)
  injection e1 with e1
  unfold bodyB ofM
  rw [h2, h3, h4]
  exact e1.symm
theorem of_complete (m : Msg) (hm : m.Ok) (hf : formB m = true) : ofS m.kind (bodyB m) = some [] ∧ ofM m.kind (bodyB m) = m := by
  obtain ⟨f1, f2, f3, f4, f5, f6, f7, f8⟩ := form_all hf
  obtain ⟨p1, q1⟩ := rnum_app m.frm 1 1 rfl rfl (by omega) ([m.to] ++ (numB m.id 4 ++ ownB m)) (by omega) (by omega)
  obtain ⟨p2, q2⟩ := rnum_app m.to 1 1 rfl rfl (by omega) (numB m.id 4 ++ ownB m) (by omega) (by omega)
  obtain ⟨p3, q3⟩ := rnum_app m.id 4 4 rfl rfl (by omega) (ownB m) (by omega) (by omega)
  rw [num1B m.frm (by omega)] at p1 q1
  rw [num1B m.to (by omega)] at p2 q2
  have hs : headS (bodyB m) = some (ownB m) := by unfold headS bodyB; rw [p1, p2, p3]
  have hh : headM m.kind (bodyB m) = own0 m := by unfold headM own0 bodyB; rw [p1, p2, q1, q2, q3]
  unfold ofS ofM
  rw [hs]
  exact own_complete m _ hm hf hh
/-- What Of answers. -/
def ofR (t : Int) (l : List Int) : Msg := if ofS t l = some [] ∧ formB (ofM t l) = true then ofM t l else msg0
def ofC (t : Int) (l : List Int) : Int := if ofS t l = some [] ∧ formB (ofM t l) = true then 0 else 2
end Go.Proofs.YtplihbncmmggjaaDoor
