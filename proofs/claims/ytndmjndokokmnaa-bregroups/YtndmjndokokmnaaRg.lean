import Derived.Test.YtndmjndokokmnaaRf
namespace Go.Proofs.Ytndmjndokokmnaa
set_option linter.unusedSimpArgs false
set_option linter.unusedVariables false
open Go.RowKit
open Go.Deep
theorem indexByte_in (l : List UInt8) (c : UInt8) : decide (0 ≤ Lib.indexByte l c) = l.contains c := by
  induction l with
  | nil => rfl
  | cons b t ih =>
    have hge := Lib.indexByte_ge t c
    unfold Lib.indexByte
    by_cases h : b = c
    · subst h; simp
    · have h1 : (b == c) = false := by simpa using h
      have h2 : (c == b) = false := by rw [beq_eq_false_iff_ne]; exact fun q => h q.symm
      rw [h1]
      simp only [Bool.false_eq_true, if_false, List.contains_cons, h2, Bool.false_or]
      rw [← ih]
      by_cases h3 : Lib.indexByte t c = -1
      · rw [if_pos (by rw [h3]; rfl), h3]
      · rw [if_neg (by simpa using h3)]
        rw [Bool.eq_iff_iff]; simp only [decide_eq_true_eq]; omega
/-- A leaf handed back behind so many bytes: the call of 'past', and the store of what it hands back. -/
theorem past_of (g k n : Nat) (l r : List UInt8) (h : Hd) (w : World) (hr : RG w g l k) (hn : n ≤ l.length) (hd : l.drop n = r) (hl : l.length ≤ 4000000) :
    Calls Try.prog 121 #[.pointer (some ⟨g, 0, none⟩), .int .i64 (n : Int), vN h (.slice none 0 0)] w fun e w' => e = .returned (.tuple #[vN h (.slice none 0 0), .bool true]) ∧ RG w' g r k ∧ w.grownBy w' (some g) := by
  have := past_any g k n l h w hr hn hl
  rw [hd] at this; exact this
theorem at0 (s : ByteArray) (c : UInt8) (t : List UInt8) (h : s.data.toList = c :: t) : 0 < s.size ∧ ∀ q, s[0]'q = c := by
  have := byte0 s c t h
  exact ⟨this.1, fun q => (this.2 q).1⟩
theorem at1 (s : ByteArray) (c d : UInt8) (t : List UInt8) (h : s.data.toList = c :: d :: t) : 1 < s.size ∧ ∀ q, s[1]'q = d := by
  have hz : s.size = t.length + 2 := by rw [Lib.size_eq, h]; rfl
  refine ⟨by omega, fun q => ?_⟩
  have e : s[1]'q = s.data.toList[1]'(by rw [h]; simp) := by simp [ByteArray.getElem_eq_getElem_data]
  rw [e]; simp [h]
set_option maxHeartbeats 4000000 in
set_option maxRecDepth 100000 in
theorem pair_short (S : Nat → Prop) (g k : Nat) (l : List UInt8) (c : UInt8) (hlt : l = [c]) (w : World) (hr : RG w g l k) : Calls Try.prog 119 #[.pointer (some ⟨g, 0, none⟩)] w (TreO S (.error l) w g) := by
  have HR : Hid (RG w g l k) := hr
  obtain ⟨s, hc, hs, hc1, hf, hf1, hg⟩ := hr
  have Y0 : Hid (BoxN 55 (w.alloc (.cells (cN hd0 (.slice none 0 0)).toArray 55)) w.heap.size hd0 (.slice none 0 0)) := BoxN.new 55 w hd0 (.slice none 0 0)
  have B0 : Hid (Below w.heap.size w (w.alloc (.cells (cN hd0 (.slice none 0 0)).toArray 55))) := (Below.refl _ _).alloc (Nat.le_refl _) _
  have hz : (s.size : Int) < 2 := by rw [Lib.size_eq, hs, hlt]; simp
  go_enter Try.func119, Try.ntmps119
  go_wp2_with (refine storeB55 rfl _ _ rfl w.heap.size rfl hd0 (.slice none 0 0) rfl rfl hd0 _ Y0.out ?_)
  exact bodyPost_ret (v := .tuple #[vN hd0 (.slice none 0 0), .bool false]) (res55b 2 3 Try.results119 _ _ w.heap.size _ _ _ rfl rfl (BoxN.row Y0.out _ _)) rfl ⟨k, rfl, (HR.out.alloc _).row _ _ (by omega), grown_row (grown_below B0.out _) (Nat.le_refl _) _⟩
/-- A part that the reader's function hands back as another one did, and its memory. -/
structure Sub (R : Except (List UInt8) (T × Nat × List UInt8)) (w : World) (g : Nat) (h : Hd) (u : Value) (ok : Bool) (W : World) : Prop where
  res : match R with
    | .error r => h = Hd.of 0 ∧ u = .slice none 0 0 ∧ ok = false ∧ ∃ k', RG W g r k'
    | .ok (t, k', r) => h = t.hd ∧ ok = true ∧ SV (fun b => w.heap.size < b) W u t.kids ∧ RG W g r k'
  gr : w.grownBy W (some g)
  one : u.oneCell' = true
  box : BoxN 55 W w.heap.size hd0 (.slice none 0 0)
theorem sub_of {R : Except (List UInt8) (T × Nat × List UInt8)} {w : World} {g : Nat} (hg : g < w.heap.size) {e : Ending} {W : World} (h : TreO (fun b => (w.alloc (.cells (cN hd0 (.slice none 0 0)).toArray 55)).heap.size ≤ b) R (w.alloc (.cells (cN hd0 (.slice none 0 0)).toArray 55)) g e W) : ∃ h' u ok, e = .returned (.tuple #[vN h' u, .bool ok]) ∧ Sub R w g h' u ok W := by
  have hz : (w.alloc (.cells (cN hd0 (.slice none 0 0)).toArray 55)).heap.size = w.heap.size + 1 := by simp
  have hb : BoxN 55 (w.alloc (.cells (cN hd0 (.slice none 0 0)).toArray 55)) w.heap.size hd0 (.slice none 0 0) := BoxN.new 55 w _ _
  have hgr : w.grownBy (w.alloc (.cells (cN hd0 (.slice none 0 0)).toArray 55)) (some g) := grown_more (grown_refl7 _ _) _
  cases R with
  | error r =>
    obtain ⟨k', rfl, h1, h2⟩ := h
    exact ⟨_, _, _, rfl, ⟨rfl, rfl, rfl, k', h1⟩, grown_trans hgr h2, rfl, hb.blk (h2.block _ (by omega) (by intro q; injection q with q; omega))⟩
  | ok x =>
    obtain ⟨t, k', r⟩ := x
    obtain ⟨u, rfl, h0, h1, h2⟩ := h
    rw [hz] at h0
    exact ⟨_, _, _, rfl, ⟨rfl, rfl, h0.weak fun b q _ => (by omega), h1⟩, grown_trans hgr h2, h0.one, hb.blk (h2.block _ (by omega) (by intro q; injection q with q; omega))⟩
theorem Sub.fin {R : Except (List UInt8) (T × Nat × List UInt8)} {w : World} {g : Nat} {h : Hd} {u : Value} {ok : Bool} {W : World} (k : Sub R w g h u ok W) (hg : g < w.heap.size) : TreO (fun b => w.heap.size ≤ b) R w g (.returned (.tuple #[vN h u, .bool ok])) (W.setRow w.heap.size (cN h u).toArray) := by
  obtain ⟨h1, h2, h3, h4⟩ := k
  cases R with
  | error r =>
    obtain ⟨rfl, rfl, rfl, k', h5⟩ := h1
    exact ⟨k', rfl, h5.row _ _ (by omega), grown_row h2 (Nat.le_refl _) _⟩
  | ok x =>
    obtain ⟨t, k', r⟩ := x
    obtain ⟨rfl, rfl, h5, h6⟩ := h1
    exact ⟨u, rfl, h5.keep (by simp [World.setRow]) fun b q _ => ⟨by omega, setRow_other _ _ _ _ (by omega)⟩, h6.row _ _ (by omega), grown_row h2 (Nat.le_refl _) _⟩
/-- What past hands back, as a part. -/
theorem past_sub (g k n : Nat) (l r : List UInt8) (h : Hd) (w : World) (hr : RG w g l k) (hn : n ≤ l.length) (hd : l.drop n = r) (hl : l.length ≤ 4000000) :
    Calls Try.prog 121 #[.pointer (some ⟨g, 0, none⟩), .int .i64 (n : Int), vN h (.slice none 0 0)] (w.alloc (.cells (cN hd0 (.slice none 0 0)).toArray 55)) fun e w' => ∃ h' u ok, e = .returned (.tuple #[vN h' u, .bool ok]) ∧ Sub (.ok (.mk h [], k, r)) w g h' u ok w' := by
  refine (past_of g k n l r h _ (hr.alloc _) hn hd hl).mono ?_
  rintro e w' ⟨rfl, h1, h2⟩
  exact sub_of hr.lt ⟨_, rfl, SV.nil _ _, h1, h2⟩
end Go.Proofs.Ytndmjndokokmnaa
