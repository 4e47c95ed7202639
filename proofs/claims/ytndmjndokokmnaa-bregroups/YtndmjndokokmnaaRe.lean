import Derived.Test.YtndmjndokokmnaaRd
namespace Go.Proofs.Ytndmjndokokmnaa
set_option linter.unusedSimpArgs false
set_option linter.unusedVariables false
open Go.RowKit
open Go.Deep
theorem byteA_suf {e l : List UInt8} {c : UInt8} {t : List UInt8} (h : byteA e l = some (c, t)) : t <:+ l := by
  unfold byteA at h
  split at h
  · cases h
  · split at h
    · cases h
    · split at h
      · simp only [Option.some.injEq, Prod.mk.injEq] at h
        rw [← h.2]; exact (List.drop_suffix _ _).trans (List.suffix_cons _ _)
      · cases h
theorem singleP_suf {l : List UInt8} {c : UInt8} {t : List UInt8} (h : singleP l = some (c, t)) : t <:+ l := by
  unfold singleP at h
  split at h
  · exact (byteA_suf h).trans (List.drop_suffix _ _)
  · split at h
    · simp only [Option.some.injEq, Prod.mk.injEq] at h
      rw [← h.2]; exact List.drop_suffix _ _
    · exact byteA_suf h
theorem signP_suf {l : List UInt8} {c : UInt8} {t : List UInt8} (h : signP l = some (c, t)) : t <:+ l := by
  unfold signP at h
  split at h
  · cases h
  · exact singleP_suf h
theorem cut_suf (l p : List UInt8) : (Lib.cut l p).2.1 <:+ l := by
  unfold Lib.cut
  split
  · exact List.drop_suffix _ _
  · exact List.nil_suffix
theorem tailP_suf {f : UInt8} {l : List UInt8} {m : S4} {t : List UInt8} (h : tailP f l = some (m, t)) : t <:+ l := by
  unfold tailP at h
  split at h
  · simp only [Option.some.injEq, Prod.mk.injEq] at h
    rw [h.2]; exact List.suffix_refl _
  · split at h
    · cases h
    · rename_i g t2 hs
      split at h
      · cases h
      · simp only [Option.some.injEq, Prod.mk.injEq] at h
        rw [← h.2]; exact (signP_suf hs).trans (List.drop_suffix _ _)
theorem memberP_suf {l : List UInt8} {m : S4} {t : List UInt8} (h : memberP l = some (m, t)) : t <:+ l := by
  unfold memberP at h
  split at h
  · cases hb : byteA [61, 93] (l.drop 2) with
    | none => rw [hb] at h; cases h
    | some x =>
      rw [hb] at h
      simp only [Option.map_some, Option.some.injEq, Prod.mk.injEq] at h
      rw [← h.2]; exact (byteA_suf (c := x.1) (t := x.2) hb).trans (List.drop_suffix _ _)
  · split at h
    · unfold classP at h
      split at h
      · cases hc : classS (Lib.cut (l.drop 2) [58, 93]).1 with
        | none => rw [hc] at h; cases h
        | some x =>
          rw [hc] at h
          simp only [Option.map_some, Option.some.injEq, Prod.mk.injEq] at h
          rw [← h.2]; exact (cut_suf _ _).trans (List.drop_suffix _ _)
      · cases h
    · split at h
      · cases h
      · rename_i f t' hs
        exact (tailP_suf h).trans (signP_suf hs)
theorem members_suf : ∀ (n : Nat) (first : Bool) (acc : S4) (l : List UInt8) (s : S4) (t : List UInt8), membersP n first acc l = some (s, t) → t <:+ l
  | 0, _, _, _, _, _, h => by simp [membersP] at h
  | n + 1, first, acc, l, s, t, h => by
    unfold membersP at h
    split at h
    · simp only [Option.some.injEq, Prod.mk.injEq] at h
      rw [← h.2]; exact List.drop_suffix _ _
    · split at h
      · cases h
      · rename_i m t' hm
        exact (members_suf n _ _ _ _ _ h).trans (memberP_suf hm)
theorem expr_suf {l : List UInt8} {s : S4} {t : List UInt8} (h : exprP l = some (s, t)) : t <:+ l := by
  rw [exprP_eq] at h
  split at h
  · obtain ⟨x, hx, hq⟩ := Option.map_eq_some_iff.1 h
    simp only [Prod.mk.injEq] at hq
    rw [← hq.2]; exact (members_suf _ _ _ _ _ _ (show membersP _ _ _ _ = some (x.1, x.2) from hx)).trans (List.drop_suffix _ _)
  · exact members_suf _ _ _ _ _ _ h
theorem suf_drop {l t : List UInt8} (h : t <:+ l) : l.drop (l.length - t.length) = t := by
  obtain ⟨p, rfl⟩ := h
  rw [List.length_append, show p.length + t.length - t.length = p.length by omega, List.drop_left]
set_option maxHeartbeats 2000000 in
set_option maxRecDepth 100000 in
theorem bracket_any120 (S : Nat → Prop) (g k : Nat) (l t : List UInt8) (hlt : l = 91 :: t) (w : World) (hr : RG w g l k) (hl : l.length ≤ 4000000) (hM : MaxL w) :
    Calls Try.prog 120 #[.pointer (some ⟨g, 0, none⟩)] w (TreO S (match exprP t with
      | none => .error l
      | some (m, t') => .ok (.mk (hIn m) [], k, t')) w g) := by
  have HR : Hid (RG w g l k) := hr
  obtain ⟨s, hc, hs, hc1, hf, hf1, hg⟩ := hr
  have PR : ∀ W, MaxL W → Calls Try.prog 27 #[.string s, .int .i64 0] W (ParO l 0 W) := fun W hW => by
    have := parse_any s 0 W hW (by rw [Lib.size_eq, hs]; exact hl) (by omega)
    rw [hs] at this; exact this
  have hP : parseP l 0 = match exprP t with | none => (S4.zero, 0, 10) | some (m, t') => (m, (l.length : Int) - t'.length, 0) := by
    unfold parseP
    rw [if_neg (by rw [hlt]; simp), hlt]; rfl
  obtain ⟨R, hR⟩ : ∃ R : Except (List UInt8) (T × Nat × List UInt8), R = (match exprP t with
      | none => .error l
      | some (m, t') => .ok (.mk (hIn m) [], k, t')) := ⟨_, rfl⟩
  rw [← hR]
  have Y0 : Hid (BoxN 55 (w.alloc (.cells (cN hd0 (.slice none 0 0)).toArray 55)) w.heap.size hd0 (.slice none 0 0)) := BoxN.new 55 w hd0 (.slice none 0 0)
  have B0 : Hid (Below w.heap.size w (w.alloc (.cells (cN hd0 (.slice none 0 0)).toArray 55))) := (Below.refl _ _).alloc (Nat.le_refl _) _
  have M0 : Hid (MaxL (w.alloc (.cells (cN hd0 (.slice none 0 0)).toArray 55))) := hM.alloc _
  cases he : exprP t with
  | none =>
    rw [he] at hP hR
    have HE : Hid (R = .error l) := hR
    have PA : Hid (∀ W, MaxL W → Calls Try.prog 27 #[.string s, .int .i64 0] W fun e w' => ∃ x0 x1 x2 x3 : Int, e = .returned (.tuple #[.agg #[.int .u64 x0, .int .u64 x1, .int .u64 x2, .int .u64 x3], .int .i64 0, .int .i64 10]) ∧ Below W.heap.size W w') := fun W hW => (PR W hW).mono fun e w' ⟨x0, x1, x2, x3, h1, h2, h3⟩ => ⟨x0, x1, x2, x3, by rw [h1, hP], h3⟩
    clear PR hP hR he hM hl hs hlt
    go_enter Try.func120, Try.ntmps120
    go_wp2_with fail
    refine (PA.out _ M0.out).mono ?_
    rintro e w2 ⟨x0, x1, x2, x3, rfl, b2⟩
    have B2 : Hid (Below w.heap.size w w2) := B0.out.trans (b2.mono B0.out.size)
    have Y3 : Hid (BoxN 55 (w2.alloc (.cells #[.int .u64 x0, .int .u64 x1, .int .u64 x2, .int .u64 x3] 26)) w.heap.size hd0 (.slice none 0 0)) := (Y0.out.below b2 Y0.out.lt).blk (Below.heap_alloc _ _ _ (Y0.out.below b2 Y0.out.lt).lt)
    have hz2 : w.heap.size ≤ w2.heap.size := B2.out.size
    clear b2 PA Y0 B0 M0
    go_wp2_with (refine storeB55 rfl _ _ rfl w.heap.size rfl hd0 (.slice none 0 0) rfl rfl hd0 _ Y3.out ?_)
    exact bodyPost_ret (v := .tuple #[vN hd0 (.slice none 0 0), .bool false]) (res55b 2 3 Try.results120 _ _ w.heap.size _ _ _ rfl rfl (BoxN.row Y3.out _ _)) rfl (by rw [HE.out]; exact ⟨k, rfl, ((HR.out.below B2.out hg).alloc _).row _ _ (by omega), grown_row (grown_more (grown_below B2.out _) _) (Nat.le_refl _) _⟩)
  | some x =>
    obtain ⟨m, t'⟩ := x
    rw [he] at hP hR
    have HE : Hid (R = .ok (.mk (hIn m) [], k, t')) := hR
    have hsuf : t' <:+ l := by rw [hlt]; exact (expr_suf he).trans (List.suffix_cons _ _)
    have hle : t'.length ≤ l.length := hsuf.length_le
    obtain ⟨n, hn⟩ : ∃ n : Nat, n = l.length - t'.length := ⟨_, rfl⟩
    have hdr : l.drop n = t' := by rw [hn]; exact suf_drop hsuf
    have PA : Hid (∀ W, MaxL W → Calls Try.prog 27 #[.string s, .int .i64 0] W fun e w' => e = .returned (.tuple #[.agg #[.int .u64 (m.a.toNat : Int), .int .u64 (m.b.toNat : Int), .int .u64 (m.c.toNat : Int), .int .u64 (m.d.toNat : Int)], .int .i64 (n : Int), .int .i64 0]) ∧ Below W.heap.size W w') := fun W hW => (PR W hW).mono fun e w' ⟨x0, x1, x2, x3, h1, h2, h3⟩ => by
      rw [hP] at h2
      obtain ⟨rfl, rfl, rfl, rfl⟩ := h2
      refine ⟨?_, h3⟩
      rw [h1, hP]
      show Ending.returned (.tuple #[_, .int .i64 ((l.length : Int) - t'.length), .int .i64 0]) = _
      rw [show (l.length : Int) - t'.length = (n : Int) by omega]
    have PS : Hid (∀ W, RG W g l k → Calls Try.prog 121 #[.pointer (some ⟨g, 0, none⟩), .int .i64 (n : Int), .agg #[.int .i64 3, .int .u8 0, .int .u64 (m.a.toNat : Int), .int .u64 (m.b.toNat : Int), .int .u64 (m.c.toNat : Int), .int .u64 (m.d.toNat : Int), .int .i64 0, .int .i64 0, .int .i64 0, .slice none 0 0]] W fun e w' => e = .returned (.tuple #[vN (hIn m) (.slice none 0 0), .bool true]) ∧ RG w' g t' k ∧ W.grownBy w' (some g)) := fun W hW => by
      have := past_any g k n l (hIn m) W hW (by omega) hl
      rw [hdr] at this; exact this
    clear PR hP hR he hM hl hs hlt hsuf hle hn hdr
    go_enter Try.func120, Try.ntmps120
    go_wp2_with fail
    refine (PA.out _ M0.out).mono ?_
    rintro e w2 ⟨rfl, b2⟩
    have B2 : Hid (Below w.heap.size w w2) := B0.out.trans (b2.mono B0.out.size)
    have Y3 : Hid (BoxN 55 (w2.alloc (.cells #[.int .u64 (m.a.toNat : Int), .int .u64 (m.b.toNat : Int), .int .u64 (m.c.toNat : Int), .int .u64 (m.d.toNat : Int)] 26)) w.heap.size hd0 (.slice none 0 0)) := (Y0.out.below b2 Y0.out.lt).blk (Below.heap_alloc _ _ _ (Y0.out.below b2 Y0.out.lt).lt)
    have hz2 : w.heap.size ≤ w2.heap.size := B2.out.size
    have R3 : Hid (RG (w2.alloc (.cells #[.int .u64 (m.a.toNat : Int), .int .u64 (m.b.toNat : Int), .int .u64 (m.c.toNat : Int), .int .u64 (m.d.toNat : Int)] 26)) g l k) := (HR.out.below B2.out hg).alloc _
    have G3 : Hid (w.grownBy (w2.alloc (.cells #[.int .u64 (m.a.toNat : Int), .int .u64 (m.b.toNat : Int), .int .u64 (m.c.toNat : Int), .int .u64 (m.d.toNat : Int)] 26)) (some g)) := grown_more (grown_below B2.out _) _
    have Z3 : Hid ((w2.alloc (.cells #[.int .u64 (m.a.toNat : Int), .int .u64 (m.b.toNat : Int), .int .u64 (m.c.toNat : Int), .int .u64 (m.d.toNat : Int)] 26)).heap.size = w2.heap.size + 1) := by unfold Hid; simp
    clear b2 PA Y0 B0 M0
    go_wp2_with (first | (go_at_call 121; refine (PS.out _ R3.out).mono ?_; rintro e w4 ⟨rfl, r4, g4⟩; have Y4 : Hid (BoxN 55 w4 w.heap.size hd0 (.slice none 0 0)) := Y3.out.blk (g4.block _ (by rw [Z3.out]; omega) (by intro q; injection q with q; omega)); have R4 : Hid (RG w4 g t' k) := r4; have G4 : Hid (w.grownBy w4 (some g)) := grown_trans G3.out g4; clear r4 g4) | (refine storeB55 rfl _ _ rfl w.heap.size rfl (hIn m) (.slice none 0 0) rfl rfl hd0 _ Y4.out ?_))
    exact bodyPost_ret (v := .tuple #[vN (hIn m) (.slice none 0 0), .bool true]) (res55b 2 3 Try.results120 _ _ w.heap.size _ _ _ rfl rfl (BoxN.row Y4.out _ _)) rfl (by rw [HE.out]; exact ⟨_, rfl, SV.nil _ _, R4.out.row _ _ (by omega), grown_row G4.out (Nat.le_refl _) _⟩)
end Go.Proofs.Ytndmjndokokmnaa
