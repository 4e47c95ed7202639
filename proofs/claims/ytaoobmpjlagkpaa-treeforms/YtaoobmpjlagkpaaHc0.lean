import Derived.Test.YtaoobmpjlagkpaaHb
namespace Go.Proofs.Ytaoobmpjlagkpaa
set_option linter.unusedSimpArgs false
set_option linter.unusedVariables false
open Go.RowKit
open Go.Deep
set_option maxHeartbeats 8000000 in
set_option maxRecDepth 100000 in
theorem walk_plain (k : Int) (c x0 : Nat) (x1 x2 x3 nn lo hi : Int) (l : List T) (ih : ∀ t ∈ l, WalkP t) (hpl : plainB ⟨k, c, x0, x1, x2, x3, nn, lo, hi⟩ l = false) : WalkP (T.mk ⟨k, c, x0, x1, x2, x3, nn, lo, hi⟩ l) := by
  intro s w u hok hu
  rw [T.kids_mk] at hu
  rw [T.hd_mk]
  have HSV : Hid (SV AnyB w u l) := hu
  obtain ⟨av, cp, b, o, rfl, h1, h2, h3, h4⟩ := hu
  obtain ⟨n, hn⟩ : ∃ n, n = l.length := ⟨_, rfl⟩
  have HN : Hid (n = l.length) := hn
  have HL : Hid (LAt AnyB w b o l) := h4
  have HA : Hid (0 < n → av = some ⟨b, o, none⟩) := by rw [hn]; exact h3
  rw [← hn] at h1 HSV ⊢
  obtain ⟨sb, se⟩ := s
  have HOK : Hid (GsOk ⟨sb, se⟩) := hok
  have HLE : Hid (se.length = 10) := hok.len
  have HS76 : Hid ((Try.prog.info? 76).map (·.size) = some (se.map Value.bool).length) := by unfold Hid; rw [size76, List.length_map, hok.len]
  have hb0 : 0 ≤ sb := hok.b0
  have hb9 : sb ≤ 9 := hok.b9
  have SW0 : Hid (WkW w _ ⟨k, c, x0, x1, x2, x3, nn, lo, hi⟩ (.slice av n cp) l se) := WkW.start w ⟨k, c, x0, x1, x2, x3, nn, lo, hi⟩ (.slice av n cp) l se HSV.out
  have R0 : Hid (World.rangeAt (((w.alloc (.cells (cN ⟨k, c, x0, x1, x2, x3, nn, lo, hi⟩ (.slice av n cp)).toArray 51)).alloc (.cells (se.map Value.bool).toArray 76)).alloc (.cells ((List.replicate 10 false).map Value.bool).toArray 76)) w.heap.size 0 (cN ⟨k, c, x0, x1, x2, x3, nn, lo, hi⟩ (.slice av n cp))) := SW0.out.a.range
  have PL : Hid (∀ W, SV AnyB W (.slice av n cp) l → Calls Try.prog 76 #[vN ⟨k, c, x0, x1, x2, x3, nn, lo, hi⟩ (.slice av n cp)] W fun e w' => e = .returned (.bool (plainB ⟨k, c, x0, x1, x2, x3, nn, lo, hi⟩ l)) ∧ Below W.heap.size W w') := fun W hW => plain_any ⟨k, c, x0, x1, x2, x3, nn, lo, hi⟩ l _ W hW
  clear hn h3 h4 hok
  change Calls Try.prog 55 #[.agg #[.int .i64 k, .int .u8 (c : Int), .int .u64 (x0 : Int), .int .u64 x1, .int .u64 x2, .int .u64 x3, .int .i64 nn, .int .i64 lo, .int .i64 hi, .slice av n cp], .int .i64 sb, .agg (se.map Value.bool).toArray] w _
  rw [hpl] at PL
  have PNO : Hid (walkT (T.mk ⟨k, c, x0, x1, x2, x3, nn, lo, hi⟩ l) ⟨sb, se⟩ = none) := walkT_no (.inl (by rw [T.hd_mk, T.kids_mk]; exact hpl))
  clear hpl ih
  go_enter Try.func55, Try.ntmps55
  go_wp2_with (first | (refine loadN51 rfl _ rfl w.heap.size 0 rfl ⟨k, c, x0, x1, x2, x3, nn, lo, hi⟩ _ R0.out ?_) | (go_at_call 76; refine (PL.out _ SW0.out.sv).mono ?_; rintro e w1 ⟨rfl, b1⟩; have SW1 : Hid (WkW w w1 ⟨k, c, x0, x1, x2, x3, nn, lo, hi⟩ (.slice av n cp) l se) := SW0.out.below b1; have a0 := SW1.out.a.cell 0 _ rfl; have a6 := SW1.out.a.cell 6 _ rfl; have a7 := SW1.out.a.cell 7 _ rfl; have a8 := SW1.out.a.cell 8 _ rfl; have a9 := SW1.out.a.cell 9 _ rfl; have sz1 : w.heap.size + 1 + 1 < w1.heap.size := SW1.out.r.lt; clear b1))
  have SWR : Hid (WkW w w1.drew ⟨k, c, x0, x1, x2, x3, nn, lo, hi⟩ (.slice av n cp) l se) := SW1.out.below ((Below.refl _ _).drew)
  refine wp_region_noPanic ?_
  refine wp_region_held_drew (S := fun W => BoxA W (w.heap.size + 1) se) (by kernel_rfl) (SWR.out.d) (fun hHeld => ?_)
  try simp only [Act.put, List.setIfInBounds_toArray, List.set_cons_zero, List.set_cons_succ]
  refine wpAnyH_take (i := 0) (oi := { dst := some 15, op := Go.Op.move (Go.Operand.tmp 1), type := 3, pos := "ref.go:267", after := #[], guard := none }) (v := ?_) rfl (by kernel_rfl) (by kernel_rfl) (by kernel_rfl) (fun _ _ _ h => h) (Or.inl ⟨by rfl, ?_⟩) hHeld ?_
  rotate_left 1
  · (intro wq hSq; (try dsimp only at hSq); go_simp; first | done | with_reducible rfl)
  try simp only [Act.put, List.setIfInBounds_toArray, List.set_cons_zero, List.set_cons_succ]
  refine wpAnyH_take (i := 1) (oi := { dst := some 16, op := Go.Op.load 76 (Go.Operand.tmp 5), type := 76, pos := "ref.go:267", after := #[{ on := 2, ground := Go.Ground.gcOnly Go.Departure.lateStores }], guard := none }) (v := .agg (se.map Value.bool).toArray) rfl (by kernel_rfl) (by kernel_rfl) (by kernel_rfl) (fun _ _ _ h => h) (yieldsIf_load_mid rfl 76 _ rfl (w.heap.size + 1) 0 rfl (se.map Value.bool) _ (fun wq hSq => BoxA.range hSq) Try.underlying76 rfl HS76.out) hHeld ?_
  try simp only [Act.put, List.setIfInBounds_toArray, List.set_cons_zero, List.set_cons_succ]
  refine wpAnyH_take (i := 2) (oi := { dst := some 6, op := Go.Op.assign (Go.Operand.tmp 15), type := 3, pos := "ref.go:267", after := #[{ on := 0, ground := Go.Ground.data }, { on := 0, ground := Go.Ground.phase }, { on := 1, ground := Go.Ground.textOnly Go.Departure.lateStores }], guard := none }) (v := ?_) rfl (by kernel_rfl) (by kernel_rfl) (by kernel_rfl) (fun _ _ _ h => h) (Or.inl ⟨by rfl, ?_⟩) hHeld ?_
  rotate_left 1
  · (intro wq hSq; (try dsimp only at hSq); go_simp; first | done | with_reducible rfl)
  try simp only [Act.put, List.setIfInBounds_toArray, List.set_cons_zero, List.set_cons_succ]
  refine wpAnyH_ready (rs := [3]) (by kernel_rfl) (by simp) ?_
  refine AllReadyH.cons (o := { dst := none, op := Go.Op.store 76 (Go.Operand.tmp 7) (Go.Operand.tmp 16), type := 0, pos := "ref.go:267", after := #[{ on := 1, ground := Go.Ground.data }, { on := 2, ground := Go.Ground.chain }, { on := 0, ground := Go.Ground.phase }, { on := 1, ground := Go.Ground.phase }, { on := 2, ground := Go.Ground.phase }], guard := none }) rfl (fun K hK => ?_) AllReadyH.nil
  refine step_storeA rfl _ _ rfl (w.heap.size + 1 + 1) (by rfl) se (List.replicate 10 false) HLE.out (by simp) (by rfl) SWR.out.r ?_
  refine hK.out _ _ (SWR.out.fin.2.2) (fun hHeld1 => ?_)
  clear hK K hHeld
  try simp only [Act.put, List.setIfInBounds_toArray, List.set_cons_zero, List.set_cons_succ]
  refine wpAnyH_take (i := 4) (oi := { dst := some 8, op := Go.Op.assign (Go.Operand.const (Go.Value.bool false)), type := 4, pos := "ref.go:267", after := #[{ on := 3, ground := Go.Ground.chain }, { on := 0, ground := Go.Ground.phase }, { on := 1, ground := Go.Ground.phase }, { on := 2, ground := Go.Ground.phase }, { on := 3, ground := Go.Ground.phase }], guard := none }) (v := ?_) rfl (by kernel_rfl) (by kernel_rfl) (by kernel_rfl) (fun _ _ _ h => h) (Or.inl ⟨by rfl, ?_⟩) hHeld1 ?_
  rotate_left 1
  · (intro wq hSq; (try dsimp only at hSq); go_simp; first | done | with_reducible rfl)
  try simp only [Act.put, List.setIfInBounds_toArray, List.set_cons_zero, List.set_cons_succ]
  refine wpAnyH_done (by kernel_rfl) ?_ _
  refine NoPanic.normal ?_
  go_wp2
  exact bodyPost_ret (v := .tuple #[.int .i64 sb, .agg (se.map Value.bool).toArray, .bool false]) (res55w Try.results55 _ _ (w.heap.size + 1 + 1) se HLE.out rfl SWR.out.fin.1) rfl ⟨false, ⟨sb, se⟩, rfl, HLE.out, (if_neg (by simp)).mpr PNO.out, SWR.out.fin.2.1⟩
end Go.Proofs.Ytaoobmpjlagkpaa
