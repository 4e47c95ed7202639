import Derived.Test.YtndmjndokokmnaaQx
import Derived.Test.YtndmjndokokmnaaKg
import Derived.Test.YtndmjndokokmnaaXf
import Derived.Laws.ResultCell
import Derived.Lib.ConvBytes
namespace Go.Proofs.Ytndmjndokokmnaa
set_option linter.unusedSimpArgs false
set_option linter.unusedVariables false
open Go.RowKit
open Go.Deep
theorem res55b {fn : Func} (p q : Tmp) (h : fn.results = #[.cell p 55, .tmp q]) (tmps : Array Value) (w : World) (g : Nat) (hd : Hd) (u x : Value) (hp : tmps.getD p undef = .pointer (some ⟨g, 0, none⟩)) (hq : tmps.getD q undef = x) (hb : BoxN 55 w g hd u) : (results fn tmps).run Try.prog w = .ok (.tuple #[vN hd u, x]) w := by
  rw [results_cell_tmp h, hp, hq]
  have := run_loadVar_row (P := Try.prog) w g 55 55 _ (0, 0) _ hb Try.underlying55 rfl size55
  simp only [asAddr, Sem.run_pure, Result.andThen_ok, this]
  rfl
theorem res55c {fn : Func} (p q s : Tmp) (h : fn.results = #[.cell p 55, .tmp q, .tmp s]) (tmps : Array Value) (w : World) (g : Nat) (hd : Hd) (u x y : Value) (hp : tmps.getD p undef = .pointer (some ⟨g, 0, none⟩)) (hq : tmps.getD q undef = x) (hs : tmps.getD s undef = y) (hb : BoxN 55 w g hd u) : (results fn tmps).run Try.prog w = .ok (.tuple #[vN hd u, x, y]) w := by
  have this := run_loadVar_row (P := Try.prog) w g 55 55 _ (0, 0) _ hb Try.underlying55 rfl size55
  have hp' : tmps[p]?.getD undef = .pointer (some ⟨g, 0, none⟩) := by simpa using hp
  have hq' : tmps[q]?.getD undef = x := by simpa using hq
  have hs' : tmps[s]?.getD undef = y := by simpa using hs
  simp [results, h, hp', hq', hs', asAddr, this, Sem.run_bind, Result.andThen, vN, cN]
/-- The reader's box: what it has not gone past, and how many groups began. -/
def RG (w : World) (g : Nat) (l : List UInt8) (k : Nat) : Prop := ∃ s : ByteArray, w.cell? ⟨g, 0, none⟩ = some (.string s) ∧ s.data.toList = l ∧ w.cell? ⟨g, 1, none⟩ = some (.int .i64 (k : Int)) ∧ w.frozen? ⟨g, 0, none⟩ = false ∧ w.frozen? ⟨g, 1, none⟩ = false ∧ g < w.heap.size
theorem RG.lt {w : World} {g k : Nat} {l : List UInt8} (h : RG w g l k) : g < w.heap.size := by obtain ⟨_, _, _, _, _, _, hz⟩ := h; exact hz
theorem RG.blk {w w' : World} {g k : Nat} {l : List UInt8} (h : RG w g l k) (e : w'.heap[g]? = w.heap[g]?) (hz : w.heap.size ≤ w'.heap.size) : RG w' g l k := by
  obtain ⟨s, h0, h1, h2, h3, h4, h5⟩ := h
  exact ⟨s, by rw [World.cell?_of_block (w := w) e]; exact h0, h1, by rw [World.cell?_of_block (w := w) e]; exact h2, by rw [frozen_block e]; exact h3, by rw [frozen_block e]; exact h4, by omega⟩
theorem RG.below {w w' : World} {B g k : Nat} {l : List UInt8} (h : RG w g l k) (b : Below B w w') (hg : g < B) : RG w' g l k := h.blk (b.block g hg) b.size
theorem RG.alloc {w : World} {g k : Nat} {l : List UInt8} (h : RG w g l k) (o : Obj) : RG (w.alloc o) g l k := h.blk (Below.heap_alloc _ _ _ h.lt) (by simp)
theorem RG.row {w : World} {g k : Nat} {l : List UInt8} (h : RG w g l k) (r : Nat) (cs : Array Value) (hr : r ≠ g) : RG (w.setRow r cs) g l k := h.blk (setRow_other _ _ _ _ (by omega)) (by simp [World.setRow])
theorem RG.set {w : World} {g k : Nat} {l : List UInt8} (h : RG w g l k) (t : ByteArray) : RG (w.setCell ⟨g, 0, none⟩ (.string t)) g t.data.toList k := by
  obtain ⟨s, h0, h1, h2, h3, h4, h5⟩ := h
  refine ⟨t, ?_, rfl, ?_, ?_, ?_, by simpa [World.setCell] using h5⟩
  · go_simp
  · go_simp
  · go_simp
  · go_simp
theorem RG.put {w : World} {g k : Nat} {l : List UInt8} (h : RG w g l k) (n : Nat) : RG (w.setCell ⟨g, 1, none⟩ (.int .i64 (n : Int))) g l n := by
  obtain ⟨s, h0, h1, h2, h3, h4, h5⟩ := h
  refine ⟨s, ?_, h1, ?_, ?_, ?_, by simpa [World.setCell] using h5⟩
  · go_simp
  · go_simp
  · go_simp
  · go_simp
theorem grown_row {w w' : World} {r : Nat} {o : Option Nat} (h : w.grownBy w' o) (hr : w.heap.size ≤ r) (cs : Array Value) : w.grownBy (w'.setRow r cs) o :=
  ⟨h.os, h.tape, h.output, by simpa [World.setRow] using h.size, fun i hi e => (setRow_other _ _ _ _ (by omega)).trans (h.block i hi e)⟩
theorem grown_more {w w' : World} {o : Option Nat} (h : w.grownBy w' o) (x : Obj) : w.grownBy (w'.alloc x) o :=
  ⟨h.os, h.tape, h.output, by have := h.size; simp; omega, fun i hi e => (Below.heap_alloc _ _ _ (by have := h.size; omega)).trans (h.block i hi e)⟩
/-- What a part of the reader hands back. -/
def TreO (S : Nat → Prop) (res : Except (List UInt8) (T × Nat × List UInt8)) (w : World) (g : Nat) (e : Ending) (w' : World) : Prop := match res with
  | .error r => ∃ k' : Nat, e = .returned (.tuple #[vN (Hd.of 0) (.slice none 0 0), .bool false]) ∧ RG w' g r k' ∧ w.grownBy w' (some g)
  | .ok (t, k', r) => ∃ u, e = .returned (.tuple #[vN t.hd u, .bool true]) ∧ SV S w' u t.kids ∧ RG w' g r k' ∧ w.grownBy w' (some g)
set_option maxHeartbeats 1000000 in
set_option maxRecDepth 100000 in
theorem begins_any92 (g : Nat) (s p : ByteArray) (w : World) (hc : w.cell? ⟨g, 0, none⟩ = some (.string s)) :
    Calls Try.prog 92 #[.pointer (some ⟨g, 0, none⟩), .string p] w fun e w' => e = .returned (.bool (pre p.data.toList s.data.toList)) ∧ w = w' := by
  go_enter Try.func92, Try.ntmps92
  go_wp2_with fail
  refine (Try.strings_HasPrefix s p w).mono ?_
  rintro e w' ⟨rfl, rfl⟩
  go_wp2
  go_ret
  exact ⟨rfl, rfl⟩
theorem begins92 (g k : Nat) (l : List UInt8) (p : ByteArray) (b : Bool) (hb : pre p.data.toList l = b) (w : World) (h : RG w g l k) :
    Calls Try.prog 92 #[.pointer (some ⟨g, 0, none⟩), .string p] w fun e w' => e = .returned (.bool b) ∧ w = w' := by
  obtain ⟨s, hc, rfl, _⟩ := h
  have := begins_any92 g s p w hc
  rw [hb] at this; exact this
set_option maxHeartbeats 1000000 in
set_option maxRecDepth 100000 in
theorem skip_any91 (g k : Nat) (l : List UInt8) (p : ByteArray) (w : World) (h : RG w g l k) :
    Calls Try.prog 91 #[.pointer (some ⟨g, 0, none⟩), .string p] w fun e w' => e = .returned (.bool (pre p.data.toList l)) ∧ RG w' g (if pre p.data.toList l then l.drop p.data.toList.length else l) k ∧ w.grownBy w' (some g) := by
  have HR : Hid (RG w g l k) := h
  obtain ⟨s, hc, rfl, hc1, hf, hf1, hg⟩ := h
  have ht : (if pre p.data.toList s.data.toList then s.data.toList.drop p.data.toList.length else s.data.toList) = (⟨(Lib.trimPrefix s.data.toList p.data.toList).toArray⟩ : ByteArray).data.toList := by rw [mk_list]; rfl
  rw [ht]
  have CT : Hid (∀ w, Calls Try.prog 97 #[.string s, .string p] w fun e w' => e = .returned (.string ⟨(Lib.trimPrefix s.data.toList p.data.toList).toArray⟩) ∧ w' = w) := fun w => Try.strings_TrimPrefix s p w
  clear ht
  generalize (⟨(Lib.trimPrefix s.data.toList p.data.toList).toArray⟩ : ByteArray) = t at *
  go_enter Try.func91, Try.ntmps91
  go_wp2_with fail
  refine (begins_any92 g s p w hc).mono ?_
  rintro e w' ⟨rfl, rfl⟩
  go_wp2_with fail
  refine (CT.out w).mono ?_
  rintro e w' ⟨rfl, hw⟩
  rw [hw]
  clear hw
  go_wp2
  go_ret
  exact ⟨rfl, HR.out.set t, grown_cell w g 0 _⟩
theorem skip91 (g k : Nat) (l : List UInt8) (p : ByteArray) (b : Bool) (hb : pre p.data.toList l = b) (r : List UInt8) (hr : (if b then l.drop p.data.toList.length else l) = r) (w : World) (h : RG w g l k) :
    Calls Try.prog 91 #[.pointer (some ⟨g, 0, none⟩), .string p] w fun e w' => e = .returned (.bool b) ∧ RG w' g r k ∧ w.grownBy w' (some g) := by
  have := skip_any91 g k l p w h
  rw [hb, hr] at this; exact this
theorem size_set0 (w : World) (p : Addr) (v : Value) : (w.setCell p v).heap.size = w.heap.size := by simp [World.setCell]
set_option maxHeartbeats 1000000 in
set_option maxRecDepth 100000 in
theorem past_any (g k n : Nat) (l : List UInt8) (h : Hd) (w : World) (hr : RG w g l k) (hn : n ≤ l.length) (hl : l.length ≤ 4000000) :
    Calls Try.prog 121 #[.pointer (some ⟨g, 0, none⟩), .int .i64 (n : Int), vN h (.slice none 0 0)] w fun e w' => e = .returned (.tuple #[vN h (.slice none 0 0), .bool true]) ∧ RG w' g (l.drop n) k ∧ w.grownBy w' (some g) := by
  have HR : Hid (RG w g l k) := hr
  obtain ⟨s, hc, rfl, hc1, hf, hf1, hg⟩ := hr
  have hx : (s.extract n s.size).data.toList = s.data.toList.drop n := by
    rw [Lib.extract_data, List.take_of_length_le]
    rw [List.length_drop, ← Lib.size_eq]; exact Nat.le_refl _
  have hns : (n : Int) ≤ s.size := by rw [Lib.size_eq]; omega
  have hss : (s.size : Int) ≤ 4000000 := by rw [Lib.size_eq]; omega
  have HS : Hid (RG (w.setCell ⟨g, 0, none⟩ (.string (s.extract n s.size))) g (s.data.toList.drop n) k) := by have := HR.out.set (s.extract n s.size); rw [hx] at this; exact this
  have TB := two_boxes 55 (w.setCell ⟨g, 0, none⟩ (.string (s.extract n s.size))) h hd0 (.slice none 0 0) (.slice none 0 0)
  rw [size_set0] at TB
  obtain ⟨x1, y1, bb, sz⟩ := TB
  have X1 : Hid _ := x1
  have Y1 : Hid _ := y1
  have B1 : Hid _ := bb
  clear x1 y1 bb sz hl hx
  obtain ⟨kk, c, x0, x1, x2, x3, nn, lo, hi⟩ := h
  change Calls Try.prog 121 #[.pointer (some ⟨g, 0, none⟩), .int .i64 (n : Int), .agg #[.int .i64 kk, .int .u8 (c : Int), .int .u64 (x0 : Int), .int .u64 x1, .int .u64 x2, .int .u64 x3, .int .i64 nn, .int .i64 lo, .int .i64 hi, .slice none 0 0]] w _
  go_enter Try.func121, Try.ntmps121
  go_wp2_with (first | (refine loadN55 rfl _ rfl w.heap.size 0 rfl ⟨kk, c, x0, x1, x2, x3, nn, lo, hi⟩ _ X1.out.range ?_) | (refine storeB55 rfl _ _ rfl (w.heap.size + 1) rfl ⟨kk, c, x0, x1, x2, x3, nn, lo, hi⟩ _ rfl rfl hd0 _ Y1.out ?_))
  exact bodyPost_ret (v := .tuple #[vN ⟨kk, c, x0, x1, x2, x3, nn, lo, hi⟩ (.slice none 0 0), .bool true]) (res55b 6 7 Try.results121 _ _ (w.heap.size + 1) _ _ _ rfl rfl (BoxN.row Y1.out _ _)) rfl ⟨rfl, ((HS.out.alloc _).alloc _).row _ _ (by omega), grown_row (grown_more (grown_more (grown_cell w g 0 _) _) _) (by omega) _⟩
end Go.Proofs.Ytndmjndokokmnaa
namespace Go.Proofs.Ytndmjndokokmnaa
set_option linter.unusedSimpArgs false
set_option linter.unusedVariables false
open Go.RowKit
open Go.Deep
theorem bytes_below (w : World) (e : TypeId) (s : ByteArray) : Below w.heap.size w (Lib.bytesWorld w e s) := ⟨rfl, rfl, rfl, by rw [Lib.bytesWorld_size]; omega, fun k hk => Lib.bytesWorld_at_old w e s k hk⟩
/-- What number hands back. -/
def NumO (o : Option Nat) (w : World) (e : Ending) (w' : World) : Prop := ∃ n : Nat, e = .returned (.tuple #[.int .i64 (n : Int), .bool o.isSome]) ∧ n ≤ 256 ∧ (∀ m, o = some m → n = m) ∧ Below w.heap.size w w'
theorem digN_le : ∀ (l : List UInt8) (n m : Nat), n ≤ 256 → digN l n = some m → m ≤ 256
  | [], n, m, h, e => by simp only [digN, Option.some.injEq] at e; omega
  | c :: r, n, m, h, e => by
    unfold digN at e
    split at e
    · exact digN_le r _ m (by omega) e
    · cases e
set_option maxHeartbeats 1000000 in
set_option maxRecDepth 100000 in
theorem number_any (s : ByteArray) (hs : s.size ≤ 4000000) (w : World) : Calls Try.prog 132 #[.string s] w (NumO (numP s.data.toList) w) := by
  obtain ⟨l, hl⟩ : ∃ l, l = s.data.toList := ⟨_, rfl⟩
  have HL : Hid (l = s.data.toList) := hl
  have hcv := Lib.run_convert_string_bytes (P := Try.prog) w 9 47 5 s Try.underlying9 Try.underlying47 Try.underlying5
  have hcap : s.size ≤ grownCap w s.size 0 5 := grownCap_ge w s.size 0 5
  have B1 : Hid (Below w.heap.size w (Lib.bytesWorld w 5 s)) := bytes_below w 5 s
  have CE : Hid (∀ j, j < s.size → (Lib.bytesWorld w 5 s).cell? ⟨w.heap.size, j, none⟩ = some (.int .u8 (l.getD j 0).toNat)) := fun j hj => by rw [hl]; exact Lib.bytesWorld_cell w 5 s j hj
  have HN : Hid (l.length = s.size) := by rw [hl]; exact (Lib.size_eq s).symm
  rw [← hl]
  obtain ⟨R, hR⟩ : ∃ R, R = numP l := ⟨_, rfl⟩
  have HR : Hid (R = numP l) := hR
  rw [← hR]
  generalize grownCap w s.size 0 5 = cap at *
  have HV : Hid ((convert 9 47 (.string s)).run Try.prog w = .ok (.slice (some ⟨w.heap.size, 0, none⟩) s.size cap) (Lib.bytesWorld w 5 s)) := hcv
  generalize Lib.bytesWorld w 5 s = W1 at *
  clear hl hR
  go_enter Try.func132, Try.ntmps132
  go_wp2
  go_loopw [4, 10] (fun n4 i wr => ∃ (j m : Nat), j ≤ s.size ∧ i = .int .i64 j ∧ n4 = .int .i64 m ∧ m ≤ 256 ∧ Hid (digN (l.drop j) m = digN l 0) ∧ wr = W1) (fun _ i _ => s.size - (intOf i).toNat)
  case atStart => exact ⟨0, 0, by omega, rfl, rfl, by omega, rfl, rfl⟩
  case round =>
    obtain ⟨j, m, hj, rfl, rfl, hm, HD, rfl⟩ := hrel
    by_cases hlt : j < s.size
    · have hc := CE.out j hlt
      have hjl : j < l.length := by rw [HN.out]; exact hlt
      have hd : l.drop j = l.getD j 0 :: l.drop (j + 1) := by
        rw [List.drop_eq_getElem_cons hjl, List.getD_eq_getElem?_getD, List.getElem?_eq_getElem hjl]; rfl
      have hC : (l.getD j 0).toNat < 256 := (l.getD j 0).toNat_lt
      have HD2 : Hid (digN l 0 = if 48 ≤ (l.getD j 0).toNat ∧ (l.getD j 0).toNat ≤ 57 then digN (l.drop (j + 1)) (min (m * 10 + ((l.getD j 0).toNat - 48)) 256) else none) := by
        unfold Hid; rw [← HD.out, hd]; rfl
      have HNE : Hid (l ≠ []) := by intro q; rw [q] at hjl; simp at hjl
      clear hd hjl HD
      generalize (l.getD j 0).toNat = C at *
      have i1 : (j : Int) < (s.size : Int) := by omega
      have hjs : (j : Int) + 1 ≤ 4000000 := by omega
      have HLT : Hid (j < s.size) := hlt
      by_cases c1 : (C : Int) < 48
      · have HE : Hid (R = none) := by
          unfold Hid; rw [HR.out]; unfold numP; rw [if_neg HNE.out, HD2.out, if_neg (by omega)]
        clear HD2 HNE hlt
        go_wp2
        go_ret2
        exact ⟨0, by rw [HE.out]; rfl, by omega, fun m q => (by rw [HE.out] at q; cases q), B1.out⟩
      · by_cases c2 : (57 : Int) < (C : Int)
        · have HE : Hid (R = none) := by
            unfold Hid; rw [HR.out]; unfold numP; rw [if_neg HNE.out, HD2.out, if_neg (by omega)]
          clear HD2 HNE hlt
          go_wp2
          go_ret2
          exact ⟨0, by rw [HE.out]; rfl, by omega, fun m q => (by rw [HE.out] at q; cases q), B1.out⟩
        · have HD3 : Hid (digN (l.drop (j + 1)) (min (m * 10 + (C - 48)) 256) = digN l 0) := by unfold Hid; rw [HD2.out, if_pos ⟨by omega, by omega⟩]
          clear HD2 HNE hlt
          have k1 : ((C : Int) - 48) % 256 = (C : Int) - 48 := by omega
          go_wp2
          go_roundw
          case rel => exact ⟨j + 1, min (m * 10 + (C - 48)) 256, by have := HLT.out; omega, by go_num, by go_num, by omega, HD3.out, trivial⟩
          case measure => have := HLT.out; simp [intOf]; omega
    · have i1 : ¬ (j : Int) < (s.size : Int) := by omega
      have hjn : j = s.size := by omega
      have HD2 : Hid (digN l 0 = some m) := by
        unfold Hid; rw [← HD.out, List.drop_of_length_le (by rw [HN.out]; omega)]; rfl
      have HLD : Hid (s.toList = l) := by unfold Hid; rw [HL.out, Lib.toList_data]
      clear hlt HD hj
      by_cases hz : s.size = 0
      · have hl0 : l = [] := List.eq_nil_of_length_eq_zero (by rw [HN.out]; exact hz)
        have HE : Hid (R = none) := by unfold Hid; rw [HR.out, hl0]; rfl
        have e1 : s.toList = [] := by rw [HLD.out, hl0]
        have e2 : s.toList.isEmpty = true := by rw [e1]; rfl
        clear hl0 HLD
        go_wp2
        go_ret2
        exact ⟨m, by rw [HE.out]; rfl, by omega, fun m q => (by rw [HE.out] at q; cases q), B1.out⟩
      · have hl0 : l ≠ [] := by intro q; rw [q] at HN; exact hz HN.out.symm
        have e1 : ¬ s.toList = [] := by rw [HLD.out]; exact hl0
        have e2 : s.toList.isEmpty = false := by rw [List.isEmpty_eq_false_iff]; exact e1
        have HP : Hid (R = if m ≤ 255 then some m else none) := by unfold Hid; rw [HR.out]; unfold numP; rw [if_neg hl0, HD2.out]
        clear hl0 HLD HD2
        by_cases h5 : (m : Int) ≤ 255
        · have HE : Hid (R = some m) := by unfold Hid; rw [HP.out, if_pos (by omega)]
          clear HP
          go_wp2
          go_ret2
          exact ⟨m, by rw [HE.out]; rfl, by omega, fun m2 q => (by rw [HE.out] at q; injection q), B1.out⟩
        · have HE : Hid (R = none) := by unfold Hid; rw [HP.out, if_neg (by omega)]
          clear HP
          go_wp2
          go_ret2
          exact ⟨m, by rw [HE.out]; rfl, by omega, fun m2 q => (by rw [HE.out] at q; cases q), B1.out⟩
end Go.Proofs.Ytndmjndokokmnaa
namespace Go.Proofs.Ytndmjndokokmnaa
set_option linter.unusedSimpArgs false
set_option linter.unusedVariables false
open Go.RowKit
open Go.Deep
theorem cut_len (l p : List UInt8) : (Lib.cut l p).1.length ≤ l.length ∧ (Lib.cut l p).2.1.length ≤ l.length := by
  unfold Lib.cut
  split
  · constructor
    · simp only [List.length_take]; omega
    · simp only [List.length_drop]; omega
  · exact ⟨Nat.le_refl _, Nat.zero_le _⟩
theorem cut_any (s : ByteArray) (p : List UInt8) (hs : s.size ≤ 4000000) (w : World) (hM : MaxL w) : Calls Try.prog 113 #[.string s, .string ⟨p.toArray⟩] w fun e w' => e = .returned (.tuple #[.string ⟨(Lib.cut s.data.toList p).1.toArray⟩, .string ⟨(Lib.cut s.data.toList p).2.1.toArray⟩, .bool (Lib.cut s.data.toList p).2.2]) ∧ Below w.heap.size w w' ∧ MaxL w' := by
  obtain ⟨m, hm⟩ := hM.1
  refine (Try.strings_Cut s ⟨p.toArray⟩ m w (by omega) hm).mono ?_
  rintro e w' ⟨rfl, n, rfl⟩
  refine ⟨by simp, ?_, ?_⟩
  · exact ⟨rfl, rfl, rfl, Nat.le_refl _, fun _ _ => rfl⟩
  · exact ⟨⟨m, hm⟩, hM.2⟩
theorem mkl (l : List UInt8) : (⟨l.toArray⟩ : ByteArray).data.toList = l := by simp
theorem mk_size (l : List UInt8) : (⟨l.toArray⟩ : ByteArray).size = l.length := by rw [Lib.size_eq, mkl]
theorem num_list (l : List UInt8) (hl : l.length ≤ 4000000) (w : World) : Calls Try.prog 132 #[.string ⟨l.toArray⟩] w (NumO (numP l) w) := by
  have := number_any ⟨l.toArray⟩ (by rw [mk_size]; exact hl) w
  rwa [mkl] at this
/-- What times hands back. -/
def TimO (o : Option (Nat × Int)) (w : World) (e : Ending) (w' : World) : Prop := ∃ a b : Int, e = .returned (.tuple #[.int .i64 a, .int .i64 b, .bool o.isSome]) ∧ (∀ x, o = some x → a = (x.1 : Int) ∧ b = x.2) ∧ Below w.heap.size w w' ∧ MaxL w'
theorem MaxL.below2 {w w' : World} (h : MaxL w) (b : Below w.heap.size w w') : MaxL w' := by
  obtain ⟨⟨m, hm⟩, hz⟩ := h
  exact ⟨⟨m, by rw [World.cell?_of_block (w := w) (b.block 0 hz)]; exact hm⟩, Nat.lt_of_lt_of_le hz b.size⟩
set_option maxHeartbeats 1000000 in
set_option maxRecDepth 100000 in
theorem bounds_any (l : List UInt8) (hl : l.length ≤ 4000000) (w : World) (hM : MaxL w) : Calls Try.prog 122 #[.string ⟨l.toArray⟩] w (TimO (timesQ l) w) := by
  have CUT := cut_any ⟨l.toArray⟩ [44] (by rw [mk_size]; exact hl) w hM
  rw [mkl] at CUT
  have HQ : Hid (timesQ l = match numP (Lib.cut l [44]).1 with
    | none => none
    | some m => if (Lib.cut l [44]).2.2 = false then some (m, (m : Int)) else if (Lib.cut l [44]).2.1 = [] then some (m, -1) else
      match numP (Lib.cut l [44]).2.1 with
      | none => none
      | some k => if m ≤ k then some (m, (k : Int)) else none) := rfl
  have hcl := cut_len l [44]
  obtain ⟨R, hR⟩ : ∃ R, R = timesQ l := ⟨_, rfl⟩
  rw [← hR] at HQ ⊢
  clear hR
  generalize Lib.cut l [44] = q at *
  obtain ⟨fi, sec, more⟩ := q
  simp only at CUT hcl HQ
  have CU : Hid (Calls Try.prog 113 #[.string ⟨l.toArray⟩, .string ⟨#[44]⟩] w fun e w' => e = .returned (.tuple #[.string ⟨fi.toArray⟩, .string ⟨sec.toArray⟩, .bool more]) ∧ Below w.heap.size w w' ∧ MaxL w') := CUT
  have N1 : Hid (∀ W, Calls Try.prog 132 #[.string ⟨fi.toArray⟩] W (NumO (numP fi) W)) := fun W => num_list fi (by omega) W
  have N2 : Hid (∀ W, Calls Try.prog 132 #[.string ⟨sec.toArray⟩] W (NumO (numP sec) W)) := fun W => num_list sec (by omega) W
  have HE : Hid ((⟨sec.toArray⟩ : ByteArray).toList = sec) := by unfold Hid; rw [Lib.toList_data, mkl]
  clear CUT hcl hl hM
  generalize numP fi = a1 at *
  generalize numP sec = a2 at *
  cases a1 with
  | none =>
    have HR : Hid (R = none) := HQ
    clear HQ
    go_enter Try.func122, Try.ntmps122
    go_wp2_with fail
    refine CU.out.mono ?_
    rintro e w1 ⟨rfl, b1, m1⟩
    have B1 : Hid (Below w.heap.size w w1) := b1
    have M1 : Hid (MaxL w1) := m1
    clear b1 m1
    go_wp2_with fail
    refine (N1.out _).mono ?_
    rintro e w2 ⟨n, rfl, hn, hs, b2⟩
    have B2 : Hid (Below w.heap.size w w2) := B1.out.trans (b2.mono B1.out.size)
    have M2 : Hid (MaxL w2) := M1.out.below2 b2
    clear b2 hs
    go_wp2
    go_ret3
    exact ⟨0, 0, by rw [HR.out]; rfl, fun x q => (by rw [HR.out] at q; cases q), B2.out, M2.out⟩
  | some m =>
    cases more with
    | false =>
      have HR : Hid (R = some (m, (m : Int))) := HQ
      clear HQ
      go_enter Try.func122, Try.ntmps122
      go_wp2_with fail
      refine CU.out.mono ?_
      rintro e w1 ⟨rfl, b1, m1⟩
      have B1 : Hid (Below w.heap.size w w1) := b1
      have M1 : Hid (MaxL w1) := m1
      clear b1 m1
      go_wp2_with fail
      refine (N1.out _).mono ?_
      rintro e w2 ⟨n, rfl, hn, hs, b2⟩
      have B2 : Hid (Below w.heap.size w w2) := B1.out.trans (b2.mono B1.out.size)
      have M2 : Hid (MaxL w2) := M1.out.below2 b2
      obtain rfl := hs m rfl
      clear b2 hs
      go_wp2
      go_ret3
      exact ⟨n, n, by rw [HR.out]; rfl, fun x q => (by rw [HR.out] at q; injection q with q; rw [← q]; exact ⟨rfl, rfl⟩), B2.out, M2.out⟩
    | true =>
      by_cases hsec : sec = []
      · have e1 : (⟨sec.toArray⟩ : ByteArray).toList = [] := by rw [HE.out, hsec]
        have e2 : (⟨sec.toArray⟩ : ByteArray).toList.isEmpty = true := by rw [e1]; rfl
        have HR : Hid (R = some (m, -1)) := by have := HQ.out; dsimp only at this; rw [if_neg (by simp), if_pos hsec] at this; exact this
        clear hsec HE HQ
        go_enter Try.func122, Try.ntmps122
        go_wp2_with fail
        refine CU.out.mono ?_
        rintro e w1 ⟨rfl, b1, m1⟩
        have B1 : Hid (Below w.heap.size w w1) := b1
        have M1 : Hid (MaxL w1) := m1
        clear b1 m1
        go_wp2_with fail
        refine (N1.out _).mono ?_
        rintro e w2 ⟨n, rfl, hn, hs, b2⟩
        have B2 : Hid (Below w.heap.size w w2) := B1.out.trans (b2.mono B1.out.size)
        have M2 : Hid (MaxL w2) := M1.out.below2 b2
        obtain rfl := hs m rfl
        clear b2 hs
        go_wp2
        go_ret3
        exact ⟨n, -1, by rw [HR.out]; rfl, fun x q => (by rw [HR.out] at q; injection q with q; rw [← q]; exact ⟨rfl, rfl⟩), B2.out, M2.out⟩
      · have e1 : ¬ (⟨sec.toArray⟩ : ByteArray).toList = [] := by rw [HE.out]; exact hsec
        have e2 : (⟨sec.toArray⟩ : ByteArray).toList.isEmpty = false := by rw [List.isEmpty_eq_false_iff]; exact e1
        have HR2 := HQ.out
        dsimp only at HR2
        rw [if_neg (by simp), if_neg hsec] at HR2
        have e4 : sec.isEmpty = false := by rw [List.isEmpty_eq_false_iff]; exact hsec
        clear HE HQ e1 e2
        cases a2 with
        | none =>
          have HR : Hid (R = none) := HR2
          clear HR2
          go_enter Try.func122, Try.ntmps122
          go_wp2_with fail
          refine CU.out.mono ?_
          rintro e w1 ⟨rfl, b1, m1⟩
          have B1 : Hid (Below w.heap.size w w1) := b1
          have M1 : Hid (MaxL w1) := m1
          clear b1 m1
          go_wp2_with fail
          refine (N1.out _).mono ?_
          rintro e w2 ⟨n, rfl, hn, hs, b2⟩
          have B2 : Hid (Below w.heap.size w w2) := B1.out.trans (b2.mono B1.out.size)
          have M2 : Hid (MaxL w2) := M1.out.below2 b2
          obtain rfl := hs m rfl
          clear b2 hs
          go_wp2_with fail
          refine (N2.out _).mono ?_
          rintro e w3 ⟨n2, rfl, hn2, hs2, b3⟩
          have B3 : Hid (Below w.heap.size w w3) := B2.out.trans (b3.mono B2.out.size)
          have M3 : Hid (MaxL w3) := M2.out.below2 b3
          clear b3 hs2
          go_wp2
          go_ret3
          exact ⟨n, n2, by rw [HR.out]; rfl, fun x q => (by rw [HR.out] at q; cases q), B3.out, M3.out⟩
        | some k =>
          by_cases hmk : (m : Int) ≤ (k : Int)
          · have e3 : (if m ≤ k then some (m, (k : Int)) else none) = some (m, (k : Int)) := if_pos (by omega)
            have HR : Hid (R = some (m, (k : Int))) := HR2.trans e3
            clear e3 HR2
            go_enter Try.func122, Try.ntmps122
            go_wp2_with fail
            refine CU.out.mono ?_
            rintro e w1 ⟨rfl, b1, m1⟩
            have B1 : Hid (Below w.heap.size w w1) := b1
            have M1 : Hid (MaxL w1) := m1
            clear b1 m1
            go_wp2_with fail
            refine (N1.out _).mono ?_
            rintro e w2 ⟨n, rfl, hn, hs, b2⟩
            have B2 : Hid (Below w.heap.size w w2) := B1.out.trans (b2.mono B1.out.size)
            have M2 : Hid (MaxL w2) := M1.out.below2 b2
            obtain rfl := hs m rfl
            clear b2 hs
            go_wp2_with fail
            refine (N2.out _).mono ?_
            rintro e w3 ⟨n2, rfl, hn2, hs2, b3⟩
            have B3 : Hid (Below w.heap.size w w3) := B2.out.trans (b3.mono B2.out.size)
            have M3 : Hid (MaxL w3) := M2.out.below2 b3
            obtain rfl := hs2 k rfl
            clear b3 hs2
            go_wp2
            go_ret3
            exact ⟨n, n2, by rw [HR.out]; rfl, fun x q => (by rw [HR.out] at q; injection q with q; rw [← q]; exact ⟨rfl, rfl⟩), B3.out, M3.out⟩
          · have e3 : (if m ≤ k then some (m, (k : Int)) else none) = none := if_neg (by omega)
            have HR : Hid (R = none) := HR2.trans e3
            clear e3 HR2
            go_enter Try.func122, Try.ntmps122
            go_wp2_with fail
            refine CU.out.mono ?_
            rintro e w1 ⟨rfl, b1, m1⟩
            have B1 : Hid (Below w.heap.size w w1) := b1
            have M1 : Hid (MaxL w1) := m1
            clear b1 m1
            go_wp2_with fail
            refine (N1.out _).mono ?_
            rintro e w2 ⟨n, rfl, hn, hs, b2⟩
            have B2 : Hid (Below w.heap.size w w2) := B1.out.trans (b2.mono B1.out.size)
            have M2 : Hid (MaxL w2) := M1.out.below2 b2
            obtain rfl := hs m rfl
            clear b2 hs
            go_wp2_with fail
            refine (N2.out _).mono ?_
            rintro e w3 ⟨n2, rfl, hn2, hs2, b3⟩
            have B3 : Hid (Below w.heap.size w w3) := B2.out.trans (b3.mono B2.out.size)
            have M3 : Hid (MaxL w3) := M2.out.below2 b3
            obtain rfl := hs2 k rfl
            clear b3 hs2
            go_wp2
            go_ret3
            exact ⟨n, n2, (congrArg (fun b => Ending.returned (.tuple #[.int .i64 (n : Int), .int .i64 (n2 : Int), .bool b])) (show decide (n ≤ n2) = R.isSome by rw [HR.out]; exact decide_eq_false (by omega))), fun x q => (by rw [HR.out] at q; cases q), B3.out, M3.out⟩
/-- A slice of one node. -/
theorem SV_one {S : Nat → Prop} {W : World} {b : Nat} {h : Hd} {u : Value} {l : List T} (hb : BoxN 55 W b h u) (hS : S b) (hu : SV S W u l) : SV S W (.slice (some ⟨b, 0, none⟩) 1 1) [.mk h l] :=
  ⟨some ⟨b, 0, none⟩, 1, b, 0, rfl, Nat.le_refl _, by omega, fun _ => rfl, (LAt_cons S W b 0 (.mk h l) []).symm ▸ ⟨NAt.mk hb.range hS hb.lt hu, trivial⟩⟩
set_option maxHeartbeats 1000000 in
set_option maxRecDepth 100000 in
theorem repeat_any (S : Nat → Prop) (a b : Int) (h : Hd) (l : List T) (w : World) (u : Value) (hu : SV S w u l) :
    Calls Try.prog 106 #[.int .i64 a, .int .i64 b, vN h u] w fun e w' => ∃ u', e = .returned (vN (hRep a b) u') ∧ SV (fun x => S x ∨ w.heap.size ≤ x) w' u' [.mk h l] ∧ Below w.heap.size w w' := by
  have HU : Hid (SV S w u l) := hu
  obtain ⟨x1, y1, bb, sz⟩ := two_boxes 55 w h hd0 u (.slice none 0 0)
  have X1 : Hid (BoxN 55 ((w.alloc (.cells (cN h u).toArray 55)).alloc (.cells (cN hd0 (.slice none 0 0)).toArray 55)) w.heap.size h u) := x1
  have Y1 : Hid (BoxN 55 ((w.alloc (.cells (cN h u).toArray 55)).alloc (.cells (cN hd0 (.slice none 0 0)).toArray 55)) (w.heap.size + 1) hd0 (.slice none 0 0)) := y1
  have Y2 : Hid (BoxN 55 (((w.alloc (.cells (cN h u).toArray 55)).alloc (.cells (cN hd0 (.slice none 0 0)).toArray 55)).alloc (.cells (cN h u).toArray 55)) (w.heap.size + 1) hd0 (.slice none 0 0)) := y1.blk (Below.heap_alloc _ _ _ y1.lt)
  have Z2 : Hid (BoxN 55 (((w.alloc (.cells (cN h u).toArray 55)).alloc (.cells (cN hd0 (.slice none 0 0)).toArray 55)).alloc (.cells (cN h u).toArray 55)) (w.heap.size + 1 + 1) h u) := by
    have := BoxN.new 55 ((w.alloc (.cells (cN h u).toArray 55)).alloc (.cells (cN hd0 (.slice none 0 0)).toArray 55)) h u
    rw [sz] at this; exact this
  have B2 : Hid (Below w.heap.size w (((w.alloc (.cells (cN h u).toArray 55)).alloc (.cells (cN hd0 (.slice none 0 0)).toArray 55)).alloc (.cells (cN h u).toArray 55))) := bb.alloc (by rw [sz]; omega) _
  clear x1 y1 bb sz hu
  obtain ⟨kk, c, x0, x1, x2, x3, nn, lo, hi⟩ := h
  change Calls Try.prog 106 #[.int .i64 a, .int .i64 b, .agg #[.int .i64 kk, .int .u8 (c : Int), .int .u64 (x0 : Int), .int .u64 x1, .int .u64 x2, .int .u64 x3, .int .i64 nn, .int .i64 lo, .int .i64 hi, u]] w _
  go_enter Try.func106, Try.ntmps106
  go_wp2_with (first | (refine loadN55 rfl _ rfl w.heap.size 0 rfl ⟨kk, c, x0, x1, x2, x3, nn, lo, hi⟩ _ X1.out.range ?_) | (refine build55 rfl _ rfl ⟨kk, c, x0, x1, x2, x3, nn, lo, hi⟩ u rfl ?_) | (refine storeB55 rfl _ _ rfl (w.heap.size + 1) rfl (hRep a b) (.slice (some ⟨w.heap.size + 1 + 1, 0, none⟩) 1 1) rfl rfl hd0 _ Y2.out ?_))
  have Z3 := Z2.out.blk (w' := (((w.alloc (.cells (cN ⟨kk, c, x0, x1, x2, x3, nn, lo, hi⟩ u).toArray 55)).alloc (.cells (cN hd0 (.slice none 0 0)).toArray 55)).alloc (.cells (cN ⟨kk, c, x0, x1, x2, x3, nn, lo, hi⟩ u).toArray 55)).setRow (w.heap.size + 1) (cN (hRep a b) (.slice (some ⟨w.heap.size + 1 + 1, 0, none⟩) 1 1)).toArray) (setRow_other _ _ _ _ (by omega))
  have B3 := below_row B2.out (Nat.le_succ _) (cN (hRep a b) (.slice (some ⟨w.heap.size + 1 + 1, 0, none⟩) 1 1)).toArray
  exact bodyPost_ret (v := vN (hRep a b) (.slice (some ⟨w.heap.size + 1 + 1, 0, none⟩) 1 1)) (res55 6 Try.results106 _ _ (w.heap.size + 1) _ _ rfl (BoxN.row Y2.out _ _)) rfl ⟨_, rfl, SV_one Z3 (.inr (by omega)) ((HU.out.below B3).weak fun b q _ => .inl q), B3⟩
end Go.Proofs.Ytndmjndokokmnaa
