import Derived.Test.YtnpjknnalekdpaaBc
import Derived.Laws.StructEq
namespace Go.Proofs.Ytnpjknnalekdpaa
set_option linter.unusedSimpArgs false
set_option linter.unusedVariables false
open Go.RowKit
/-- A message, plain. -/
structure Msg where
  kind : Int
  frm : Int
  to : Int
  id : Int
  base : Int
  s : ByteArray
  quiet : Bool
  ext : Bool
  hash : List Int
  yes : Bool
  code : Int
  vh : List Int
  vr : List Int
  commit : Bool
structure Msg.Ok (m : Msg) : Prop where
  k : -9223372036854775808 ≤ m.kind ∧ m.kind ≤ 9223372036854775807
  f : -9223372036854775808 ≤ m.frm ∧ m.frm ≤ 9223372036854775807
  t : -9223372036854775808 ≤ m.to ∧ m.to ≤ 9223372036854775807
  i : 0 ≤ m.id ∧ m.id ≤ 18446744073709551615
  b : 0 ≤ m.base ∧ m.base ≤ 18446744073709551615
  c : -9223372036854775808 ≤ m.code ∧ m.code ≤ 9223372036854775807
  s : m.s.size ≤ 9223372036854775807
  h : m.hash.length = 32
  v : m.vh.length = 32
  r : m.vr.length = 32
  hb : Bytes m.hash
  vb : Bytes m.vh
  rb : Bytes m.vr
def eC (m : Msg) : List Value := [.string m.s, .bool m.quiet, .bool m.ext] ++ (vB m.hash).toList
def mC (m : Msg) : List Value := [.int .i64 m.kind, .int .i64 m.frm, .int .i64 m.to, .int .u64 m.id, .int .u64 m.base] ++ (eC m ++ ([.bool m.yes, .int .i64 m.code] ++ ((vB m.vh).toList ++ ((vB m.vr).toList ++ [.bool m.commit]))))
theorem vBl (l : List Int) : (vB l).toList.length = l.length := by rw [Array.length_toList, vB_size]
theorem eC_length (m : Msg) (h : m.Ok) : (eC m).length = 35 := by unfold eC; rw [List.length_append, vBl, h.h]; rfl
theorem mC_length (m : Msg) (h : m.Ok) : (mC m).length = 107 := by unfold mC; simp only [List.length_append, eC_length m h, vBl, h.v, h.r, List.length_cons, List.length_nil]
/-- A piece of a row. -/
theorem piece (A B C : List Value) (a n : Nat) (ha : A.length = a) (hn : B.length = n) : (A ++ (B ++ C)).toArray.extract a (a + n) = B.toArray := by
  rw [List.extract_toArray]
  congr 1
  unfold List.extract
  rw [List.drop_append_of_le_length (by omega), List.drop_eq_nil_of_le (by omega), List.nil_append, List.take_append_of_le_length (by omega), List.take_of_length_le (by omega)]
theorem mC_edit (m : Msg) (h : m.Ok) : (mC m).toArray.extract 5 40 = (eC m).toArray := piece [.int .i64 m.kind, .int .i64 m.frm, .int .i64 m.to, .int .u64 m.id, .int .u64 m.base] (eC m) _ 5 35 rfl (eC_length m h)
theorem mC_vh (m : Msg) (h : m.Ok) : (mC m).toArray.extract 42 74 = vB m.vh := by
  have e : mC m = ([.int .i64 m.kind, .int .i64 m.frm, .int .i64 m.to, .int .u64 m.id, .int .u64 m.base] ++ eC m ++ [.bool m.yes, .int .i64 m.code]) ++ ((vB m.vh).toList ++ ((vB m.vr).toList ++ [.bool m.commit])) := by unfold mC; simp only [List.append_assoc]
  rw [e]
  exact piece _ _ _ 42 32 (by simp only [List.length_append, eC_length m h, List.length_cons, List.length_nil]) (by rw [vBl, h.v])
theorem mC_vr (m : Msg) (h : m.Ok) : (mC m).toArray.extract 74 106 = vB m.vr := by
  have e : mC m = ([.int .i64 m.kind, .int .i64 m.frm, .int .i64 m.to, .int .u64 m.id, .int .u64 m.base] ++ eC m ++ [.bool m.yes, .int .i64 m.code] ++ (vB m.vh).toList) ++ ((vB m.vr).toList ++ [.bool m.commit]) := by unfold mC; simp only [List.append_assoc]
  rw [e]
  exact piece _ _ _ 74 32 (by simp only [List.length_append, eC_length m h, vBl, h.v, List.length_cons, List.length_nil]) (by rw [vBl, h.r])
theorem eC_hash (m : Msg) (h : m.Ok) : (eC m).toArray.extract 3 35 = vB m.hash := by
  have := piece [.string m.s, .bool m.quiet, .bool m.ext] (vB m.hash).toList [] 3 32 rfl (by rw [vBl, h.h])
  rw [List.append_nil] at this
  exact this
theorem mC_0 (m : Msg) : (mC m).toArray[0]? = some (.int .i64 m.kind) := rfl
theorem mC_1 (m : Msg) : (mC m).toArray[1]? = some (.int .i64 m.frm) := rfl
theorem mC_2 (m : Msg) : (mC m).toArray[2]? = some (.int .i64 m.to) := rfl
theorem mC_3 (m : Msg) : (mC m).toArray[3]? = some (.int .u64 m.id) := rfl
theorem mC_4 (m : Msg) : (mC m).toArray[4]? = some (.int .u64 m.base) := rfl
theorem mC_5 (m : Msg) : (mC m).toArray[5]? = some (.string m.s) := rfl
theorem mC_6 (m : Msg) : (mC m).toArray[6]? = some (.bool m.quiet) := rfl
theorem mC_7 (m : Msg) : (mC m).toArray[7]? = some (.bool m.ext) := rfl
theorem mC_40 (m : Msg) (h : m.Ok) : (mC m).toArray[40]? = some (.bool m.yes) := by
  have e : mC m = ([.int .i64 m.kind, .int .i64 m.frm, .int .i64 m.to, .int .u64 m.id, .int .u64 m.base] ++ eC m) ++ ([.bool m.yes, .int .i64 m.code] ++ ((vB m.vh).toList ++ ((vB m.vr).toList ++ [.bool m.commit]))) := by unfold mC; simp only [List.append_assoc]
  rw [e, List.getElem?_toArray, List.getElem?_append_right (by simp only [List.length_append, eC_length m h, List.length_cons, List.length_nil]; omega)]
  simp only [List.length_append, eC_length m h, List.length_cons, List.length_nil]; rfl
theorem mC_41 (m : Msg) (h : m.Ok) : (mC m).toArray[41]? = some (.int .i64 m.code) := by
  have e : mC m = ([.int .i64 m.kind, .int .i64 m.frm, .int .i64 m.to, .int .u64 m.id, .int .u64 m.base] ++ eC m) ++ ([.bool m.yes, .int .i64 m.code] ++ ((vB m.vh).toList ++ ((vB m.vr).toList ++ [.bool m.commit]))) := by unfold mC; simp only [List.append_assoc]
  rw [e, List.getElem?_toArray, List.getElem?_append_right (by simp only [List.length_append, eC_length m h, List.length_cons, List.length_nil]; omega)]
  simp only [List.length_append, eC_length m h, List.length_cons, List.length_nil]; rfl
theorem mC_106 (m : Msg) (h : m.Ok) : (mC m).toArray[106]? = some (.bool m.commit) := by
  have e : mC m = ([.int .i64 m.kind, .int .i64 m.frm, .int .i64 m.to, .int .u64 m.id, .int .u64 m.base] ++ eC m ++ [.bool m.yes, .int .i64 m.code] ++ (vB m.vh).toList ++ (vB m.vr).toList) ++ [.bool m.commit] := by unfold mC; simp only [List.append_assoc]
  rw [e, List.getElem?_toArray, List.getElem?_append_right (by simp only [List.length_append, eC_length m h, vBl, h.v, h.r, List.length_cons, List.length_nil]; omega)]
  simp only [List.length_append, eC_length m h, vBl, h.v, h.r, List.length_cons, List.length_nil]; rfl
-- two rows of 32 bytes
theorem forIn_seekG {β : Type} {P : Program} (w : World) (f : Nat → β → Sem (ForInStep β)) (g : Nat → Bool) (b c : β) : ∀ (n s : Nat), (∀ j, s ≤ j ∧ j < s + n → g j = true → (f j b).run P w = .ok (.yield b) w) → (∀ j, s ≤ j ∧ j < s + n → g j = false → (f j b).run P w = .ok (.done c) w) → (forIn (List.range' s n) b f).run P w = .ok (if (List.range' s n).all g = true then b else c) w
  | 0, s, _, _ => by simp
  | n + 1, s, h1, h2 => by
    rw [List.range'_succ, List.forIn_cons, Sem.run_bind]
    cases hg : g s with
    | true =>
      rw [h1 s ⟨by omega, by omega⟩ hg]
      simp only [Result.andThen_ok]
      rw [forIn_seekG w f g b c n (s + 1) (fun j hj => h1 j ⟨by omega, by omega⟩) (fun j hj => h2 j ⟨by omega, by omega⟩), List.all_cons, hg, Bool.true_and]
    | false =>
      rw [h2 s ⟨by omega, by omega⟩ hg]
      simp [hg]
theorem all_sameG (l m : List Int) (hl : l.length = 32) (hm : m.length = 32) : (List.range' 0 32).all (fun j => decide (gi l j = gi m j)) = decide (l = m) := by
  rw [Bool.eq_iff_iff, List.all_eq_true, decide_eq_true_eq]
  constructor
  · intro h
    apply List.ext_getElem (by omega)
    intro j h1 h2
    have := of_decide_eq_true (h j (by simp; omega))
    unfold gi at this
    rw [List.getD_eq_getElem?_getD, List.getD_eq_getElem?_getD, List.getElem?_eq_getElem h1, List.getElem?_eq_getElem h2] at this
    exact this
  · rintro rfl j _; simp
set_option maxRecDepth 100000 in
theorem eq24_any (d : Nat) (l m : List Int) (hl : l.length = 32) (hm : m.length = 32) (w : World) : (Op.equalIn (d + 2) 27 (.agg (vB l)) (.agg (vB m))).run Try.prog w = .ok (decide (l = m)) w := by
  have hs : (Try.prog.info? 5).map (·.size) = some 1 := by kernel_rfl
  have hagg : (isAgg 5).run Try.prog w = .ok false w := by
    unfold isAgg; rw [Sem.run_bind, run_underlying Try.underlying5 w]; rfl
  cases hi : Try.prog.info? 5 with
  | none => simp [hi] at hs
  | some i =>
    have hz : i.size = 1 := by simpa [hi] using hs
    have hpart : ∀ (l : List Int), l.length = 32 → ∀ j, j < 32 → (part 5 (vB l) j).run Try.prog w = .ok (.int .u8 (gi l j)) w := fun l hl j hj => by
      have hq := vB_at l j (by omega)
      simp [part, hagg, hq]
    unfold Op.equalIn
    simp only [Sem.run_bind, run_underlying Try.underlying27, Result.andThen_ok]
    have hso : (sizeOf 5).run Try.prog w = .ok 1 w := by simp [sizeOf, typeInfo, hi, hz]
    simp only [hso, Result.andThen_ok, Std.Legacy.Range.forIn_eq_forIn_range']
    rw [show ([:32] : Std.Legacy.Range).size = 32 from rfl, forIn_seekG _ _ (fun j => decide (gi l j = gi m j)) (none, ()) (some false, ()) 32 0]
    · rw [all_sameG l m hl hm]
      by_cases h : l = m <;> simp [h]
    · intro j hj hg
      have hp := hpart l hl j (by omega)
      have hp2 := hpart m hm j (by omega)
      have he : (Op.equalIn (d + 1) 5 (.int .u8 (gi l j)) (.int .u8 (gi m j))).run Try.prog w = .ok true w := by
        rw [run_equalIn_int w d 5 .u8 .u8 _ _ Try.underlying5]
        have := of_decide_eq_true hg
        simp [this]
      simp [Sem.run_bind, hp, hp2, he]
    · intro j hj hg
      have hp := hpart l hl j (by omega)
      have hp2 := hpart m hm j (by omega)
      have he : (Op.equalIn (d + 1) 5 (.int .u8 (gi l j)) (.int .u8 (gi m j))).run Try.prog w = .ok false w := by
        rw [run_equalIn_int w d 5 .u8 .u8 _ _ Try.underlying5]
        have := of_decide_eq_false hg
        simp [this]
      simp [Sem.run_bind, hp, hp2, he]
-- the parts
theorem part_one (t : TypeId) (cs : Array Value) (o : Nat) (v : Value) (w : World) (ha : (isAgg t).run Try.prog w = .ok false w) (h : cs[o]? = some v) : (part t cs o).run Try.prog w = .ok v w := by
  simp [part, ha, h]
theorem part_many (t : TypeId) (cs : Array Value) (o n : Nat) (ps : Array Value) (w : World) (ha : (isAgg t).run Try.prog w = .ok true w) (hs : (sizeOf t).run Try.prog w = .ok n w) (h : cs.extract o (o + n) = ps) : (part t cs o).run Try.prog w = .ok (.agg ps) w := by
  simp [part, ha, hs, h]
set_option maxRecDepth 100000 in
theorem size_run (t : TypeId) (n : Nat) (h : (Try.prog.info? t).map (·.size) = some n) (w : World) : (sizeOf t).run Try.prog w = .ok n w := by
  cases hi : Try.prog.info? t with
  | none => rw [hi] at h; cases h
  | some i => rw [hi] at h; simp at h; simp [sizeOf, typeInfo, hi, h]
def eqF (a b : Msg) : Bool := if (a.quiet == b.quiet) = true then (if (a.ext == b.ext) = true then true else false) else false
def eqE (a b : Msg) : Bool := if (a.s.toList == b.s.toList) = true then (if eqF a b = true then (if decide (a.hash = b.hash) = true then true else false) else false) else false
def eqM (a b : Msg) : Bool :=
  if (a.kind == b.kind) = true then if (a.frm == b.frm) = true then if (a.to == b.to) = true then if (a.id == b.id) = true then if (a.base == b.base) = true then
    if eqE a b = true then if (a.yes == b.yes) = true then if (a.code == b.code) = true then if decide (a.vh = b.vh) = true then if decide (a.vr = b.vr) = true then if (a.commit == b.commit) = true then true
    else false else false else false else false else false else false else false else false else false else false else false
theorem bytes_ext (a b : ByteArray) (h : (a.toList == b.toList) = true) : a = b := by
  rw [← beq_toListBytes] at h
  obtain ⟨⟨x⟩⟩ := a
  obtain ⟨⟨y⟩⟩ := b
  have : ((⟨x⟩ : Array UInt8) == ⟨y⟩) = true := h
  simp at this
  rw [this]
theorem eqM_iff (a b : Msg) : eqM a b = true ↔ a = b := by
  constructor
  · intro h
    unfold eqM eqE eqF at h
    simp only [Bool.if_false_right, Bool.and_eq_true, beq_iff_eq, decide_eq_true_eq, Bool.and_true] at h
    obtain ⟨h1, h2, h3, h4, h5, ⟨h6, ⟨h7, h8⟩, h9⟩, h10, h11, h12, h13, h14⟩ := h
    have h6' := bytes_ext a.s b.s (by rw [h6]; simp)
    cases a; cases b; simp_all
  · rintro rfl
    unfold eqM eqE eqF
    simp
theorem eqFields_cons (d : Nat) (xs ys : Array Value) (f : Field) (fs : List Field) (w : World) (a b : Value) (q r : Bool) (hn : f.name ≠ "_") (ha : (part f.type xs f.offset).run Try.prog w = .ok a w) (hb : (part f.type ys f.offset).run Try.prog w = .ok b w) (he : (Op.equalIn d f.type a b).run Try.prog w = .ok q w) (hr : (Op.eqFields d xs ys fs).run Try.prog w = .ok r w) : (Op.eqFields d xs ys (f :: fs)).run Try.prog w = .ok (if q = true then r else false) w := by
  rw [Op.eqFields, if_pos hn]
  simp only [Sem.run_bind, ha, hb, he, Result.andThen_ok]
  cases q
  · simp
  · simp [hr]
theorem eqFields_nil (d : Nat) (xs ys : Array Value) (w : World) : (Op.eqFields d xs ys []).run Try.prog w = .ok true w := by simp [Op.eqFields]
theorem agg_no (t : TypeId) (k : TypeDesc) (h : Try.prog.underlying t = some k) (hk : (match k with | .struct _ | .array _ _ => true | _ => false) = false) (w : World) : (isAgg t).run Try.prog w = .ok false w := by
  unfold isAgg; rw [Sem.run_bind, run_underlying h w]
  cases k <;> first | rfl | cases hk
set_option maxRecDepth 100000 in
theorem eq61_any (d : Nat) (a b : Msg) (w : World) : (Op.equalIn (d + 2) 26 (.agg #[.bool a.quiet, .bool a.ext]) (.agg #[.bool b.quiet, .bool b.ext])).run Try.prog w = .ok (eqF a b) w := by
  have a4 := agg_no 4 _ Try.underlying4 rfl w
  rw [run_equalIn_struct w (d + 1) 26 _ _ (by simp [Program.fieldsOf, Try.underlying26]) (by kernel_rfl)]
  simp only [Program.fieldsOf, Try.underlying26]
  refine eqFields_cons _ _ _ _ _ w _ _ _ _ (by decide) (part_one 4 _ 0 _ w a4 rfl) (part_one 4 _ 0 _ w a4 rfl) (run_equalIn_bool' w d 4 _ _ Try.underlying4) ?_
  exact eqFields_cons _ _ _ _ _ w _ _ _ _ (by decide) (part_one 4 _ 1 _ w a4 rfl) (part_one 4 _ 1 _ w a4 rfl) (run_equalIn_bool' w d 4 _ _ Try.underlying4) (eqFields_nil _ _ _ w)
theorem agg_yes (t : TypeId) (k : TypeDesc) (h : Try.prog.underlying t = some k) (hk : (match k with | .struct _ | .array _ _ => true | _ => false) = true) (w : World) : (isAgg t).run Try.prog w = .ok true w := by
  unfold isAgg; rw [Sem.run_bind, run_underlying h w]
  cases k <;> first | rfl | cases hk
set_option maxRecDepth 100000 in
theorem eq63_any (d : Nat) (a b : Msg) (ha : a.Ok) (hb : b.Ok) (w : World) : (Op.equalIn (d + 3) 29 (.agg (eC a).toArray) (.agg (eC b).toArray)).run Try.prog w = .ok (eqE a b) w := by
  have a9 := agg_no 9 _ Try.underlying9 rfl w
  have y61 := agg_yes 26 _ Try.underlying26 rfl w
  have y24 := agg_yes 27 _ Try.underlying27 rfl w
  have s61 := size_run 26 2 (by kernel_rfl) w
  have s24 := size_run 27 32 (by kernel_rfl) w
  rw [run_equalIn_struct w (d + 2) 29 _ _ (by simp [Program.fieldsOf, Try.underlying29]) (by kernel_rfl)]
  simp only [Program.fieldsOf, Try.underlying29]
  refine eqFields_cons _ _ _ _ _ w _ _ _ _ (by decide) (part_one 9 _ 0 _ w a9 rfl) (part_one 9 _ 0 _ w a9 rfl) (run_equalIn_string w (d + 1) 9 _ _ Try.underlying9) ?_
  refine eqFields_cons _ _ _ _ _ w _ _ _ _ (by decide) (part_many 26 _ 1 2 #[.bool a.quiet, .bool a.ext] w y61 s61 (piece [.string a.s] [.bool a.quiet, .bool a.ext] _ 1 2 rfl rfl)) (part_many 26 _ 1 2 #[.bool b.quiet, .bool b.ext] w y61 s61 (piece [.string b.s] [.bool b.quiet, .bool b.ext] _ 1 2 rfl rfl)) (eq61_any d a b w) ?_
  exact eqFields_cons _ _ _ _ _ w _ _ _ _ (by decide) (part_many 27 _ 3 32 _ w y24 s24 (eC_hash a ha)) (part_many 27 _ 3 32 _ w y24 s24 (eC_hash b hb)) (eq24_any d _ _ ha.h hb.h w) (eqFields_nil _ _ _ w)
set_option maxRecDepth 100000 in
theorem eq68_any (d : Nat) (a b : Msg) (ha : a.Ok) (hb : b.Ok) (w : World) : (Op.equalIn (d + 4) 32 (.agg (mC a).toArray) (.agg (mC b).toArray)).run Try.prog w = .ok (eqM a b) w := by
  have a3 := agg_no 3 _ Try.underlying3 rfl w
  have a59 := agg_no 24 _ Try.underlying24 rfl w
  have a4 := agg_no 4 _ Try.underlying4 rfl w
  have a42 := agg_no 30 _ Try.underlying30 rfl w
  have y63 := agg_yes 29 _ Try.underlying29 rfl w
  have y24 := agg_yes 27 _ Try.underlying27 rfl w
  have s63 := size_run 29 35 (by kernel_rfl) w
  have s24 := size_run 27 32 (by kernel_rfl) w
  rw [run_equalIn_struct w (d + 3) 32 _ _ (by simp [Program.fieldsOf, Try.underlying32]) (by kernel_rfl)]
  simp only [Program.fieldsOf, Try.underlying32]
  refine eqFields_cons _ _ _ _ _ w _ _ _ _ (by decide) (part_one 3 _ 0 _ w a3 (mC_0 a)) (part_one 3 _ 0 _ w a3 (mC_0 b)) (run_equalIn_int w (d + 2) 3 .i64 .i64 _ _ Try.underlying3) ?_
  refine eqFields_cons _ _ _ _ _ w _ _ _ _ (by decide) (part_one 3 _ 1 _ w a3 (mC_1 a)) (part_one 3 _ 1 _ w a3 (mC_1 b)) (run_equalIn_int w (d + 2) 3 .i64 .i64 _ _ Try.underlying3) ?_
  refine eqFields_cons _ _ _ _ _ w _ _ _ _ (by decide) (part_one 3 _ 2 _ w a3 (mC_2 a)) (part_one 3 _ 2 _ w a3 (mC_2 b)) (run_equalIn_int w (d + 2) 3 .i64 .i64 _ _ Try.underlying3) ?_
  refine eqFields_cons _ _ _ _ _ w _ _ _ _ (by decide) (part_one 24 _ 3 _ w a59 (mC_3 a)) (part_one 24 _ 3 _ w a59 (mC_3 b)) (run_equalIn_int w (d + 2) 24 .u64 .u64 _ _ Try.underlying24) ?_
  refine eqFields_cons _ _ _ _ _ w _ _ _ _ (by decide) (part_one 24 _ 4 _ w a59 (mC_4 a)) (part_one 24 _ 4 _ w a59 (mC_4 b)) (run_equalIn_int w (d + 2) 24 .u64 .u64 _ _ Try.underlying24) ?_
  refine eqFields_cons _ _ _ _ _ w _ _ _ _ (by decide) (part_many 29 _ 5 35 _ w y63 s63 (mC_edit a ha)) (part_many 29 _ 5 35 _ w y63 s63 (mC_edit b hb)) (eq63_any d a b ha hb w) ?_
  refine eqFields_cons _ _ _ _ _ w _ _ _ _ (by decide) (part_one 4 _ 40 _ w a4 (mC_40 a ha)) (part_one 4 _ 40 _ w a4 (mC_40 b hb)) (run_equalIn_bool' w (d + 2) 4 _ _ Try.underlying4) ?_
  refine eqFields_cons _ _ _ _ _ w _ _ _ _ (by decide) (part_one 30 _ 41 _ w a42 (mC_41 a ha)) (part_one 30 _ 41 _ w a42 (mC_41 b hb)) (run_equalIn_int w (d + 2) 30 .i64 .i64 _ _ Try.underlying30) ?_
  refine eqFields_cons _ _ _ _ _ w _ _ _ _ (by decide) (part_many 27 _ 42 32 _ w y24 s24 (mC_vh a ha)) (part_many 27 _ 42 32 _ w y24 s24 (mC_vh b hb)) (eq24_any (d + 1) _ _ ha.v hb.v w) ?_
  refine eqFields_cons _ _ _ _ _ w _ _ _ _ (by decide) (part_many 27 _ 74 32 _ w y24 s24 (mC_vr a ha)) (part_many 27 _ 74 32 _ w y24 s24 (mC_vr b hb)) (eq24_any (d + 1) _ _ ha.r hb.r w) ?_
  exact eqFields_cons _ _ _ _ _ w _ _ _ _ (by decide) (part_one 4 _ 106 _ w a4 (mC_106 a ha)) (part_one 4 _ 106 _ w a4 (mC_106 b hb)) (run_equalIn_bool' w (d + 2) 4 _ _ Try.underlying4) (eqFields_nil _ _ _ w)
set_option maxRecDepth 100000 in
theorem eq65_any (d : Nat) (a b : Msg) (ha : a.Ok) (hb : b.Ok) (w : World) : (Op.equalIn (d + 4) 37 (.agg (mC a).toArray) (.agg (mC b).toArray)).run Try.prog w = .ok (eqM a b) w := by
  have a3 := agg_no 3 _ Try.underlying3 rfl w
  have a59 := agg_no 24 _ Try.underlying24 rfl w
  have a4 := agg_no 4 _ Try.underlying4 rfl w
  have a42 := agg_no 30 _ Try.underlying30 rfl w
  have y63 := agg_yes 29 _ Try.underlying29 rfl w
  have y24 := agg_yes 27 _ Try.underlying27 rfl w
  have s63 := size_run 29 35 (by kernel_rfl) w
  have s24 := size_run 27 32 (by kernel_rfl) w
  rw [run_equalIn_struct w (d + 3) 37 _ _ (by simp [Program.fieldsOf, Try.underlying37]) (by kernel_rfl)]
  simp only [Program.fieldsOf, Try.underlying37]
  refine eqFields_cons _ _ _ _ _ w _ _ _ _ (by decide) (part_one 3 _ 0 _ w a3 (mC_0 a)) (part_one 3 _ 0 _ w a3 (mC_0 b)) (run_equalIn_int w (d + 2) 3 .i64 .i64 _ _ Try.underlying3) ?_
  refine eqFields_cons _ _ _ _ _ w _ _ _ _ (by decide) (part_one 3 _ 1 _ w a3 (mC_1 a)) (part_one 3 _ 1 _ w a3 (mC_1 b)) (run_equalIn_int w (d + 2) 3 .i64 .i64 _ _ Try.underlying3) ?_
  refine eqFields_cons _ _ _ _ _ w _ _ _ _ (by decide) (part_one 3 _ 2 _ w a3 (mC_2 a)) (part_one 3 _ 2 _ w a3 (mC_2 b)) (run_equalIn_int w (d + 2) 3 .i64 .i64 _ _ Try.underlying3) ?_
  refine eqFields_cons _ _ _ _ _ w _ _ _ _ (by decide) (part_one 24 _ 3 _ w a59 (mC_3 a)) (part_one 24 _ 3 _ w a59 (mC_3 b)) (run_equalIn_int w (d + 2) 24 .u64 .u64 _ _ Try.underlying24) ?_
  refine eqFields_cons _ _ _ _ _ w _ _ _ _ (by decide) (part_one 24 _ 4 _ w a59 (mC_4 a)) (part_one 24 _ 4 _ w a59 (mC_4 b)) (run_equalIn_int w (d + 2) 24 .u64 .u64 _ _ Try.underlying24) ?_
  refine eqFields_cons _ _ _ _ _ w _ _ _ _ (by decide) (part_many 29 _ 5 35 _ w y63 s63 (mC_edit a ha)) (part_many 29 _ 5 35 _ w y63 s63 (mC_edit b hb)) (eq63_any d a b ha hb w) ?_
  refine eqFields_cons _ _ _ _ _ w _ _ _ _ (by decide) (part_one 4 _ 40 _ w a4 (mC_40 a ha)) (part_one 4 _ 40 _ w a4 (mC_40 b hb)) (run_equalIn_bool' w (d + 2) 4 _ _ Try.underlying4) ?_
  refine eqFields_cons _ _ _ _ _ w _ _ _ _ (by decide) (part_one 30 _ 41 _ w a42 (mC_41 a ha)) (part_one 30 _ 41 _ w a42 (mC_41 b hb)) (run_equalIn_int w (d + 2) 30 .i64 .i64 _ _ Try.underlying30) ?_
  refine eqFields_cons _ _ _ _ _ w _ _ _ _ (by decide) (part_many 27 _ 42 32 _ w y24 s24 (mC_vh a ha)) (part_many 27 _ 42 32 _ w y24 s24 (mC_vh b hb)) (eq24_any (d + 1) _ _ ha.v hb.v w) ?_
  refine eqFields_cons _ _ _ _ _ w _ _ _ _ (by decide) (part_many 27 _ 74 32 _ w y24 s24 (mC_vr a ha)) (part_many 27 _ 74 32 _ w y24 s24 (mC_vr b hb)) (eq24_any (d + 1) _ _ ha.r hb.r w) ?_
  exact eqFields_cons _ _ _ _ _ w _ _ _ _ (by decide) (part_one 4 _ 106 _ w a4 (mC_106 a ha)) (part_one 4 _ 106 _ w a4 (mC_106 b hb)) (run_equalIn_bool' w (d + 2) 4 _ _ Try.underlying4) (eqFields_nil _ _ _ w)
end Go.Proofs.Ytnpjknnalekdpaa
