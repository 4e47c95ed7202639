import Derived.Deep.RegionHeld3
/- A batch of operations of a drawn region: each is walked once, over letters for what the others of the batch yield, whatever order they come up in. -/
namespace Go.Proofs.Ytnpjknnalekdpaa
set_option linter.unusedSimpArgs false
set_option linter.unusedVariables false
open Go
section
variable {P : Program} {ops : Array Oper} {Q : Exit → Act → World → Prop} {md : Region.Mode} {S : World → Prop}
/-- An operation's number, its temporary, and the temporaries of the batch that it reads. -/
abbrev BEnt := Nat × Nat × List Nat
def putT (f : Nat → Value) : List Nat → Act → Act
  | [], a => a
  | d :: r, a => putT f r (a.put (some d) (f d))
def setL : List Nat → Array Bool → Array Bool
  | [], l => l
  | i :: r, l => setL r (l.setIfInBounds i true)
def waits (md : Region.Mode) (o : Oper) (i : Nat) : Bool := o.after.any fun e => Region.binds md e && e.on == i
def entOK (md : Region.Mode) (ops : Array Oper) (B : List BEnt) (e : BEnt) : Bool :=
  match ops[e.1]? with
  | none => false
  | some o => o.dst == some e.2.1 && o.guard.isNone && (match o.op with | .select .. => false | .defer .. => false | _ => true) &&
      e.2.2.all (fun p => B.any fun e' => e'.2.1 == p && waits md o e'.1) &&
      o.op.operands.all fun x => match x with
        | .tmp t => e.2.2.contains t || B.all fun e' => e'.2.1 != t || (match ops[e'.1]? with | some o' => waits md o' e.1 | none => false)
        | _ => true
/-- Each comes behind what it waits for. -/
def topo (md : Region.Mode) (ops : Array Oper) (listed : Array Bool) : List Nat → List BEnt → Bool
  | _, [] => true
  | seen, e :: r => (match ops[e.1]? with | some o => o.after.all fun x => !Region.binds md x || listed.getD x.on false || seen.contains x.on | none => false) && topo md ops listed (e.1 :: seen) r
/-- k waits for i, by way of the batch. -/
def under (md : Region.Mode) (ops : Array Oper) (B : List BEnt) : Nat → Nat → Nat → Bool
  | 0, _, _ => false
  | n + 1, k, i => match ops[k]? with
    | some o => waits md o i || B.any fun e => waits md o e.1 && under md ops B n e.1 i
    | none => false
def batchOK (md : Region.Mode) (ops : Array Oper) (listed : Array Bool) (n : Nat) (B : List BEnt) : Bool :=
  B.all (entOK md ops B) && B.all (fun e => !listed.getD e.1 true && decide (e.2.1 < n)) &&
  (List.range ops.size).all (fun k => listed.getD k true || (B.any fun e => e.1 == k) || (B.all fun e => under md ops B (B.length + 1) k e.1)) &&
  topo md ops listed [] B && decide ((B.map (·.1)).Nodup) && decide ((B.map (·.2.1)).Nodup)

/-- One operation, over letters. -/
def StepB (P : Program) (ops : Array Oper) (Q : Exit → Act → World → Prop) (R : World → World → Prop) (Φ : Nat → Value → World → Prop) (a0 : Act) (w0 : World) (e : BEnt) : Prop :=
  ∀ o, ops[e.1]? = some o → ∀ (f : Nat → Value) (w : World), R w0 w → (∀ p ∈ e.2.2, Φ p (f p) w) → ∀ K : Act → World → Prop,
    Shut (∀ v w', R w w' → Φ e.2.1 v w' → K ((putT f e.2.2 a0).put (some e.2.1) v) w') → o.wp P (putT f e.2.2 a0) w K Q

def StepsB (P : Program) (ops : Array Oper) (Q : Exit → Act → World → Prop) (R : World → World → Prop) (Φ : Nat → Value → World → Prop) (a0 : Act) (w0 : World) : List BEnt → Prop
  | [] => True
  | e :: r => StepB P ops Q R Φ a0 w0 e ∧ StepsB P ops Q R Φ a0 w0 r
theorem StepsB.mem {R : World → World → Prop} {Φ : Nat → Value → World → Prop} {a0 : Act} {w0 : World} : ∀ {B : List BEnt}, StepsB P ops Q R Φ a0 w0 B → ∀ e ∈ B, StepB P ops Q R Φ a0 w0 e
  | [], _, e, h => by cases h
  | x :: r, ⟨h1, h2⟩, e, h => by
    rcases List.mem_cons.1 h with rfl | h
    · exact h1
    · exact StepsB.mem h2 e h
theorem StepB.mk {R : World → World → Prop} {Φ : Nat → Value → World → Prop} {a0 : Act} {w0 : World} {i d : Nat} {ps : List Nat} (o : Oper) (ho : ops[i]? = some o)
    (h : ∀ (f : Nat → Value) (w : World), R w0 w → (∀ p ∈ ps, Φ p (f p) w) → ∀ K : Act → World → Prop,
      Shut (∀ v w', R w w' → Φ d v w' → K ((putT f ps a0).put (some d) v) w') → o.wp P (putT f ps a0) w K Q) : StepB P ops Q R Φ a0 w0 (i, d, ps) := fun o' ho' => by
  have e : o = o' := by simpa [ho] using ho'
  subst e; exact h

theorem putT_get (f : Nat → Value) : ∀ (l : List Nat) (a : Act) (t : Nat), (putT f l a).tmps[t]? = if t ∈ l then (a.tmps[t]?).map (fun _ => f t) else a.tmps[t]?
  | [], a, t => by simp [putT]
  | d :: r, a, t => by
    rw [putT, putT_get f r]
    simp only [Act.put, List.mem_cons, Array.getElem?_setIfInBounds]
    by_cases h : d = t
    · subst h
      by_cases hr : d ∈ r
      · by_cases hs : d < a.tmps.size <;> simp [hr, hs]
      · by_cases hs : d < a.tmps.size <;> simp [hr, hs]
    · have h' : ¬ t = d := fun e => h e.symm
      simp [h, h']
theorem putT_defers (f : Nat → Value) : ∀ (l : List Nat) (a : Act), (putT f l a).defers = a.defers
  | [], a => rfl
  | d :: r, a => by rw [putT, putT_defers f r]; rfl
theorem setL_get : ∀ (l : List Nat) (b : Array Bool) (t : Nat), (setL l b)[t]? = if t ∈ l then (b[t]?).map (fun _ => true) else b[t]?
  | [], b, t => by simp [setL]
  | d :: r, b, t => by
    rw [setL, setL_get r]
    simp only [List.mem_cons, Array.getElem?_setIfInBounds]
    by_cases h : d = t
    · subst h
      by_cases hr : d ∈ r
      · by_cases hs : d < b.size <;> simp [hr, hs]
      · by_cases hs : d < b.size <;> simp [hr, hs]
    · have h' : ¬ t = d := fun e => h e.symm
      simp [h, h']

theorem some_ent {B : List BEnt} {g : BEnt → Nat} {j : Nat} (h : ¬ ∀ e ∈ B, g e ≠ j) : ∃ e ∈ B, g e = j :=
  Classical.byContradiction fun q => h fun e he r => q ⟨e, he, r⟩
theorem waits_spec {o : Oper} {i : Nat} (h : waits md o i = true) : ∃ e ∈ o.after, Region.binds md e = true ∧ e.on = i := by
  unfold waits at h
  obtain ⟨e, he, hb⟩ := Array.any_eq_true'.1 h
  simp only [Bool.and_eq_true, beq_iff_eq] at hb
  exact ⟨e, he, hb.1, hb.2⟩

/-- The first that has not come up is ready. -/
theorem topo_first {listed0 listed : Array Bool} (hm : ∀ j, listed0.getD j false = true → listed.getD j false = true) (un : Nat → Bool) :
    ∀ (B : List BEnt) (seen : List Nat), topo md ops listed0 seen B = true → (∀ j ∈ seen, listed.getD j false = true) →
    (∀ e ∈ B, un e.1 = false → listed.getD e.1 false = true) → (∃ e ∈ B, un e.1 = true) →
    ∃ e ∈ B, un e.1 = true ∧ ∃ o, ops[e.1]? = some o ∧ ∀ x ∈ o.after, Region.binds md x = true → listed.getD x.on false = true
  | [], _, _, _, _, ⟨e, he, _⟩ => by cases he
  | e :: r, seen, ht, hs, hd, hx => by
    simp only [topo, Bool.and_eq_true] at ht
    obtain ⟨h1, h2⟩ := ht
    by_cases hu : un e.1 = true
    · refine ⟨e, List.mem_cons_self .., hu, ?_⟩
      split at h1
      · rename_i o ho
        refine ⟨o, ho, fun x hx hb => ?_⟩
        have := Array.all_eq_true_iff_forall_mem.1 h1 x hx
        simp only [hb, Bool.not_true, Bool.false_or, Bool.or_eq_true, List.contains_iff_mem] at this
        rcases this with h | h
        · exact hm _ h
        · exact hs _ h
      · cases h1
    · have hu' : un e.1 = false := by simpa using hu
      obtain ⟨e', he', q⟩ := topo_first hm un r (e.1 :: seen) h2 (fun j hj => by
        rcases List.mem_cons.1 hj with rfl | hj
        · exact hd e (List.mem_cons_self ..) hu'
        · exact hs j hj) (fun e he => hd e (List.mem_cons_of_mem _ he)) (by
        obtain ⟨e', he', q⟩ := hx
        rcases List.mem_cons.1 he' with rfl | he'
        · exact absurd q hu
        · exact ⟨e', he', q⟩)
      exact ⟨e', List.mem_cons_of_mem _ he', q⟩

theorem nodup_fst {B : List BEnt} (h : (B.map (·.1)).Nodup) {e e' : BEnt} (he : e ∈ B) (he' : e' ∈ B) (q : e.1 = e'.1) : e = e' := by
  induction B with
  | nil => cases he
  | cons x r ih =>
    simp only [List.map_cons, List.nodup_cons] at h
    rcases List.mem_cons.1 he with h1 | h1 <;> rcases List.mem_cons.1 he' with h2 | h2
    · rw [h1, h2]
    · subst h1; exact absurd (q ▸ List.mem_map_of_mem (f := (·.1)) h2) h.1
    · subst h2; exact absurd (q ▸ List.mem_map_of_mem (f := (·.1)) h1) h.1
    · exact ih h.2 h1 h2
theorem nodup_snd {B : List BEnt} (h : (B.map (·.2.1)).Nodup) {e e' : BEnt} (he : e ∈ B) (he' : e' ∈ B) (q : e.2.1 = e'.2.1) : e = e' := by
  induction B with
  | nil => cases he
  | cons x r ih =>
    simp only [List.map_cons, List.nodup_cons] at h
    rcases List.mem_cons.1 he with h1 | h1 <;> rcases List.mem_cons.1 he' with h2 | h2
    · rw [h1, h2]
    · subst h1; exact absurd (q ▸ List.mem_map_of_mem (f := (·.2.1)) h2) h.1
    · subst h2; exact absurd (q ▸ List.mem_map_of_mem (f := (·.2.1)) h1) h.1
    · exact ih h.2 h1 h2

/-- The state between: D tells which temporaries of the batch are there. -/
structure BSt (md : Region.Mode) (ops : Array Oper) (B : List BEnt) (R : World → World → Prop) (Φ : Nat → Value → World → Prop) (l0 : Array Bool) (a0 : Act) (w0 : World) (D : Nat → Bool) (f : Nat → Value) (listed : Array Bool) (a : Act) (w : World) : Prop where
  size : listed.size = l0.size
  inB : ∀ e ∈ B, D e.2.1 = true → listed[e.1]? = some true
  unB : ∀ e ∈ B, D e.2.1 = false → listed[e.1]? = l0[e.1]?
  out : ∀ j, (∀ e ∈ B, e.1 ≠ j) → listed[j]? = l0[j]?
  tsize : a.tmps.size = a0.tmps.size
  defers : a.defers = a0.defers
  tin : ∀ e ∈ B, D e.2.1 = true → a.tmps[e.2.1]? = some (f e.2.1)
  tun : ∀ e ∈ B, D e.2.1 = false → a.tmps[e.2.1]? = a0.tmps[e.2.1]?
  tout : ∀ t, (∀ e ∈ B, e.2.1 ≠ t) → a.tmps[t]? = a0.tmps[t]?
  rel : R w0 w
  facts : ∀ e ∈ B, D e.2.1 = true → Φ e.2.1 (f e.2.1) w
  clos : ∀ e ∈ B, D e.2.1 = true → ∀ o, ops[e.1]? = some o → ∀ x ∈ o.after, Region.binds md x = true → listed.getD x.on false = true

theorem count_lt {B : List BEnt} {D : Nat → Bool} {e : BEnt} (he : e ∈ B) (hu : D e.2.1 = false) (hn : (B.map (·.2.1)).Nodup) :
    (B.filter fun x => !(D x.2.1 || x.2.1 == e.2.1)).length + 1 = (B.filter fun x => !D x.2.1).length := by
  induction B with
  | nil => cases he
  | cons x r ih =>
    simp only [List.map_cons, List.nodup_cons] at hn
    rcases List.mem_cons.1 he with rfl | he
    · have : (r.filter fun x => !(D x.2.1 || x.2.1 == e.2.1)) = r.filter fun x => !D x.2.1 := by
        refine List.filter_congr fun y hy => ?_
        have : (y.2.1 == e.2.1) = false := by
          rw [beq_eq_false_iff_ne]; exact fun q => hn.1 (q ▸ List.mem_map_of_mem (f := (·.2.1)) hy)
        rw [this, Bool.or_false]
      rw [List.filter_cons, List.filter_cons]
      simp only [hu, beq_self_eq_true, Bool.or_true, Bool.not_true, Bool.not_false, if_true, Bool.false_eq_true, if_false, List.length_cons, this]
    · have hx : (x.2.1 == e.2.1) = false := by
        rw [beq_eq_false_iff_ne]; exact fun q => hn.1 (q ▸ List.mem_map_of_mem (f := (·.2.1)) he)
      have := ih he hn.2
      rw [List.filter_cons, List.filter_cons]
      simp only [hx, Bool.or_false]
      split
      · rw [List.length_cons, List.length_cons]; omega
      · exact this

theorem batch_aux {B : List BEnt} {R : World → World → Prop} {Φ : Nat → Value → World → Prop} {fuel : Nat} {l0 : Array Bool} {a0 : Act} {w0 : World}
    (hB : batchOK md ops l0 a0.tmps.size B = true)
    (hQ : ∀ c a a' w, Q (.panic c) a w → Q (.panic c) a' w)
    (htr : ∀ w w', R w0 w → R w w' → R w0 w') (hst : ∀ d v w w', R w0 w → Φ d v w → R w w' → Φ d v w') (hS : ∀ w, R w0 w → S w)
    (hsteps : StepsB P ops Q R Φ a0 w0 B)
    (hfin : ∀ f w, R w0 w → (∀ d ∈ B.map (·.2.1), Φ d (f d) w) → wpAnyH P md ops Q S fuel (setL (B.map (·.1)) l0) (putT f (B.map (·.2.1)) a0) w) :
    ∀ (n : Nat) (D : Nat → Bool) (f : Nat → Value) (listed : Array Bool) (a : Act) (w : World), (B.filter fun x => !D x.2.1).length = n → BSt md ops B R Φ l0 a0 w0 D f listed a w → wpAnyH P md ops Q S (fuel + n) listed a w := by
  simp only [batchOK, Bool.and_eq_true, decide_eq_true_eq] at hB
  obtain ⟨⟨⟨⟨⟨hent, hun⟩, hrest⟩, htopo⟩, hn1⟩, hn2⟩ := hB
  rw [List.all_eq_true] at hent hun
  have hun' : ∀ e ∈ B, l0[e.1]? = some false ∧ e.2.1 < a0.tmps.size := fun e he => by
    have := hun e he
    simp only [Bool.and_eq_true, Bool.not_eq_true', decide_eq_true_eq] at this
    refine ⟨?_, this.2⟩
    have h := this.1
    rw [Array.getD_eq_getD_getElem?] at h
    cases hq : l0[e.1]? with
    | none => rw [hq] at h; cases h
    | some b => rw [hq] at h; simp at h; rw [h]
  intro n
  induction n with
  | zero =>
    intro D f listed a w hc hI
    have all : ∀ e ∈ B, D e.2.1 = true := fun e he => by
      have := List.filter_eq_nil_iff.1 (List.length_eq_zero_iff.1 hc) e he
      simpa using this
    have e1 : listed = setL (B.map (·.1)) l0 := by
      apply Array.ext_getElem?
      intro j
      rw [setL_get]
      by_cases hj : j ∈ B.map (·.1)
      · rw [if_pos hj]
        obtain ⟨e, he, rfl⟩ := List.mem_map.1 hj
        rw [hI.inB e he (all e he), (hun' e he).1]; rfl
      · rw [if_neg hj]; exact hI.out j fun e he q => hj (q ▸ List.mem_map_of_mem (f := (·.1)) he)
    have e2 : a = putT f (B.map (·.2.1)) a0 := by
      have ht : a.tmps = (putT f (B.map (·.2.1)) a0).tmps := by
        apply Array.ext_getElem?
        intro t
        rw [putT_get]
        by_cases hj : t ∈ B.map (·.2.1)
        · rw [if_pos hj]
          obtain ⟨e, he, rfl⟩ := List.mem_map.1 hj
          rw [hI.tin e he (all e he), Array.getElem?_eq_getElem (hun' e he).2]; rfl
        · rw [if_neg hj]; exact hI.tout t fun e he q => hj (q ▸ List.mem_map_of_mem (f := (·.2.1)) he)
      have hd : a.defers = (putT f (B.map (·.2.1)) a0).defers := by rw [putT_defers]; exact hI.defers
      cases a; cases hh : putT f (B.map (·.2.1)) a0; rw [hh] at ht hd; simp only at ht hd; rw [ht, hd]
    rw [e1, e2]
    exact hfin f w hI.rel fun d hd => by
      obtain ⟨e, he, rfl⟩ := List.mem_map.1 hd
      exact hI.facts e he (all e he)
  | succ n ih =>
    intro D f listed a w hc hI
    have hmono : ∀ j, l0.getD j false = true → listed.getD j false = true := fun j hj => by
      by_cases hj' : ∀ e ∈ B, e.1 ≠ j
      · rw [Array.getD_eq_getD_getElem?] at hj ⊢; rw [hI.out j hj']; exact hj
      · obtain ⟨e, he, q⟩ := some_ent hj'
        subst q
        rw [Array.getD_eq_getD_getElem?, (hun' e he).1] at hj
        cases hj
    have hlst : ∀ e ∈ B, listed.getD e.1 false = true → D e.2.1 = true := fun e he h => by
      cases hD : D e.2.1 with
      | true => rfl
      | false => rw [Array.getD_eq_getD_getElem?, hI.unB e he hD, (hun' e he).1] at h; cases h
    have hund : ∀ (m k i : Nat), under md ops B m k i = true → ∀ o, ops[k]? = some o → (∀ x ∈ o.after, Region.binds md x = true → listed.getD x.on false = true) → listed.getD i false = true := by
      intro m
      induction m with
      | zero => intro k i h; cases h
      | succ m ihm =>
        intro k i h o ho hall
        simp only [under, ho, Bool.or_eq_true] at h
        rcases h with h | h
        · obtain ⟨x, hx, hb, hon⟩ := waits_spec h
          rw [← hon]; exact hall x hx hb
        · obtain ⟨e, he, hb⟩ := List.any_eq_true.1 h
          simp only [Bool.and_eq_true] at hb
          obtain ⟨x, hx, hb2, hon⟩ := waits_spec hb.1
          have h3 := hall x hx hb2
          rw [hon] at h3
          have hD := hlst e he h3
          have hE := hent e he
          unfold entOK at hE
          cases ho' : ops[e.1]? with
          | none => rw [ho'] at hE; cases hE
          | some o' => exact ihm e.1 i hb.2 o' ho' (fun x hx hb => hI.clos e he hD o' ho' x hx hb)
    obtain ⟨eu, heu, hDu⟩ : ∃ e ∈ B, D e.2.1 = false := by
      have : (B.filter fun x => !D x.2.1) ≠ [] := fun q => by rw [q] at hc; cases hc
      obtain ⟨e, he⟩ := List.exists_mem_of_ne_nil _ this
      rw [List.mem_filter] at he
      exact ⟨e, he.1, by simpa using he.2⟩
    refine ⟨fun h0 => ?_, fun i hi => ?_⟩
    · exfalso
      obtain ⟨e, he, hu, o, ho, hall⟩ := topo_first (md := md) (ops := ops) hmono (fun j => !listed.getD j false) B [] htopo (fun j hj => by cases hj) (fun e he hu => by simpa using hu) ⟨eu, heu, by rw [Array.getD_eq_getD_getElem?, hI.unB eu heu hDu, (hun' eu heu).1]; rfl⟩
      have : e.1 ∈ Region.ready md ops listed := mem_ready.2 ⟨by
        have hD : D e.2.1 = false := by
          cases hD : D e.2.1 with
          | false => rfl
          | true => rw [Array.getD_eq_getD_getElem?, hI.inB e he hD] at hu; cases hu
        rw [Array.getD_eq_getD_getElem?, hI.unB e he hD, (hun' e he).1]; rfl, o, ho, hall⟩
      rw [h0] at this
      cases this
    · obtain ⟨hl, o, ho, hall⟩ := mem_ready.1 hi
      by_cases hiB : ∀ e ∈ B, e.1 ≠ i
      · exfalso
        have hi0 : l0.getD i true = false := by rw [Array.getD_eq_getD_getElem?] at hl ⊢; rw [← hI.out i hiB]; exact hl
        have hir : i < ops.size := (Array.getElem?_eq_some_iff.1 ho).1
        have q := List.all_eq_true.1 hrest i (List.mem_range.2 hir)
        have hno : (B.any fun e => e.1 == i) = false := by
          rw [List.any_eq_false]; intro e he; simpa using hiB e he
        simp only [hi0, hno, Bool.false_or, List.all_eq_true] at q
        have := hund _ i eu.1 (q eu heu) o ho hall
        have := hlst eu heu this
        rw [hDu] at this; cases this
      · obtain ⟨e, he, q⟩ := some_ent hiB
        subst q
        have hD : D e.2.1 = false := by
          cases hD : D e.2.1 with
          | false => rfl
          | true => rw [Array.getD_eq_getD_getElem?, hI.inB e he hD] at hl; cases hl
        have hE := hent e he
        unfold entOK at hE
        rw [ho] at hE
        simp only [Bool.and_eq_true, beq_iff_eq] at hE
        obtain ⟨⟨⟨⟨hdst, hg⟩, hsel⟩, hps⟩, hop⟩ := hE
        have hg' : o.guard = none := by simpa using hg
        have hdn : ∀ p ∈ e.2.2, ∃ e' ∈ B, e'.2.1 = p ∧ D p = true := fun p hp => by
          have := List.all_eq_true.1 hps p hp
          obtain ⟨e', he', hb⟩ := List.any_eq_true.1 this
          simp only [Bool.and_eq_true, beq_iff_eq] at hb
          obtain ⟨x, hx, hb2, hon⟩ := waits_spec hb.2
          have h3 := hall x hx hb2
          rw [hon] at h3
          have := hlst e' he' h3
          rw [hb.1] at this
          exact ⟨e', he', hb.1, this⟩
        have hstep := hsteps.mem e he o ho f w hI.rel (fun p hp => by
          obtain ⟨e', he', rfl, hd⟩ := hdn p hp
          exact hI.facts e' he' hd)
        have hev : ∀ x ∈ o.op.operands, a.eval x = (putT f e.2.2 a0).eval x := fun x hx => by
          have hx' := Array.all_eq_true_iff_forall_mem.1 hop x hx
          cases x with
          | tmp t =>
            simp only [Act.eval, Array.getD_eq_getD_getElem?]
            congr 1
            rw [putT_get]
            simp only [Bool.or_eq_true, List.contains_iff_mem] at hx'
            by_cases htp : t ∈ e.2.2
            · rw [if_pos htp]
              obtain ⟨e', he', rfl, hd⟩ := hdn t htp
              rw [hI.tin e' he' hd, Array.getElem?_eq_getElem (hun' e' he').2]; rfl
            · rw [if_neg htp]
              have hx2 := hx'.resolve_left htp
              by_cases hB2 : ∀ e' ∈ B, e'.2.1 ≠ t
              · exact hI.tout t hB2
              · obtain ⟨e', he', q⟩ := some_ent hB2
                subst q
                refine hI.tun e' he' ?_
                have h4 := List.all_eq_true.1 hx2 e' he'
                simp only [bne_self_eq_false, Bool.false_or] at h4
                cases hD' : D e'.2.1 with
                | false => rfl
                | true =>
                  -- e' came up, so all that it waits for came up
                  exfalso
                  split at h4
                  · rename_i o' ho'
                    obtain ⟨x, hx, hb, hon⟩ := waits_spec h4
                    have := hI.clos e' he' hD' o' ho' x hx hb
                    rw [hon] at this
                    have := hlst e he this
                    rw [hD] at this; cases this
                  · cases h4
          | const v => rfl
          | global g => rfl
          | func g => rfl
        have hnosel : ∀ cs b, o.op ≠ .select cs b := fun cs b q => by rw [q] at hsel; cases hsel
        have hex : execOp a.eval o = execOp (putT f e.2.2 a0).eval o := execOp_congr o hnosel fun x hx => hev x (by simpa using hx)
        -- the way on
        have next : ∀ (v : Value) (w' : World), R w w' → Φ e.2.1 v w' → S w' ∧ wpAnyH P md ops Q S (fuel + n) (listed.setIfInBounds e.1 true) (a.put (some e.2.1) v) w' := fun v w' hR hΦ => by
          have hR0 := htr w w' hI.rel hR
          refine ⟨hS w' hR0, ih (fun t => D t || t == e.2.1) (fun t => if t = e.2.1 then v else f t) _ _ _ ?_ ?_⟩
          · have := count_lt he hD hn2
            omega
          · have hne : ∀ e' ∈ B, e'.2.1 ≠ e.2.1 → e'.1 ≠ e.1 := fun e' he' q r => q (by rw [nodup_fst hn1 he' he r])
            have hls : e.1 < listed.size := by rw [hI.size]; exact (Array.getElem?_eq_some_iff.1 (hun' e he).1).1
            have hts : e.2.1 < a.tmps.size := by rw [hI.tsize]; exact (hun' e he).2
            constructor
            · simp [hI.size]
            · intro e' he' hd
              by_cases q : e'.2.1 = e.2.1
              · have := nodup_snd hn2 he' he q
                subst this
                simp [hls]
              · have hd' : D e'.2.1 = true := by simpa [q] using hd
                rw [Array.getElem?_setIfInBounds_ne (Ne.symm (hne e' he' q))]
                exact hI.inB e' he' hd'
            · intro e' he' hd
              have q : e'.2.1 ≠ e.2.1 := fun q => by simp [q] at hd
              have hd' : D e'.2.1 = false := by simpa [q] using hd
              rw [Array.getElem?_setIfInBounds_ne (Ne.symm (hne e' he' q))]
              exact hI.unB e' he' hd'
            · intro j hj
              rw [Array.getElem?_setIfInBounds_ne (hj e he)]
              exact hI.out j hj
            · simp [Act.put, hI.tsize]
            · exact hI.defers
            · intro e' he' hd
              by_cases q : e'.2.1 = e.2.1
              · rw [q]; simp [Act.put, hts]
              · have hd' : D e'.2.1 = true := by simpa [q] using hd
                simp only [Act.put, q, if_false]
                rw [Array.getElem?_setIfInBounds_ne (Ne.symm q)]
                exact hI.tin e' he' hd'
            · intro e' he' hd
              have q : e'.2.1 ≠ e.2.1 := fun q => by simp [q] at hd
              have hd' : D e'.2.1 = false := by simpa [q] using hd
              simp only [Act.put]
              rw [Array.getElem?_setIfInBounds_ne (Ne.symm q)]
              exact hI.tun e' he' hd'
            · intro t ht
              simp only [Act.put]
              rw [Array.getElem?_setIfInBounds_ne (ht e he)]
              exact hI.tout t ht
            · exact hR0
            · intro e' he' hd
              by_cases q : e'.2.1 = e.2.1
              · simp only [q, if_true]; exact hΦ
              · have hd' : D e'.2.1 = true := by simpa [q] using hd
                simp only [q, if_false]
                exact hst _ _ _ _ hI.rel (hI.facts e' he' hd') hR
            · intro e' he' hd o' ho' x hx hb
              refine getD_set_true ?_
              by_cases q : e'.2.1 = e.2.1
              · have := nodup_snd hn2 he' he q
                subst this
                rw [ho] at ho'
                injection ho' with ho'
                subst ho'
                exact hall x hx hb
              · have hd' : D e'.2.1 = true := by simpa [q] using hd
                exact hI.clos e' he' hd' o' ho' x hx hb
        have hlt : e.2.1 < (putT f e.2.2 a0).tmps.size := by
          have h1 : (putT f e.2.2 a0).tmps[e.2.1]? ≠ none := by
            rw [putT_get]
            split <;> simp [(hun' e he).2]
          exact Nat.lt_of_not_le fun q => h1 (Array.getElem?_eq_none q)
        have hda : (putT f e.2.2 a0).defers = a.defers := by rw [putT_defers, hI.defers]
        have hgo := hstep (fun a' w' => S w' ∧ wpAnyH P md ops Q S (fuel + n) (listed.setIfInBounds e.1 true) { tmps := a.tmps.setIfInBounds e.2.1 (a'.tmps.getD e.2.1 undef), defers := a'.defers } w') (fun v w' hR hΦ => by
          have h1 : ((putT f e.2.2 a0).put (some e.2.1) v).tmps.getD e.2.1 undef = v := by simp [Act.put, hlt]
          have h2 : ((putT f e.2.2 a0).put (some e.2.1) v).defers = a.defers := hda
          rw [h1, h2]
          exact next v w' hR hΦ)
        have hval : ∀ v : Value, (a.put o.dst v) = { tmps := a.tmps.setIfInBounds e.2.1 (((putT f e.2.2 a0).put o.dst v).tmps.getD e.2.1 undef), defers := ((putT f e.2.2 a0).put o.dst v).defers } := fun v => by
          rw [hdst]; simp [Act.put, hlt, hda]
        have hvald : ∀ (v : Value) (d : Deferred), (({ a with defers := d :: a.defers } : Act).put o.dst v) = { tmps := a.tmps.setIfInBounds e.2.1 ((({ (putT f e.2.2 a0) with defers := d :: (putT f e.2.2 a0).defers } : Act).put o.dst v).tmps.getD e.2.1 undef), defers := (({ (putT f e.2.2 a0) with defers := d :: (putT f e.2.2 a0).defers } : Act).put o.dst v).defers } := fun v d => by
          rw [hdst]; simp [Act.put, hlt, hda]
        unfold wpOp
        rw [ho]
        have hw : Region.wanted o (yielded ops a.tmps) = true := by unfold Region.wanted; rw [hg']
        simp only [hw, if_true]
        refine .inl ?_
        unfold Oper.wp at hgo ⊢
        rw [hex]
        generalize (execOp (putT f e.2.2 a0).eval o).run P w = r at hgo ⊢
        cases r with
        | ok m w' =>
          cases m <;> simp only [Oper.upon] at hgo ⊢
          case value u => rw [hval]; exact hgo
          case skip => rw [hval]; exact hgo
          case defer d => rw [hvald]; exact hgo
          case enter g args =>
            refine Calls.mono hgo fun en w'' hen => ?_
            cases en with
            | returned u => show _ ∧ _; rw [hval]; exact hen
            | panicked c => exact hQ _ _ _ _ hen
            | outgrown => exact hen
          case row row args => exact Rows.mono hgo fun u w'' hen => by rw [hval]; exact hen
        | halt x w' =>
          cases x <;> simp only [Oper.upon] at hgo ⊢
          case panic u => exact hQ _ _ _ _ hgo

/-- **A batch**: whatever order its operations come up in, each one is walked once. -/
theorem wpAnyH_batch {B : List BEnt} {R : World → World → Prop} {Φ : Nat → Value → World → Prop} (fuel : Nat) {l0 : Array Bool} {a0 : Act} {w0 : World}
    (hB : batchOK md ops l0 a0.tmps.size B = true)
    (hQ : ∀ c a a' w, Q (.panic c) a w → Q (.panic c) a' w) (hrf : R w0 w0)
    (htr : ∀ w w', R w0 w → R w w' → R w0 w') (hst : ∀ d v w w', R w0 w → Φ d v w → R w w' → Φ d v w') (hS : ∀ w, R w0 w → S w)
    (hsteps : StepsB P ops Q R Φ a0 w0 B)
    (hfin : ∀ f w, R w0 w → (∀ d ∈ B.map (·.2.1), Φ d (f d) w) → wpAnyH P md ops Q S fuel (setL (B.map (·.1)) l0) (putT f (B.map (·.2.1)) a0) w) :
    wpAnyH P md ops Q S (fuel + B.length) l0 a0 w0 := by
  refine batch_aux hB hQ htr hst hS hsteps hfin B.length (fun _ => false) (fun _ => undef) l0 a0 w0 (by simp) ?_
  constructor
  · rfl
  · intro e _ h; cases h
  · intro e _ _; rfl
  · intro j _; rfl
  · rfl
  · rfl
  · intro e _ h; cases h
  · intro e _ _; rfl
  · intro t _; rfl
  · exact hrf
  · intro e _ h; cases h
  · intro e _ h; cases h
end
end Go.Proofs.Ytnpjknnalekdpaa
