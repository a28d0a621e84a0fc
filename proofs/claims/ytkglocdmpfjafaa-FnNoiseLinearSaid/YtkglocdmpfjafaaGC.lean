import Derived.Test.YtkglocdmpfjafaaGA
import Derived.Orders
import Derived.OpenShut
import Derived.Laws.Bits64
import Derived.Laws.BitsAllLaws
import Derived.Deep.QuietTactic
import Derived.BigQuiet
import Derived.Deep.RegionHeld3
import Derived.IntWalk
import Derived.ChangeKeysEq
import Derived.Laws.StructEq

section
/- Regions that draw their order and whose operations make memory, draw or write: each operation leaves a value of which a predicate of its own holds, and holds on, whatever comes up next; one look at each operation serves every order. -/
namespace Go.Proofs.Ytkglocdmpfjafaa
open Go.ChangeShapes Go.WideShapes Go.ChangeAt Go.RowKit

def slotV (a : Act) : Option Tmp → Value
  | some d => a.tmps.getD d undef
  | none => undef
/-- The frame is the first one, but for slots that the region writes. -/
structure Fr (ops : Array Oper) (a0 a : Act) : Prop where
  defers : a.defers = a0.defers
  size : a.tmps.size = a0.tmps.size
  same : ∀ n, (∀ (j : Nat) o, ops[j]? = some o → o.dst ≠ some n) → a.tmps.getD n undef = a0.tmps.getD n undef
def dstV (o : Oper) (v : Value) : Value := match o.dst with | some _ => v | none => undef
/-- What is known of the operations for which one waits. -/
def Pre (ops : Array Oper) (T : Nat → Value → World → Prop) (a : Act) (w : World) : List Edge → Prop
  | [] => True
  | e :: r => (Region.binds .any e = true → T e.on (slotV a ((ops[e.on]?).bind (·.dst))) w) ∧ Pre ops T a w r
/-- Whether a guarded operation is wanted, by what its guard has yielded. -/
def wantV (ops : Array Oper) (f : Option Tmp → Value) (o : Oper) : Bool :=
  match o.guard with
  | none => true
  | some (j, b) => match f ((ops[j]?).bind (·.dst)) with
    | .bool c => c == b
    | _ => false
/-- One operation, from whatever world and frame the others have left. -/
def Ob (P : Program) (ops : Array Oper) (Q : Exit → Act → World → Prop) (I : Nat → World → Prop) (R : World → World → Prop) (T : Nat → Value → World → Prop) (a0 : Act) (i : Nat) (o : Oper) : Prop :=
  ∀ k a w, k < ops.size → I k w → Fr ops a0 a → Pre ops T a w o.after.toList →
    (wantV ops (slotV a) o = true → o.wp P a w (fun a' w' => ∃ v, a' = a.put o.dst v ∧ R w w' ∧ I (k + 1) w' ∧ T i (dstV o v) w') Q) ∧
    (wantV ops (slotV a) o = false → R w w ∧ I (k + 1) w ∧ T i undef w)
def Obs (P : Program) (ops : Array Oper) (Q : Exit → Act → World → Prop) (I : Nat → World → Prop) (R : World → World → Prop) (T : Nat → Value → World → Prop) (a0 : Act) : Nat → List Oper → Prop
  | _, [] => True
  | i, o :: r => Ob P ops Q I R T a0 i o ∧ Obs P ops Q I R T a0 (i + 1) r
def putAll (a : Act) : List Oper → Nat → (Nat → Value) → Act
  | [], _, _ => a
  | o :: r, k, vs => putAll (a.put o.dst (vs k)) r (k + 1) vs
def Facts (T : Nat → Value → World → Prop) (vs : Nat → Value) (w : World) : Nat → List Oper → Prop
  | _, [] => True
  | k, _ :: r => T k (vs k) w ∧ Facts T vs w (k + 1) r
def okB (ops : Array Oper) (N : Nat) : Bool :=
  (List.range ops.size).all fun i => match ops[i]? with
    | none => true
    | some o => (o.after.toList.all fun e => !Region.binds .any e || decide (e.on < i)) &&
      (match o.dst with
        | none => true
        | some d => decide (d < N) && (List.range ops.size).all fun j => j == i || (ops[j]?).bind (·.dst) != some d)
theorem okB_spec {ops : Array Oper} {N : Nat} (h : okB ops N = true) {i : Nat} {o : Oper} (hi : ops[i]? = some o) :
    (∀ e ∈ o.after, Region.binds .any e = true → e.on < i) ∧ ∀ d, o.dst = some d → d < N ∧ ∀ j oj, ops[j]? = some oj → j ≠ i → oj.dst ≠ some d := by
  have hlt : i < ops.size := (Array.getElem?_eq_some_iff.1 hi).1
  unfold okB at h
  rw [List.all_eq_true] at h
  have h1 := h i (List.mem_range.2 hlt)
  rw [hi] at h1
  simp only [Bool.and_eq_true] at h1
  obtain ⟨h3, h4⟩ := h1
  refine ⟨fun e he hb => ?_, fun d hd => ?_⟩
  · rw [List.all_eq_true] at h3
    have := h3 e (by simpa using he)
    rw [hb] at this
    simpa using this
  · rw [hd] at h4
    simp only [Bool.and_eq_true] at h4
    refine ⟨by simpa using h4.1, fun j oj hj hne hdj => ?_⟩
    have h5 := h4.2
    rw [List.all_eq_true] at h5
    have := h5 j (List.mem_range.2 (Array.getElem?_eq_some_iff.1 hj).1)
    rw [hj] at this
    simp [hdj, hne] at this
theorem put_defers' (a : Act) (d : Option Tmp) (v : Value) : (a.put d v).defers = a.defers := by cases d <;> rfl
theorem put_size' (a : Act) (d : Option Tmp) (v : Value) : (a.put d v).tmps.size = a.tmps.size := by cases d <;> simp [Act.put]
theorem put_getD (a : Act) (d : Option Tmp) (v : Value) (n : Nat) : (a.put d v).tmps.getD n undef = if d = some n ∧ n < a.tmps.size then v else a.tmps.getD n undef := by
  cases d with
  | none => simp [Act.put]
  | some d =>
    simp only [Act.put, Array.getD_eq_getD_getElem?, Array.getElem?_setIfInBounds, Option.some.injEq]
    by_cases e : d = n
    · subst e
      by_cases h : d < a.tmps.size
      · simp [h]
      · simp [h]
    · simp [e]
theorem act_ext {a b : Act} (h1 : a.defers = b.defers) (h2 : a.tmps.size = b.tmps.size) (h3 : ∀ n, a.tmps.getD n undef = b.tmps.getD n undef) : a = b := by
  cases a with | mk ta da =>
  cases b with | mk tb db =>
  simp only at h1 h2 h3
  subst h1
  congr 1
  refine Array.ext h2 fun n hn hn' => ?_
  have := h3 n
  simpa [Array.getD, hn, hn'] using this
theorem putAll_eq (a : Act) (vs : Nat → Value) : ∀ (l : List Oper) (k : Nat) (b : Act), b.defers = a.defers → b.tmps.size = a.tmps.size →
    (∀ n, (∀ o ∈ l, o.dst ≠ some n) → b.tmps.getD n undef = a.tmps.getD n undef) → (∀ j o, l[j]? = some o → vs (k + j) = slotV a o.dst) → putAll b l k vs = a
  | [], _, b, h1, h2, h3, _ => act_ext h1 h2 fun n => h3 n (by simp)
  | o :: r, k, b, h1, h2, h3, h4 => by
    refine putAll_eq a vs r (k + 1) (b.put o.dst (vs k)) (by rw [put_defers', h1]) (by rw [put_size', h2]) (fun n hn => ?_) (fun j o' ho' => by have := h4 (j + 1) o' (by simpa using ho'); rw [← this]; congr 1; omega)
    rw [put_getD]
    by_cases hd : o.dst = some n
    · by_cases hs : n < b.tmps.size
      · rw [if_pos ⟨hd, hs⟩]
        have := h4 0 o (by simp)
        simp only [Nat.add_zero] at this
        rw [this, hd]; rfl
      · rw [if_neg (fun h => hs h.2)]
        have hs' : ¬ n < a.tmps.size := by rw [← h2]; exact hs
        simp [Array.getD, hs, hs']
    · rw [if_neg (fun h => hd h.1)]
      exact h3 n fun o' ho' => by
        rcases List.mem_cons.1 ho' with rfl | h
        · exact hd
        · exact hn o' h
section
variable {P : Program} {ops : Array Oper} {Q : Exit → Act → World → Prop} {I : Nat → World → Prop} {R : World → World → Prop} {T : Nat → Value → World → Prop} {a0 : Act}

theorem pre_of {a : Act} {w : World} : ∀ (es : List Edge), (∀ e ∈ es, Region.binds .any e = true → T e.on (slotV a ((ops[e.on]?).bind (·.dst))) w) → Pre ops T a w es
  | [], _ => trivial
  | e :: r, h => ⟨h e (by simp), pre_of r fun e' he' => h e' (by simp [he'])⟩
theorem ob_of {i : Nat} : ∀ (l : List Oper) (k : Nat), Obs P ops Q I R T a0 k l → ∀ o, l[i]? = some o → Ob P ops Q I R T a0 (k + i) o := by
  induction i with
  | zero =>
    intro l k h o ho
    cases l with
    | nil => simp at ho
    | cons x r => simp at ho; subst ho; exact h.1
  | succ i ih =>
    intro l k h o ho
    cases l with
    | nil => simp at ho
    | cons x r =>
      have := ih r (k + 1) h.2 o (by simpa using ho)
      rwa [show k + 1 + i = k + (i + 1) by omega] at this
/-- What is known between two operations. -/
structure Inv (ops : Array Oper) (I : Nat → World → Prop) (T : Nat → Value → World → Prop) (a0 : Act) (fuel : Nat) (listed : Array Bool) (a : Act) (w : World) : Prop where
  size : listed.size = ops.size
  count : fuel + listed.toList.count true = ops.size
  at_ : I (listed.toList.count true) w
  fr : Fr ops a0 a
  all : ∀ j o, ops[j]? = some o → listed.getD j false = true → T j (slotV a o.dst) w
theorem count_set_true {l : List Bool} {i : Nat} (h : l[i]? = some false) : (l.set i true).count true = l.count true + 1 := by
  induction l generalizing i with
  | nil => simp at h
  | cons x r ih =>
    cases i with
    | zero => simp at h; subst h; simp
    | succ i =>
      simp only [List.getElem?_cons_succ] at h
      simp only [List.set_cons_succ, List.count_cons, ih h]
      omega
theorem count_le_len {l : List Bool} : l.count true ≤ l.length := List.count_le_length
theorem count_full {l : List Bool} (h : l.count true = l.length) (j : Nat) (hj : j < l.length) : l[j]? = some true := by
  have h1 := List.count_eq_length.1 h
  rw [List.getElem?_eq_getElem hj]
  exact congrArg some (h1 _ (List.getElem_mem hj)).symm
theorem least_false : ∀ {l : List Bool}, l.count true < l.length → ∃ i : Nat, l[i]? = some false ∧ ∀ j : Nat, j < i → l[j]? = some true
  | [], h => by simp at h
  | false :: r, _ => ⟨0, by simp, fun j hj => by omega⟩
  | true :: r, h => by
    simp at h
    obtain ⟨i, h1, h2⟩ := least_false h
    exact ⟨i + 1, by simpa using h1, fun j hj => by
      cases j with
      | zero => simp
      | succ j => simpa using h2 j (by omega)⟩
theorem getD_list (listed : Array Bool) (j : Nat) (d : Bool) : listed.getD j d = (listed.toList[j]?).getD d := by simp
theorem wpAny_typed (hB : okB ops a0.tmps.size = true) (hT : ∀ i v w w', R w w' → T i v w → T i v w')
    (hst : ∀ i o, ops[i]? = some o → Ob P ops Q I R T a0 i o)
    (hend : ∀ a w, I ops.size w → Fr ops a0 a → (∀ j o, ops[j]? = some o → T j (slotV a o.dst) w) → Q .normal a w) :
    ∀ (fuel : Nat) (listed : Array Bool) (a : Act) (w : World), Inv ops I T a0 fuel listed a w → wpAny P .any ops Q fuel listed a w := by
  have stop : ∀ (fuel : Nat) (listed : Array Bool) (a : Act) (w : World), Inv ops I T a0 fuel listed a w → Region.ready .any ops listed = [] → Q .normal a w := by
    intro fuel listed a w v hr
    have hc : listed.toList.count true = ops.size := by
      rcases Nat.lt_or_ge (listed.toList.count true) listed.toList.length with h | h
      · obtain ⟨i, h1, h2⟩ := least_false h
        have hi : i < ops.size := by
          have := (List.getElem?_eq_some_iff.1 h1).1
          rw [Array.length_toList, v.size] at this; exact this
        have hi' : ops[i]? = some ops[i] := Array.getElem?_eq_getElem hi
        have : i ∈ Region.ready .any ops listed := by
          rw [mem_ready]
          refine ⟨by rw [getD_list, h1]; rfl, _, hi', fun e he hb => ?_⟩
          rw [getD_list, h2 _ ((okB_spec hB hi').1 e he hb)]; rfl
        rw [hr] at this
        cases this
      · have h1 := count_le_len (l := listed.toList)
        have h2 : listed.toList.length = ops.size := by rw [Array.length_toList, v.size]
        omega
    refine hend a w (hc ▸ v.at_) v.fr fun j o ho => v.all j o ho ?_
    have hj : j < ops.size := (Array.getElem?_eq_some_iff.1 ho).1
    rw [getD_list, count_full (by rw [hc, Array.length_toList, v.size]) j (by rw [Array.length_toList, v.size]; exact hj)]; rfl
  intro fuel
  induction fuel with
  | zero =>
    intro listed a w v
    have hr : Region.ready .any ops listed = [] := by
      rcases hl : Region.ready .any ops listed with _ | ⟨i, r⟩
      · rfl
      · have hi : i ∈ Region.ready .any ops listed := by rw [hl]; simp
        obtain ⟨h0, o, ho, _⟩ := mem_ready.1 hi
        have hj : i < ops.size := (Array.getElem?_eq_some_iff.1 ho).1
        have hc := v.count
        rw [getD_list, count_full (by rw [Array.length_toList, v.size]; omega) i (by rw [Array.length_toList, v.size]; exact hj)] at h0
        cases h0
    exact ⟨hr, stop 0 listed a w v hr⟩
  | succ fuel ih =>
    intro listed a w v
    refine ⟨stop _ listed a w v, fun i hi => ?_⟩
    obtain ⟨h0, o, ho, hp⟩ := mem_ready.1 hi
    have hj : i < ops.size := (Array.getElem?_eq_some_iff.1 ho).1
    obtain ⟨hacyc, hdst⟩ := okB_spec hB ho
    have hl0 : listed.toList[i]? = some false := by
      rw [getD_list] at h0
      cases hx : listed.toList[i]? with
      | none => rw [hx] at h0; cases h0
      | some b => rw [hx] at h0; simp at h0; rw [h0]
    have hcs := count_set_true hl0
    have hcnt := v.count
    have hob := hst i o ho (listed.toList.count true) a w (by omega) v.at_ v.fr (pre_of _ fun e he hb => by
      have he' := hp e (by simpa using he) hb
      have hlt : e.on < ops.size := by
        have := (hacyc e (by simpa using he) hb); omega
      have h1 := v.all e.on ops[e.on] (Array.getElem?_eq_getElem hlt) he'
      rw [Array.getElem?_eq_getElem hlt]
      exact h1)
    have hwt : Region.wanted o (yielded ops a.tmps) = wantV ops (slotV a) o := by
      unfold Region.wanted wantV
      cases hgd : o.guard with
      | none => rfl
      | some jb =>
        obtain ⟨j, b⟩ := jb
        simp only
        unfold yielded
        cases hd : (ops[j]?).bind (·.dst) with
        | none => simp [slotV, undef]
        | some d =>
          have hds : d < a.tmps.size := by
            cases hoj : ops[j]? with
            | none => rw [hoj] at hd; simp at hd
            | some oj =>
              rw [hoj] at hd
              rw [v.fr.size]
              exact ((okB_spec hB hoj).2 d hd).1
          have e : a.tmps[d]? = some (slotV a (some d)) := by simp [slotV, Array.getD, hds]
          simp only [Option.bind_some, e]
          cases slotV a (some d) <;> simp
    have hop : wpOp P ops Q i (fun a' w' => ∃ v, a' = a.put o.dst v ∧ R w w' ∧ I (listed.toList.count true + 1) w' ∧ T i (dstV o v) w') a w := by
      unfold wpOp
      simp only [ho]
      rw [hwt]
      cases hwv : wantV ops (slotV a) o with
      | true => rw [if_pos rfl]; exact .inl (hob.1 hwv)
      | false =>
        rw [if_neg (by simp)]
        obtain ⟨g1, g2, g3⟩ := hob.2 hwv
        exact ⟨undef, rfl, g1, g2, by unfold dstV; cases o.dst <;> exact g3⟩
    refine wpOp_mono (fun a' w' hh => ?_) hop
    obtain ⟨u, rfl, hR, hI, hTi⟩ := hh
    refine ih _ _ _ ⟨by simp [v.size], ?_, ?_, ?_, ?_⟩
    · rw [Array.toList_setIfInBounds, hcs]; omega
    · rw [Array.toList_setIfInBounds, hcs]; exact hI
    · exact ⟨by rw [put_defers', v.fr.defers], by rw [put_size', v.fr.size], fun n hn => by
        rw [put_getD, if_neg (fun h => hn i o ho h.1)]; exact v.fr.same n hn⟩
    · intro j oj hoj hlj
      by_cases hji : j = i
      · subst hji
        rw [ho] at hoj
        obtain rfl : o = oj := Option.some.inj hoj
        cases hd : o.dst with
        | none => unfold dstV at hTi; rw [hd] at hTi; exact hTi
        | some d =>
          have hds := (hdst d hd).1
          unfold dstV at hTi
          rw [hd] at hTi
          show T j ((a.put (some d) u).tmps.getD d undef) w'
          rw [put_getD, if_pos ⟨rfl, by rw [v.fr.size]; exact hds⟩]
          exact hTi
      · have hlj' : listed.getD j false = true := by
          rw [getD_list, Array.toList_setIfInBounds, List.getElem?_set_ne (Ne.symm hji)] at hlj
          rw [getD_list]; exact hlj
        have h1 := hT j _ _ _ hR (v.all j oj hoj hlj')
        have e : slotV (a.put o.dst u) oj.dst = slotV a oj.dst := by
          cases hdj : oj.dst with
          | none => rfl
          | some d =>
            show (a.put o.dst u).tmps.getD d undef = a.tmps.getD d undef
            rw [put_getD, if_neg]
            rintro ⟨h2, _⟩
            exact (hdst d h2).2 j oj hoj hji hdj
        rw [e]; exact h1
end
theorem facts_of {T : Nat → Value → World → Prop} {vs : Nat → Value} {w : World} : ∀ (l : List Oper) (k : Nat), (∀ j, j < l.length → T (k + j) (vs (k + j)) w) → Facts T vs w k l
  | [], _, _ => trivial
  | _ :: r, k, h => ⟨h 0 (by simp), facts_of r (k + 1) fun j hj => by have := h (j + 1) (by simpa using hj); rwa [show k + (j + 1) = k + 1 + j by omega] at this⟩
/-- **A region whose operations leave what their predicates say, in whatever order they come up.** -/
theorem wp_region_typed {P : Program} {id : Nat} {Q : Exit → Act → World → Prop} {a0 : Act} {w : World} {l : List Oper} (I : Nat → World → Prop) (R : World → World → Prop) (T : Nat → Value → World → Prop)
    (hm : P.follows .mixedOrders = true) (hB : okB l.toArray a0.tmps.size = true) (hT : ∀ i v w w', R w w' → T i v w → T i v w') (hI : I 0 w.drew)
    (hst : Obs P l.toArray Q I R T a0 0 l) (hend : ∀ vs w, I l.length w → Facts T vs w 0 l → Q .normal (putAll a0 l 0 vs) w) : (Code.region id l.toArray true).wp P Q a0 w := by
  refine wp_region_any hm (wpAny_typed (I := I) (R := R) (T := T) (a0 := a0) hB hT (fun i o ho => ?_) (fun a w hIw hF hA => ?_) _ _ _ _ ⟨by simp, by simp [List.count_replicate], ?_, ⟨rfl, rfl, fun _ _ => rfl⟩, ?_⟩)
  · have := ob_of (i := i) l 0 hst o (by simpa using ho)
    simpa using this
  · have h := hend (fun j => slotV a ((l[j]?).bind (·.dst))) w (by simpa using hIw) (facts_of l 0 fun j hj => by
      have := hA j l[j] (by simp [hj])
      simpa [hj] using this)
    have e : putAll a0 l 0 (fun j => slotV a ((l[j]?).bind (·.dst))) = a := putAll_eq a _ l 0 a0 hF.defers.symm hF.size.symm (fun n hn => (hF.same n fun j o ho => hn o (by simp at ho; exact List.mem_of_getElem? ho)).symm) fun j o ho => by simp [ho]
    rwa [e] at h
  · simpa [List.count_replicate] using hI
  · intro j o ho hl
    simp [Array.getD] at hl
end Go.Proofs.Ytkglocdmpfjafaa
end

section
/- The reader from which every law draws its arguments: it stays in its own block, its picks are in range, and nothing else that was there changes. -/
namespace Go.Proofs.Ytkglocdmpfjafaa
open Go.ChangeShapes Go.WideShapes Go.ChangeAt Go.RowKit

/-- Of what was there at most block q has changed. -/
structure Sole (q : Nat) (w w' : World) : Prop where
  os : w'.os = w.os
  tape : w'.tape = w.tape
  output : w'.output = w.output
  size : w.heap.size ≤ w'.heap.size
  block : ∀ k, k < w.heap.size → k ≠ q → w'.heap[k]? = w.heap[k]?
theorem Sole.refl (q : Nat) (w : World) : Sole q w w := ⟨rfl, rfl, rfl, Nat.le_refl _, fun _ _ _ => rfl⟩
theorem Sole.trans {q : Nat} {a b c : World} (h : Sole q a b) (k : Sole q b c) : Sole q a c :=
  ⟨k.os.trans h.os, k.tape.trans h.tape, k.output.trans h.output, Nat.le_trans h.size k.size, fun j hj hn => (k.block j (Nat.lt_of_lt_of_le hj h.size) hn).trans (h.block j hj hn)⟩
theorem Sole.drewN {q : Nat} {a w : World} (h : Sole q a w) (n : Nat) : Sole q a (w.drewN n) := ⟨h.os, h.tape, h.output, h.size, h.block⟩
theorem Sole.alloc {q : Nat} {a w : World} (h : Sole q a w) (o : Obj) : Sole q a (w.alloc o) :=
  ⟨h.os, h.tape, h.output, Nat.le_trans h.size (by simp), fun k hk hn => (Below.heap_alloc w o k (Nat.lt_of_lt_of_le hk h.size)).trans (h.block k hk hn)⟩
theorem Sole.setCell {q : Nat} {a w : World} (h : Sole q a w) (j : Nat) (v : Value) : Sole q a (w.setCell ⟨q, j, none⟩ v) :=
  ⟨h.os, h.tape, h.output, by simpa using h.size, fun k hk hn => (Below.heap_setCell w _ v k hn).trans (h.block k hk hn)⟩
theorem Sole.of_below {q : Nat} {w w' : World} (h : Below w.heap.size w w') : Sole q w w' := ⟨h.os, h.tape, h.output, h.size, fun k hk _ => h.block k hk⟩
theorem Sole.below {q B : Nat} {w w' : World} (h : Sole q w w') (hq : B ≤ q) (hB : B ≤ w.heap.size) : Below B w w' :=
  ⟨h.os, h.tape, h.output, h.size, fun k hk => h.block k (by omega) (by omega)⟩
theorem Sole.cell {q : Nat} {w w' : World} (h : Sole q w w') {p : Addr} {v : Value} (hp : p.block ≠ q) (hc : w.cell? p = some v) : w'.cell? p = some v := by
  rw [World.cell?_of_block (w := w) (h.block p.block (World.block_lt_of_cell? _ _ hc) hp)]; exact hc

/-- The bytes from which a reader reads: there are none, or they lie in a block below the reader's. -/
def Feed (w : World) (q : Nat) (a : Option Addr) (len : Nat) : Prop :=
  len = 0 ∨ ∃ b off, a = some ⟨b, off, none⟩ ∧ b < q ∧ ∀ i, i < len → ∃ z : Int, 0 ≤ z ∧ z ≤ 255 ∧ w.cell? ⟨b, off + i, none⟩ = some (.int .u8 z)
/-- The reader in block q has been asked at most m times. -/
def Rd (w : World) (q m : Nat) : Prop :=
  ∃ (p : Nat) (a : Option Addr) (len cap : Nat), q < w.heap.size ∧ p ≤ m ∧ w.cell? ⟨q, 0, none⟩ = some (.slice a len cap) ∧ w.cell? ⟨q, 1, none⟩ = some (.int .i64 p) ∧ w.frozen? ⟨q, 1, none⟩ = false ∧ len ≤ 2000 ∧ len ≤ cap ∧ Feed w q a len
theorem Rd.mono {w : World} {q m m' : Nat} (h : Rd w q m) (k : m ≤ m') : Rd w q m' := by
  obtain ⟨p, a, len, cap, h1, h2, h3⟩ := h
  exact ⟨p, a, len, cap, h1, by omega, h3⟩
theorem Rd.keep {w w' : World} {q m : Nat} (h : Rd w q m) (k : Below w.heap.size w w') : Rd w' q m := by
  obtain ⟨p, a, len, cap, h1, h2, h3, h4, h5, h6, h7, h8⟩ := h
  refine ⟨p, a, len, cap, Nat.lt_of_lt_of_le h1 k.size, h2, (k.cell h1).trans h3, (k.cell h1).trans h4, (k.frozen h1).trans h5, h6, h7, ?_⟩
  rcases h8 with h8 | ⟨b, off, rfl, hb, hc⟩
  · exact .inl h8
  · exact .inr ⟨b, off, rfl, hb, fun i hi => by obtain ⟨z, z0, z1, hz⟩ := hc i hi; exact ⟨z, z0, z1, (k.cell (by show b < _; omega)).trans hz⟩⟩
/-- What a pick leaves. -/
def Picked (q m : Nat) (n : Int) (w : World) (e : Ending) (w' : World) : Prop :=
  ∃ v : Int, 0 ≤ v ∧ v < n ∧ e = .returned (.int .i64 v) ∧ Sole q w w' ∧ Rd w' q (m + 1)
theorem rd_step {w : World} {q m : Nat} (p : Nat) (a : Option Addr) (len cap : Nat) (n : Nat) (h1 : q < w.heap.size) (h2 : p ≤ m) (h3 : w.cell? ⟨q, 0, none⟩ = some (.slice a len cap)) (h4 : w.cell? ⟨q, 1, none⟩ = some (.int .i64 p)) (h5 : w.frozen? ⟨q, 1, none⟩ = false) (h6 : len ≤ 2000) (h7 : len ≤ cap) (h8 : Feed w q a len) :
    Rd ((w.setCell ⟨q, 1, none⟩ (.int .i64 ((p : Int) + 1))).drewN n) q (m + 1) := by
  refine ⟨p + 1, a, len, cap, by simpa using h1, by omega, ?_, ?_, ?_, h6, h7, ?_⟩
  · show (w.setCell _ _).cell? _ = _
    rw [World.cell?_setCell_other _ _ _ _ (by simp)]; exact h3
  · show (w.setCell _ _).cell? _ = _
    rw [World.cell?_setCell_same _ _ _ h4]; simp
  · show (w.setCell _ _).frozen? _ = _
    rw [World.frozen?_setCell]; exact h5
  · rcases h8 with h8 | ⟨b, off, rfl, hb, hc⟩
    · exact .inl h8
    · refine .inr ⟨b, off, rfl, hb, fun i hi => ?_⟩
      obtain ⟨z, z0, z1, hz⟩ := hc i hi
      refine ⟨z, z0, z1, ?_⟩
      show (w.setCell _ _).cell? _ = _
      rw [World.cell?_setCell_other _ _ _ _ (fun h => by injection h; omega)]; exact hz

theorem xor_i64_nat (a b : Nat) (ha : a < 9223372036854775808) (hb : b < 9223372036854775808) : bits .xor .i64 (a : Int) (b : Int) = ((a ^^^ b : Nat) : Int) := by
  have hx : a ^^^ b < 2 ^ 63 := Nat.xor_lt_two_pow (by omega) (by omega)
  have h1 : (BitVec.ofInt 64 (a : Int)).toNat = a := by
    rw [BitVec.ofInt_natCast, BitVec.toNat_ofNat]; exact Nat.mod_eq_of_lt (by omega)
  have h2 : (BitVec.ofInt 64 (b : Int)).toNat = b := by
    rw [BitVec.ofInt_natCast, BitVec.toNat_ofNat]; exact Nat.mod_eq_of_lt (by omega)
  show IntKind.i64.wrap ((BitVec.ofInt 64 (a : Int) ^^^ BitVec.ofInt 64 (b : Int)).toNat : Int) = _
  rw [BitVec.toNat_xor, h1, h2, IntKind.wrap_i64]
  omega
theorem xor_i64_pos (x y : Int) (h0 : 0 ≤ x) (h1 : x < 9223372036854775808) (h2 : 0 ≤ y) (h3 : y < 9223372036854775808) : 0 ≤ bits .xor .i64 x y ∧ bits .xor .i64 x y ≤ 9223372036854775807 := by
  obtain ⟨a, rfl⟩ := Int.eq_ofNat_of_zero_le h0
  obtain ⟨b, rfl⟩ := Int.eq_ofNat_of_zero_le h2
  have hx : a ^^^ b < 2 ^ 63 := Nat.xor_lt_two_pow (by omega) (by omega)
  have e := xor_i64_nat a b (by omega) (by omega)
  constructor <;> (rw [e]; omega)
theorem pick_zero (q m : Nat) (n : Int) (w : World) (p : Nat) (a : Option Addr) (cap : Nat) (h1 : q < w.heap.size) (h2 : p ≤ m) (hm : m ≤ 1000000000) (h3 : w.cell? ⟨q, 0, none⟩ = some (.slice a 0 cap)) (h4 : w.cell? ⟨q, 1, none⟩ = some (.int .i64 p)) (h5 : w.frozen? ⟨q, 1, none⟩ = false) (hn : 1 ≤ n) :
    Calls Try.prog 30 #[.pointer (some ⟨q, 0, none⟩), .int .i64 n] w (Picked q m n w) := by
  have c0 : (w.setCell ⟨q, 1, none⟩ (.int .i64 ((p : Int) + 1))).cell? ⟨q, 0, none⟩ = some (.slice a 0 cap) := by rw [World.cell?_setCell_other _ _ _ _ (by simp)]; exact h3
  have R := Lib.hid (rd_step p a 0 cap 0 h1 h2 h3 h4 h5 (by omega) (by omega) (.inl rfl))
  go_enter Try.func30, Try.ntmps30
  go_wp2
  go_ret
  exact ⟨0, by omega, by omega, rfl, (Sole.refl _ _).setCell _ _, R.out⟩
theorem pick_near (q m : Nat) (n : Int) (w : World) (p b off len cap : Nat) (z : Int) (h1 : q < w.heap.size) (h2 : p ≤ m) (hm : m ≤ 1000000000) (h3 : w.cell? ⟨q, 0, none⟩ = some (.slice (some ⟨b, off, none⟩) len cap)) (h4 : w.cell? ⟨q, 1, none⟩ = some (.int .i64 p)) (h5 : w.frozen? ⟨q, 1, none⟩ = false) (h6 : len ≤ 2000) (h7 : len ≤ cap) (h8 : Feed w q (some ⟨b, off, none⟩) len) (hb : b < q) (hp : p < len) (hz : w.cell? ⟨b, off + p, none⟩ = some (.int .u8 z)) (z0 : 0 ≤ z) (z1 : z ≤ 255) (hn : 1 ≤ n) (hn2 : n ≤ 1000000000) :
    Calls Try.prog 30 #[.pointer (some ⟨q, 0, none⟩), .int .i64 n] w (Picked q m n w) := by
  have c0 : (w.setCell ⟨q, 1, none⟩ (.int .i64 ((p : Int) + 1))).cell? ⟨q, 0, none⟩ = some (.slice (some ⟨b, off, none⟩) len cap) := by rw [World.cell?_setCell_other _ _ _ _ (by simp)]; exact h3
  have c1 : (w.setCell ⟨q, 1, none⟩ (.int .i64 ((p : Int) + 1))).cell? ⟨b, off + p, none⟩ = some (.int .u8 z) := by rw [World.cell?_setCell_other _ _ _ _ (fun h => by injection h; omega)]; exact hz
  have R := Lib.hid (rd_step p _ len cap 0 h1 h2 h3 h4 h5 h6 h7 h8)
  have l0 : ((len : Int) == 0) = false := by simp; omega
  have n0 : (n == 0) = false := by simp; omega
  clear h3 h8 hz
  go_enter Try.func30, Try.ntmps30
  go_wp2
  go_ret
  exact ⟨z % n, Int.emod_nonneg _ (by omega), Int.emod_lt_of_pos _ (by omega), rfl, (Sole.refl _ _).setCell _ _, R.out⟩
theorem far_num (z y : Int) (p len : Nat) (z0 : 0 ≤ z) (z1 : z ≤ 255) (y0 : 0 ≤ y) (y1 : y ≤ 255) (hp : p ≤ 1000000000) (_hl : 1 ≤ len) :
    ∃ X : Int, wrap64 (z * 131 + y * 1117 + (p : Int) * 29 + wrap64 (wrap64 ((p : Int) / (len : Int)) * 53)) = X ∧ 0 ≤ X ∧ X ≤ 1000000000000 := by
  have hd := Nat.div_le_self p len
  have e : ((p : Int) / (len : Int)) = ((p / len : Nat) : Int) := by simp
  rw [e]
  generalize p / len = d at hd
  rw [IntWalk.wrap64_in (d : Int) (by omega), IntWalk.wrap64_in ((d : Int) * 53) (by omega), IntWalk.wrap64_in _ (by omega)]
  exact ⟨_, rfl, by omega, by omega⟩
theorem pick_far (q m : Nat) (n : Int) (w : World) (p b off len cap i j : Nat) (z y : Int) (h1 : q < w.heap.size) (h2 : p ≤ m) (hm : m ≤ 1000000000) (h3 : w.cell? ⟨q, 0, none⟩ = some (.slice (some ⟨b, off, none⟩) len cap)) (h4 : w.cell? ⟨q, 1, none⟩ = some (.int .i64 p)) (h5 : w.frozen? ⟨q, 1, none⟩ = false) (h6 : len ≤ 2000) (h7 : len ≤ cap) (h8 : Feed w q (some ⟨b, off, none⟩) len) (hb : b < q) (hp : len ≤ p) (hl : 1 ≤ len)
    (hi : p % len = i) (hj : (p * 7 + 3) % len = j) (hz : w.cell? ⟨b, off + i, none⟩ = some (.int .u8 z)) (hy : w.cell? ⟨b, off + j, none⟩ = some (.int .u8 y)) (z0 : 0 ≤ z) (z1 : z ≤ 255) (y0 : 0 ≤ y) (y1 : y ≤ 255) (hn : 1 ≤ n) (hn2 : n ≤ 1000000000) :
    Calls Try.prog 30 #[.pointer (some ⟨q, 0, none⟩), .int .i64 n] w (Picked q m n w) := by
  have c0 : (w.setCell ⟨q, 1, none⟩ (.int .i64 ((p : Int) + 1))).cell? ⟨q, 0, none⟩ = some (.slice (some ⟨b, off, none⟩) len cap) := by rw [World.cell?_setCell_other _ _ _ _ (by simp)]; exact h3
  have c1 : (w.setCell ⟨q, 1, none⟩ (.int .i64 ((p : Int) + 1))).cell? ⟨b, off + i, none⟩ = some (.int .u8 z) := by rw [World.cell?_setCell_other _ _ _ _ (fun h => by injection h; omega)]; exact hz
  have c2 : (w.setCell ⟨q, 1, none⟩ (.int .i64 ((p : Int) + 1))).cell? ⟨b, off + j, none⟩ = some (.int .u8 y) := by rw [World.cell?_setCell_other _ _ _ _ (fun h => by injection h; omega)]; exact hy
  have R := Lib.hid (fun k => rd_step p _ len cap k h1 h2 h3 h4 h5 h6 h7 h8)
  have l0 : ((len : Int) == 0) = false := by simp; omega
  have n0 : (n == 0) = false := by simp; omega
  have HI := Lib.hid hi
  have HJ := Lib.hid hj
  clear h3 h8 hz hy hi hj
  go_enter Try.func30, Try.ntmps30
  go_wp2
  have l1 : ¬ len = 0 := by omega
  have i0 : (0 : Int) ≤ (i : Int) := by omega
  have i1 : (i : Int) < (len : Int) := by have := HI.out; have := Nat.mod_lt p (show 0 < len by omega); omega
  have j0 : (0 : Int) ≤ (j : Int) := by omega
  have j1 : (j : Int) < (len : Int) := by have := HJ.out; have := Nat.mod_lt (p * 7 + 3) (show 0 < len by omega); omega
  have e1 : (p : Int).tmod len = i := by rw [Int.tmod_eq_emod_of_nonneg (by omega)]; rw [← HI.out]; simp
  have e2 : ((p : Int) * 7 + 3).tmod len = j := by rw [Int.tmod_eq_emod_of_nonneg (by omega)]; rw [← HJ.out]; simp
  have m1 : IntKind.i64.wrap z = z := IntWalk.i64_in _ (by omega)
  have m2 : IntKind.i64.wrap (z * 131) = z * 131 := IntWalk.i64_in _ (by omega)
  have m3 : IntKind.i64.wrap ((p : Int) * 7) = (p : Int) * 7 := IntWalk.i64_in _ (by omega)
  have m4 : IntKind.i64.wrap ((p : Int) * 7 + 3) = (p : Int) * 7 + 3 := IntWalk.i64_in _ (by omega)
  have m5 : IntKind.i64.wrap y = y := IntWalk.i64_in _ (by omega)
  have m6 : IntKind.i64.wrap (y * 1117) = y * 1117 := IntWalk.i64_in _ (by omega)
  have m7 : IntKind.i64.wrap (z * 131 + y * 1117) = z * 131 + y * 1117 := IntWalk.i64_in _ (by omega)
  have m8 : IntKind.i64.wrap ((p : Int) * 29) = (p : Int) * 29 := IntWalk.i64_in _ (by omega)
  have m9 : IntKind.i64.wrap (z * 131 + y * 1117 + (p : Int) * 29) = z * 131 + y * 1117 + (p : Int) * 29 := IntWalk.i64_in _ (by omega)
  go_quiet (fail)
  clear e1 e2 m1 m2 m3 m4 m5 m6 m7 m8 m9 c0 c1 c2 l0 l1 i1 j1
  obtain ⟨X, hX, X0, X1⟩ := far_num z y p len z0 z1 y0 y1 (by omega) hl
  rw [hX]
  clear hX
  obtain ⟨x0, x1⟩ := xor_i64_pos X (X / 64) X0 (by omega) (by omega) (by omega)
  go_wp2
  go_ret
  exact ⟨bits .xor .i64 X (X / 64) % n, Int.emod_nonneg _ (by omega), Int.emod_lt_of_pos _ (by omega), rfl, ((Sole.refl _ _).setCell _ _).drewN _, R.out _⟩
theorem pick_any (q m : Nat) (n : Int) (w : World) (h : Rd w q m) (hm : m ≤ 1000000000) (hn : 1 ≤ n) (hn2 : n ≤ 1000000000) :
    Calls Try.prog 30 #[.pointer (some ⟨q, 0, none⟩), .int .i64 n] w (Picked q m n w) := by
  obtain ⟨p, a, len, cap, h1, h2, h3, h4, h5, h6, h7, h8⟩ := h
  have h8' := h8
  rcases h8 with rfl | ⟨b, off, rfl, hb, hc⟩
  · exact pick_zero q m n w p a cap h1 h2 hm h3 h4 h5 hn
  · by_cases hl : len = 0
    · subst hl
      exact pick_zero q m n w p _ cap h1 h2 hm h3 h4 h5 hn
    · by_cases hp : p < len
      · obtain ⟨z, z0, z1, hz⟩ := hc p hp
        exact pick_near q m n w p b off len cap z h1 h2 hm h3 h4 h5 h6 h7 h8' hb hp hz z0 z1 hn hn2
      · obtain ⟨z, z0, z1, hz⟩ := hc (p % len) (Nat.mod_lt _ (by omega))
        obtain ⟨y, y0, y1, hy⟩ := hc ((p * 7 + 3) % len) (Nat.mod_lt _ (by omega))
        exact pick_far q m n w p b off len cap _ _ z y h1 h2 hm h3 h4 h5 h6 h7 h8' hb (by omega) (by omega) rfl rfl hz hy z0 z1 y0 y1 hn hn2
end Go.Proofs.Ytkglocdmpfjafaa
end

section
/- The reader's other functions: 'odd', a new reader over a slice of bytes, and a drawn byte. -/
namespace Go.Proofs.Ytkglocdmpfjafaa
open Go.ChangeShapes Go.WideShapes Go.ChangeAt Go.RowKit

/-- What 'odd' leaves: some answer. -/
def Odded (q m : Nat) (w : World) (e : Ending) (w' : World) : Prop :=
  ∃ b : Bool, e = .returned (.bool b) ∧ Sole q w w' ∧ Rd w' q (m + 1)
/-- What a draw of a number leaves: one between lo and hi; the reader has been asked up to k times more. -/
def Drawn (q m k : Nat) (lo hi : Int) (w : World) (e : Ending) (w' : World) : Prop :=
  ∃ v : Int, lo ≤ v ∧ v ≤ hi ∧ e = .returned (.int .i64 v) ∧ Sole q w w' ∧ Rd w' q (m + k)
theorem odd_any (q m : Nat) (n : Int) (w : World) (h : Rd w q m) (hm : m ≤ 1000000000) (hn : 1 ≤ n) (hn2 : n ≤ 1000000000) :
    Calls Try.prog 32 #[.pointer (some ⟨q, 0, none⟩), .int .i64 n] w (Odded q m w) := by
  have H := Lib.hid h
  clear h
  go_enter Try.func32, Try.ntmps32
  go_wp2_with fail
  refine (pick_any q m n _ H.out hm hn hn2).mono ?_
  rintro e w1 ⟨v, v0, v1, rfl, hs, hr⟩
  go_wp2_with fail
  go_ret
  exact ⟨_, rfl, hs, hr⟩
theorem Rd.lt {w : World} {q m : Nat} (h : Rd w q m) : q < w.heap.size := by
  obtain ⟨p, a, len, cap, h1, _⟩ := h
  exact h1
theorem lit_cell {w w' : World} {q : Nat} {cs : Array Value} {T : TypeId} (lo hi : Int) (hs : Sole q (w.alloc (.cells cs T)) w') (hq : q < w.heap.size) (v : Int) (_h0 : 0 ≤ v) (hv : ∃ u : Int, cs[v.toNat]? = some (.int .i64 u) ∧ lo ≤ u ∧ u ≤ hi) :
    ∃ u : Int, w'.cell? ⟨w.heap.size, v.toNat, none⟩ = some (.int .i64 u) ∧ lo ≤ u ∧ u ≤ hi := by
  obtain ⟨u, hu, u0, u1⟩ := hv
  refine ⟨u, hs.cell (show w.heap.size ≠ q by omega) ?_, u0, u1⟩
  rw [World.cell?_alloc_new]; exact hu
theorem eight (v v5 v6 v7 : Int) (d0 : 0 ≤ v) (d1 : v < 8) (a0 : 0 ≤ v5) (a1 : v5 < 256) (b0 : 0 ≤ v6) (b1 : v6 < 256) (c0 : 0 ≤ v7) (c1 : v7 < 256) :
    ∃ u : Int, (#[Value.int .i64 0, .int .i64 1, .int .i64 127, .int .i64 128, .int .i64 255, .int .i64 v5, .int .i64 v6, .int .i64 v7] : Array Value)[v.toNat]? = some (.int .i64 u) ∧ -1 ≤ u ∧ u ≤ 256 := by
  have h : v = 0 ∨ v = 1 ∨ v = 2 ∨ v = 3 ∨ v = 4 ∨ v = 5 ∨ v = 6 ∨ v = 7 := by omega
  rcases h with rfl | rfl | rfl | rfl | rfl | rfl | rfl | rfl <;> exact ⟨_, rfl, by omega, by omega⟩
theorem two (v : Int) (d0 : 0 ≤ v) (d1 : v < 2) : ∃ u : Int, (#[Value.int .i64 (-1), .int .i64 256] : Array Value)[v.toNat]? = some (.int .i64 u) ∧ -1 ≤ u ∧ u ≤ 256 := by
  have h : v = 0 ∨ v = 1 := by omega
  rcases h with rfl | rfl <;> exact ⟨_, rfl, by omega, by omega⟩
/-- A new reader over a slice that came in. -/
def Opened (w : World) (e : Ending) (w' : World) : Prop :=
  e = .returned (.pointer (some ⟨w.heap.size, 0, none⟩)) ∧ Below w.heap.size w w' ∧ Rd w' w.heap.size 0
theorem getD_mem (zs : List Int) (i : Nat) (h : i < zs.length) : zs.getD i 0 ∈ zs := by simp [List.getD, List.getElem?_eq_getElem h]
theorem feed_of (w : World) (a : Option Addr) (len cap : Nat) (zs : List Int) (h : IsRow .u8 w a len cap zs) (o : Obj) : Feed (w.alloc o) w.heap.size a len := by
  rcases h with ⟨_, h, _⟩ | ⟨x, rfl, hl, hm, hz, hc, hw⟩
  · exact .inl h
  · by_cases h0 : len = 0
    · exact .inl h0
    · obtain ⟨b, off, rfl, hc2⟩ := ints_at hc (by omega)
      have hb : b < w.heap.size := World.block_lt_of_cell? _ _ (hc2 0 (by omega))
      refine .inr ⟨b, off, rfl, hb, fun i hi => ⟨zs.getD i 0, ?_, ?_, ?_⟩⟩
      · have hi' : i < zs.length := by omega
        have := bounds_u8 (hw (zs.getD i 0) (getD_mem zs i hi'))
        omega
      · have hi' : i < zs.length := by omega
        have := bounds_u8 (hw (zs.getD i 0) (getD_mem zs i hi'))
        omega
      · rw [World.cell?_alloc_lt _ _ _ hb]; exact hc2 i (by omega)
theorem feed_less {w : World} {q : Nat} {a : Option Addr} {len len' : Nat} (h : Feed w q a len) (k : len' ≤ len) : Feed w q a len' := by
  rcases h with h | ⟨b, off, rfl, hb, hc⟩
  · exact .inl (by omega)
  · exact .inr ⟨b, off, rfl, hb, fun i hi => hc i (by omega)⟩
theorem rd_new (w : World) (a : Option Addr) (len cap T : Nat) (h6 : len ≤ 2000) (h7 : len ≤ cap) (h8 : Feed (w.alloc (.cells #[.slice a len cap, .int .i64 0] T)) w.heap.size a len) : Rd (w.alloc (.cells #[.slice a len cap, .int .i64 0] T)) w.heap.size 0 :=
  ⟨0, a, len, cap, by simp, Nat.le_refl _, by simp, by simp, by simp, h6, h7, h8⟩
theorem open_any (a : Option Addr) (len cap : Nat) (zs : List Int) (w : World) (h : IsRow .u8 w a len cap zs) :
    Calls Try.prog 25 #[.slice a len cap] w (Opened w) := by
  have hl : len ≤ cap := by rcases h with ⟨_, h1, h2, _⟩ | ⟨x, _, hl, _⟩ <;> omega
  have hm : cap ≤ maxLen := by rcases h with ⟨_, h1, h2, _⟩ | ⟨x, _, _, hm, _⟩ <;> simp_all
  have HF := Lib.hid (fun o => feed_of w a len cap zs h o)
  unfold maxLen at hm
  by_cases h2 : len ≤ 2000
  · clear h
    go_enter Try.func25, Try.ntmps25
    go_wp2
    go_ret
    exact ⟨rfl, (Below.refl _ _).alloc (Nat.le_refl _) _, rd_new w a len cap _ h2 hl (HF.out _)⟩
  · rcases h with ⟨_, h1, _⟩ | ⟨x, rfl, _⟩
    · omega
    · go_enter Try.func25, Try.ntmps25
      go_wp2
      go_ret
      exact ⟨rfl, (Below.refl _ _).alloc (Nat.le_refl _) _, rd_new w _ 2000 cap _ (by omega) (by omega) (feed_less (HF.out _) (by omega))⟩
end Go.Proofs.Ytkglocdmpfjafaa
end

section
/- Instructions as the draws make them: their bytes are bytes, at most three. -/
namespace Go.Proofs.Ytkglocdmpfjafaa
open Go.ChangeShapes Go.WideShapes Go.ChangeAt Go.RowKit

/-- The length of an operation's instruction. -/
def lenN (op : Int) : Int := if betB op 0 15 = true then (#[1, 2, 3, 3, 3, 3, 3, 3, 1, 1, 3, 3, 3, 3, 1, 1] : Array Int).getD op.toNat 0 else 0
theorem lenN_bd (op : Int) : 0 ≤ lenN op ∧ lenN op ≤ 3 := by
  unfold lenN
  split
  · rename_i h
    obtain ⟨h0, h1⟩ := betB_yes h
    have hc : op = 0 ∨ op = 1 ∨ op = 2 ∨ op = 3 ∨ op = 4 ∨ op = 5 ∨ op = 6 ∨ op = 7 ∨ op = 8 ∨ op = 9 ∨ op = 10 ∨ op = 11 ∨ op = 12 ∨ op = 13 ∨ op = 14 ∨ op = 15 := by omega
    rcases hc with rfl | rfl | rfl | rfl | rfl | rfl | rfl | rfl | rfl | rfl | rfl | rfl | rfl | rfl | rfl | rfl <;> decide
  · omega
theorem len_lit (op : Int) (h0 : 0 ≤ op) (h1 : op ≤ 15) : (#[Value.int .i64 1, .int .i64 2, .int .i64 3, .int .i64 3, .int .i64 3, .int .i64 3, .int .i64 3, .int .i64 3, .int .i64 1, .int .i64 1, .int .i64 3, .int .i64 3, .int .i64 3, .int .i64 3, .int .i64 1, .int .i64 1] : Array Value)[op.toNat]? = some (.int .i64 (lenN op)) := by
  have hc : op = 0 ∨ op = 1 ∨ op = 2 ∨ op = 3 ∨ op = 4 ∨ op = 5 ∨ op = 6 ∨ op = 7 ∨ op = 8 ∨ op = 9 ∨ op = 10 ∨ op = 11 ∨ op = 12 ∨ op = 13 ∨ op = 14 ∨ op = 15 := by omega
  rcases hc with rfl | rfl | rfl | rfl | rfl | rfl | rfl | rfl | rfl | rfl | rfl | rfl | rfl | rfl | rfl | rfl <;> rfl
def ordB (op arg : Int) : Bool := if lenN op = 1 then decide (arg = 0) else if lenN op = 2 then byteB arg else if lenN op = 3 then addrB arg else false
/-- The bytes of an instruction. -/
def ordN (op arg : Int) : List Int := if ordB op arg = true then ([op, arg % 256, arg / 256] : List Int).take (lenN op).toNat else []
theorem ordB_len {op arg : Int} (h : ordB op arg = true) : 1 ≤ lenN op ∧ 0 ≤ op ∧ op ≤ 15 ∧ 0 ≤ arg ∧ arg ≤ 1023 := by
  have hb : betB op 0 15 = true := by
    by_cases hb : betB op 0 15 = true
    · exact hb
    · have : lenN op = 0 := by simp [lenN, hb]
      simp [ordB, this] at h
  obtain ⟨h0, h1⟩ := betB_yes hb
  unfold ordB at h
  split at h
  · rename_i hl; simp at h; subst h; omega
  · split at h
    · rename_i hl; have := byteB_yes h; omega
    · split at h
      · rename_i hl; have := addrB_yes h; omega
      · cases h
theorem ordN_bytes (op arg : Int) : (ordN op arg).length ≤ 3 ∧ ∀ i, i < (ordN op arg).length → byteB ((ordN op arg).getD i 0) = true := by
  unfold ordN
  split
  · rename_i h
    obtain ⟨h1, h2, h3, h4, h5⟩ := ordB_len h
    have hl := lenN_bd op
    refine ⟨by simp; omega, fun i hi => ?_⟩
    have hi3 : i < 3 ∧ i < (lenN op).toNat := by simp at hi; omega
    have e : (([op, arg % 256, arg / 256] : List Int).take (lenN op).toNat).getD i 0 = ([op, arg % 256, arg / 256] : List Int).getD i 0 := by
      simp only [List.getD_eq_getElem?_getD, List.getElem?_take, if_pos hi3.2]
    rw [e]
    have hc : i = 0 ∨ i = 1 ∨ i = 2 := by omega
    rcases hc with rfl | rfl | rfl
    · exact byteB_mk (by simp; omega) (by simp; omega)
    · exact byteB_mk (by simp; omega) (by simp; omega)
    · exact byteB_mk (by simp; omega) (by simp; omega)
  · exact ⟨by simp, by simp⟩
theorem cell_new {w1 : World} {b i : Nat} {y : Value} {o : Obj} (h : w1.cell? ⟨b, i, none⟩ = some y) : (w1.alloc o).drew.cell? ⟨b, i, none⟩ = some y := by
  show (w1.alloc o).cell? _ = _
  rw [World.cell?_alloc_lt _ _ _ (World.block_lt_of_cell? _ _ h)]; exact h
/-- A literal of three numbers, cut. -/
theorem copied_lit {w w2 : World} {g L : Nat} {t : TypeId} {x0 x1 x2 : Int} (h : Box w2 g t [.int .i64 x0, .int .i64 x1, .int .i64 x2]) (hg : w.heap.size ≤ g) (h1 : 1 ≤ L) (h3 : L ≤ 3) (b : Below w.heap.size w w2) :
    Copied (([x0, x1, x2] : List Int).take L) L w (.returned (.slice (some ⟨g, 0, none⟩) L 3)) w2 := by
  refine ⟨_, 3, [g], rfl, h3, ⟨by simp; omega, .inr ⟨by omega, g, 0, rfl, rfl, h.lt, fun i hi => ?_⟩⟩, .one hg h.lt h.frozen, b⟩
  have e : (([x0, x1, x2] : List Int).take L).getD i 0 = ([x0, x1, x2] : List Int).getD i 0 := by
    simp only [List.getD_eq_getElem?_getD, List.getElem?_take, if_pos hi]
  rw [e, Nat.zero_add, h.cell i]
  have hc : i = 0 ∨ i = 1 ∨ i = 2 := by omega
  rcases hc with rfl | rfl | rfl <;> rfl
end Go.Proofs.Ytkglocdmpfjafaa
end

section
/- A drawn instruction. -/
namespace Go.Proofs.Ytkglocdmpfjafaa
open Go.ChangeShapes Go.WideShapes Go.ChangeAt Go.RowKit

theorem Sole.only {q : Nat} {w w' : World} (h : Sole q w w') : Only [q] w w' := ⟨h.os, h.tape, h.output, h.size, fun k hk hn => h.block k hk (by simpa using hn)⟩
theorem Only.sole {q : Nat} {w w' : World} (h : Only [q] w w') : Sole q w w' := ⟨h.os, h.tape, h.output, h.size, fun k hk hn => h.block k hk (by simpa using hn)⟩
theorem Rd.stay {w w' : World} {q m : Nat} (h : Rd w q m) (k : Below (q + 1) w w') : Rd w' q m := by
  obtain ⟨p, a, len, cap, h1, h2, h3, h4, h5, h6, h7, h8⟩ := h
  refine ⟨p, a, len, cap, Nat.lt_of_lt_of_le h1 k.size, h2, (k.cell (by simp)).trans h3, (k.cell (by simp)).trans h4, (k.frozen (by simp)).trans h5, h6, h7, ?_⟩
  rcases h8 with h8 | ⟨b, off, rfl, hb, hc⟩
  · exact .inl h8
  · exact .inr ⟨b, off, rfl, hb, fun i hi => by obtain ⟨z, z0, z1, hz⟩ := hc i hi; exact ⟨z, z0, z1, (k.cell (by show b < _; omega)).trans hz⟩⟩
theorem Rd.far {w : World} {q m : Nat} (h : Rd w q m) {b i : Nat} (hb : q < b) (v : Value) : Rd (w.setCell ⟨b, i, none⟩ v) q m := h.stay ((Below.refl _ _).setCell (show q + 1 ≤ b by omega) v)
theorem Rd.alloc {w : World} {q m : Nat} (h : Rd w q m) (o : Obj) : Rd (w.alloc o) q m := h.keep (below1 w o)
theorem odd_zero (q : Nat) (w : World) : Calls Try.prog 32 #[.pointer (some ⟨q, 0, none⟩), .int .i64 0] w fun e w' => e = .returned (.bool false) ∧ w = w' := by
  go_enter Try.func32, Try.ntmps32
  go_wp2_with fail
  go_ret
  exact ⟨rfl, rfl⟩
/-- What drawing an instruction leaves. -/
def OrdDrawn (q m : Nat) (w : World) (e : Ending) (w' : World) : Prop := ∃ op arg : Int, e = .returned (.agg #[.int .i64 op, .int .i64 arg]) ∧ Only [q] w w' ∧ Rd w' q (m + 8)
theorem five (v x0 x1 x2 x3 x4 : Int) (d0 : 0 ≤ v) (d1 : v < 5) : ∃ u : Int, (#[Value.int .i64 x0, .int .i64 x1, .int .i64 x2, .int .i64 x3, .int .i64 x4] : Array Value)[v.toNat]? = some (.int .i64 u) := by
  have h : v = 0 ∨ v = 1 ∨ v = 2 ∨ v = 3 ∨ v = 4 := by omega
  rcases h with rfl | rfl | rfl | rfl | rfl <;> exact ⟨_, rfl⟩
end Go.Proofs.Ytkglocdmpfjafaa
end

section
/- Typed regions of the laws' draws: what is asked of one operation, whatever kind it is, and the kinds that draws are made of. -/
namespace Go.Proofs.Ytkglocdmpfjafaa
open Go.ChangeShapes Go.WideShapes Go.ChangeAt Go.RowKit

def slotR (ρ : Operand → Value) : Option Tmp → Value
  | some d => ρ (.tmp d)
  | none => undef
def PreR (ops : Array Oper) (T : Nat → Value → World → Prop) (ρ : Operand → Value) (w : World) : List Edge → Prop
  | [] => True
  | e :: r => (Region.binds .any e = true → T e.on (slotR ρ ((ops[e.on]?).bind (·.dst))) w) ∧ PreR ops T ρ w r
theorem slot_eq (a : Act) (d : Option Tmp) : slotV a d = slotR a.eval d := by cases d <;> rfl
theorem pre_eq {ops : Array Oper} {T : Nat → Value → World → Prop} {a : Act} {w : World} : ∀ (es : List Edge), Pre ops T a w es → PreR ops T a.eval w es
  | [], _ => trivial
  | _ :: r, h => ⟨fun hb => slot_eq a _ ▸ h.1 hb, pre_eq r h.2⟩
/-- How one operation may end: with a value, with nothing, or with a call. -/
def UponT (P : Program) (K : Value → World → Prop) : Result Next → Prop
  | .ok (.value v) w' => K v w'
  | .ok .skip w' => K undef w'
  | .ok (.enter f args) w' => Calls P f args w' fun e w'' => ∃ v, e = .returned v ∧ K v w''
  | _ => False
theorem UponT_value {P : Program} {K : Value → World → Prop} {v : Value} {w : World} : UponT P K (.ok (.value v) w) = K v w := rfl
theorem UponT_skip {P : Program} {K : Value → World → Prop} {w : World} : UponT P K (.ok .skip w) = K undef w := rfl
theorem UponT_enter {P : Program} {K : Value → World → Prop} {f : FuncId} {args : Array Value} {w : World} : UponT P K (.ok (.enter f args) w) = Calls P f args w fun e w'' => ∃ v, e = .returned v ∧ K v w'' := rfl
theorem upon_of_T {P : Program} {o : Oper} {a : Act} {K : Value → World → Prop} {Q : Exit → Act → World → Prop} {r : Result Next} (h : UponT P K r) : o.upon P a (fun a' w' => ∃ v, a' = a.put o.dst v ∧ K v w') Q r := by
  cases r with
  | ok n w' =>
    cases n <;> simp only [UponT] at h
    case value v => exact ⟨v, rfl, h⟩
    case skip => exact ⟨undef, rfl, h⟩
    case enter f args => exact Calls.mono h fun e w'' ⟨v, he, hK⟩ => by subst he; exact ⟨v, rfl, hK⟩
  | halt x w' => simp only [UponT] at h

/-- The class of worlds of a draw's region: only the blocks S have changed, the reader has been asked at most k times more. -/
structure Cls (S : List Nat) (q m : Nat) (w0 : World) (J : World → Prop) (k : Nat) (w : World) : Prop where
  only : Only S w0 w
  rd : Rd w q (m + k)
  more : J w
structure Rel (S : List Nat) (D : World → Prop) (w w' : World) : Prop where
  only : Only S w w'
  done : D w → D w'
/-- J and D hold on as long as the reader's block alone changes. -/
def Kept (q : Nat) (J : World → Prop) : Prop := ∀ w w', Only [q] w w' → J w → J w'
section
variable {P : Program} {ops : Array Oper} {Q : Exit → Act → World → Prop} {T : Nat → Value → World → Prop} {a0 : Act} {S : List Nat} {q m : Nat} {w0 : World} {J D : World → Prop} {i : Nat} {o : Oper}

/-- What is asked of an operation. -/
theorem ob_gen (hg : o.guard = none) (h : ∀ (ρ : Operand → Value) k w, k < ops.size → Cls S q m w0 J k w → (∀ v, ρ (.const v) = v) → (∀ f, ρ (.func f) = .func (.func f) #[] #[]) → (∀ n, (ops.toList.all fun o => o.dst != some n) = true → ρ (.tmp n) = a0.eval (.tmp n)) → PreR ops T ρ w o.after.toList →
      UponT P (fun v w' => Rel S D w w' ∧ Cls S q m w0 J (k + 1) w' ∧ T i (dstV o v) w') ((execOp ρ o).run P w)) :
    Ob P ops Q (Cls S q m w0 J) (Rel S D) T a0 i o := by
  intro k a w hk hI hF hp
  have h1 := h a.eval k w hk hI (fun _ => rfl) (fun _ => rfl) (fun n hn => by
    show a.tmps.getD n undef = a0.tmps.getD n undef
    refine hF.same n fun j o' ho' hd => ?_
    rw [List.all_eq_true] at hn
    have := hn o' (List.mem_of_getElem? (i := j) (by simpa using ho'))
    simp [hd] at this) (pre_eq _ hp)
  have hw : wantV ops (slotV a) o = true := by unfold wantV; rw [hg]
  refine ⟨fun _ => ?_, fun hn => by rw [hw] at hn; cases hn⟩
  unfold Oper.wp
  exact upon_of_T h1
/-- What is asked of an operation that changes the reader's block at most. -/
theorem ob_only (hg : o.guard = none) (hq : q ∈ S) (hJ : Kept q J) (hD : Kept q D)
    (h : ∀ (ρ : Operand → Value) k w, k < ops.size → Cls S q m w0 J k w → (∀ v, ρ (.const v) = v) → (∀ f, ρ (.func f) = .func (.func f) #[] #[]) → (∀ n, (ops.toList.all fun o => o.dst != some n) = true → ρ (.tmp n) = a0.eval (.tmp n)) → PreR ops T ρ w o.after.toList →
      UponT P (fun v w' => Only [q] w w' ∧ Rd w' q (m + (k + 1)) ∧ T i (dstV o v) w') ((execOp ρ o).run P w)) :
    Ob P ops Q (Cls S q m w0 J) (Rel S D) T a0 i o :=
  ob_gen hg fun ρ k w hk hI hc hf hx hp => by
    have h1 := h ρ k w hk hI hc hf hx hp
    have hS : ∀ w', Only [q] w w' → Only S w w' := fun w' ho => ho.mono (by simp; exact hq)
    generalize (execOp ρ o).run P w = r at h1 ⊢
    have go : ∀ v w', (Only [q] w w' ∧ Rd w' q (m + (k + 1)) ∧ T i (dstV o v) w') → Rel S D w w' ∧ Cls S q m w0 J (k + 1) w' ∧ T i (dstV o v) w' := fun v w' ⟨b1, b2, b3⟩ =>
      ⟨⟨hS w' b1, hD w w' b1⟩, ⟨hI.only.trans (hS w' b1), b2, hJ w w' b1 hI.more⟩, b3⟩
    cases r with
    | ok n w' =>
      cases n <;> simp only [UponT] at h1 ⊢
      case value v => exact go v w' h1
      case skip => exact go undef w' h1
      case enter f args => exact Calls.mono h1 fun e w'' ⟨v, he, hK⟩ => ⟨v, he, go v w'' hK⟩
    | halt x w' => simp only [UponT] at h1
/-- An operation that yields a value and leaves the world alone. -/
theorem ob_val (hg : o.guard = none) (v : Value) (hq : q ∈ S) (hJ : Kept q J) (hD : Kept q D)
    (h : ∀ (ρ : Operand → Value) k w, Cls S q m w0 J k w → (∀ v, ρ (.const v) = v) → (∀ n, (ops.toList.all fun o => o.dst != some n) = true → ρ (.tmp n) = a0.eval (.tmp n)) → PreR ops T ρ w o.after.toList →
      (execOp ρ o).run P w = .ok (.value v) w ∧ T i (dstV o v) w) :
    Ob P ops Q (Cls S q m w0 J) (Rel S D) T a0 i o :=
  ob_only hg hq hJ hD fun ρ k w _ hI hc _ hx hp => by
    obtain ⟨e, ht⟩ := h ρ k w hI hc hx hp
    rw [e]
    exact ⟨Only.refl _ _, hI.rd.mono (by omega), ht⟩
end

/-! The predicates that draws are made of. -/
/-- A value known whole. -/
def TV (x : Value) : Value → World → Prop := fun v _ => v = x
/-- An integer in a range. -/
def TI (lo hi : Int) : Value → World → Prop := fun v _ => ∃ z : Int, v = .int .i64 z ∧ lo ≤ z ∧ z ≤ hi
def TB : Value → World → Prop := fun v _ => ∃ b : Bool, v = .bool b
/-- A literal of integers in a range, in a block that the region itself has laid. -/
def LitIn (S : List Nat) (w : World) (b len : Nat) (lo hi : Int) : Prop := b < w.heap.size ∧ b ∉ S ∧ ∀ j, j < len → ∃ z : Int, w.cell? ⟨b, j, none⟩ = some (.int .i64 z) ∧ lo ≤ z ∧ z ≤ hi
theorem LitIn.only {S : List Nat} {w w' : World} {b len : Nat} {lo hi : Int} (h : LitIn S w b len lo hi) (o : Only S w w') : LitIn S w' b len lo hi :=
  ⟨Nat.lt_of_lt_of_le h.1 o.size, h.2.1, fun j hj => by obtain ⟨z, hz, h1⟩ := h.2.2 j hj; exact ⟨z, (World.cell?_of_block (a := ⟨b, j, none⟩) (o.block b h.1 h.2.1)).trans hz, h1⟩⟩
def TL (S : List Nat) (len : Nat) (lo hi : Int) : Value → World → Prop := fun v w => ∃ b, v = .slice (some ⟨b, 0, none⟩) len len ∧ LitIn S w b len lo hi
def TP (S : List Nat) (lo hi : Int) : Value → World → Prop := fun v w => ∃ b j len, v = .pointer (some ⟨b, j, none⟩) ∧ j < len ∧ LitIn S w b len lo hi
def Stab (R : World → World → Prop) (t : Value → World → Prop) : Prop := ∀ v w w', R w w' → t v w → t v w'
def StabAll (R : World → World → Prop) : List (Value → World → Prop) → Prop
  | [] => True
  | t :: r => Stab R t ∧ StabAll R r
def Ty (ts : List (Value → World → Prop)) (i : Nat) : Value → World → Prop := ts.getD i (fun _ _ => True)
theorem stab_ty {R : World → World → Prop} : ∀ (ts : List (Value → World → Prop)), StabAll R ts → ∀ i v w w', R w w' → Ty ts i v w → Ty ts i v w'
  | [], _, _, _, _, _, _, _ => trivial
  | t :: r, h, i, v, w, w', hR, ht => by
    cases i with
    | zero => exact h.1 v w w' hR ht
    | succ i => exact stab_ty r h.2 i v w w' hR ht
section
variable {S : List Nat} {D : World → Prop}
theorem stab_tv (x : Value) : Stab (Rel S D) (TV x) := fun _ _ _ _ h => h
theorem stab_ti (lo hi : Int) : Stab (Rel S D) (TI lo hi) := fun _ _ _ _ h => h
theorem stab_tb : Stab (Rel S D) TB := fun _ _ _ _ h => h
theorem stab_tl (len : Nat) (lo hi : Int) : Stab (Rel S D) (TL S len lo hi) := fun _ _ _ hR ⟨b, hv, hl⟩ => ⟨b, hv, hl.only hR.only⟩
theorem stab_tp (lo hi : Int) : Stab (Rel S D) (TP S lo hi) := fun _ _ _ hR ⟨b, j, len, hv, hj, hl⟩ => ⟨b, j, len, hv, hj, hl.only hR.only⟩
theorem stab_done (D' : World → Prop) (h : ∀ w, D w → D' w) (h' : ∀ w, D' w → D w) : Stab (Rel S D) (fun _ w => D' w) := fun _ _ _ hR ht => h _ (hR.done (h' _ ht))
end
section
variable {ops : Array Oper} {Q : Exit → Act → World → Prop} {T : Nat → Value → World → Prop} {a0 : Act} {S : List Nat} {q m : Nat} {w0 : World} {J D : World → Prop} {i : Nat} {o : Oper}
/-- move, assign -/
theorem ob_move (hg : o.guard = none) (x : Operand) (hop : o.op = .move x ∨ o.op = .assign x) (hq : q ∈ S) (hJ : Kept q J) (hD : Kept q D)
    (h : ∀ (ρ : Operand → Value) w, (∀ v, ρ (.const v) = v) → (∀ n, (ops.toList.all fun o => o.dst != some n) = true → ρ (.tmp n) = a0.eval (.tmp n)) → PreR ops T ρ w o.after.toList → T i (dstV o (ρ x)) w) :
    Ob Try.prog ops Q (Cls S q m w0 J) (Rel S D) T a0 i o :=
  ob_only hg hq hJ hD fun ρ k w _ hI hc _ hx hp => by
    have e : (execOp ρ o).run Try.prog w = .ok (.value (ρ x)) w := by
      rcases hop with h | h <;> (unfold execOp; rw [h]; rfl)
    rw [e]
    exact ⟨Only.refl _ _, hI.rd.mono (by omega), h ρ w hc hx hp⟩
theorem ob_pick (hg : o.guard = none) (x : Operand) (n : Int) (ty : Array TypeId) (hop : o.op = .call { callee := .value (.func 30), args := #[x, .const (.int .i64 n)], argTypes := ty }) (hq : q ∈ S) (hJ : Kept q J) (hD : Kept q D) (hm : m + ops.size ≤ 1000000000) (hn : 1 ≤ n) (hn2 : n ≤ 1000000000)
    (hx : ∀ (ρ : Operand → Value) w, PreR ops T ρ w o.after.toList → ρ x = .pointer (some ⟨q, 0, none⟩)) (hT : ∀ v w, TI 0 (n - 1) v w → T i (dstV o v) w) :
    Ob Try.prog ops Q (Cls S q m w0 J) (Rel S D) T a0 i o :=
  ob_only hg hq hJ hD fun ρ k w hk hI hc hf _ hp => by
    have e : (execOp ρ o).run Try.prog w = .ok (.enter 30 #[.pointer (some ⟨q, 0, none⟩), .int .i64 n]) w := by
      have h1 := hx ρ w hp
      have h2 := hc (.int .i64 n)
      have h3 := hf 30
      unfold execOp; rw [hop]
      simp [go_sem, h1, h2, h3]
    rw [e, UponT_enter]
    refine (pick_any q (m + k) n w hI.rd (by omega) hn hn2).mono ?_
    rintro e w' ⟨z, z0, z1, rfl, hs, hr⟩
    exact ⟨_, rfl, hs.only, hr, hT _ _ ⟨z, rfl, z0, by omega⟩⟩
/-- A literal of integers. -/
theorem ob_build (hg : o.guard = none) (len : Nat) (lo hi : Int) (hq : q ∈ S) (hJ : Kept q J) (hD : Kept q D) (hS : ∀ b ∈ S, b < w0.heap.size)
    (hrun : ∀ (ρ : Operand → Value) w, (∀ v, ρ (.const v) = v) → (∀ n, (ops.toList.all fun o => o.dst != some n) = true → ρ (.tmp n) = a0.eval (.tmp n)) → PreR ops T ρ w o.after.toList →
      ∃ cs : Array Value, (execOp ρ o).run Try.prog w = .ok (.value (.slice (some ⟨w.heap.size, 0, none⟩) len len)) (w.alloc (.cells cs 3)) ∧ ∀ j, j < len → ∃ z : Int, cs[j]? = some (.int .i64 z) ∧ lo ≤ z ∧ z ≤ hi)
    (hT : ∀ v w, TL S len lo hi v w → T i (dstV o v) w) : Ob Try.prog ops Q (Cls S q m w0 J) (Rel S D) T a0 i o :=
  ob_only hg hq hJ hD fun ρ k w hk hI hc _ hx hp => by
    obtain ⟨cs, e, hcs⟩ := hrun ρ w hc hx hp
    rw [e]
    refine ⟨(Only.refl _ _).alloc _, (hI.rd.mono (by omega)).alloc _, hT _ _ ⟨w.heap.size, rfl, by simp, fun h => ?_, fun j hj => ?_⟩⟩
    · have := hS _ h
      have := hI.only.size
      omega
    · obtain ⟨z, hz, h1⟩ := hcs j hj
      exact ⟨z, by rw [World.cell?_alloc_new]; exact hz, h1⟩
/-- The address of an element of a literal. -/
theorem ob_index (hg : o.guard = none) (x y : Operand) (len : Nat) (lo hi : Int) (hop : o.op = .indexAddr 29 x y) (hq : q ∈ S) (hJ : Kept q J) (hD : Kept q D)
    (hx : ∀ (ρ : Operand → Value) w, PreR ops T ρ w o.after.toList → TL S len lo hi (ρ x) w ∧ TI 0 (len - 1) (ρ y) w) (hT : ∀ v w, TP S lo hi v w → T i (dstV o v) w) :
    Ob Try.prog ops Q (Cls S q m w0 J) (Rel S D) T a0 i o :=
  ob_only hg hq hJ hD fun ρ k w _ hI _ _ _ hp => by
    obtain ⟨⟨b, h1, hl⟩, z, h2, z0, z1⟩ := hx ρ w hp
    have z2 : z < (len : Int) := by omega
    have e : (execOp ρ o).run Try.prog w = .ok (.value (.pointer (some ⟨b, z.toNat, none⟩))) w := by
      unfold execOp; rw [hop]
      simp only [h1, h2]
      clear h1 h2 hl
      go_simp
    rw [e]
    exact ⟨Only.refl _ _, hI.rd.mono (by omega), hT _ _ ⟨b, _, len, rfl, by omega, hl⟩⟩
/-- An element of a literal is read. -/
theorem ob_load (hg : o.guard = none) (x : Operand) (lo hi : Int) (hop : o.op = .load 3 x) (hq : q ∈ S) (hJ : Kept q J) (hD : Kept q D)
    (hx : ∀ (ρ : Operand → Value) w, PreR ops T ρ w o.after.toList → TP S lo hi (ρ x) w) (hT : ∀ v w, TI lo hi v w → T i (dstV o v) w) :
    Ob Try.prog ops Q (Cls S q m w0 J) (Rel S D) T a0 i o :=
  ob_only hg hq hJ hD fun ρ k w _ hI _ _ _ hp => by
    obtain ⟨b, j, len, h1, hj, hl⟩ := hx ρ w hp
    obtain ⟨z, hz, z0, z1⟩ := hl.2.2 j hj
    have e : (execOp ρ o).run Try.prog w = .ok (.value (.int .i64 z)) w := by
      unfold execOp; rw [hop]
      simp only [h1]
      clear h1 hl
      go_simp
    rw [e]
    exact ⟨Only.refl _ _, hI.rd.mono (by omega), hT _ _ ⟨z, rfl, z0, z1⟩⟩
/-- A sum or a product with a constant. -/
theorem ob_add (hg : o.guard = none) (x y : Operand) (c lo hi lo' hi' : Int) (ty ty' : TypeId) (hty : ty = 3) (hop : o.op = .binOp .add ty x y ty') (hq : q ∈ S) (hJ : Kept q J) (hD : Kept q D)
    (hx : ∀ (ρ : Operand → Value) w, (∀ v, ρ (.const v) = v) → PreR ops T ρ w o.after.toList → (TI lo hi (ρ x) w ∧ ρ y = .int .i64 c) ∨ (TI lo hi (ρ y) w ∧ ρ x = .int .i64 c)) (h1 : lo' = lo + c) (h2 : hi' = hi + c) (h3 : -1000000000 ≤ lo') (h4 : hi' ≤ 1000000000) (hT : ∀ v w, TI lo' hi' v w → T i (dstV o v) w) :
    Ob Try.prog ops Q (Cls S q m w0 J) (Rel S D) T a0 i o :=
  ob_only hg hq hJ hD fun ρ k w _ hI hc _ _ hp => by
    subst hty
    have e : ∃ z : Int, lo' ≤ z ∧ z ≤ hi' ∧ (execOp ρ o).run Try.prog w = .ok (.value (.int .i64 z)) w := by
      rcases hx ρ w hc hp with ⟨⟨z, g1, z0, z1⟩, g2⟩ | ⟨⟨z, g1, z0, z1⟩, g2⟩
      · refine ⟨z + c, by omega, by omega, ?_⟩
        have hw : IntKind.i64.wrap (z + c) = z + c := IntWalk.i64_in _ (by omega)
        unfold execOp; rw [hop]
        simp only [g1, g2]
        clear g1 g2
        go_simp
      · refine ⟨c + z, by omega, by omega, ?_⟩
        have hw : IntKind.i64.wrap (c + z) = c + z := IntWalk.i64_in _ (by omega)
        unfold execOp; rw [hop]
        simp only [g1, g2]
        clear g1 g2
        go_simp
    obtain ⟨z, z0, z1, e⟩ := e
    rw [e]
    exact ⟨Only.refl _ _, hI.rd.mono (by omega), hT _ _ ⟨z, rfl, z0, z1⟩⟩
theorem ob_mul (hg : o.guard = none) (x y : Operand) (c lo hi lo' hi' : Int) (ty ty' : TypeId) (hty : ty = 3) (hop : o.op = .binOp .mul ty x y ty') (hq : q ∈ S) (hJ : Kept q J) (hD : Kept q D)
    (hx : ∀ (ρ : Operand → Value) w, (∀ v, ρ (.const v) = v) → PreR ops T ρ w o.after.toList → TI lo hi (ρ x) w ∧ ρ y = .int .i64 c) (c0 : 0 ≤ c) (h1 : lo' = lo * c) (h2 : hi' = hi * c) (h3 : -1000000000 ≤ lo') (h4 : hi' ≤ 1000000000) (hT : ∀ v w, TI lo' hi' v w → T i (dstV o v) w) :
    Ob Try.prog ops Q (Cls S q m w0 J) (Rel S D) T a0 i o :=
  ob_only hg hq hJ hD fun ρ k w _ hI hc _ _ hp => by
    subst hty
    obtain ⟨⟨z, g1, z0, z1⟩, g2⟩ := hx ρ w hc hp
    have a1 := Int.mul_le_mul_of_nonneg_right z0 c0
    have a2 := Int.mul_le_mul_of_nonneg_right z1 c0
    have hw : IntKind.i64.wrap (z * c) = z * c := IntWalk.i64_in _ (by omega)
    have e : (execOp ρ o).run Try.prog w = .ok (.value (.int .i64 (z * c))) w := by
      unfold execOp; rw [hop]
      simp only [g1, g2]
      clear g1 g2 a1 a2
      go_simp
    rw [e]
    exact ⟨Only.refl _ _, hI.rd.mono (by omega), hT _ _ ⟨z * c, rfl, by omega, by omega⟩⟩
end
/-- No byte of the laws' text. -/
def plainV (v : Value) : Prop := ∀ z : Int, v ≠ .int .u8 z
/-- The result's block: n cells, no byte among them. -/
def Res (res : Nat) (t : TypeId) (n : Nat) (w : World) : Prop := ∃ cs : List Value, cs.length = n ∧ Box w res t cs ∧ ∀ v ∈ cs, plainV v
theorem Res.kept {q res : Nat} {t : TypeId} {n : Nat} (h : res ≠ q) : Kept q (Res res t n) := fun _ _ o ⟨cs, h1, h2, h3⟩ => ⟨cs, h1, h2.only o (by simpa using h), h3⟩
theorem box_kept {q res : Nat} {t : TypeId} {cs : List Value} (h : res ≠ q) : Kept q (fun w => Box w res t cs) := fun _ _ o h2 => h2.only o (by simpa using h)
theorem Rd.store {w : World} {q m res : Nat} {t : TypeId} {cs : List Value} (h : Rd w q m) (hb : Box w res t cs) (hp : ∀ v ∈ cs, plainV v) (hne : res ≠ q) (i : Nat) (v : Value) : Rd (w.setCell ⟨res, i, none⟩ v) q m := by
  obtain ⟨p, a, len, cap, h1, h2, h3, h4, h5, h6, h7, h8⟩ := h
  refine ⟨p, a, len, cap, by simpa using h1, h2, ?_, ?_, ?_, h6, h7, ?_⟩
  · rw [World.cell?_setCell_other _ _ _ _ (fun e => by injection e; omega)]; exact h3
  · rw [World.cell?_setCell_other _ _ _ _ (fun e => by injection e; omega)]; exact h4
  · rw [World.frozen?_setCell]; exact h5
  · rcases h8 with h8 | ⟨b, off, rfl, hbq, hc⟩
    · exact .inl h8
    · refine .inr ⟨b, off, rfl, hbq, fun j hj => ?_⟩
      obtain ⟨z, z0, z1, hz⟩ := hc j hj
      refine ⟨z, z0, z1, ?_⟩
      by_cases e : b = res
      · subst e
        rw [hb.cell] at hz
        exact absurd rfl (hp _ (List.mem_of_getElem? hz) z)
      · rw [World.cell?_setCell_other _ _ _ _ (fun e' => by injection e'; omega)]; exact hz
def setAll (w : World) (b : Nat) : Nat → List Value → World
  | _, [] => w
  | i, v :: r => setAll (w.setCell ⟨b, i, none⟩ v) b (i + 1) r
theorem setAll_only {S : List Nat} {b : Nat} (hb : b ∈ S) : ∀ (vs : List Value) (i : Nat) (w0 w : World), Only S w0 w → Only S w0 (setAll w b i vs)
  | [], _, _, _, h => h
  | _ :: r, i, _, _, h => setAll_only hb r (i + 1) _ _ (h.setCell (.inl hb) _)
theorem setAll_box {b : Nat} {t : TypeId} : ∀ (vs pre cs : List Value) (w : World), Box w b t (pre ++ cs) → cs.length = vs.length → Box (setAll w b pre.length vs) b t (pre ++ vs)
  | [], pre, cs, w, h, hl => by
    obtain rfl : cs = [] := List.length_eq_zero_iff.1 hl
    exact h
  | v :: r, pre, cs, w, h, hl => by
    match cs, hl with
    | c :: cs', hl =>
      have h1 := h.set pre.length v
      rw [List.set_append_right _ _ (Nat.le_refl _), Nat.sub_self, List.set_cons_zero] at h1
      have h2 := setAll_box r (pre ++ [v]) cs' _ (by simpa using h1) (by simpa using hl)
      simpa [setAll] using h2
theorem setAll_rd {b q m : Nat} {t : TypeId} (hne : b ≠ q) : ∀ (vs : List Value) (i : Nat) (w : World), (∀ v ∈ vs, plainV v) → (∃ cs, Box w b t cs ∧ ∀ v ∈ cs, plainV v) → Rd w q m → Rd (setAll w b i vs) q m
  | [], _, _, _, _, h => h
  | v :: r, i, w, hp, ⟨cs, hb, hc⟩, h => setAll_rd hne r (i + 1) _ (fun x hx => hp x (by simp [hx])) ⟨_, hb.set i v, fun x hx => by
      rcases List.mem_or_eq_of_mem_set hx with hx | rfl
      · exact hc x hx
      · exact hp x (by simp)⟩ (h.store hb hc hne i v)
/-- The result is stored. -/
theorem ob_put {ops : Array Oper} {Q : Exit → Act → World → Prop} {T : Nat → Value → World → Prop} {a0 : Act} {S : List Nat} {q m : Nat} {w0 : World} {i : Nat} {o : Oper} (hg : o.guard = none) (res : Nat) (t : TypeId) (vs : List Value) (hres : res ∈ S) (hne : res ≠ q) (hpl : ∀ v ∈ vs, plainV v)
    (hrun : ∀ (ρ : Operand → Value) w cs, Box w res t cs → cs.length = vs.length → (∀ v, ρ (.const v) = v) → (∀ n, (ops.toList.all fun o => o.dst != some n) = true → ρ (.tmp n) = a0.eval (.tmp n)) → PreR ops T ρ w o.after.toList → (execOp ρ o).run Try.prog w = .ok .skip (setAll w res 0 vs))
    (hT : ∀ v w, Box w res t vs → T i v w) :
    Ob Try.prog ops Q (Cls S q m w0 (Res res t vs.length)) (Rel S fun w => Box w res t vs) T a0 i o :=
  ob_gen hg fun ρ k w _ hI hc _ hx hp => by
    obtain ⟨cs, hl, hb, hcp⟩ := hI.more
    rw [hrun ρ w cs hb hl hc hx hp, UponT_skip]
    have h1 := setAll_only hres vs 0 w w (Only.refl _ _)
    have h2 : Box (setAll w res 0 vs) res t vs := setAll_box vs [] cs w (by simpa using hb) hl
    exact ⟨⟨h1, fun _ => h2⟩, ⟨hI.only.trans h1, setAll_rd hne vs 0 w hpl ⟨cs, hb, hcp⟩ (hI.rd.mono (by omega)), vs, rfl, h2, hpl⟩, hT _ _ h2⟩
end Go.Proofs.Ytkglocdmpfjafaa
end

section
/- Typed regions of the laws' walks: what was there stays as it was. -/
namespace Go.Proofs.Ytkglocdmpfjafaa
open Go.ChangeShapes Go.WideShapes Go.ChangeAt Go.RowKit

def ClB (w0 : World) (_ : Nat) (w : World) : Prop := Below w0.heap.size w0 w
def RlB (w w' : World) : Prop := Below w.heap.size w w'
theorem want_none {ops : Array Oper} {f : Option Tmp → Value} {o : Oper} (hg : o.guard = none) : wantV ops f o = true := by unfold wantV; rw [hg]
theorem want_of {ops : Array Oper} {ρ : Operand → Value} {o : Oper} (j : Nat) (b : Bool) (d : Nat) (hg : o.guard = some (j, b)) (hd : (ops[j]?).bind (·.dst) = some d) (he : ρ (.tmp d) = .bool b) : wantV ops (slotR ρ) o = true := by
  unfold wantV; rw [hg]; simp only [hd, slotR, he]; simp
theorem want_not {ops : Array Oper} {ρ : Operand → Value} {o : Oper} (j : Nat) (b : Bool) (d : Nat) (hg : o.guard = some (j, b)) (hd : (ops[j]?).bind (·.dst) = some d) (he : ρ (.tmp d) = .bool (!b)) : wantV ops (slotR ρ) o = false := by
  unfold wantV; rw [hg]; simp only [hd, slotR, he]; cases b <;> rfl
theorem slots_eq (a : Act) : slotV a = slotR a.eval := funext (slot_eq a)
section
variable {P : Program} {ops : Array Oper} {Q : Exit → Act → World → Prop} {T : Nat → Value → World → Prop} {a0 : Act} {w0 : World} {i : Nat} {o : Oper}
theorem fr_eval {a : Act} (hF : Fr ops a0 a) (n : Nat) (hn : (ops.toList.all fun o => o.dst != some n) = true) : a.eval (.tmp n) = a0.eval (.tmp n) := by
  show a.tmps.getD n undef = a0.tmps.getD n undef
  refine hF.same n fun j o' ho' hd => ?_
  rw [List.all_eq_true] at hn
  have := hn o' (List.mem_of_getElem? (i := j) (by simpa using ho'))
  simp [hd] at this
/-- An operation that is carried out. -/
theorem lb_gen (hw : ∀ (ρ : Operand → Value) w, PreR ops T ρ w o.after.toList → wantV ops (slotR ρ) o = true)
    (h : ∀ (ρ : Operand → Value) w, Below w0.heap.size w0 w → (∀ v, ρ (.const v) = v) → (∀ f, ρ (.func f) = .func (.func f) #[] #[]) → (∀ n, (ops.toList.all fun o => o.dst != some n) = true → ρ (.tmp n) = a0.eval (.tmp n)) → PreR ops T ρ w o.after.toList →
      UponT P (fun v w' => Below w.heap.size w w' ∧ T i (dstV o v) w') ((execOp ρ o).run P w)) : Ob P ops Q (ClB w0) RlB T a0 i o := by
  intro k a w hk hI hF hp
  have hp' := pre_eq _ hp
  have hwt := hw a.eval w hp'
  rw [slots_eq]
  refine ⟨fun _ => ?_, fun hn => by rw [hwt] at hn; cases hn⟩
  have h1 := h a.eval w hI (fun _ => rfl) (fun _ => rfl) (fun n hn => fr_eval hF n hn) hp'
  unfold Oper.wp
  refine upon_of_T (K := fun v w' => RlB w w' ∧ ClB w0 (k + 1) w' ∧ T i (dstV o v) w') ?_
  generalize (execOp a.eval o).run P w = r at h1 ⊢
  have go : ∀ v w', (Below w.heap.size w w' ∧ T i (dstV o v) w') → RlB w w' ∧ ClB w0 (k + 1) w' ∧ T i (dstV o v) w' := fun v w' ⟨b1, b2⟩ => ⟨b1, Below.trans hI (b1.mono hI.size), b2⟩
  cases r with
  | ok n w' =>
    cases n <;> simp only [UponT] at h1 ⊢
    case value v => exact go v w' h1
    case skip => exact go undef w' h1
    case enter f args => exact Calls.mono h1 fun e w'' ⟨v, he, hK⟩ => ⟨v, he, go v w'' hK⟩
  | halt x w' => simp only [UponT] at h1
/-- An operation that is passed over. -/
theorem lb_not (hw : ∀ (ρ : Operand → Value) w, PreR ops T ρ w o.after.toList → wantV ops (slotR ρ) o = false) (hT : ∀ w, T i undef w) : Ob P ops Q (ClB w0) RlB T a0 i o := by
  intro k a w hk hI hF hp
  have hwt := hw a.eval w (pre_eq _ hp)
  rw [slots_eq]
  exact ⟨(fun hn => by rw [hwt] at hn; cases hn), fun _ => ⟨Below.refl _ _, hI, hT w⟩⟩
theorem lb_val (v : Value) (hw : ∀ (ρ : Operand → Value) w, PreR ops T ρ w o.after.toList → wantV ops (slotR ρ) o = true)
    (h : ∀ (ρ : Operand → Value) w, Below w0.heap.size w0 w → (∀ v, ρ (.const v) = v) → (∀ n, (ops.toList.all fun o => o.dst != some n) = true → ρ (.tmp n) = a0.eval (.tmp n)) → PreR ops T ρ w o.after.toList → (execOp ρ o).run P w = .ok (.value v) w ∧ T i (dstV o v) w) :
    Ob P ops Q (ClB w0) RlB T a0 i o :=
  lb_gen hw fun ρ w hb hc _ hx hp => by
    obtain ⟨e, ht⟩ := h ρ w hb hc hx hp
    rw [e]
    exact ⟨Below.refl _ _, ht⟩
/-- move, assign -/
theorem lb_move (x : Operand) (hop : o.op = .move x ∨ o.op = .assign x) (hw : ∀ (ρ : Operand → Value) w, PreR ops T ρ w o.after.toList → wantV ops (slotR ρ) o = true)
    (h : ∀ (ρ : Operand → Value) w, (∀ v, ρ (.const v) = v) → (∀ n, (ops.toList.all fun o => o.dst != some n) = true → ρ (.tmp n) = a0.eval (.tmp n)) → PreR ops T ρ w o.after.toList → T i (dstV o (ρ x)) w) : Ob P ops Q (ClB w0) RlB T a0 i o :=
  lb_gen hw fun ρ w _ hc _ hx hp => by
    have e : (execOp ρ o).run P w = .ok (.value (ρ x)) w := by
      rcases hop with h | h <;> (unfold execOp; rw [h]; rfl)
    rw [e]
    exact ⟨Below.refl _ _, h ρ w hc hx hp⟩
/-- A choice by a Bool that is known. -/
theorem lb_pick (x y z : Operand) (hop : o.op = .pick x y z) (b : Bool) (hw : ∀ (ρ : Operand → Value) w, PreR ops T ρ w o.after.toList → wantV ops (slotR ρ) o = true)
    (h : ∀ (ρ : Operand → Value) w, (∀ v, ρ (.const v) = v) → PreR ops T ρ w o.after.toList → ρ x = .bool b ∧ T i (dstV o (if b then ρ y else ρ z)) w) : Ob P ops Q (ClB w0) RlB T a0 i o :=
  lb_gen hw fun ρ w _ hc _ _ hp => by
    obtain ⟨h1, h2⟩ := h ρ w hc hp
    have e : (execOp ρ o).run P w = .ok (.value (if b then ρ y else ρ z)) w := by
      unfold execOp; rw [hop]; simp only [h1]; cases b <;> rfl
    rw [e]
    exact ⟨Below.refl _ _, h2⟩
/-- not -/
theorem lb_unot (x : Operand) (ty : TypeId) (b : Bool) (hop : o.op = .unOp .not ty x) (hw : ∀ (ρ : Operand → Value) w, PreR ops T ρ w o.after.toList → wantV ops (slotR ρ) o = true)
    (h : ∀ (ρ : Operand → Value) w, PreR ops T ρ w o.after.toList → ρ x = .bool b ∧ T i (dstV o (.bool (!b))) w) : Ob P ops Q (ClB w0) RlB T a0 i o :=
  lb_val (.bool (!b)) hw fun ρ w _ _ _ hp => by
    obtain ⟨h1, h2⟩ := h ρ w hp
    refine ⟨?_, h2⟩
    unfold execOp; rw [hop]; simp only [h1]; rfl
/-- A call of a function of the program. -/
theorem lb_call (f : FuncId) (xs : Array Operand) (ty : Array TypeId) (hcf : ∀ (args : Array Value) (w : World), (callFunc f args).run P w = .ok (.enter f args) w) (hop : o.op = .call { callee := .value (.func f), args := xs, argTypes := ty }) (hw : ∀ (ρ : Operand → Value) w, PreR ops T ρ w o.after.toList → wantV ops (slotR ρ) o = true)
    (h : ∀ (ρ : Operand → Value) w, Below w0.heap.size w0 w → (∀ v, ρ (.const v) = v) → PreR ops T ρ w o.after.toList → ∃ args, xs.map ρ = args ∧ Calls P f args w fun e w' => ∃ v, e = .returned v ∧ Below w.heap.size w w' ∧ T i (dstV o v) w') : Ob P ops Q (ClB w0) RlB T a0 i o :=
  lb_gen hw fun ρ w hb hc hf _ hp => by
    obtain ⟨args, ha, hC⟩ := h ρ w hb hc hp
    have e : (execOp ρ o).run P w = .ok (.enter f args) w := by
      have h3 := hf f
      unfold execOp; rw [hop]
      simp [go_sem, h3, ha, hcf]
    rw [e, UponT_enter]
    exact hC.mono fun _ _ ⟨v, he, h1, h2⟩ => ⟨v, he, h1, h2⟩
end
def StabB (t : Value → World → Prop) : Prop := Stab RlB t
theorem stabB_v (p : Value → Prop) : Stab RlB (fun v _ => p v) := fun _ _ _ _ h => h
end Go.Proofs.Ytkglocdmpfjafaa
end

section
/- A typed region whose last operation waits for all others: the others by their predicates, the last one by itself. -/
namespace Go.Proofs.Ytkglocdmpfjafaa
open Go.ChangeShapes Go.WideShapes Go.ChangeAt Go.RowKit

section
variable {P : Program} {ops : Array Oper} {Q : Exit → Act → World → Prop} {I : Nat → World → Prop} {R : World → World → Prop} {T : Nat → Value → World → Prop} {a0 : Act}
theorem wpAny_last {N : Nat} (hN : ops.size = N + 1) (hB : okB ops a0.tmps.size = true) (hT : ∀ i v w w', R w w' → T i v w → T i v w')
    (hst : ∀ i o, i < N → ops[i]? = some o → Ob P ops Q I R T a0 i o)
    (hwait : ∀ o, ops[N]? = some o → o.guard = none ∧ ∀ i, i < N → ∃ e ∈ o.after.toList, Region.binds .any e = true ∧ e.on = i)
    (hend : ∀ a w o, ops[N]? = some o → I N w → Fr ops a0 a → (∀ j oj, j < N → ops[j]? = some oj → T j (slotV a oj.dst) w) → o.wp P a w (fun a' w' => Q .normal a' w') Q) :
    ∀ (fuel : Nat) (listed : Array Bool) (a : Act) (w : World), Inv ops I T a0 fuel listed a w → listed.getD N false = false → wpAny P .any ops Q fuel listed a w := by
  have lack : ∀ (listed : Array Bool), listed.size = ops.size → listed.getD N false = false → listed.toList.count true < ops.size := by
    intro listed hs hf
    rcases Nat.lt_or_ge (listed.toList.count true) listed.toList.length with h | h
    · rw [Array.length_toList, hs] at h; exact h
    · have h1 := count_le_len (l := listed.toList)
      have h2 := count_full (l := listed.toList) (by omega) N (by rw [Array.length_toList, hs]; omega)
      rw [getD_list, h2] at hf
      cases hf
  have some_ready : ∀ (listed : Array Bool), listed.size = ops.size → listed.toList.count true < ops.size → Region.ready .any ops listed ≠ [] := by
    intro listed hs hc hr
    obtain ⟨i, h1, h2⟩ := least_false (l := listed.toList) (by rw [Array.length_toList, hs]; exact hc)
    have hi : i < ops.size := by
      have := (List.getElem?_eq_some_iff.1 h1).1
      rw [Array.length_toList, hs] at this; exact this
    have hi' : ops[i]? = some ops[i] := Array.getElem?_eq_getElem hi
    have : i ∈ Region.ready .any ops listed := by
      rw [mem_ready]
      refine ⟨by rw [getD_list, h1]; rfl, _, hi', fun e he hb => ?_⟩
      rw [getD_list, h2 _ ((okB_spec hB hi').1 e he hb)]; rfl
    rw [hr] at this
    cases this
  intro fuel
  induction fuel with
  | zero =>
    intro listed a w v hf
    have := lack listed v.size hf
    have := v.count
    omega
  | succ fuel ih =>
    intro listed a w v hf
    refine ⟨fun hr => absurd hr (some_ready listed v.size (lack listed v.size hf)), fun i hi => ?_⟩
    obtain ⟨h0, o, ho, hp⟩ := mem_ready.1 hi
    have hj : i < ops.size := (Array.getElem?_eq_some_iff.1 ho).1
    obtain ⟨hacyc, hdst⟩ := okB_spec hB ho
    have hl0 : listed.toList[i]? = some false := by
      rw [getD_list] at h0
      cases hx : listed.toList[i]? with
      | none => rw [hx] at h0; cases h0
      | some b => rw [hx] at h0; simp at h0; rw [h0]
    have hcs := count_set_true hl0
    have hcnt := v.count
    by_cases hiN : i = N
    · subst hiN
      obtain ⟨hg, hall⟩ := hwait o ho
      have hlist : ∀ j, j < i → listed.getD j false = true := fun j hj => by
        obtain ⟨e, he, hb, rfl⟩ := hall j hj
        exact hp e (by simpa using he) hb
      have hfull : ∀ j, j < ops.size → (listed.toList.set i true)[j]? = some true := fun j hj => by
        by_cases hji : j = i
        · subst hji
          rw [List.getElem?_set_self (by rw [Array.length_toList, v.size]; exact hj)]
        · rw [List.getElem?_set_ne (Ne.symm hji)]
          have h1 := hlist j (by omega)
          rw [getD_list] at h1
          cases hx : listed.toList[j]? with
          | none => rw [hx] at h1; cases h1
          | some b => rw [hx] at h1; simp at h1; rw [h1]
      have hc : listed.toList.count true = i := by
        have h1 : ¬ (listed.toList.set i true).count true < (listed.toList.set i true).length := fun h => by
          obtain ⟨j, h2, _⟩ := least_false h
          have hj : j < ops.size := by
            have := (List.getElem?_eq_some_iff.1 h2).1
            rw [List.length_set, Array.length_toList, v.size] at this; exact this
          rw [hfull j hj] at h2
          cases h2
        rw [List.length_set, Array.length_toList, v.size] at h1
        omega
      obtain rfl : fuel = 0 := by omega
      have hI : I i w := hc ▸ v.at_
      have hop : wpOp P ops Q i (fun a' w' => Q .normal a' w') a w := by
        unfold wpOp
        simp only [ho]
        rw [if_pos (by simp [Region.wanted, hg])]
        exact .inl (hend a w o ho hI v.fr fun j oj hj hoj => v.all j oj hoj (hlist j hj))
      refine wpOp_mono (fun a' w' hq => ⟨?_, hq⟩) hop
      rcases hl : Region.ready .any ops (listed.setIfInBounds i true) with _ | ⟨j, r⟩
      · rfl
      · have hj' : j ∈ Region.ready .any ops (listed.setIfInBounds i true) := by rw [hl]; simp
        obtain ⟨g0, oj, hoj, _⟩ := mem_ready.1 hj'
        rw [getD_list, Array.toList_setIfInBounds, hfull j (Array.getElem?_eq_some_iff.1 hoj).1] at g0
        cases g0
    · have hlt : i < N := by omega
      have hob := hst i o (by omega) ho (listed.toList.count true) a w (by omega) v.at_ v.fr (pre_of _ fun e he hb => by
        have he' := hp e (by simpa using he) hb
        have hlt : e.on < ops.size := by
          have := (hacyc e (by simpa using he) hb); omega
        have h1 := v.all e.on ops[e.on] (Array.getElem?_eq_getElem hlt) he'
        rw [Array.getElem?_eq_getElem hlt]
        exact h1)
      have hwt : Region.wanted o (yielded ops a.tmps) = wantV ops (slotV a) o := by
        unfold Region.wanted wantV
        cases hgd : o.guard with
        | none => rfl
        | some jb =>
          obtain ⟨j, b⟩ := jb
          simp only
          unfold yielded
          cases hd : (ops[j]?).bind (·.dst) with
          | none => simp [slotV, undef]
          | some d =>
            have hds : d < a.tmps.size := by
              cases hoj : ops[j]? with
              | none => rw [hoj] at hd; simp at hd
              | some oj =>
                rw [hoj] at hd
                rw [v.fr.size]
                exact ((okB_spec hB hoj).2 d hd).1
            have e : a.tmps[d]? = some (slotV a (some d)) := by simp [slotV, Array.getD, hds]
            simp only [Option.bind_some, e]
            cases slotV a (some d) <;> simp
      have hop : wpOp P ops Q i (fun a' w' => ∃ v, a' = a.put o.dst v ∧ R w w' ∧ I (listed.toList.count true + 1) w' ∧ T i (dstV o v) w') a w := by
        unfold wpOp
        simp only [ho]
        rw [hwt]
        cases hwv : wantV ops (slotV a) o with
        | true => rw [if_pos rfl]; exact .inl (hob.1 hwv)
        | false =>
          rw [if_neg (by simp)]
          obtain ⟨g1, g2, g3⟩ := hob.2 hwv
          exact ⟨undef, rfl, g1, g2, by unfold dstV; cases o.dst <;> exact g3⟩
      refine wpOp_mono (fun a' w' hh => ?_) hop
      obtain ⟨u, rfl, hR, hI, hTi⟩ := hh
      refine ih _ _ _ ⟨by simp [v.size], ?_, ?_, ?_, ?_⟩ (by rw [getD_list, Array.toList_setIfInBounds, List.getElem?_set_ne hiN, ← getD_list]; exact hf)
      · rw [Array.toList_setIfInBounds, hcs]; omega
      · rw [Array.toList_setIfInBounds, hcs]; exact hI
      · exact ⟨by rw [put_defers', v.fr.defers], by rw [put_size', v.fr.size], fun n hn => by
          rw [put_getD, if_neg (fun h => hn i o ho h.1)]; exact v.fr.same n hn⟩
      · intro j oj hoj hlj
        by_cases hji : j = i
        · subst hji
          rw [ho] at hoj
          obtain rfl : o = oj := Option.some.inj hoj
          cases hd : o.dst with
          | none => unfold dstV at hTi; rw [hd] at hTi; exact hTi
          | some d =>
            have hds := (hdst d hd).1
            unfold dstV at hTi
            rw [hd] at hTi
            show T j ((a.put (some d) u).tmps.getD d undef) w'
            rw [put_getD, if_pos ⟨rfl, by rw [v.fr.size]; exact hds⟩]
            exact hTi
        · have hlj' : listed.getD j false = true := by
            rw [getD_list, Array.toList_setIfInBounds, List.getElem?_set_ne (Ne.symm hji)] at hlj
            rw [getD_list]; exact hlj
          have h1 := hT j _ _ _ hR (v.all j oj hoj hlj')
          have e : slotV (a.put o.dst u) oj.dst = slotV a oj.dst := by
            cases hdj : oj.dst with
            | none => rfl
            | some d =>
              show (a.put o.dst u).tmps.getD d undef = a.tmps.getD d undef
              rw [put_getD, if_neg]
              rintro ⟨h2, _⟩
              exact (hdst d h2).2 j oj hoj hji hdj
          rw [e]; exact h1
end
/-- Whether an operation waits for the first n. -/
def waitsB (o : Oper) (n : Nat) : Bool := o.guard.isNone && o.dst.isNone && (List.range n).all fun i => o.after.toList.any fun e => Region.binds .any e && e.on == i
/-- **A typed region whose last operation waits for all others.** -/
theorem wp_region_last {P : Program} {id : Nat} {Q : Exit → Act → World → Prop} {a0 : Act} {w : World} {l : List Oper} (oL : Oper) (I : Nat → World → Prop) (R : World → World → Prop) (T : Nat → Value → World → Prop)
    (hl : l.dropLast ++ [oL] = l) (hw : waitsB oL l.dropLast.length = true)
    (hm : P.follows .mixedOrders = true) (hB : okB l.toArray a0.tmps.size = true) (hT : ∀ i v w w', R w w' → T i v w → T i v w') (hI : I 0 w.drew)
    (hst : Obs P l.toArray Q I R T a0 0 l.dropLast) (hend : ∀ vs w, I l.dropLast.length w → Facts T vs w 0 l.dropLast → oL.wp P (putAll a0 l.dropLast 0 vs) w (fun a' w' => Q .normal a' w') Q) : (Code.region id l.toArray true).wp P Q a0 w := by
  have hlen : l.length = l.dropLast.length + 1 := by rw [← hl]; simp
  have hbefore : ∀ j o, j < l.dropLast.length → (l.toArray[j]? = some o ↔ l.dropLast[j]? = some o) := fun j o hj => by
    have : l[j]? = l.dropLast[j]? := by
      conv => lhs; rw [← hl]
      rw [List.getElem?_append_left hj]
    simp [this]
  have hlast : l.toArray[l.dropLast.length]? = some oL := by
    have : l[l.dropLast.length]? = some oL := by
      conv => lhs; rw [← hl]
      simp
    simpa using this
  unfold waitsB at hw
  simp only [Bool.and_eq_true] at hw
  obtain ⟨⟨hg, hd⟩, hall⟩ := hw
  have hd' : oL.dst = none := by simpa using hd
  refine wp_region_any hm (wpAny_last (N := l.dropLast.length) (I := I) (R := R) (T := T) (a0 := a0) (by rw [List.size_toArray]; exact hlen) hB hT (fun i o hi ho => ?_) (fun o ho => ?_) (fun a w o ho hIw hF hA => ?_) _ _ _ _ ⟨by simp, by simp [List.count_replicate], ?_, ⟨rfl, rfl, fun _ _ => rfl⟩, ?_⟩ ?_)
  · have := ob_of (i := i) l.dropLast 0 hst o ((hbefore i o hi).1 ho)
    simpa using this
  · rw [hlast] at ho
    obtain rfl : oL = o := Option.some.inj ho
    refine ⟨by simpa using hg, fun i hi => ?_⟩
    rw [List.all_eq_true] at hall
    have h1 := hall i (List.mem_range.2 hi)
    rw [List.any_eq_true] at h1
    obtain ⟨e, he, h2⟩ := h1
    simp only [Bool.and_eq_true, beq_iff_eq] at h2
    exact ⟨e, he, h2.1, h2.2⟩
  · rw [hlast] at ho
    obtain rfl : oL = o := Option.some.inj ho
    have h := hend (fun j => slotV a ((l.dropLast[j]?).bind (·.dst))) w hIw (facts_of l.dropLast 0 fun j hj => by
      have := hA j l.dropLast[j] hj ((hbefore j _ hj).2 (List.getElem?_eq_getElem hj))
      rw [Nat.zero_add, List.getElem?_eq_getElem hj]
      exact this)
    have e : putAll a0 l.dropLast 0 (fun j => slotV a ((l.dropLast[j]?).bind (·.dst))) = a := putAll_eq a _ l.dropLast 0 a0 hF.defers.symm hF.size.symm (fun n hn => (hF.same n fun j o ho hdo => by
      by_cases hj : j < l.dropLast.length
      · exact hn o (List.mem_of_getElem? ((hbefore j o hj).1 ho)) hdo
      · have h1 : j < l.length := by simpa using (Array.getElem?_eq_some_iff.1 ho).1
        obtain rfl : j = l.dropLast.length := by omega
        rw [hlast] at ho
        obtain rfl : oL = o := Option.some.inj ho
        rw [hd'] at hdo
        cases hdo).symm) fun j o ho => by simp [ho]
    rwa [e] at h
  · simpa [List.count_replicate] using hI
  · intro j o ho hl
    simp [Array.getD] at hl
  · simp [Array.getD]
end Go.Proofs.Ytkglocdmpfjafaa
end

section
/- Typed regions: variables that are made, values known in part, and a store that waits for all. -/
namespace Go.Proofs.Ytkglocdmpfjafaa
open Go.ChangeShapes Go.WideShapes Go.ChangeAt Go.RowKit
set_option linter.unusedVariables false

/-- A new variable of a struct's type t with the cells cs, in a block from L on. -/
def TVar (L : Nat) (t : TypeId) (cs : List Value) : Value → World → Prop := fun v w => ∃ b, v = .pointer (some ⟨b, 0, none⟩) ∧ L ≤ b ∧ Box w b t cs
theorem stab_tvar {S : List Nat} {D : World → Prop} {L : Nat} {t : TypeId} {cs : List Value} (hS : ∀ b ∈ S, b < L) : Stab (Rel S D) (TVar L t cs) := by
  rintro _ w w' hR ⟨b, hv, hL, hb⟩
  exact ⟨b, hv, hL, hb.only hR.only fun hx => by have := hS b hx; omega⟩
section
variable {ops : Array Oper} {Q : Exit → Act → World → Prop} {T : Nat → Value → World → Prop} {a0 : Act} {S : List Nat} {q m : Nat} {w0 : World} {J D : World → Prop} {i : Nat} {o : Oper}
/-- A variable is made. -/
theorem ob_var {t : TypeId} {cs : List Value} (hg : o.guard = none) (hq : q ∈ S) (hJ : Kept q J) (hD : Kept q D)
    (hrun : ∀ (ρ : Operand → Value) w, (execOp ρ o).run Try.prog w = .ok (.value (.pointer (some ⟨w.heap.size, 0, none⟩))) (w.alloc (.cells cs.toArray t)))
    (hT : ∀ v w, TVar w0.heap.size t cs v w → T i (dstV o v) w) :
    Ob Try.prog ops Q (Cls S q m w0 J) (Rel S D) T a0 i o :=
  ob_only hg hq hJ hD fun ρ k w _ hI _ _ _ _ => by
    rw [hrun ρ w]
    exact ⟨(Only.refl _ _).alloc _, (hI.rd.mono (by omega)).alloc _, hT _ _ ⟨_, rfl, hI.only.size, Box.new w _ _⟩⟩
/-- An operation that yields a value of which this is known and leaves the world alone. -/
theorem ob_some (hg : o.guard = none) (hq : q ∈ S) (hJ : Kept q J) (hD : Kept q D)
    (h : ∀ (ρ : Operand → Value) k w, Cls S q m w0 J k w → (∀ v, ρ (.const v) = v) → (∀ n, (ops.toList.all fun o => o.dst != some n) = true → ρ (.tmp n) = a0.eval (.tmp n)) → PreR ops T ρ w o.after.toList →
      ∃ v, (execOp ρ o).run Try.prog w = .ok (.value v) w ∧ T i (dstV o v) w) :
    Ob Try.prog ops Q (Cls S q m w0 J) (Rel S D) T a0 i o :=
  ob_only hg hq hJ hD fun ρ k w _ hI hc _ hx hp => by
    obtain ⟨v, e, ht⟩ := h ρ k w hI hc hx hp
    rw [e]
    exact ⟨Only.refl _ _, hI.rd.mono (by omega), ht⟩
end
/-- A typed region whose last operation, a store, waits for all others: what it does is said as an equation. -/
theorem wp_region_end {P : Program} {id : Nat} {Q : Exit → Act → World → Prop} {a0 : Act} {w : World} {l l0 : List Oper} {oL : Oper} (h0 : l.dropLast = l0) (h1 : l.getLast? = some oL) (I : Nat → World → Prop) (R : World → World → Prop) (T : Nat → Value → World → Prop)
    (hw : waitsB oL l0.length = true) (hm : P.follows .mixedOrders = true) (hB : okB l.toArray a0.tmps.size = true) (hT : ∀ i v w w', R w w' → T i v w → T i v w') (hI : I 0 w.drew)
    (hst : Obs P l.toArray Q I R T a0 0 l0) (hend : ∀ vs w, I l0.length w → Facts T vs w 0 l0 → ∃ w', (execOp (putAll a0 l0 0 vs).eval oL).run P w = .ok .skip w' ∧ Q .normal (putAll a0 l0 0 vs) w') : (Code.region id l.toArray true).wp P Q a0 w := by
  subst h0
  have hd : oL.dst = none := by
    unfold waitsB at hw
    simp only [Bool.and_eq_true] at hw
    simpa using hw.1.2
  refine wp_region_last oL I R T ?_ hw hm hB hT hI hst fun vs w' hI' hF' => ?_
  · rw [List.getLast?_eq_some_iff] at h1
    obtain ⟨ys, rfl⟩ := h1
    simp
  · obtain ⟨w2, he, hk⟩ := hend vs w' hI' hF'
    generalize putAll a0 l.dropLast 0 vs = a at he hk
    have h2 : oL.wp P a w' (fun a' w'' => ∃ v, a' = a.put oL.dst v ∧ w'' = w2) Q := by
      unfold Oper.wp
      refine upon_of_T (K := fun _ w'' => w'' = w2) ?_
      rw [he]
      rfl
    refine Oper.wp_mono (fun a' w'' ⟨v, g1, g2⟩ => ?_) h2
    subst g1 g2
    rw [hd]
    exact hk
theorem facts_at {T : Nat → Value → World → Prop} {vs : Nat → Value} {w : World} : ∀ (l : List Oper) (k i : Nat), i < l.length → Facts T vs w k l → T (k + i) (vs (k + i)) w
  | [], _, _, h, _ => by simp at h
  | o :: r, k, 0, _, h => h.1
  | o :: r, k, i + 1, h, hF => by
    have := facts_at r (k + 1) i (by simpa using h) hF.2
    rwa [show k + 1 + i = k + (i + 1) by omega] at this
theorem lit_at2 {w w' : World} {q : Nat} {cs : Array Value} {T : TypeId} {i : Nat} {v : Value} (hs : Sole q (w.alloc (.cells cs T)) w') (hq : q < w.heap.size) (hv : cs[i]? = some v) : w'.cell? ⟨w.heap.size, i, none⟩ = some v := by
  rw [World.cell?_of_block (a := ⟨w.heap.size, i, none⟩) (w := w.alloc (.cells cs T)) (hs.block w.heap.size (by simp) (by omega)), World.cell?_alloc_new]; exact hv
end Go.Proofs.Ytkglocdmpfjafaa
end

section
/- Regions that draw their order, whose calls may make memory but change nothing that was there: one walk in the order of the text serves every order. -/
namespace Go.Proofs.Ytkglocdmpfjafaa
open Go.ChangeShapes Go.WideShapes Go.ChangeAt Go.RowKit

/-- A world behind w: all that was there is as it was. -/
structure Later (w : World) where
  now : World
  below : Below w.heap.size w now
instance (w : World) : Nonempty (Later w) := ⟨⟨w, Below.refl _ _⟩⟩
theorem later_cell {w : World} {p : Addr} {v : Value} (h : w.cell? p = some v) (u : Later w) : u.now.cell? p = some v :=
  (u.below.cell (World.block_lt_of_cell? _ _ h)).trans h
theorem wp_region_later {P : Program} {id : Nat} {Q : Exit → Act → World → Prop} {a : Act} {w : World} {l : List Oper} (hm : P.follows .mixedOrders = true) (hB : Region.lexB .any l.toArray = true)
    (h : wpQuiet P l.toArray (fun w' => ∃ u : Later w, w' = u.now) (fun a' => ∀ w', (∃ u : Later w, w' = u.now) → Q .normal a' w') l a) : (Code.region id l.toArray true).wp P Q a w :=
  wp_region_quiet (C := fun w' => ∃ u : Later w, w' = u.now) hm hB ⟨⟨w.drew, (Below.refl _ _).drew⟩, rfl⟩ (by simpa using h)
/-- A call that makes memory at most. -/
theorem Calls.later {P : Program} {f : FuncId} {args : Array Value} {w : World} {u : Later w} {v : Value}
    (h : Calls P f args u.now fun e w' => e = .returned v ∧ Below u.now.heap.size u.now w') : Calls P f args u.now fun e w'' => e = .returned v ∧ ∃ u' : Later w, w'' = u'.now :=
  h.mono fun _ w' ⟨he, hb⟩ => ⟨he, ⟨w', u.below.trans (hb.mono u.below.size)⟩, rfl⟩
/-- A call that reads in an open order. -/
theorem Calls.later_drew {P : Program} {f : FuncId} {args : Array Value} {w : World} {u : Later w} {v : Value}
    (h : Calls P f args u.now fun e w' => e = .returned v ∧ ∃ m, w' = u.now.drewN m) : Calls P f args u.now fun e w'' => e = .returned v ∧ ∃ u' : Later w, w'' = u'.now :=
  h.mono fun _ _ ⟨he, m, hm⟩ => ⟨he, ⟨u.now.drewN m, ⟨u.below.os, u.below.tape, u.below.output, u.below.size, u.below.block⟩⟩, hm⟩
/-- A call that computes only. -/
theorem Calls.later_same {P : Program} {f : FuncId} {args : Array Value} {w : World} {u : Later w} {v : Value}
    (h : Calls P f args u.now fun e w' => e = .returned v ∧ u.now = w') : Calls P f args u.now fun e w'' => e = .returned v ∧ ∃ u' : Later w, w'' = u'.now :=
  h.mono fun _ _ ⟨he, hm⟩ => ⟨he, u, hm.symm⟩
end Go.Proofs.Ytkglocdmpfjafaa
end

section
/- Typed regions with whole colors: loads, comparisons, variables that are made, calls whose result is known. -/
namespace Go.Proofs.Ytkglocdmpfjafaa
open Go.ChangeShapes Go.WideShapes Go.ChangeAt Go.RowKit
set_option linter.unusedVariables false

theorem stabB_k (x : Value) : Stab RlB (TV x) := fun _ _ _ _ h => h
theorem stabB_u : Stab RlB (fun (_ : Value) (_ : World) => True) := fun _ _ _ _ h => h
theorem stabB_var {L : Nat} {t : TypeId} {cs : List Value} : Stab RlB (TVar L t cs) := fun _ _ _ hR ⟨b, hv, hL, hb⟩ => ⟨b, hv, hL, hb.below hR⟩
section
variable {ops : Array Oper} {Q : Exit → Act → World → Prop} {T : Nat → Value → World → Prop} {a0 : Act} {w0 : World} {i : Nat} {o : Oper}
/-- A variable is made. -/
theorem lb_var {t : TypeId} {cs : List Value} (hw : ∀ (ρ : Operand → Value) w, PreR ops T ρ w o.after.toList → wantV ops (slotR ρ) o = true)
    (hrun : ∀ (ρ : Operand → Value) w, (execOp ρ o).run Try.prog w = .ok (.value (.pointer (some ⟨w.heap.size, 0, none⟩))) (w.alloc (.cells cs.toArray t)))
    (hT : ∀ v w, TVar w0.heap.size t cs v w → T i (dstV o v) w) : Ob Try.prog ops Q (ClB w0) RlB T a0 i o :=
  lb_gen hw fun ρ w hb _ _ _ _ => by
    rw [hrun ρ w]
    exact ⟨below1 w _, hT _ _ ⟨_, rfl, hb.size, Box.new w _ _⟩⟩
/-- A call whose result is known and that changes nothing that was there. -/
theorem lb_known (f : FuncId) (xs : Array Operand) (ty : Array TypeId) (v : Value) (hcf : ∀ (args : Array Value) (w : World), (callFunc f args).run Try.prog w = .ok (.enter f args) w) (hop : o.op = .call { callee := .value (.func f), args := xs, argTypes := ty }) (hw : ∀ (ρ : Operand → Value) w, PreR ops T ρ w o.after.toList → wantV ops (slotR ρ) o = true)
    (args : Array Value) (hC : ∀ w, Below w0.heap.size w0 w → Calls Try.prog f args w fun e w' => e = .returned v ∧ Below w.heap.size w w')
    (h : ∀ (ρ : Operand → Value) w, (∀ v, ρ (.const v) = v) → (∀ n, (ops.toList.all fun o => o.dst != some n) = true → ρ (.tmp n) = a0.eval (.tmp n)) → PreR ops T ρ w o.after.toList → xs.map ρ = args) (hT : ∀ w, T i (dstV o v) w) : Ob Try.prog ops Q (ClB w0) RlB T a0 i o :=
  lb_gen hw fun ρ w hbl hc hf hx hp => by
    have ha := h ρ w hc hx hp
    have e : (execOp ρ o).run Try.prog w = .ok (.enter f args) w := by
      have h3 := hf f
      unfold execOp; rw [hop]
      simp [go_sem, h3, ha, hcf]
    rw [e, UponT_enter]
    refine (hC w hbl).mono ?_
    rintro e w' ⟨rfl, h1⟩
    exact ⟨v, rfl, h1, hT _⟩
end
end Go.Proofs.Ytkglocdmpfjafaa
end
