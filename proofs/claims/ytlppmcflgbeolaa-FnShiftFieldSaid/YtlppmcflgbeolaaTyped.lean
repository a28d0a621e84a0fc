/- Regions that draw their order and whose operations make memory, draw or write: each operation leaves a value of which a predicate of its own holds, and holds on, whatever comes up next; one look at each operation serves every order. -/
import Derived.Test.YtlppmcflgbeolaaBase
import Derived.Orders
namespace Go.Proofs.Ytlppmcflgbeolaa
open Go.ChangeShapes Go.WideShapes Go.ChangeAt Go.RowKit

def slotV (a : Act) : Option Tmp → Value
  | some d => a.tmps.getD d undef
  | none => undef
/-- The frame is the first one, but for slots that the region writes. -/
structure Fr (ops : Array Oper) (a0 a : Act) : Prop where
  defers : a.defers = a0.defers
  size : a.tmps.size = a0.tmps.size
  same : ∀ n, (∀ (j : Nat) o, ops[j]? = some o → o.dst ≠ some n) → a.tmps.getD n undef = a0.tmps.getD n undef
def dstV (o : Oper) (v : Value) : Value := match o.dst with | some _ => v | none => undef
/-- What is known of the operations for which one waits. -/
def Pre (ops : Array Oper) (T : Nat → Value → World → Prop) (a : Act) (w : World) : List Edge → Prop
  | [] => True
  | e :: r => (Region.binds .any e = true → T e.on (slotV a ((ops[e.on]?).bind (·.dst))) w) ∧ Pre ops T a w r
/-- Whether a guarded operation is wanted, by what its guard has yielded. -/
def wantV (ops : Array Oper) (f : Option Tmp → Value) (o : Oper) : Bool :=
  match o.guard with
  | none => true
  | some (j, b) => match f ((ops[j]?).bind (·.dst)) with
    | .bool c => c == b
    | _ => false
/-- One operation, from whatever world and frame the others have left. -/
def Ob (P : Program) (ops : Array Oper) (Q : Exit → Act → World → Prop) (I : Nat → World → Prop) (R : World → World → Prop) (T : Nat → Value → World → Prop) (a0 : Act) (i : Nat) (o : Oper) : Prop :=
  ∀ k a w, k < ops.size → I k w → Fr ops a0 a → Pre ops T a w o.after.toList →
    (wantV ops (slotV a) o = true → o.wp P a w (fun a' w' => ∃ v, a' = a.put o.dst v ∧ R w w' ∧ I (k + 1) w' ∧ T i (dstV o v) w') Q) ∧
    (wantV ops (slotV a) o = false → R w w ∧ I (k + 1) w ∧ T i undef w)
def Obs (P : Program) (ops : Array Oper) (Q : Exit → Act → World → Prop) (I : Nat → World → Prop) (R : World → World → Prop) (T : Nat → Value → World → Prop) (a0 : Act) : Nat → List Oper → Prop
  | _, [] => True
  | i, o :: r => Ob P ops Q I R T a0 i o ∧ Obs P ops Q I R T a0 (i + 1) r
def putAll (a : Act) : List Oper → Nat → (Nat → Value) → Act
  | [], _, _ => a
  | o :: r, k, vs => putAll (a.put o.dst (vs k)) r (k + 1) vs
def Facts (T : Nat → Value → World → Prop) (vs : Nat → Value) (w : World) : Nat → List Oper → Prop
  | _, [] => True
  | k, _ :: r => T k (vs k) w ∧ Facts T vs w (k + 1) r
def okB (ops : Array Oper) (N : Nat) : Bool :=
  (List.range ops.size).all fun i => match ops[i]? with
    | none => true
    | some o => (o.after.toList.all fun e => !Region.binds .any e || decide (e.on < i)) &&
      (match o.dst with
        | none => true
        | some d => decide (d < N) && (List.range ops.size).all fun j => j == i || (ops[j]?).bind (·.dst) != some d)
theorem okB_spec {ops : Array Oper} {N : Nat} (h : okB ops N = true) {i : Nat} {o : Oper} (hi : ops[i]? = some o) :
    (∀ e ∈ o.after, Region.binds .any e = true → e.on < i) ∧ ∀ d, o.dst = some d → d < N ∧ ∀ j oj, ops[j]? = some oj → j ≠ i → oj.dst ≠ some d := by
  have hlt : i < ops.size := (Array.getElem?_eq_some_iff.1 hi).1
  unfold okB at h
  rw [List.all_eq_true] at h
  have h1 := h i (List.mem_range.2 hlt)
  rw [hi] at h1
  simp only [Bool.and_eq_true] at h1
  obtain ⟨h3, h4⟩ := h1
  refine ⟨fun e he hb => ?_, fun d hd => ?_⟩
  · rw [List.all_eq_true] at h3
    have := h3 e (by simpa using he)
    rw [hb] at this
    simpa using this
  · rw [hd] at h4
    simp only [Bool.and_eq_true] at h4
    refine ⟨by simpa using h4.1, fun j oj hj hne hdj => ?_⟩
    have h5 := h4.2
    rw [List.all_eq_true] at h5
    have := h5 j (List.mem_range.2 (Array.getElem?_eq_some_iff.1 hj).1)
    rw [hj] at this
    simp [hdj, hne] at this
theorem put_defers' (a : Act) (d : Option Tmp) (v : Value) : (a.put d v).defers = a.defers := by cases d <;> rfl
theorem put_size' (a : Act) (d : Option Tmp) (v : Value) : (a.put d v).tmps.size = a.tmps.size := by cases d <;> simp [Act.put]
theorem put_getD (a : Act) (d : Option Tmp) (v : Value) (n : Nat) : (a.put d v).tmps.getD n undef = if d = some n ∧ n < a.tmps.size then v else a.tmps.getD n undef := by
  cases d with
  | none => simp [Act.put]
  | some d =>
    simp only [Act.put, Array.getD_eq_getD_getElem?, Array.getElem?_setIfInBounds, Option.some.injEq]
    by_cases e : d = n
    · subst e
      by_cases h : d < a.tmps.size
      · simp [h]
      · simp [h]
    · simp [e]
theorem act_ext {a b : Act} (h1 : a.defers = b.defers) (h2 : a.tmps.size = b.tmps.size) (h3 : ∀ n, a.tmps.getD n undef = b.tmps.getD n undef) : a = b := by
  cases a with | mk ta da =>
  cases b with | mk tb db =>
  simp only at h1 h2 h3
  subst h1
  congr 1
  refine Array.ext h2 fun n hn hn' => ?_
  have := h3 n
  simpa [Array.getD, hn, hn'] using this
theorem putAll_eq (a : Act) (vs : Nat → Value) : ∀ (l : List Oper) (k : Nat) (b : Act), b.defers = a.defers → b.tmps.size = a.tmps.size →
    (∀ n, (∀ o ∈ l, o.dst ≠ some n) → b.tmps.getD n undef = a.tmps.getD n undef) → (∀ j o, l[j]? = some o → vs (k + j) = slotV a o.dst) → putAll b l k vs = a
  | [], _, b, h1, h2, h3, _ => act_ext h1 h2 fun n => h3 n (by simp)
  | o :: r, k, b, h1, h2, h3, h4 => by
    refine putAll_eq a vs r (k + 1) (b.put o.dst (vs k)) (by rw [put_defers', h1]) (by rw [put_size', h2]) (fun n hn => ?_) (fun j o' ho' => by have := h4 (j + 1) o' (by simpa using ho'); rw [← this]; congr 1; omega)
    rw [put_getD]
    by_cases hd : o.dst = some n
    · by_cases hs : n < b.tmps.size
      · rw [if_pos ⟨hd, hs⟩]
        have := h4 0 o (by simp)
        simp only [Nat.add_zero] at this
        rw [this, hd]; rfl
      · rw [if_neg (fun h => hs h.2)]
        have hs' : ¬ n < a.tmps.size := by rw [← h2]; exact hs
        simp [Array.getD, hs, hs']
    · rw [if_neg (fun h => hd h.1)]
      exact h3 n fun o' ho' => by
        rcases List.mem_cons.1 ho' with rfl | h
        · exact hd
        · exact hn o' h
section
variable {P : Program} {ops : Array Oper} {Q : Exit → Act → World → Prop} {I : Nat → World → Prop} {R : World → World → Prop} {T : Nat → Value → World → Prop} {a0 : Act}

theorem pre_of {a : Act} {w : World} : ∀ (es : List Edge), (∀ e ∈ es, Region.binds .any e = true → T e.on (slotV a ((ops[e.on]?).bind (·.dst))) w) → Pre ops T a w es
  | [], _ => trivial
  | e :: r, h => ⟨h e (by simp), pre_of r fun e' he' => h e' (by simp [he'])⟩
theorem ob_of {i : Nat} : ∀ (l : List Oper) (k : Nat), Obs P ops Q I R T a0 k l → ∀ o, l[i]? = some o → Ob P ops Q I R T a0 (k + i) o := by
  induction i with
  | zero =>
    intro l k h o ho
    cases l with
    | nil => simp at ho
    | cons x r => simp at ho; subst ho; exact h.1
  | succ i ih =>
    intro l k h o ho
    cases l with
    | nil => simp at ho
    | cons x r =>
      have := ih r (k + 1) h.2 o (by simpa using ho)
      rwa [show k + 1 + i = k + (i + 1) by omega] at this
/-- What is known between two operations. -/
structure Inv (ops : Array Oper) (I : Nat → World → Prop) (T : Nat → Value → World → Prop) (a0 : Act) (fuel : Nat) (listed : Array Bool) (a : Act) (w : World) : Prop where
  size : listed.size = ops.size
  count : fuel + listed.toList.count true = ops.size
  at_ : I (listed.toList.count true) w
  fr : Fr ops a0 a
  all : ∀ j o, ops[j]? = some o → listed.getD j false = true → T j (slotV a o.dst) w
theorem count_set_true {l : List Bool} {i : Nat} (h : l[i]? = some false) : (l.set i true).count true = l.count true + 1 := by
  induction l generalizing i with
  | nil => simp at h
  | cons x r ih =>
    cases i with
    | zero => simp at h; subst h; simp
    | succ i =>
      simp only [List.getElem?_cons_succ] at h
      simp only [List.set_cons_succ, List.count_cons, ih h]
      omega
theorem count_le_len {l : List Bool} : l.count true ≤ l.length := List.count_le_length
theorem count_full {l : List Bool} (h : l.count true = l.length) (j : Nat) (hj : j < l.length) : l[j]? = some true := by
  have h1 := List.count_eq_length.1 h
  rw [List.getElem?_eq_getElem hj]
  exact congrArg some (h1 _ (List.getElem_mem hj)).symm
theorem least_false : ∀ {l : List Bool}, l.count true < l.length → ∃ i : Nat, l[i]? = some false ∧ ∀ j : Nat, j < i → l[j]? = some true
  | [], h => by simp at h
  | false :: r, _ => ⟨0, by simp, fun j hj => by omega⟩
  | true :: r, h => by
    simp at h
    obtain ⟨i, h1, h2⟩ := least_false h
    exact ⟨i + 1, by simpa using h1, fun j hj => by
      cases j with
      | zero => simp
      | succ j => simpa using h2 j (by omega)⟩
theorem getD_list (listed : Array Bool) (j : Nat) (d : Bool) : listed.getD j d = (listed.toList[j]?).getD d := by simp
theorem wpAny_typed (hB : okB ops a0.tmps.size = true) (hT : ∀ i v w w', R w w' → T i v w → T i v w')
    (hst : ∀ i o, ops[i]? = some o → Ob P ops Q I R T a0 i o)
    (hend : ∀ a w, I ops.size w → Fr ops a0 a → (∀ j o, ops[j]? = some o → T j (slotV a o.dst) w) → Q .normal a w) :
    ∀ (fuel : Nat) (listed : Array Bool) (a : Act) (w : World), Inv ops I T a0 fuel listed a w → wpAny P .any ops Q fuel listed a w := by
  have stop : ∀ (fuel : Nat) (listed : Array Bool) (a : Act) (w : World), Inv ops I T a0 fuel listed a w → Region.ready .any ops listed = [] → Q .normal a w := by
    intro fuel listed a w v hr
    have hc : listed.toList.count true = ops.size := by
      rcases Nat.lt_or_ge (listed.toList.count true) listed.toList.length with h | h
      · obtain ⟨i, h1, h2⟩ := least_false h
        have hi : i < ops.size := by
          have := (List.getElem?_eq_some_iff.1 h1).1
          rw [Array.length_toList, v.size] at this; exact this
        have hi' : ops[i]? = some ops[i] := Array.getElem?_eq_getElem hi
        have : i ∈ Region.ready .any ops listed := by
          rw [mem_ready]
          refine ⟨by rw [getD_list, h1]; rfl, _, hi', fun e he hb => ?_⟩
          rw [getD_list, h2 _ ((okB_spec hB hi').1 e he hb)]; rfl
        rw [hr] at this
        cases this
      · have h1 := count_le_len (l := listed.toList)
        have h2 : listed.toList.length = ops.size := by rw [Array.length_toList, v.size]
        omega
    refine hend a w (hc ▸ v.at_) v.fr fun j o ho => v.all j o ho ?_
    have hj : j < ops.size := (Array.getElem?_eq_some_iff.1 ho).1
    rw [getD_list, count_full (by rw [hc, Array.length_toList, v.size]) j (by rw [Array.length_toList, v.size]; exact hj)]; rfl
  intro fuel
  induction fuel with
  | zero =>
    intro listed a w v
    have hr : Region.ready .any ops listed = [] := by
      rcases hl : Region.ready .any ops listed with _ | ⟨i, r⟩
      · rfl
      · have hi : i ∈ Region.ready .any ops listed := by rw [hl]; simp
        obtain ⟨h0, o, ho, _⟩ := mem_ready.1 hi
        have hj : i < ops.size := (Array.getElem?_eq_some_iff.1 ho).1
        have hc := v.count
        rw [getD_list, count_full (by rw [Array.length_toList, v.size]; omega) i (by rw [Array.length_toList, v.size]; exact hj)] at h0
        cases h0
    exact ⟨hr, stop 0 listed a w v hr⟩
  | succ fuel ih =>
    intro listed a w v
    refine ⟨stop _ listed a w v, fun i hi => ?_⟩
    obtain ⟨h0, o, ho, hp⟩ := mem_ready.1 hi
    have hj : i < ops.size := (Array.getElem?_eq_some_iff.1 ho).1
    obtain ⟨hacyc, hdst⟩ := okB_spec hB ho
    have hl0 : listed.toList[i]? = some false := by
      rw [getD_list] at h0
      cases hx : listed.toList[i]? with
      | none => rw [hx] at h0; cases h0
      | some b => rw [hx] at h0; simp at h0; rw [h0]
    have hcs := count_set_true hl0
    have hcnt := v.count
    have hob := hst i o ho (listed.toList.count true) a w (by omega) v.at_ v.fr (pre_of _ fun e he hb => by
      have he' := hp e (by simpa using he) hb
      have hlt : e.on < ops.size := by
        have := (hacyc e (by simpa using he) hb); omega
      have h1 := v.all e.on ops[e.on] (Array.getElem?_eq_getElem hlt) he'
      rw [Array.getElem?_eq_getElem hlt]
      exact h1)
    have hwt : Region.wanted o (yielded ops a.tmps) = wantV ops (slotV a) o := by
      unfold Region.wanted wantV
      cases hgd : o.guard with
      | none => rfl
      | some jb =>
        obtain ⟨j, b⟩ := jb
        simp only
        unfold yielded
        cases hd : (ops[j]?).bind (·.dst) with
        | none => simp [slotV, undef]
        | some d =>
          have hds : d < a.tmps.size := by
            cases hoj : ops[j]? with
            | none => rw [hoj] at hd; simp at hd
            | some oj =>
              rw [hoj] at hd
              rw [v.fr.size]
              exact ((okB_spec hB hoj).2 d hd).1
          have e : a.tmps[d]? = some (slotV a (some d)) := by simp [slotV, Array.getD, hds]
          simp only [Option.bind_some, e]
          cases slotV a (some d) <;> simp
    have hop : wpOp P ops Q i (fun a' w' => ∃ v, a' = a.put o.dst v ∧ R w w' ∧ I (listed.toList.count true + 1) w' ∧ T i (dstV o v) w') a w := by
      unfold wpOp
      simp only [ho]
      rw [hwt]
      cases hwv : wantV ops (slotV a) o with
      | true => rw [if_pos rfl]; exact .inl (hob.1 hwv)
      | false =>
        rw [if_neg (by simp)]
        obtain ⟨g1, g2, g3⟩ := hob.2 hwv
        exact ⟨undef, rfl, g1, g2, by unfold dstV; cases o.dst <;> exact g3⟩
    refine wpOp_mono (fun a' w' hh => ?_) hop
    obtain ⟨u, rfl, hR, hI, hTi⟩ := hh
    refine ih _ _ _ ⟨by simp [v.size], ?_, ?_, ?_, ?_⟩
    · rw [Array.toList_setIfInBounds, hcs]; omega
    · rw [Array.toList_setIfInBounds, hcs]; exact hI
    · exact ⟨by rw [put_defers', v.fr.defers], by rw [put_size', v.fr.size], fun n hn => by
        rw [put_getD, if_neg (fun h => hn i o ho h.1)]; exact v.fr.same n hn⟩
    · intro j oj hoj hlj
      by_cases hji : j = i
      · subst hji
        rw [ho] at hoj
        obtain rfl : o = oj := Option.some.inj hoj
        cases hd : o.dst with
        | none => unfold dstV at hTi; rw [hd] at hTi; exact hTi
        | some d =>
          have hds := (hdst d hd).1
          unfold dstV at hTi
          rw [hd] at hTi
          show T j ((a.put (some d) u).tmps.getD d undef) w'
          rw [put_getD, if_pos ⟨rfl, by rw [v.fr.size]; exact hds⟩]
          exact hTi
      · have hlj' : listed.getD j false = true := by
          rw [getD_list, Array.toList_setIfInBounds, List.getElem?_set_ne (Ne.symm hji)] at hlj
          rw [getD_list]; exact hlj
        have h1 := hT j _ _ _ hR (v.all j oj hoj hlj')
        have e : slotV (a.put o.dst u) oj.dst = slotV a oj.dst := by
          cases hdj : oj.dst with
          | none => rfl
          | some d =>
            show (a.put o.dst u).tmps.getD d undef = a.tmps.getD d undef
            rw [put_getD, if_neg]
            rintro ⟨h2, _⟩
            exact (hdst d h2).2 j oj hoj hji hdj
        rw [e]; exact h1
end
theorem facts_of {T : Nat → Value → World → Prop} {vs : Nat → Value} {w : World} : ∀ (l : List Oper) (k : Nat), (∀ j, j < l.length → T (k + j) (vs (k + j)) w) → Facts T vs w k l
  | [], _, _ => trivial
  | _ :: r, k, h => ⟨h 0 (by simp), facts_of r (k + 1) fun j hj => by have := h (j + 1) (by simpa using hj); rwa [show k + (j + 1) = k + 1 + j by omega] at this⟩
/-- **A region whose operations leave what their predicates say, in whatever order they come up.** -/
theorem wp_region_typed {P : Program} {id : Nat} {Q : Exit → Act → World → Prop} {a0 : Act} {w : World} {l : List Oper} (I : Nat → World → Prop) (R : World → World → Prop) (T : Nat → Value → World → Prop)
    (hm : P.follows .mixedOrders = true) (hB : okB l.toArray a0.tmps.size = true) (hT : ∀ i v w w', R w w' → T i v w → T i v w') (hI : I 0 w.drew)
    (hst : Obs P l.toArray Q I R T a0 0 l) (hend : ∀ vs w, I l.length w → Facts T vs w 0 l → Q .normal (putAll a0 l 0 vs) w) : (Code.region id l.toArray true).wp P Q a0 w := by
  refine wp_region_any hm (wpAny_typed (I := I) (R := R) (T := T) (a0 := a0) hB hT (fun i o ho => ?_) (fun a w hIw hF hA => ?_) _ _ _ _ ⟨by simp, by simp [List.count_replicate], ?_, ⟨rfl, rfl, fun _ _ => rfl⟩, ?_⟩)
  · have := ob_of (i := i) l 0 hst o (by simpa using ho)
    simpa using this
  · have h := hend (fun j => slotV a ((l[j]?).bind (·.dst))) w (by simpa using hIw) (facts_of l 0 fun j hj => by
      have := hA j l[j] (by simp [hj])
      simpa [hj] using this)
    have e : putAll a0 l 0 (fun j => slotV a ((l[j]?).bind (·.dst))) = a := putAll_eq a _ l 0 a0 hF.defers.symm hF.size.symm (fun n hn => (hF.same n fun j o ho => hn o (by simp at ho; exact List.mem_of_getElem? ho)).symm) fun j o ho => by simp [ho]
    rwa [e] at h
  · simpa [List.count_replicate] using hI
  · intro j o ho hl
    simp [Array.getD] at hl
end Go.Proofs.Ytlppmcflgbeolaa
