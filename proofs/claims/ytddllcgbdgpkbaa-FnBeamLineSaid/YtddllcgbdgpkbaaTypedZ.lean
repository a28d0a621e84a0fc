/- Typed regions in which a slot is read by operations that come before the one that writes it. -/
import Derived.Test.YtddllcgbdgpkbaaGC
namespace Go.Proofs.Ytddllcgbdgpkbaa
open Go.ChangeShapes Go.WideShapes Go.ChangeAt Go.RowKit

/-- The frame is the first one, but for slots that an operation that has run writes. -/
structure Fr2 (ops : Array Oper) (listed : Array Bool) (a0 a : Act) : Prop where
  defers : a.defers = a0.defers
  size : a.tmps.size = a0.tmps.size
  same : ∀ n, (∀ (j : Nat) o, ops[j]? = some o → listed.getD j false = true → o.dst ≠ some n) → a.tmps.getD n undef = a0.tmps.getD n undef
theorem Fr2.fr {ops : Array Oper} {listed : Array Bool} {a0 a : Act} (h : Fr2 ops listed a0 a) : Fr ops a0 a := ⟨h.defers, h.size, fun n hn => h.same n fun j o ho _ => hn j o ho⟩
/-- What has run is closed under what it waits for. -/
def Closed (ops : Array Oper) (listed : Array Bool) : Prop := ∀ (j : Nat) o, ops[j]? = some o → listed.getD j false = true → ∀ e ∈ o.after, Region.binds .any e = true → listed.getD e.on false = true
def Ob2 (P : Program) (ops : Array Oper) (Q : Exit → Act → World → Prop) (I : Nat → World → Prop) (R : World → World → Prop) (T : Nat → Value → World → Prop) (a0 : Act) (i : Nat) (o : Oper) : Prop :=
  ∀ k a w (listed : Array Bool), k < ops.size → I k w → Fr2 ops listed a0 a → listed.getD i false = false → Closed ops listed → Pre ops T a w o.after.toList →
    (wantV ops (slotV a) o = true → o.wp P a w (fun a' w' => ∃ v, a' = a.put o.dst v ∧ R w w' ∧ I (k + 1) w' ∧ T i (dstV o v) w') Q) ∧
    (wantV ops (slotV a) o = false → R w w ∧ I (k + 1) w ∧ T i undef w)
theorem ob2_of {P : Program} {ops : Array Oper} {Q : Exit → Act → World → Prop} {I : Nat → World → Prop} {R : World → World → Prop} {T : Nat → Value → World → Prop} {a0 : Act} {i : Nat} {o : Oper} (h : Ob P ops Q I R T a0 i o) : Ob2 P ops Q I R T a0 i o :=
  fun k a w _ hk hI hF _ _ hp => h k a w hk hI hF.fr hp
def Obs2 (P : Program) (ops : Array Oper) (Q : Exit → Act → World → Prop) (I : Nat → World → Prop) (R : World → World → Prop) (T : Nat → Value → World → Prop) (a0 : Act) : Nat → List Oper → Prop
  | _, [] => True
  | i, o :: r => Ob2 P ops Q I R T a0 i o ∧ Obs2 P ops Q I R T a0 (i + 1) r
structure Inv2 (ops : Array Oper) (I : Nat → World → Prop) (T : Nat → Value → World → Prop) (a0 : Act) (fuel : Nat) (listed : Array Bool) (a : Act) (w : World) : Prop where
  size : listed.size = ops.size
  count : fuel + listed.toList.count true = ops.size
  at_ : I (listed.toList.count true) w
  fr : Fr2 ops listed a0 a
  closed : Closed ops listed
  all : ∀ j o, ops[j]? = some o → listed.getD j false = true → T j (slotV a o.dst) w
section
variable {P : Program} {ops : Array Oper} {Q : Exit → Act → World → Prop} {I : Nat → World → Prop} {R : World → World → Prop} {T : Nat → Value → World → Prop} {a0 : Act}
theorem ob2_at {i : Nat} : ∀ (l : List Oper) (k : Nat), Obs2 P ops Q I R T a0 k l → ∀ o, l[i]? = some o → Ob2 P ops Q I R T a0 (k + i) o := by
  induction i with
  | zero =>
    intro l k h o ho
    cases l with
    | nil => simp at ho
    | cons x r => simp at ho; subst ho; exact h.1
  | succ i ih =>
    intro l k h o ho
    cases l with
    | nil => simp at ho
    | cons x r =>
      have := ih r (k + 1) h.2 o (by simpa using ho)
      rwa [show k + 1 + i = k + (i + 1) by omega] at this
theorem wpAny_typed2 (hB : okB ops a0.tmps.size = true) (hT : ∀ i v w w', R w w' → T i v w → T i v w')
    (hst : ∀ i o, ops[i]? = some o → Ob2 P ops Q I R T a0 i o)
    (hend : ∀ a w, I ops.size w → Fr ops a0 a → (∀ j o, ops[j]? = some o → T j (slotV a o.dst) w) → Q .normal a w) :
    ∀ (fuel : Nat) (listed : Array Bool) (a : Act) (w : World), Inv2 ops I T a0 fuel listed a w → wpAny P .any ops Q fuel listed a w := by
  have stop : ∀ (fuel : Nat) (listed : Array Bool) (a : Act) (w : World), Inv2 ops I T a0 fuel listed a w → Region.ready .any ops listed = [] → Q .normal a w := by
    intro fuel listed a w v hr
    have hc : listed.toList.count true = ops.size := by
      rcases Nat.lt_or_ge (listed.toList.count true) listed.toList.length with h | h
      · obtain ⟨i, h1, h2⟩ := least_false h
        have hi : i < ops.size := by
          have := (List.getElem?_eq_some_iff.1 h1).1
          rw [Array.length_toList, v.size] at this; exact this
        have hi' : ops[i]? = some ops[i] := Array.getElem?_eq_getElem hi
        have : i ∈ Region.ready .any ops listed := by
          rw [mem_ready]
          refine ⟨by rw [getD_list, h1]; rfl, _, hi', fun e he hb => ?_⟩
          rw [getD_list, h2 _ ((okB_spec hB hi').1 e he hb)]; rfl
        rw [hr] at this
        cases this
      · have h1 := count_le_len (l := listed.toList)
        have h2 : listed.toList.length = ops.size := by rw [Array.length_toList, v.size]
        omega
    refine hend a w (hc ▸ v.at_) v.fr.fr fun j o ho => v.all j o ho ?_
    have hj : j < ops.size := (Array.getElem?_eq_some_iff.1 ho).1
    rw [getD_list, count_full (by rw [hc, Array.length_toList, v.size]) j (by rw [Array.length_toList, v.size]; exact hj)]; rfl
  intro fuel
  induction fuel with
  | zero =>
    intro listed a w v
    have hr : Region.ready .any ops listed = [] := by
      rcases hl : Region.ready .any ops listed with _ | ⟨i, r⟩
      · rfl
      · have hi : i ∈ Region.ready .any ops listed := by rw [hl]; simp
        obtain ⟨h0, o, ho, _⟩ := mem_ready.1 hi
        have hj : i < ops.size := (Array.getElem?_eq_some_iff.1 ho).1
        have hc := v.count
        rw [getD_list, count_full (by rw [Array.length_toList, v.size]; omega) i (by rw [Array.length_toList, v.size]; exact hj)] at h0
        cases h0
    exact ⟨hr, stop 0 listed a w v hr⟩
  | succ fuel ih =>
    intro listed a w v
    refine ⟨stop _ listed a w v, fun i hi => ?_⟩
    obtain ⟨h0, o, ho, hp⟩ := mem_ready.1 hi
    have hj : i < ops.size := (Array.getElem?_eq_some_iff.1 ho).1
    obtain ⟨hacyc, hdst⟩ := okB_spec hB ho
    have hl0 : listed.toList[i]? = some false := by
      rw [getD_list] at h0
      cases hx : listed.toList[i]? with
      | none => rw [hx] at h0; cases h0
      | some b => rw [hx] at h0; simp at h0; rw [h0]
    have hcs := count_set_true hl0
    have hcnt := v.count
    have hob := hst i o ho (listed.toList.count true) a w listed (by omega) v.at_ v.fr (by rw [getD_list, hl0]; rfl) v.closed (pre_of _ fun e he hb => by
      have he' := hp e (by simpa using he) hb
      have hlt : e.on < ops.size := by
        have := (hacyc e (by simpa using he) hb); omega
      have h1 := v.all e.on ops[e.on] (Array.getElem?_eq_getElem hlt) he'
      rw [Array.getElem?_eq_getElem hlt]
      exact h1)
    have hwt : Region.wanted o (yielded ops a.tmps) = wantV ops (slotV a) o := by
      unfold Region.wanted wantV
      cases hgd : o.guard with
      | none => rfl
      | some jb =>
        obtain ⟨j, b⟩ := jb
        simp only
        unfold yielded
        cases hd : (ops[j]?).bind (·.dst) with
        | none => simp [slotV, undef]
        | some d =>
          have hds : d < a.tmps.size := by
            cases hoj : ops[j]? with
            | none => rw [hoj] at hd; simp at hd
            | some oj =>
              rw [hoj] at hd
              rw [v.fr.size]
              exact ((okB_spec hB hoj).2 d hd).1
          have e : a.tmps[d]? = some (slotV a (some d)) := by simp [slotV, Array.getD, hds]
          simp only [Option.bind_some, e]
          cases slotV a (some d) <;> simp
    have hop : wpOp P ops Q i (fun a' w' => ∃ v, a' = a.put o.dst v ∧ R w w' ∧ I (listed.toList.count true + 1) w' ∧ T i (dstV o v) w') a w := by
      unfold wpOp
      simp only [ho]
      rw [hwt]
      cases hwv : wantV ops (slotV a) o with
      | true => rw [if_pos rfl]; exact .inl (hob.1 hwv)
      | false =>
        rw [if_neg (by simp)]
        obtain ⟨g1, g2, g3⟩ := hob.2 hwv
        exact ⟨undef, rfl, g1, g2, by unfold dstV; cases o.dst <;> exact g3⟩
    refine wpOp_mono (fun a' w' hh => ?_) hop
    obtain ⟨u, rfl, hR, hI, hTi⟩ := hh
    have hset : ∀ q, listed.getD q false = true → (listed.setIfInBounds i true).getD q false = true := fun q hq => by
      rw [getD_list] at hq ⊢
      rw [Array.toList_setIfInBounds]
      by_cases e : i = q
      · subst e; rw [hl0] at hq; cases hq
      · rw [List.getElem?_set_ne e]; exact hq
    have hunset : ∀ q, q ≠ i → (listed.setIfInBounds i true).getD q false = true → listed.getD q false = true := fun q hne hq => by
      rw [getD_list, Array.toList_setIfInBounds, List.getElem?_set_ne (Ne.symm hne)] at hq
      rw [getD_list]; exact hq
    have hself : (listed.setIfInBounds i true).getD i false = true := by
      rw [getD_list, Array.toList_setIfInBounds, List.getElem?_set_self (by rw [Array.length_toList, v.size]; exact hj)]; rfl
    refine ih _ _ _ ⟨by simp [v.size], ?_, ?_, ?_, ?_, ?_⟩
    · rw [Array.toList_setIfInBounds, hcs]; omega
    · rw [Array.toList_setIfInBounds, hcs]; exact hI
    · exact ⟨by rw [put_defers', v.fr.defers], by rw [put_size', v.fr.size], fun n hn => by
        rw [put_getD, if_neg (fun h => hn i o ho hself h.1)]
        exact v.fr.same n fun j' o' hj' hl' => hn j' o' hj' (hset j' hl')⟩
    · intro j' o' hj' hl' e he hb
      by_cases hji : j' = i
      · subst hji
        rw [ho] at hj'
        obtain rfl : o = o' := Option.some.inj hj'
        exact hset _ (hp e he hb)
      · exact hset _ (v.closed j' o' hj' (hunset j' hji hl') e he hb)
    · intro j oj hoj hlj
      by_cases hji : j = i
      · subst hji
        rw [ho] at hoj
        obtain rfl : o = oj := Option.some.inj hoj
        cases hd : o.dst with
        | none => unfold dstV at hTi; rw [hd] at hTi; exact hTi
        | some d =>
          have hds := (hdst d hd).1
          unfold dstV at hTi
          rw [hd] at hTi
          show T j ((a.put (some d) u).tmps.getD d undef) w'
          rw [put_getD, if_pos ⟨rfl, by rw [v.fr.size]; exact hds⟩]
          exact hTi
      · have hlj' : listed.getD j false = true := by
          rw [getD_list, Array.toList_setIfInBounds, List.getElem?_set_ne (Ne.symm hji)] at hlj
          rw [getD_list]; exact hlj
        have h1 := hT j _ _ _ hR (v.all j oj hoj hlj')
        have e : slotV (a.put o.dst u) oj.dst = slotV a oj.dst := by
          cases hdj : oj.dst with
          | none => rfl
          | some d =>
            show (a.put o.dst u).tmps.getD d undef = a.tmps.getD d undef
            rw [put_getD, if_neg]
            rintro ⟨h2, _⟩
            exact (hdst d h2).2 j oj hoj hji hdj
        rw [e]; exact h1
end
/-- **A typed region, slots read before they are written among them.** -/
theorem wp_region_typed2 {P : Program} {id : Nat} {Q : Exit → Act → World → Prop} {a0 : Act} {w : World} {l : List Oper} (I : Nat → World → Prop) (R : World → World → Prop) (T : Nat → Value → World → Prop)
    (hm : P.follows .mixedOrders = true) (hB : okB l.toArray a0.tmps.size = true) (hT : ∀ i v w w', R w w' → T i v w → T i v w') (hI : I 0 w.drew)
    (hst : Obs2 P l.toArray Q I R T a0 0 l) (hend : ∀ vs w, I l.length w → Facts T vs w 0 l → Q .normal (putAll a0 l 0 vs) w) : (Code.region id l.toArray true).wp P Q a0 w := by
  refine wp_region_any hm (wpAny_typed2 (I := I) (R := R) (T := T) (a0 := a0) hB hT (fun i o ho => ?_) (fun a w hIw hF hA => ?_) _ _ _ _ ⟨by simp, by simp [List.count_replicate], ?_, ⟨rfl, rfl, fun _ _ => rfl⟩, ?_, ?_⟩)
  · have := ob2_at (i := i) l 0 hst o (by simpa using ho)
    simpa using this
  · have h := hend (fun j => slotV a ((l[j]?).bind (·.dst))) w (by simpa using hIw) (facts_of l 0 fun j hj => by
      have := hA j l[j] (by simp [hj])
      simpa [hj] using this)
    have e : putAll a0 l 0 (fun j => slotV a ((l[j]?).bind (·.dst))) = a := putAll_eq a _ l 0 a0 hF.defers.symm hF.size.symm (fun n hn => (hF.same n fun j o ho => hn o (by simp at ho; exact List.mem_of_getElem? ho)).symm) fun j o ho => by simp [ho]
    rwa [e] at h
  · simpa [List.count_replicate] using hI
  · intro j o ho hl
    simp [Array.getD] at hl
  · intro j o ho hl
    simp [Array.getD] at hl
section
variable {P : Program} {ops : Array Oper} {Q : Exit → Act → World → Prop} {T' : Nat → Value → World → Prop} {a0 : Act} {w0 : World} {o : Oper}
/-- A slot that operation j alone writes, which waits for this one, is read. -/
theorem lz_move (i n j : Nat) (hop : o.op = .move (.tmp n) ∨ o.op = .assign (.tmp n)) (hg : o.guard = none) (hw1 : (List.range ops.size).all (fun q => q == j || (ops[q]?).bind (·.dst) != some n) = true) (hw2 : ((ops[j]?).map fun oj => oj.after.toList.any fun e => Region.binds .any e && e.on == i) = some true)
    (h : ∀ w, T' i (dstV o (a0.eval (.tmp n))) w) : Ob2 P ops Q (ClB w0) RlB T' a0 i o := by
  intro k a w listed hk hI hF hni hcl hp
  have hwt : wantV ops (slotV a) o = true := by unfold wantV; rw [hg]
  refine ⟨fun _ => ?_, fun hn => by rw [hwt] at hn; cases hn⟩
  have he : a.eval (.tmp n) = a0.eval (.tmp n) := by
    show a.tmps.getD n undef = a0.tmps.getD n undef
    refine hF.same n fun q oq hq hl hd => ?_
    have hqs : q < ops.size := (Array.getElem?_eq_some_iff.1 hq).1
    rw [List.all_eq_true] at hw1
    have h1 := hw1 q (List.mem_range.2 hqs)
    rw [hq] at h1
    have hqj : q = j := by simpa [hd] using h1
    subst hqj
    rw [hq] at hw2
    have h2 : (oq.after.toList.any fun e => Region.binds .any e && e.on == i) = true := by simpa using hw2
    rw [List.any_eq_true] at h2
    obtain ⟨e, hem, he2⟩ := h2
    rw [Bool.and_eq_true] at he2
    have h3 := hcl q oq hq hl e (by simpa using hem) he2.1
    rw [show e.on = i by simpa using he2.2, hni] at h3
    cases h3
  have hrun : (execOp a.eval o).run P w = .ok (.value (a.eval (.tmp n))) w := by
    rcases hop with h | h <;> (unfold execOp; rw [h]; rfl)
  unfold Oper.wp
  refine upon_of_T (K := fun v w' => RlB w w' ∧ ClB w0 (k + 1) w' ∧ T' i (dstV o v) w') ?_
  rw [hrun, he]
  exact ⟨Below.refl _ _, hI, h w⟩
end
end Go.Proofs.Ytddllcgbdgpkbaa
