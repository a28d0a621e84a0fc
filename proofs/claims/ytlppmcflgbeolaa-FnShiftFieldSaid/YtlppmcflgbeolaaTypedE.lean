/- A typed region whose last operation waits for all others: the others by their predicates, the last one by itself. -/
import Derived.Test.YtlppmcflgbeolaaTyped
namespace Go.Proofs.Ytlppmcflgbeolaa
open Go.ChangeShapes Go.WideShapes Go.ChangeAt Go.RowKit

section
variable {P : Program} {ops : Array Oper} {Q : Exit → Act → World → Prop} {I : Nat → World → Prop} {R : World → World → Prop} {T : Nat → Value → World → Prop} {a0 : Act}
theorem wpAny_last {N : Nat} (hN : ops.size = N + 1) (hB : okB ops a0.tmps.size = true) (hT : ∀ i v w w', R w w' → T i v w → T i v w')
    (hst : ∀ i o, i < N → ops[i]? = some o → Ob P ops Q I R T a0 i o)
    (hwait : ∀ o, ops[N]? = some o → o.guard = none ∧ ∀ i, i < N → ∃ e ∈ o.after.toList, Region.binds .any e = true ∧ e.on = i)
    (hend : ∀ a w o, ops[N]? = some o → I N w → Fr ops a0 a → (∀ j oj, j < N → ops[j]? = some oj → T j (slotV a oj.dst) w) → o.wp P a w (fun a' w' => Q .normal a' w') Q) :
    ∀ (fuel : Nat) (listed : Array Bool) (a : Act) (w : World), Inv ops I T a0 fuel listed a w → listed.getD N false = false → wpAny P .any ops Q fuel listed a w := by
  have lack : ∀ (listed : Array Bool), listed.size = ops.size → listed.getD N false = false → listed.toList.count true < ops.size := by
    intro listed hs hf
    rcases Nat.lt_or_ge (listed.toList.count true) listed.toList.length with h | h
    · rw [Array.length_toList, hs] at h; exact h
    · have h1 := count_le_len (l := listed.toList)
      have h2 := count_full (l := listed.toList) (by omega) N (by rw [Array.length_toList, hs]; omega)
      rw [getD_list, h2] at hf
      cases hf
  have some_ready : ∀ (listed : Array Bool), listed.size = ops.size → listed.toList.count true < ops.size → Region.ready .any ops listed ≠ [] := by
    intro listed hs hc hr
    obtain ⟨i, h1, h2⟩ := least_false (l := listed.toList) (by rw [Array.length_toList, hs]; exact hc)
    have hi : i < ops.size := by
      have := (List.getElem?_eq_some_iff.1 h1).1
      rw [Array.length_toList, hs] at this; exact this
    have hi' : ops[i]? = some ops[i] := Array.getElem?_eq_getElem hi
    have : i ∈ Region.ready .any ops listed := by
      rw [mem_ready]
      refine ⟨by rw [getD_list, h1]; rfl, _, hi', fun e he hb => ?_⟩
      rw [getD_list, h2 _ ((okB_spec hB hi').1 e he hb)]; rfl
    rw [hr] at this
    cases this
  intro fuel
  induction fuel with
  | zero =>
    intro listed a w v hf
    have := lack listed v.size hf
    have := v.count
    omega
  | succ fuel ih =>
    intro listed a w v hf
    refine ⟨fun hr => absurd hr (some_ready listed v.size (lack listed v.size hf)), fun i hi => ?_⟩
    obtain ⟨h0, o, ho, hp⟩ := mem_ready.1 hi
    have hj : i < ops.size := (Array.getElem?_eq_some_iff.1 ho).1
    obtain ⟨hacyc, hdst⟩ := okB_spec hB ho
    have hl0 : listed.toList[i]? = some false := by
      rw [getD_list] at h0
      cases hx : listed.toList[i]? with
      | none => rw [hx] at h0; cases h0
      | some b => rw [hx] at h0; simp at h0; rw [h0]
    have hcs := count_set_true hl0
    have hcnt := v.count
    by_cases hiN : i = N
    · subst hiN
      obtain ⟨hg, hall⟩ := hwait o ho
      have hlist : ∀ j, j < i → listed.getD j false = true := fun j hj => by
        obtain ⟨e, he, hb, rfl⟩ := hall j hj
        exact hp e (by simpa using he) hb
      have hfull : ∀ j, j < ops.size → (listed.toList.set i true)[j]? = some true := fun j hj => by
        by_cases hji : j = i
        · subst hji
          rw [List.getElem?_set_self (by rw [Array.length_toList, v.size]; exact hj)]
        · rw [List.getElem?_set_ne (Ne.symm hji)]
          have h1 := hlist j (by omega)
          rw [getD_list] at h1
          cases hx : listed.toList[j]? with
          | none => rw [hx] at h1; cases h1
          | some b => rw [hx] at h1; simp at h1; rw [h1]
      have hc : listed.toList.count true = i := by
        have h1 : ¬ (listed.toList.set i true).count true < (listed.toList.set i true).length := fun h => by
          obtain ⟨j, h2, _⟩ := least_false h
          have hj : j < ops.size := by
            have := (List.getElem?_eq_some_iff.1 h2).1
            rw [List.length_set, Array.length_toList, v.size] at this; exact this
          rw [hfull j hj] at h2
          cases h2
        rw [List.length_set, Array.length_toList, v.size] at h1
        omega
      obtain rfl : fuel = 0 := by omega
      have hI : I i w := hc ▸ v.at_
      have hop : wpOp P ops Q i (fun a' w' => Q .normal a' w') a w := by
        unfold wpOp
        simp only [ho]
        rw [if_pos (by simp [Region.wanted, hg])]
        exact .inl (hend a w o ho hI v.fr fun j oj hj hoj => v.all j oj hoj (hlist j hj))
      refine wpOp_mono (fun a' w' hq => ⟨?_, hq⟩) hop
      rcases hl : Region.ready .any ops (listed.setIfInBounds i true) with _ | ⟨j, r⟩
      · rfl
      · have hj' : j ∈ Region.ready .any ops (listed.setIfInBounds i true) := by rw [hl]; simp
        obtain ⟨g0, oj, hoj, _⟩ := mem_ready.1 hj'
        rw [getD_list, Array.toList_setIfInBounds, hfull j (Array.getElem?_eq_some_iff.1 hoj).1] at g0
        cases g0
    · have hlt : i < N := by omega
      have hob := hst i o (by omega) ho (listed.toList.count true) a w (by omega) v.at_ v.fr (pre_of _ fun e he hb => by
        have he' := hp e (by simpa using he) hb
        have hlt : e.on < ops.size := by
          have := (hacyc e (by simpa using he) hb); omega
        have h1 := v.all e.on ops[e.on] (Array.getElem?_eq_getElem hlt) he'
        rw [Array.getElem?_eq_getElem hlt]
        exact h1)
      have hwt : Region.wanted o (yielded ops a.tmps) = wantV ops (slotV a) o := by
        unfold Region.wanted wantV
        cases hgd : o.guard with
        | none => rfl
        | some jb =>
          obtain ⟨j, b⟩ := jb
          simp only
          unfold yielded
          cases hd : (ops[j]?).bind (·.dst) with
          | none => simp [slotV, undef]
          | some d =>
            have hds : d < a.tmps.size := by
              cases hoj : ops[j]? with
              | none => rw [hoj] at hd; simp at hd
              | some oj =>
                rw [hoj] at hd
                rw [v.fr.size]
                exact ((okB_spec hB hoj).2 d hd).1
            have e : a.tmps[d]? = some (slotV a (some d)) := by simp [slotV, Array.getD, hds]
            simp only [Option.bind_some, e]
            cases slotV a (some d) <;> simp
      have hop : wpOp P ops Q i (fun a' w' => ∃ v, a' = a.put o.dst v ∧ R w w' ∧ I (listed.toList.count true + 1) w' ∧ T i (dstV o v) w') a w := by
        unfold wpOp
        simp only [ho]
        rw [hwt]
        cases hwv : wantV ops (slotV a) o with
        | true => rw [if_pos rfl]; exact .inl (hob.1 hwv)
        | false =>
          rw [if_neg (by simp)]
          obtain ⟨g1, g2, g3⟩ := hob.2 hwv
          exact ⟨undef, rfl, g1, g2, by unfold dstV; cases o.dst <;> exact g3⟩
      refine wpOp_mono (fun a' w' hh => ?_) hop
      obtain ⟨u, rfl, hR, hI, hTi⟩ := hh
      refine ih _ _ _ ⟨by simp [v.size], ?_, ?_, ?_, ?_⟩ (by rw [getD_list, Array.toList_setIfInBounds, List.getElem?_set_ne hiN, ← getD_list]; exact hf)
      · rw [Array.toList_setIfInBounds, hcs]; omega
      · rw [Array.toList_setIfInBounds, hcs]; exact hI
      · exact ⟨by rw [put_defers', v.fr.defers], by rw [put_size', v.fr.size], fun n hn => by
          rw [put_getD, if_neg (fun h => hn i o ho h.1)]; exact v.fr.same n hn⟩
      · intro j oj hoj hlj
        by_cases hji : j = i
        · subst hji
          rw [ho] at hoj
          obtain rfl : o = oj := Option.some.inj hoj
          cases hd : o.dst with
          | none => unfold dstV at hTi; rw [hd] at hTi; exact hTi
          | some d =>
            have hds := (hdst d hd).1
            unfold dstV at hTi
            rw [hd] at hTi
            show T j ((a.put (some d) u).tmps.getD d undef) w'
            rw [put_getD, if_pos ⟨rfl, by rw [v.fr.size]; exact hds⟩]
            exact hTi
        · have hlj' : listed.getD j false = true := by
            rw [getD_list, Array.toList_setIfInBounds, List.getElem?_set_ne (Ne.symm hji)] at hlj
            rw [getD_list]; exact hlj
          have h1 := hT j _ _ _ hR (v.all j oj hoj hlj')
          have e : slotV (a.put o.dst u) oj.dst = slotV a oj.dst := by
            cases hdj : oj.dst with
            | none => rfl
            | some d =>
              show (a.put o.dst u).tmps.getD d undef = a.tmps.getD d undef
              rw [put_getD, if_neg]
              rintro ⟨h2, _⟩
              exact (hdst d h2).2 j oj hoj hji hdj
          rw [e]; exact h1
end
/-- Whether an operation waits for the first n. -/
def waitsB (o : Oper) (n : Nat) : Bool := o.guard.isNone && o.dst.isNone && (List.range n).all fun i => o.after.toList.any fun e => Region.binds .any e && e.on == i
/-- **A typed region whose last operation waits for all others.** -/
theorem wp_region_last {P : Program} {id : Nat} {Q : Exit → Act → World → Prop} {a0 : Act} {w : World} {l : List Oper} (oL : Oper) (I : Nat → World → Prop) (R : World → World → Prop) (T : Nat → Value → World → Prop)
    (hl : l.dropLast ++ [oL] = l) (hw : waitsB oL l.dropLast.length = true)
    (hm : P.follows .mixedOrders = true) (hB : okB l.toArray a0.tmps.size = true) (hT : ∀ i v w w', R w w' → T i v w → T i v w') (hI : I 0 w.drew)
    (hst : Obs P l.toArray Q I R T a0 0 l.dropLast) (hend : ∀ vs w, I l.dropLast.length w → Facts T vs w 0 l.dropLast → oL.wp P (putAll a0 l.dropLast 0 vs) w (fun a' w' => Q .normal a' w') Q) : (Code.region id l.toArray true).wp P Q a0 w := by
  have hlen : l.length = l.dropLast.length + 1 := by rw [← hl]; simp
  have hbefore : ∀ j o, j < l.dropLast.length → (l.toArray[j]? = some o ↔ l.dropLast[j]? = some o) := fun j o hj => by
    have : l[j]? = l.dropLast[j]? := by
      conv => lhs; rw [← hl]
      rw [List.getElem?_append_left hj]
    simp [this]
  have hlast : l.toArray[l.dropLast.length]? = some oL := by
    have : l[l.dropLast.length]? = some oL := by
      conv => lhs; rw [← hl]
      simp
    simpa using this
  unfold waitsB at hw
  simp only [Bool.and_eq_true] at hw
  obtain ⟨⟨hg, hd⟩, hall⟩ := hw
  have hd' : oL.dst = none := by simpa using hd
  refine wp_region_any hm (wpAny_last (N := l.dropLast.length) (I := I) (R := R) (T := T) (a0 := a0) (by rw [List.size_toArray]; exact hlen) hB hT (fun i o hi ho => ?_) (fun o ho => ?_) (fun a w o ho hIw hF hA => ?_) _ _ _ _ ⟨by simp, by simp [List.count_replicate], ?_, ⟨rfl, rfl, fun _ _ => rfl⟩, ?_⟩ ?_)
  · have := ob_of (i := i) l.dropLast 0 hst o ((hbefore i o hi).1 ho)
    simpa using this
  · rw [hlast] at ho
    obtain rfl : oL = o := Option.some.inj ho
    refine ⟨by simpa using hg, fun i hi => ?_⟩
    rw [List.all_eq_true] at hall
    have h1 := hall i (List.mem_range.2 hi)
    rw [List.any_eq_true] at h1
    obtain ⟨e, he, h2⟩ := h1
    simp only [Bool.and_eq_true, beq_iff_eq] at h2
    exact ⟨e, he, h2.1, h2.2⟩
  · rw [hlast] at ho
    obtain rfl : oL = o := Option.some.inj ho
    have h := hend (fun j => slotV a ((l.dropLast[j]?).bind (·.dst))) w hIw (facts_of l.dropLast 0 fun j hj => by
      have := hA j l.dropLast[j] hj ((hbefore j _ hj).2 (List.getElem?_eq_getElem hj))
      rw [Nat.zero_add, List.getElem?_eq_getElem hj]
      exact this)
    have e : putAll a0 l.dropLast 0 (fun j => slotV a ((l.dropLast[j]?).bind (·.dst))) = a := putAll_eq a _ l.dropLast 0 a0 hF.defers.symm hF.size.symm (fun n hn => (hF.same n fun j o ho hdo => by
      by_cases hj : j < l.dropLast.length
      · exact hn o (List.mem_of_getElem? ((hbefore j o hj).1 ho)) hdo
      · have h1 : j < l.length := by simpa using (Array.getElem?_eq_some_iff.1 ho).1
        obtain rfl : j = l.dropLast.length := by omega
        rw [hlast] at ho
        obtain rfl : oL = o := Option.some.inj ho
        rw [hd'] at hdo
        cases hdo).symm) fun j o ho => by simp [ho]
    rwa [e] at h
  · simpa [List.count_replicate] using hI
  · intro j o ho hl
    simp [Array.getD] at hl
  · simp [Array.getD]
end Go.Proofs.Ytlppmcflgbeolaa
