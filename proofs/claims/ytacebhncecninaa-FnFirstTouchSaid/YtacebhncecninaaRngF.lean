/- Inside the body of a loop over an iterator the operations go as anywhere: what was shown of them plainly holds in a round. -/
import Derived.RangeFuncNested
import Derived.RangeFuncBound
import Derived.RangeFuncCalls
import Derived.RangeFuncLeaves
import Derived.Shelf.Abstract
import Derived.Shelf.RegionOpen
import Derived.WalkKit
import Derived.OwnWalkIn
import Derived.TacticsInMore
import Derived.LoopNIn
import Derived.LoopIn
import Derived.OrdersIn
import Derived.Test.YtacebhncecninaaGC
import Derived.Test.YtacebhncecninaaGA
namespace Go.Proofs.Ytacebhncecninaa
open Go.ChangeShapes Go.WideShapes Go.ChangeAt Go.RowKit
set_option linter.unusedVariables false

section
variable {P : Program} {ops : Array Oper} {Q : Exit → Act → World → Prop} {n l0 : Nat}
/-- No defer statement. -/
def plainB (l : List Oper) : Bool := l.all fun o => match o.op with | .defer _ => false | _ => true
theorem plain_of {l : List Oper} (h : plainB l = true) {o : Oper} (ho : o ∈ l) : ∀ c, o.op ≠ .defer c := by
  intro c e
  unfold plainB at h
  rw [List.all_eq_true] at h
  have := h o ho
  rw [e] at this
  simp at this
theorem oper_round {o : Oper} {a : Act} {w : World} {K K' : Act → World → Prop} (hd : ∀ c, o.op ≠ .defer c) (hK : ∀ a w, K a w → K' a w) (h : o.wp P a w K Q) : o.wpIn (Fence.wide.inRound l0) n P a w K' Q := by
  unfold Oper.wpIn
  refine ⟨fun _ _ => trivial, ?_⟩
  rw [Fence.inRound_round, Oper.semAt_eq _ _ _ hd]
  unfold Oper.wp at h
  generalize (execOp a.eval o).run P w = r at h ⊢
  cases r with
  | ok x w' =>
    cases x <;> simp only [Oper.upon, Oper.uponIn] at h ⊢
    case value v => exact hK _ _ h
    case skip => exact hK _ _ h
    case defer d => exact hK _ _ h
    case enter f args =>
      refine ⟨fun e => by simp [Fence.wide] at e, CallsIn.inRound l0 (callsIn_wide.2 (Calls.mono h fun e w'' he => ?_))⟩
      cases e
      · exact hK _ _ he
      · exact he
      · exact he
    case row row args =>
      refine ⟨fun e => by simp [Fence.wide] at e, fun c cs _ => ?_⟩
      obtain ⟨v, w'', r1, s⟩ := h c cs
      exact ⟨v, w'', hK _ _ r1, stepsIn_wide.2 s⟩
  | halt x w' => cases x <;> simp only [Oper.upon, Oper.uponIn] at h ⊢ <;> exact h
theorem list_round (hL : ¬ LetsOut Q) : ∀ (l : List Oper) (a : Act) (w : World), plainB l = true → wpList P ops Q l a w → wpListIn (Fence.wide.inRound l0) n P ops Q l a w
  | [], _, _, _, h => h
  | o :: r, a, w, hp, h => by
    have hr : plainB r = true := by
      unfold plainB at hp ⊢
      rw [List.all_cons, Bool.and_eq_true] at hp
      exact hp.2
    unfold wpList at h
    unfold wpListIn
    split
    · rename_i hw
      rw [if_pos hw] at h
      rcases h with h | ⟨_, h⟩
      · exact oper_round (plain_of hp (List.mem_cons_self ..)) (fun a w h => list_round hL r a w hr h) h
      · exact absurd h hL
    · rename_i hw
      rw [if_neg hw] at h
      exact ⟨fun _ _ => trivial, list_round hL r _ _ hr h⟩
theorem region_round {id : Nat} {l : List Oper} {a : Act} {w : World} (hL : ¬ LetsOut Q) (hp : plainB l = true) (h : wpList P l.toArray Q l a w) : (Code.region id l.toArray false).wpIn (Fence.wide.inRound l0) n P Q a w :=
  wpIn_region_lit (list_round hL l a w hp h)
theorem any_round (hL : ¬ LetsOut Q) (hp : plainB ops.toList = true) : ∀ (fuel : Nat) (listed : Array Bool) (a : Act) (w : World), wpAny P .any ops Q fuel listed a w → wpAnyIn (Fence.wide.inRound l0) n P .any ops Q fuel listed a w
  | 0, listed, a, w, h => h
  | fuel + 1, listed, a, w, ⟨h0, h1⟩ => ⟨h0, fun i hi => by
    have h2 := h1 i hi
    unfold wpOp at h2
    unfold wpOpIn
    cases ho : ops[i]? with
    | none => rw [ho] at h2; exact any_round hL hp fuel _ _ _ h2
    | some o =>
      rw [ho] at h2
      simp only at h2 ⊢
      split
      · rename_i hw
        rw [if_pos hw] at h2
        rcases h2 with h2 | ⟨_, h2⟩
        · exact oper_round (plain_of hp (List.mem_of_getElem? (l := ops.toList) (i := i) (by simpa using ho))) (fun a w h => any_round hL hp fuel _ a w h) h2
        · exact absurd h2 hL
      · rename_i hw
        rw [if_neg hw] at h2
        exact ⟨fun _ _ => trivial, any_round hL hp fuel _ _ _ h2⟩⟩
/-- A typed region in a round. -/
theorem round_typed {id : Nat} {a0 : Act} {w : World} {l : List Oper} (hL : ¬ LetsOut Q) (hp : plainB l = true) (I : Nat → World → Prop) (R : World → World → Prop) (T : Nat → Value → World → Prop)
    (hm : P.follows .mixedOrders = true) (hB : okB l.toArray a0.tmps.size = true) (hT : ∀ i v w w', R w w' → T i v w → T i v w') (hI : I 0 w.drew)
    (hst : Obs P l.toArray Q I R T a0 0 l) (hend : ∀ vs w, I l.length w → Facts T vs w 0 l → Q .normal (putAll a0 l 0 vs) w) : (Code.region id l.toArray true).wpIn (Fence.wide.inRound l0) n P Q a0 w := by
  refine wpIn_region_any hm (any_round hL (by simpa using hp) _ _ _ _ (wpAny_typed (I := I) (R := R) (T := T) (a0 := a0) hB hT (fun i o ho => ?_) (fun a w hIw hF hA => ?_) _ _ _ _ ⟨by simp, by simp [List.count_replicate], ?_, ⟨rfl, rfl, fun _ _ => rfl⟩, ?_⟩))
  · have := ob_of (i := i) l 0 hst o (by simpa using ho)
    simpa using this
  · have h := hend (fun j => slotV a ((l[j]?).bind (·.dst))) w (by simpa using hIw) (facts_of l 0 fun j hj => by
      have := hA j l[j] (by simp [hj])
      simpa [hj] using this)
    have e : putAll a0 l 0 (fun j => slotV a ((l[j]?).bind (·.dst))) = a := putAll_eq a _ l 0 a0 hF.defers.symm hF.size.symm (fun n hn => (hF.same n fun j o ho => hn o (by simp at ho; exact List.mem_of_getElem? ho)).symm) fun j o ho => by simp [ho]
    rwa [e] at h
  · simpa [List.count_replicate] using hI
  · intro j o ho hl
    simp [Array.getD] at hl
end
end Go.Proofs.Ytacebhncecninaa
