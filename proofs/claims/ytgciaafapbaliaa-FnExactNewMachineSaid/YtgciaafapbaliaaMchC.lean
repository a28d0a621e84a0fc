/- Machines copied: the program's function and the model's. -/
import Derived.Test.YtgciaafapbaliaaMchIn
import Derived.Test.YtgciaafapbaliaaMemC
import Derived.Test.YtgciaafapbaliaaMemU
namespace Go.Proofs.Ytgciaafapbaliaa
open Go.ChangeShapes Go.WideShapes Go.ChangeAt Go.RowKit

theorem own_mono {w : World} {base base' : Nat} {e : TypeId} {v : Value} {n : Nat} {xs : List Value} (h : w.ownsRow base e 1 v n xs) (hb : base' ≤ base) : w.ownsRow base' e 1 v n xs := by
  obtain ⟨hl, h | ⟨g, cap, cur, e, hg, hr⟩⟩ := h
  · exact ⟨hl, .inl h⟩
  · exact ⟨hl, .inr ⟨g, cap, cur, e, Nat.le_trans hb hg, hr⟩⟩
/-- A row of the call's own. -/
def Rowed (xs : List Int) (n : Nat) (w : World) (e : Ending) (w' : World) : Prop := ∃ v, e = .returned v ∧ w'.ownsRow w.heap.size 3 1 v n (iv xs) ∧ Below w.heap.size w w'
theorem clone_row (A : Option Addr) (n c : Nat) (xs : List Int) (fa : List Nat) (w : World) (ha : Ints w A n xs fa) (hn : n ≤ 1000000000) :
    Calls Try.prog 60 #[.slice A n c] w (Rowed xs n w) := by
  have HA := Lib.hid ha
  rcases A with _ | ad
  · have hx : xs = [] ∧ n = 0 := by
      obtain ⟨hl, ⟨h, _⟩ | ⟨_, b, o, h, _⟩⟩ := ha
      · exact ⟨List.eq_nil_of_length_eq_zero (by omega), h⟩
      · cases h
    obtain ⟨rfl, rfl⟩ := hx
    clear ha
    have hq := fun W => Lib.run_eql_slice_nil (P := Try.prog) W 23 3 none 0 c 0 0 Try.underlying23
    go_enter Try.func60, Try.ntmps60
    go_wp2
    go_ret
    exact ⟨_, rfl, World.ownsRow_nil _ _ _ _, Below.refl _ _⟩
  · clear ha
    have hq := fun W => Lib.run_eql_slice_nil (P := Try.prog) W 23 3 (some ad) n c 0 0 Try.underlying23
    go_enter Try.func60, Try.ntmps60
    go_wp2_with (at_builtin; refine wpList_append_ints rfl _ _ rfl w.heap.size _ 0 [] rfl (own_empty w _ _ (Nat.le_refl _)) _ _ _ xs fa rfl (HA.out.below (below1 w _)) (by omega) (by simp) ?_; intro v' w1 hown hgrow hat)
    have HO : Hid (w1.ownsRow w.heap.size 3 1 v' n (iv xs)) := by
      simp only [Nat.zero_add, List.nil_append] at hown
      exact hown
    have HB := Lib.hid (below_grown (below1 w _) hgrow (by simp) (fun k hk => by have h : some w.heap.size = some k := hk; injection h; omega))
    clear hown hgrow hat hq
    go_wp2
    go_ret
    exact ⟨v', rfl, HO.out, HB.out⟩
/-- A machine in new memory of its own, the return addresses a row of its own. -/
def MachOwn (X : Mach) (w : World) (e : Ending) (w' : World) : Prop :=
  ∃ (A : Option Addr) (n c : Nat) (R : Option Addr) (k d : Nat) (B : Option Addr) (m g : Nat) (fa fr fb : List Nat), e = .returned (.agg #[.slice A n c, .slice R k d, .int .i64 X.mem.bank, .int .i64 X.a, .int .i64 X.at_, .bool X.carry, .slice B m g, .bool X.stop, .int .i64 X.cyc]) ∧ (n ≤ c ∧ k ≤ d ∧ m ≤ g) ∧ MHas w' A n R k B m X fa fr fb ∧ New w.heap.size w' (fa ++ fr ++ fb) ∧ Below w.heap.size w w' ∧ w'.ownsRow w.heap.size 3 1 (.slice B m g) m (iv X.back) ∧ ∀ b, (Value.slice B m g).ownBlock = some b → b ∉ fa ++ fr
theorem MachOwn.new {X : Mach} {w w' : World} {e : Ending} (h : MachOwn X w e w') : MachNew X w e w' := by
  obtain ⟨A, n, c, R, k, d, B, m, g, fa, fr, fb, he, hc, hh, hn, hb, _⟩ := h
  exact ⟨A, n, c, R, k, d, B, m, g, fa, fr, fb, he, hc, hh, hn, hb⟩
/-- A memory made first, then a row; then blocks from L on, before both, written. -/
theorem mach_own {w w1 w2 w3 : World} {X : Mach} {A : Option Addr} {n c : Nat} {R : Option Addr} {k d : Nat} {fa fr S : List Nat} {v : Value} {m : Nat} {L : Nat} (i : Ints w1 A n X.mem.ram fa) (r : Grid w1 R k X.mem.rom fr) (n1 : New L w1 (fa ++ fr)) (o12 : Only S w1 w2) (ho : w2.ownsRow w1.heap.size 3 1 v m (iv X.back)) (o23 : Only S w2 w3)
    (hS : ∀ b ∈ S, b < L) (hL : w.heap.size ≤ L) (hL1 : L ≤ w1.heap.size) (b : Below w.heap.size w w3) (hc : n ≤ c) (hd : k ≤ d) : ∃ B g, v = .slice B m g ∧ MachOwn X w (.returned (.agg #[.slice A n c, .slice R k d, .int .i64 X.mem.bank, .int .i64 X.a, .int .i64 X.at_, .bool X.carry, .slice B m g, .bool X.stop, .int .i64 X.cyc])) w3 := by
  obtain ⟨B, g, fb, rfl, hg, _, hi, hn, hown⟩ := own_ints ho
  have d1 : ∀ b ∈ fa ++ fr, b ∉ S := fun x hx hs => by have := hS x hs; have := (n1.lt x hx).1; omega
  have d2 : ∀ b ∈ fb, b ∉ S := fun x hx hs => by have := hS x hs; have := (hn.lt x hx).1; omega
  have s1 : Same (fa ++ fr) w1 w3 := .of_only (o12.trans o23) d1
  have s2 : Same fb w2 w3 := .of_only o23 d2
  have hw : w.heap.size ≤ w1.heap.size := Nat.le_trans hL hL1
  refine ⟨B, g, rfl, A, n, c, R, k, d, B, m, g, fa, fr, fb, rfl, ⟨hc, hd, hg⟩, ⟨i.keep (s1.sub fun x hx => List.mem_append_left _ hx), r.keep (s1.sub fun x hx => List.mem_append_right _ hx), hi.keep s2⟩, ((n1.mono hL).keep s1).append ((hn.mono hw).keep s2) (fun x hx hy => ?_), b, own_mono (own_only ho o23 fun x hx e => ?_) hw, fun x hx hy => ?_⟩
  · have := (n1.lt x hx).2; have := (hn.lt x hy).1; omega
  · have := (own_lt ho x e).1; have := hS x hx; omega
  · have := (own_lt ho x hx).1; have := (n1.lt x hy).2; omega
theorem mach_owned {w w1 w2 w3 : World} {X : Mach} {A : Option Addr} {n c : Nat} {R : Option Addr} {k d : Nat} {fa fr S : List Nat} {B : Option Addr} {m g : Nat} {L : Nat} (i : Ints w1 A n X.mem.ram fa) (r : Grid w1 R k X.mem.rom fr) (n1 : New L w1 (fa ++ fr)) (o12 : Only S w1 w2) (ho : w2.ownsRow w1.heap.size 3 1 (.slice B m g) m (iv X.back)) (o23 : Only S w2 w3)
    (hS : ∀ b ∈ S, b < L) (hL : w.heap.size ≤ L) (hL1 : L ≤ w1.heap.size) (b : Below w.heap.size w w3) (hc : n ≤ c) (hd : k ≤ d) : MachOwn X w (.returned (.agg #[.slice A n c, .slice R k d, .int .i64 X.mem.bank, .int .i64 X.a, .int .i64 X.at_, .bool X.carry, .slice B m g, .bool X.stop, .int .i64 X.cyc])) w3 := by
  obtain ⟨B', g', ev, hr⟩ := mach_own i r n1 o12 ho o23 hS hL hL1 b hc hd
  injection ev with e1 e2 e3
  subst e1; subst e3
  exact hr
end Go.Proofs.Ytgciaafapbaliaa
