/- The model's SpriteAt. -/
import Derived.Test.YtacebhncecninaaGE
namespace Go.Proofs.Ytacebhncecninaa
open Go.ChangeShapes Go.WideShapes Go.ChangeAt Go.RowKit
set_option linter.unusedVariables false

theorem nums_get (L : List Nat) (j k : Nat) (h : L[j]? = some k) : (nums L).getD j 0 = (k : Int) := by
  unfold nums
  rw [List.getD_eq_getElem?_getD, List.getElem?_map, h]
  rfl
theorem find_at {L : List Nat} {P : Nat → Bool} {j k : Nat} (h : L[j]? = some k) : (L.drop j).find? P = if P k = true then some k else (L.drop (j + 1)).find? P := by
  obtain ⟨hl, rfl⟩ := List.getElem?_eq_some_iff.1 h
  rw [List.drop_eq_getElem_cons hl, List.find?_cons]
  cases P L[j] <;> rfl
/-- A number or -1. -/
def noN : Option Nat → Int
  | some k => k
  | none => -1
set_option maxRecDepth 100000 in
set_option maxHeartbeats 4000000 in
theorem spec_first (A : Option Addr) (n c : Nat) (S : List Spr) (fs : List Nat) (T : Option Addr) (m d : Nat) (zs : List Int) (ft : List Nat) (B : Option Addr) (q c' : Nat) (L fb : List Nat) (x y : Int) (w : World) (hS : Sprs w A n S fs) (hT : Ints w T (64 * m) zs ft) (hB : Ints w B q (nums L) fb) (hL : ∀ k, k ∈ L → k < n) (hok : ∀ k, k < n → sprOk m (S.getD k .zero) = true) (hn : n ≤ 1000000000) (hm : m ≤ 1000000000) (hq : q ≤ 1000000000) (hx : -1000000000 ≤ x ∧ x ≤ 1000000000) (hy : -1000000000 ≤ y ∧ y ≤ 1000000000) :
    Calls Try.prog 104 #[.slice A n c, .slice T m d, .slice B q c', .int .i64 x, .int .i64 y] w fun e w' => e = .returned (.int .i64 (noN (L.find? fun k => decide (valF (S.getD k .zero) zs x y ≠ 0)))) ∧ Below w.heap.size w w' := by
  have HS := Lib.hid hS
  have HT := Lib.hid hT
  have HB := Lib.hid hB
  have HL := Lib.hid hL
  have HO := Lib.hid hok
  have hlen : L.length = q := by have := hB.1; rwa [nums_len] at this
  have HN := Lib.hid hlen
  clear hS hT hB hL hok hlen
  obtain ⟨R, hR⟩ : ∃ R, (L.find? fun k => decide (valF (S.getD k .zero) zs x y ≠ 0)) = R := ⟨_, rfl⟩
  have HR := Lib.hid hR
  rw [hR]
  clear hR
  go_enter Try.func104, Try.ntmps104
  go_wp2_with fail
  go_loopw [10, 11] (fun t i wr => ∃ j : Nat, j ≤ q ∧ i = .int .i64 j ∧ t = .int .i64 0 ∧ Below w.heap.size w wr ∧ ((L.drop j).find? fun k => decide (valF (S.getD k .zero) zs x y ≠ 0)) = R) (fun _ i _ => q - (intOf i).toNat)
  case atStart => exact ⟨0, by omega, rfl, rfl, Below.refl _ _, by rw [List.drop_zero]; exact HR.out⟩
  case round =>
    obtain ⟨j, hj, rfl, rfl, hbl, hf⟩ := hrel
    have BR := Lib.hid hbl
    have HF := Lib.hid hf
    clear hbl hf
    by_cases hlt : j < q
    · obtain ⟨k, hk⟩ : ∃ k, L[j]? = some k := ⟨L[j]'(by rw [HN.out]; exact hlt), List.getElem?_eq_getElem _⟩
      have hkn : k < n := HL.out k (List.mem_of_getElem? hk)
      obtain ⟨pB, oB, rfl, _, hpB, hcB⟩ := HB.out.at_ (by omega)
      obtain ⟨p, o, rfl, _, hpl, hc⟩ := HS.out.at_ (by omega)
      have cb : wr.cell? ⟨pB, oB + j, none⟩ = some (.int .i64 (k : Int)) := by rw [BR.out.cell (by exact hpB), hcB j hlt, nums_get L j k hk]
      have cc : ∀ j v, (scs (S.getD k .zero))[j]? = some v → wr.cell? ⟨p, o + k * 6 + j, none⟩ = some v := fun j v hv => by
        rw [BR.out.cell (by exact hpl)]
        have := hc k hkn j v hv
        rwa [show o + (6 * k + j) = o + k * 6 + j by omega] at this
      have HV := Lib.hid (find_at (P := fun k => decide (valF (S.getD k .zero) zs x y ≠ 0)) hk)
      have HOK := Lib.hid (HO.out k hkn)
      obtain ⟨s, hs⟩ : ∃ s, S.getD k .zero = s := ⟨_, rfl⟩
      rw [hs] at cc HV HOK
      have c0 : wr.cell? ⟨p, o + k * 6, none⟩ = some (.int .i64 s.x) := cc 0 _ rfl
      have c1 : wr.cell? ⟨p, o + k * 6 + 1, none⟩ = some (.int .i64 s.y) := cc 1 _ rfl
      have c2 : wr.cell? ⟨p, o + k * 6 + 2, none⟩ = some (.int .i64 s.n) := cc 2 _ rfl
      have c3 : wr.cell? ⟨p, o + k * 6 + 3, none⟩ = some (.bool s.ac) := cc 3 _ rfl
      have c4 : wr.cell? ⟨p, o + k * 6 + 4, none⟩ = some (.bool s.dn) := cc 4 _ rfl
      have c5 : wr.cell? ⟨p, o + k * 6 + 5, none⟩ = some (.bool s.bh) := cc 5 _ rfl
      clear cc hc hcB hs hk
      have hkn' : (k : Int) < n := by omega
      have hlt' : (j : Int) < q := by omega
      go_wp2_with fail
      refine (spec_val s T d m zs ft x y _ (HT.out.below BR.out) HOK.out hm hx hy).mono ?_; rintro e w2 ⟨rfl, b2⟩
      have B2 := Lib.hid (below_then BR.out b2)
      have cb2 : w2.cell? ⟨pB, oB + j, none⟩ = some (.int .i64 (k : Int)) := by
        rw [b2.cell (by exact Nat.lt_of_lt_of_le hpB BR.out.size)]; exact cb
      clear b2 cb c0 c1 c2 c3 c4 c5
      obtain ⟨v, hv⟩ : ∃ v, valF s zs x y = v := ⟨_, rfl⟩
      rw [hv] at HV ⊢
      by_cases h0 : v = 0
      · have HE : Hid (((L.drop (j + 1)).find? fun k => decide (valF (S.getD k .zero) zs x y ≠ 0)) = R) := Lib.hid (by rw [← HF.out, HV.out]; simp [h0])
        subst h0
        clear HV hv
        go_wp2_with fail
        go_roundw
        case rel => exact ⟨j + 1, by omega, by go_num, rfl, B2.out, HE.out⟩
        case measure => simp [intOf]; omega
      · have HE : Hid (R = some k) := Lib.hid (by rw [← HF.out, HV.out]; simp [h0])
        clear HV hv
        go_wp2_with fail
        go_ret
        exact ⟨by rw [HE.out]; rfl, B2.out⟩
    · obtain rfl : j = q := by omega
      have HE : Hid (R = none) := Lib.hid (by rw [← HF.out, List.drop_eq_nil_of_le (by rw [HN.out]; exact Nat.le_refl _)]; rfl)
      have hlt' : ¬ (j : Int) < j := by omega
      go_wp2_with fail
      go_ret
      exact ⟨by rw [HE.out]; rfl, BR.out⟩
end Go.Proofs.Ytacebhncecninaa
