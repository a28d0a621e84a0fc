/- The drawn law of DecodeOrder. -/
import Derived.Test.YtehiplkoofdkeaaDoorCodeD
import Derived.Test.YtehiplkoofdkeaaDoorOrdM
namespace Go.Proofs.YtehiplkoofdkeaaDoor
open Go.ChangeShapes Go.WideShapes Go.ChangeAt Go.RowKit

theorem dec_some {xs : List Int} {i op arg : Int} (h : decN xs i = some (op, arg)) : ∃ k : Nat, i = k ∧ k < xs.length ∧ (k : Int) + lenN op ≤ xs.length ∧ ordB op arg = true ∧ (xs.drop k).take (lenN op).toNat = ordN op arg ∧ xs.getD k 0 = op := by
  unfold decN at h
  split at h
  · rename_i hc
    obtain ⟨hb, h0, h1⟩ := hc
    obtain ⟨i0, i1⟩ := betB_yes hb
    obtain ⟨k, rfl⟩ : ∃ k : Nat, i = k := ⟨i.toNat, by omega⟩
    rw [Int.toNat_natCast] at h h0 h1
    have hk : k < xs.length := by omega
    have l3 := lenN_bd (xs.getD k 0)
    have hd : ∀ L : Nat, k + L ≤ xs.length → ∀ ys : List Int, ys.length = L → (∀ i, i < L → xs.getD (k + i) 0 = ys.getD i 0) → (xs.drop k).take L = ys := fun L hL ys hy hi => by
      refine list_ext0 _ _ (by simp; omega) fun i hi' => ?_
      have hi2 : i < L := by omega
      rw [← hi i hi2]
      simp [List.getD_eq_getElem?_getD, hi2]
    refine ⟨k, rfl, hk, ?_⟩
    split at h
    · rename_i hl
      obtain ⟨rfl, rfl⟩ := Prod.mk.inj (Option.some.inj h)
      have hv : ordB (xs.getD k 0) 0 = true := by unfold ordB; rw [if_pos hl]; rfl
      refine ⟨by omega, hv, ?_, rfl⟩
      refine hd _ (by omega) _ (ordN_len hv) fun i hi => ?_
      rw [ordN_at hv i (by omega)]
      obtain rfl : i = 0 := by omega
      rfl
    · split at h
      · rename_i hl
        split at h
        · rename_i hb1
          obtain ⟨rfl, rfl⟩ := Prod.mk.inj (Option.some.inj h)
          have hv : ordB (xs.getD k 0) (xs.getD (k + 1) 0) = true := by unfold ordB; rw [if_neg (by omega), if_pos hl]; exact hb1
          have hbb := byteB_yes hb1
          refine ⟨by omega, hv, ?_, rfl⟩
          refine hd _ (by omega) _ (ordN_len hv) fun i hi => ?_
          rw [ordN_at hv i (by omega)]
          have hi2 : i = 0 ∨ i = 1 := by omega
          rcases hi2 with rfl | rfl
          · rfl
          · show xs.getD (k + 1) 0 = xs.getD (k + 1) 0 % 256
            omega
        · cases h
      · split at h
        · rename_i hb1
          obtain ⟨rfl, rfl⟩ := Prod.mk.inj (Option.some.inj h)
          have hl : lenN (xs.getD k 0) = 3 := by omega
          have hbb := byteB_yes hb1.1
          have hcc := betB_yes hb1.2
          have hv : ordB (xs.getD k 0) (xs.getD (k + 1) 0 + 256 * xs.getD (k + 2) 0) = true := by
            have ha : addrB (xs.getD (k + 1) 0 + 256 * xs.getD (k + 2) 0) = true := by unfold addrB; simp only [Bool.and_eq_true, decide_eq_true_eq]; omega
            unfold ordB; rw [if_neg (by omega), if_neg (by omega), if_pos hl]; exact ha
          refine ⟨by omega, hv, ?_, rfl⟩
          refine hd _ (by omega) _ (ordN_len hv) fun i hi => ?_
          rw [ordN_at hv i (by omega)]
          have hi2 : i = 0 ∨ i = 1 ∨ i = 2 := by omega
          rcases hi2 with rfl | rfl | rfl
          · rfl
          · show xs.getD (k + 1) 0 = (xs.getD (k + 1) 0 + 256 * xs.getD (k + 2) 0) % 256
            omega
          · show xs.getD (k + 2) 0 = (xs.getD (k + 1) 0 + 256 * xs.getD (k + 2) 0) / 256
            omega
        · cases h
  · cases h
theorem dec_short {xs : List Int} {k L : Nat} (hL : 1 ≤ L) (hl : lenN (xs.getD k 0) = L) (hk : k + L ≤ xs.length) : decN (xs.take (k + L - 1)) k = none := by
  have hlen : (xs.take (k + L - 1)).length = k + L - 1 := by simp; omega
  by_cases h1 : L = 1
  · subst h1
    refine dec_out ?_
    rw [hlen]; simp [betB]; omega
  · have hg : (xs.take (k + L - 1)).getD k 0 = xs.getD k 0 := by
      simp only [List.getD_eq_getElem?_getD, List.getElem?_take]
      rw [if_pos (by omega)]
    refine dec_far ?_
    rw [hg, hl, hlen]; omega
theorem mid_ints {w : World} {b o n k L : Nat} {xs : List Int} {fp : List Nat} (h : Ints w (some ⟨b, o, none⟩) n xs fp) (hL : 1 ≤ L) (hk : k + L ≤ n) :
    Ints w (some ⟨b, o + k, none⟩) L ((xs.drop k).take L) [b] := by
  have hl := h.1
  obtain ⟨b', o', he, _, hb, hc⟩ := h.at_ (by omega)
  injection he with he
  injection he with h1 h2 _
  subst h1; subst h2
  refine ⟨by simp; omega, .inr ⟨by omega, b, o + k, rfl, rfl, hb, fun i hi => ?_⟩⟩
  rw [Nat.add_assoc, hc (k + i) (by omega)]
  simp [List.getD_eq_getElem?_getD, hi]
theorem pre_ints {w : World} {A : Option Addr} {n : Nat} {xs : List Int} {fp : List Nat} (h : Ints w A n xs fp) (k : Nat) (hk : k ≤ n) : ∃ fq, Ints w A k (xs.take k) fq := by
  have hl := h.1
  by_cases h0 : k = 0
  · subst h0; exact ⟨[], ⟨by simp, .inl ⟨rfl, rfl⟩⟩⟩
  · obtain ⟨b, o, rfl, rfl, hb, hc⟩ := h.at_ (by omega)
    refine ⟨[b], ⟨by simp; omega, .inr ⟨by omega, b, o, rfl, rfl, hb, fun i hi => ?_⟩⟩⟩
    rw [hc i (by omega)]
    simp only [List.getD_eq_getElem?_getD, List.getElem?_take, if_pos hi]
/-- What drawing bytes and an index leaves. -/
def LstGot (w : World) (e : Ending) (w' : World) : Prop := ∃ (A : Option Addr) (n c : Nat) (xs : List Int) (fp : List Nat) (i : Int), e = .returned (.tuple #[.slice A n c, .int .i64 i]) ∧ n ≤ c ∧ n ≤ 100 ∧ Ints w' A n xs fp ∧ Below w.heap.size w w'
end Go.Proofs.YtehiplkoofdkeaaDoor
