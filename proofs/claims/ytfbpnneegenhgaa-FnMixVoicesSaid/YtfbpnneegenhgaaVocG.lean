/- Lists of sound channels in parts: mathematics, memory. -/
import Derived.Test.YtfbpnneegenhgaaVocN
namespace Go.Proofs.Ytfbpnneegenhgaa
open Go.ChangeShapes Go.WideShapes Go.ChangeAt Go.RowKit
set_option linter.unusedVariables false

theorem getD_takeV {L : List Int} {a i : Nat} (h : i < a) : (L.take a).getD i 0 = L.getD i 0 := by
  rw [List.getD_eq_getElem?_getD, List.getD_eq_getElem?_getD, List.getElem?_take, if_pos h]
theorem getD_dropV (L : List Int) (a i : Nat) : (L.drop a).getD i 0 = L.getD (a + i) 0 := by
  rw [List.getD_eq_getElem?_getD, List.getD_eq_getElem?_getD, List.getElem?_drop]
theorem vocK_take {L : List Int} {q k : Nat} (h : k < q) : vocK (L.take (5 * q)) k = vocK L k := by
  unfold vocK
  rw [getD_takeV (by omega), getD_takeV (by omega), getD_takeV (by omega), getD_takeV (by omega), getD_takeV (by omega)]
theorem vocK_drop (L : List Int) (q k : Nat) : vocK (L.drop (5 * q)) k = vocK L (q + k) := by
  unfold vocK
  simp only [getD_dropV]
  rw [show 5 * q + 5 * k = 5 * (q + k) by omega, show 5 * q + (5 * k + 1) = 5 * (q + k) + 1 by omega, show 5 * q + (5 * k + 2) = 5 * (q + k) + 2 by omega, show 5 * q + (5 * k + 3) = 5 * (q + k) + 3 by omega, show 5 * q + (5 * k + 4) = 5 * (q + k) + 4 by omega]
theorem mixAt_take (L : List Int) (j q : Nat) : ∀ k, k ≤ q → mixAt (L.take (5 * q)) j k = mixAt L j k
  | 0, _ => rfl
  | k + 1, h => by
    show mixAt (L.take (5 * q)) j k + lev (adv (vocK (L.take (5 * q)) k) j) = mixAt L j k + lev (adv (vocK L k) j)
    rw [mixAt_take L j q k (by omega), vocK_take (by omega)]
theorem mixAt_drop (L : List Int) (j q : Nat) : ∀ k, mixAt L j (q + k) = mixAt L j q + mixAt (L.drop (5 * q)) j k
  | 0 => by show _ = _ + (0 : Int); rw [Int.add_zero]; rfl
  | k + 1 => by
    show mixAt L j (q + k) + lev (adv (vocK L (q + k)) j) = mixAt L j q + (mixAt (L.drop (5 * q)) j k + lev (adv (vocK (L.drop (5 * q)) k) j))
    rw [mixAt_drop L j q k, vocK_drop, Int.add_assoc]
theorem mix_halves {L : List Int} {m q : Nat} {n : Int} (h : mixB L m n = true) (hq : q ≤ m) : mixB (L.take (5 * q)) q n = true ∧ mixB (L.drop (5 * q)) (m - q) n = true := by
  unfold mixB at h ⊢
  simp only [Bool.and_eq_true, decide_eq_true_eq] at h ⊢
  obtain ⟨⟨h1, h2⟩, h3⟩ := h
  refine ⟨⟨⟨by omega, h2⟩, vocsB_iff.2 fun k hk => ?_⟩, ⟨by omega, h2⟩, vocsB_iff.2 fun k hk => ?_⟩
  · rw [vocK_take hk]; exact vocsB_iff.1 h3 k (by omega)
  · rw [vocK_drop]; exact vocsB_iff.1 h3 (q + k) (by omega)
theorem mix_sum {L : List Int} {m q : Nat} (hq : q ≤ m) (j : Nat) : mixAt L j m = mixAt (L.take (5 * q)) j q + mixAt (L.drop (5 * q)) j (m - q) := by
  rw [mixAt_take L j q q (Nat.le_refl _), ← mixAt_drop]
  congr 1
  omega
/-- The first channels of a list. -/
theorem ints_take5 {w : World} {A : Option Addr} {n : Nat} {L : List Int} {fp : List Nat} (h : Ints w A (5 * n) L fp) {q : Nat} (hq : q ≤ n) : ∃ fq, Ints w A (5 * q) (L.take (5 * q)) fq := by
  by_cases h0 : q = 0
  · subst h0
    exact ⟨[], by simpa using Ints.nil w A⟩
  · obtain ⟨p, o, rfl, hf, hp, hc⟩ := h.at_ (by omega)
    refine ⟨[p], by rw [List.length_take, h.1]; omega, .inr ⟨by omega, p, o, rfl, rfl, hp, fun i hi => ?_⟩⟩
    rw [hc i (by omega), getD_takeV hi]
/-- The other channels of a list. -/
theorem ints_drop5 {w : World} {p o n : Nat} {L : List Int} {fp : List Nat} (h : Ints w (some ⟨p, o, none⟩) (5 * n) L fp) {q : Nat} (hq : q < n) : ∃ fq, Ints w (some ⟨p, o + q * 5, none⟩) (5 * (n - q)) (L.drop (5 * q)) fq := by
  obtain ⟨b, u, he, hf, hb, hc⟩ := h.at_ (by omega)
  injection he with he
  injection he with e1 e2 _
  subst e1 e2
  refine ⟨[p], by rw [List.length_drop, h.1]; omega, .inr ⟨by omega, p, o + q * 5, rfl, rfl, hb, fun i hi => ?_⟩⟩
  rw [show o + q * 5 + i = o + (5 * q + i) by omega, hc (5 * q + i) (by omega), getD_dropV]
end Go.Proofs.Ytfbpnneegenhgaa
