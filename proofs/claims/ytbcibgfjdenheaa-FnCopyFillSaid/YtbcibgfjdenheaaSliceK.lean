/- A slice of slices, written by the laws' own function with numbers in order, and looked through again. -/
import Derived.Test.YtbcibgfjdenheaaSliceT
namespace Go.Proofs.Ytbcibgfjdenheaa
open Go.ChangeShapes Go.WideShapes Go.ChangeAt Go.RowKit

theorem sumLen_congr {rs rs' : List (List Int)} (h : rs'.map List.length = rs.map List.length) (i : Nat) : sumLen (rs'.take i) = sumLen (rs.take i) := by
  unfold sumLen
  rw [List.map_take, h, ← List.map_take]
theorem sumLen_same {rs rs' : List (List Int)} (h : rs'.map List.length = rs.map List.length) : sumLen rs' = sumLen rs := by
  unfold sumLen
  rw [h]
theorem len_at {rs rs' : List (List Int)} (h : rs'.map List.length = rs.map List.length) (i : Nat) : (rs'.getD i []).length = (rs.getD i []).length := by
  have e := congrArg (fun l : List Nat => l[i]?) h
  simp only [List.getElem?_map] at e
  simp only [List.getD_eq_getElem?_getD]
  cases h1 : rs'[i]? <;> cases h2 : rs[i]? <;> simp [h1, h2] at e ⊢
  exact e
/-- The rows hold the numbers from k on, in order. -/
def Marked (k : Int) (rs : List (List Int)) : Prop := ∀ i, i < rs.length → rs.getD i [] = upFrom (k + sumLen (rs.take i)) (rs.getD i []).length
/-- What writing numbers in order leaves. -/
def MarkedR (A : Option Addr) (n : Nat) (k : Int) (rs : List (List Int)) (fp : List Nat) (w : World) (e : Ending) (w' : World) : Prop :=
  ∃ rs' : List (List Int), e = .returned (.int .i64 (k + sumLen rs)) ∧ Only fp w w' ∧ Grid w' A n rs' fp ∧ Marked k rs' ∧ rs'.map List.length = rs.map List.length ∧ (∀ b ∈ fp, ∀ o, w'.frozen? ⟨b, o, none⟩ = false)
theorem only_frozen {S : List Nat} {w w' : World} {fp : List Nat} (h : Only S w w') (hl : ∀ b ∈ fp, b < w.heap.size) (hf : ∀ b ∈ fp, ∀ o, w.frozen? ⟨b, o, none⟩ = false) (hS : ∀ b ∈ S, ∀ o, w'.frozen? ⟨b, o, none⟩ = false) :
    ∀ b ∈ fp, ∀ o, w'.frozen? ⟨b, o, none⟩ = false := by
  intro b hb o
  by_cases hs : b ∈ S
  · exact hS b hs o
  · rw [World.frozen?_of_block (a := ⟨b, o, none⟩) (h.block b (hl b hb) hs)]
    exact hf b hb o
theorem marks_step {rs cur : List (List Int)} {k0 : Int} {k m : Nat} {q : Int} (hk : k < rs.length) (hc : cur.map List.length = rs.map List.length) (hm : ∀ j, j < k → cur.getD j [] = upFrom (k0 + sumLen (rs.take j)) (rs.getD j []).length)
    (hl : m = (rs.getD k []).length) (hq : q = k0 + sumLen (rs.take k)) :
    (cur.set k (upFrom q m)).map List.length = rs.map List.length ∧ ∀ j, j < k + 1 → (cur.set k (upFrom q m)).getD j [] = upFrom (k0 + sumLen (rs.take j)) (rs.getD j []).length := by
  have hlen : cur.length = rs.length := by simpa using congrArg List.length hc
  constructor
  · rw [List.map_set, hc, upFrom_len, hl]
    apply List.ext_getElem (by simp)
    intro i h1 h2
    rw [List.getElem_set]
    split
    · rename_i h; subst h
      simp [List.getD, List.getElem?_eq_getElem hk]
    · rfl
  · intro j hj
    simp only [List.getD_eq_getElem?_getD, List.getElem?_set]
    by_cases h : k = j
    · subst h
      rw [if_pos rfl, if_pos (by omega), hl, hq]
      simp [List.getD_eq_getElem?_getD]
    · rw [if_neg h, ← List.getD_eq_getElem?_getD, ← List.getD_eq_getElem?_getD]
      exact hm j (by omega)
theorem ret_mark {t k0 : Int} {rs : List (List Int)} {n : Nat} (h : t = k0 + sumLen (rs.take n)) (hl : rs.length = n) : Ending.returned (.int .i64 t) = .returned (.int .i64 (k0 + sumLen rs)) := by
  rw [h, sumLen_whole _ _ hl]
theorem mark_rows (A : Option Addr) (n c : Nat) (k0 : Int) (rs : List (List Int)) (fp : List Nat) (w : World) (ha : Grid w A n rs fp) (hnd : fp.Nodup) (hf : ∀ b ∈ fp, ∀ o, w.frozen? ⟨b, o, none⟩ = false) (hn : n ≤ 1000000000) (hs : sumLen rs ≤ 1000000000) (h0 : 0 ≤ k0) (h1 : k0 ≤ 5000000000) :
    Calls Try.prog 51 #[.slice A n c, .int .i64 k0] w (MarkedR A n k0 rs fp w) := by
  have HA := Lib.hid ha
  have HF := Lib.hid hf
  have HN := Lib.hid hnd
  have HL := Lib.hid ha.len
  have HT := Lib.hid (fun i => sumLen_le rs i)
  clear ha hf hnd
  go_enter Try.func51, Try.ntmps51
  go_wp2
  go_loopw [1, 5] (fun q i wr => ∃ (k : Nat) (t : Int) (cur : List (List Int)), k ≤ n ∧ i = .int .i64 k ∧ q = .int .i64 t ∧ t = k0 + sumLen (rs.take k) ∧ Grid wr A n cur fp ∧ cur.map List.length = rs.map List.length ∧ (∀ j, j < k → cur.getD j [] = upFrom (k0 + sumLen (rs.take j)) (rs.getD j []).length) ∧ Only fp w wr ∧ (∀ b ∈ fp, ∀ o, wr.frozen? ⟨b, o, none⟩ = false)) (fun _ i _ => n - (intOf i).toNat)
  case atStart => exact ⟨0, k0, rs, Nat.zero_le _, rfl, rfl, by simp [sumLen], HA.out, rfl, fun j hj => by omega, Only.refl _ _, HF.out⟩
  case round =>
    obtain ⟨k, t, cur, hk, rfl, rfl, ht, hr, hc, hm, hb, hf⟩ := hrel
    have t0 : 0 ≤ t := by omega
    have t1 : t ≤ 10000000000 := by have := HT.out k; omega
    have HQ := Lib.hid ht
    have HR := Lib.hid hr
    have HC := Lib.hid hc
    have HM := Lib.hid hm
    have HB := Lib.hid hb
    have HG := Lib.hid hf
    clear hr hb hf hm hc ht HA HF
    by_cases hlt : k < n
    · obtain ⟨p, o, a, m, e, fr, rfl, hp, c1, hme, i1, hin, hput⟩ := HR.out.put HN.out hlt
      have I1 := Lib.hid i1
      have HI := Lib.hid hin
      have HP := Lib.hid hput
      have HE := Lib.hid (show m = (rs.getD k []).length by rw [← len_at HC.out k]; exact i1.1.symm)
      have hm : m ≤ 1000000000 := by have := sumLen_row rs k; have := HE.out; omega
      clear i1 hin hput
      go_wp2_with fail
      refine (mark_ints _ _ _ _ _ _ _ I1.out (fun b hb => HG.out b (HI.out b hb)) hm t0 t1).mono ?_
      rintro e w1 ⟨rfl, o1, i2, f1⟩
      have H1 := Lib.hid (HP.out _ _ o1 i2)
      have H2 := Lib.hid (marks_step (by have := HL.out; omega) HC.out HM.out HE.out HQ.out)
      have H3 := Lib.hid (HB.out.trans (o1.mono HI.out))
      have H4 := Lib.hid (only_frozen o1 HR.out.lt HG.out f1)
      clear o1 i2 f1 HP HM HC HB HG HR I1 c1
      go_wp2
      go_roundw
      case rel => exact ⟨k + 1, _, _, by omega, by go_num, rfl, by rw [sumLen_take _ _ (by have := HL.out; omega)]; have := HQ.out; have := HE.out; omega, H1.out, H2.out.1, H2.out.2, H3.out, H4.out⟩
      case measure => simp [intOf]; omega
    · obtain rfl : k = n := by omega
      go_wp2
      go_ret
      refine ⟨cur, ret_mark HQ.out HL.out, HB.out, HR.out, fun i hi => ?_, HC.out, HG.out⟩
      rw [sumLen_congr HC.out, len_at HC.out]
      exact HM.out i (by have := HR.out.len; omega)
theorem held_rows (A : Option Addr) (n c : Nat) (k0 : Int) (rs : List (List Int)) (fp : List Nat) (w : World) (ha : Grid w A n rs fp) (hm : Marked k0 rs) (hn : n ≤ 1000000000) (hs : sumLen rs ≤ 1000000000) (h0 : 0 ≤ k0) (h1 : k0 ≤ 5000000000) :
    Calls Try.prog 53 #[.slice A n c, .int .i64 k0] w fun e w' => e = .returned (.int .i64 (k0 + sumLen rs)) ∧ w = w' := by
  have HA := Lib.hid ha
  have HM := Lib.hid hm
  have HL := Lib.hid ha.len
  have HT := Lib.hid (fun i => sumLen_le rs i)
  clear ha hm
  go_enter Try.func53, Try.ntmps53
  go_wp2
  go_loop [1, 5] (fun q i => ∃ (k : Nat) (t : Int), k ≤ n ∧ i = .int .i64 k ∧ q = .int .i64 t ∧ t = k0 + sumLen (rs.take k)) (fun _ i => n - (intOf i).toNat)
  case atStart => exact ⟨0, k0, Nat.zero_le _, rfl, rfl, by simp [sumLen]⟩
  case round =>
    obtain ⟨k, t, hk, rfl, rfl, ht⟩ := hrel
    have t0 : 0 ≤ t := by omega
    have t1 : t ≤ 10000000000 := by have := HT.out k; omega
    have HQ := Lib.hid ht
    clear ht
    by_cases hlt : k < n
    · obtain ⟨p, o, a, m, e, fr, rfl, hp, c1, hme, i1, hin⟩ := HA.out.row hlt
      have HE := Lib.hid i1.1
      have hm : m ≤ 1000000000 := by have := sumLen_row rs k; have := HE.out; omega
      have I1 : Hid (Ints w a m (upFrom t m) fr) := by
        have := HM.out k (by have := HL.out; omega)
        rw [this, HE.out, ← HQ.out] at i1
        exact Lib.hid i1
      clear i1 hin
      go_wp2_with fail
      refine (held_ints _ _ _ _ _ _ I1.out hm t0 t1).mono ?_
      rintro e w1 ⟨rfl, rfl⟩
      go_wp2
      go_round
      case rel => exact ⟨k + 1, _, by omega, by go_num, rfl, by rw [sumLen_take _ _ (by have := HL.out; omega)]; have := HQ.out; have := HE.out; omega⟩
      case measure => simp [intOf]; omega
    · obtain rfl : k = n := by omega
      go_wp2
      go_ret
      exact ⟨ret_mark HQ.out HL.out, rfl⟩
end Go.Proofs.Ytbcibgfjdenheaa
