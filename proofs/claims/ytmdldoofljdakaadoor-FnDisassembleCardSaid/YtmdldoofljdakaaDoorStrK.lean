/- Slices of texts: marks in order, and how long they are together. -/
import Derived.Test.YtmdldoofljdakaaDoorStrs
import Derived.SliceStrings
namespace Go.Proofs.YtmdldoofljdakaaDoor
open Go.ChangeShapes Go.WideShapes Go.ChangeAt Go.RowKit

theorem Strs.set {w : World} {b o n : Nat} {xs : List ByteArray} {fp : List Nat} (h : Strs w (some ⟨b, o, none⟩) n xs fp) {k : Nat} (hk : k < n) (v : ByteArray) : Strs (w.setCell ⟨b, o + k, none⟩ (.string v)) (some ⟨b, o, none⟩) n (xs.set k v) fp := by
  obtain ⟨hl, ⟨rfl, _⟩ | ⟨hn, b', o', he, rfl, hb, hc⟩⟩ := h
  · omega
  · injection he with he
    injection he with h1 h2 _
    subst h1 h2
    refine ⟨by simpa using hl, .inr ⟨hn, b, o, rfl, rfl, by simpa using hb, fun i hi => ?_⟩⟩
    simp only [List.getD_eq_getElem?_getD, List.getElem?_set]
    by_cases h : k = i
    · subst h
      rw [World.cell?_setCell_same _ _ _ (hc k hk)]
      simp [hl, hk]
    · rw [World.cell?_setCell_other _ _ _ _ (fun e => by injection e; omega), hc i hi, if_neg h]
      simp [List.getD_eq_getElem?_getD]
/-- How long a slice of texts is, up to a bound. -/
def SizedS (n : Nat) (xs : List ByteArray) (w : World) (e : Ending) (w' : World) : Prop := ∃ t : Int, e = .returned (.int .i64 t) ∧ w = w' ∧ -1 ≤ t ∧ (0 ≤ t → n ≤ 1048576 ∧ ∀ i, i < n → (xs.getD i ByteArray.empty).size ≤ 1048576)
theorem sz_strs (A : Option Addr) (n c : Nat) (xs : List ByteArray) (fa : List Nat) (w : World) (ha : Strs w A n xs fa) (hn : n ≤ 9223372036854775807) (hx : ∀ i, i < n → (xs.getD i ByteArray.empty).size ≤ 9223372036854775807) :
    Calls Tryd.prog 30 #[.slice A n c, .int .i64 1048576] w (SizedS n xs w) := by
  have HA := Lib.hid ha
  have HX := Lib.hid hx
  clear ha hx
  by_cases hb : n ≤ 1048576
  · go_enter Tryd.func30, Tryd.ntmps30
    go_wp2
    go_loop [1, 5] (fun q i => ∃ (k : Nat) (t : Int), k ≤ n ∧ i = .int .i64 k ∧ q = .int .i64 t ∧ 0 ≤ t ∧ t ≤ 1048576 ∧ ∀ j, j < k → (xs.getD j ByteArray.empty).size ≤ 1048576) (fun _ i => n - (intOf i).toNat)
    case atStart => exact ⟨0, _, Nat.zero_le _, rfl, rfl, by omega, by omega, fun j hj => by omega⟩
    case round =>
      obtain ⟨k, t, hk, rfl, rfl, t0, t1, hj⟩ := hrel
      have HJ := Lib.hid hj
      clear hj
      by_cases hlt : k < n
      · obtain ⟨p, o, rfl, hfp, hp, hc⟩ := HA.out.at_ (by omega)
        have c1 := hc k hlt
        have s1 := HX.out k hlt
        have HM := Lib.hid (show ∀ s : ByteArray, s = xs.getD k ByteArray.empty → s.size ≤ 1048576 → ∀ j, j < k + 1 → (xs.getD j ByteArray.empty).size ≤ 1048576 from fun s e hs j hj => by
          by_cases e2 : j = k
          · subst e2; rw [← e]; exact hs
          · exact HJ.out j (by omega))
        clear hc hfp HA HJ HX
        generalize hX : xs.getD k ByteArray.empty = X at c1 s1
        have HXX := Lib.hid hX
        clear hX
        by_cases hs : X.size ≤ 1048576
        · have HM' := Lib.hid (HM.out X HXX.out.symm hs)
          by_cases ht : 0 ≤ t - X.size
          · have ht' : (X.size : Int) ≤ t := by omega
            go_wp2
            go_round
            case rel => exact ⟨k + 1, t - X.size, by omega, by go_num, by go_num, by omega, by omega, HM'.out⟩
            case measure => simp [intOf]; omega
          · have ht' : t < (X.size : Int) := by omega
            go_wp2
            go_ret
            exact ⟨-1, rfl, rfl, by omega, by omega⟩
        · have ht' : t < (X.size : Int) := by omega
          go_wp2
          go_ret
          exact ⟨-1, rfl, rfl, by omega, by omega⟩
      · obtain rfl : k = n := by omega
        go_wp2
        go_ret
        exact ⟨t, rfl, rfl, by omega, fun _ => ⟨hb, HJ.out⟩⟩
  · have hb' : (1048576 : Int) < (n : Int) := by omega
    go_enter Tryd.func30, Tryd.ntmps30
    go_wp2
    go_ret
    exact ⟨-1, rfl, rfl, by omega, by omega⟩
/-- The mark with a number. -/
def markL (k : Nat) : List UInt8 := 109 :: Lib.decDigits k
def markT (k : Nat) : ByteArray := ⟨(markL k).toArray⟩
theorem dec_len (n : Nat) : (Lib.decDigits n).length ≤ n + 1 := by
  induction n using Nat.strongRecOn with
  | _ n ih =>
    rw [dec_step]
    by_cases h : n < 10
    · simp [h]
    · rw [if_neg h]
      have := ih (n / 10) (by omega)
      simp; omega
set_option maxHeartbeats 1000000 in
theorem mark_text (n : Nat) (h0 : 0 < n) (hn : n ≤ 4000000) (w : World) : Calls Tryd.prog 60 #[.int .i64 n] w fun e w' => e = .returned (.string (markT n)) ∧ Below w.heap.size w w' := by
  have hcv := conv_one
  go_enter Tryd.func60, Tryd.ntmps60
  go_wp2
  go_loopw [0, 3] (fun t s wr => ∃ (m : Nat) (l : List UInt8), m ≤ 4000000 ∧ l.length + m ≤ 4000000 ∧ t = .int .i64 m ∧ s = .string ⟨l.toArray⟩ ∧ Lib.decDigits n = (if m = 0 then [] else Lib.decDigits m) ++ l ∧ Below w.heap.size w wr) (fun t _ _ => (intOf t).toNat)
  case atStart => exact ⟨n, [], hn, by simp; omega, rfl, rfl, by rw [if_neg (by omega)]; simp, Below.refl _ _⟩
  case round =>
    obtain ⟨m, l, hm, hl, rfl, rfl, he, hb⟩ := hrel
    have HE := Lib.hid he
    have HB := Lib.hid hb
    clear he hb
    by_cases h9 : 0 < m
    · have hadd : ∀ w' : World, (Op.stringOp .add ⟨#[UInt8.ofNat (48 + m % 10)]⟩ ⟨l.toArray⟩).run Tryd.prog w' = .ok (.string ⟨(UInt8.ofNat (48 + m % 10) :: l).toArray⟩) w' := fun w' => run_string_add_lists w' [UInt8.ofNat (48 + m % 10)] l (by simp) (by omega)
      go_wp2
      go_roundw
      case rel =>
        refine ⟨m / 10, UInt8.ofNat (48 + m % 10) :: l, by omega, by simp; omega, by go_num, dig_cons _ _, ?_, HB.out.alloc HB.out.size _⟩
        rw [HE.out, if_neg (by omega), dec_step m]
        by_cases h10 : m < 10
        · rw [if_pos h10, if_pos (by omega)]; simp
        · rw [if_neg h10, if_neg (by omega)]; simp
      case measure => simp [intOf]; omega
    · obtain rfl : m = 0 := by omega
      have HL := Lib.hid (show Lib.decDigits n = l by rw [HE.out, if_pos rfl]; rfl)
      have hadd : ∀ w' : World, (Op.stringOp .add ⟨#[109]⟩ ⟨l.toArray⟩).run Tryd.prog w' = .ok (.string (markT n)) w' := fun w' => by
        rw [markT, markL, HL.out]; exact run_string_add_lists w' [109] l (by simp) (by omega)
      go_wp2
      go_ret
      exact ⟨rfl, HB.out⟩
/-- The marks from k on. -/
def marks (k n : Nat) : List ByteArray := (List.range n).map fun i => markT (k + i)
theorem marks_len (k n : Nat) : (marks k n).length = n := by simp [marks]
theorem marks_at (k n i : Nat) (h : i < n) : (marks k n).getD i ByteArray.empty = markT (k + i) := by simp [marks, List.getD, h]
theorem list_extS (xs ys : List ByteArray) (h : xs.length = ys.length) (k : ∀ i, i < ys.length → xs.getD i ByteArray.empty = ys.getD i ByteArray.empty) : xs = ys := by
  apply List.ext_getElem h
  intro i h1 h2
  have := k i h2
  simpa [List.getD, List.getElem?_eq_getElem h1, List.getElem?_eq_getElem h2] using this
/-- What writing the marks from k on leaves. -/
def MarkedS (A : Option Addr) (n k : Nat) (fp : List Nat) (w : World) (e : Ending) (w' : World) : Prop :=
  e = .returned (.int .i64 ((k : Int) + n)) ∧ Only fp w w' ∧ Strs w' A n (marks k n) fp ∧ (∀ b ∈ fp, ∀ o, w'.frozen? ⟨b, o, none⟩ = false)
theorem mark_strs (A : Option Addr) (n c k0 : Nat) (xs : List ByteArray) (fp : List Nat) (w : World) (ha : Strs w A n xs fp) (hf : ∀ b ∈ fp, ∀ o, w.frozen? ⟨b, o, none⟩ = false) (hn : n ≤ 1048576) (h0 : 0 < k0) (h1 : k0 ≤ 1000) :
    Calls Tryd.prog 34 #[.slice A n c, .int .i64 k0] w (MarkedS A n k0 fp w) := by
  have HA := Lib.hid ha
  have HF := Lib.hid hf
  clear ha hf
  go_enter Tryd.func34, Tryd.ntmps34
  go_wp2
  go_loopw [1, 5] (fun q i wr => ∃ (k : Nat) (cur : List ByteArray), k ≤ n ∧ i = .int .i64 k ∧ q = .int .i64 ((k0 + k : Nat) : Int) ∧ Strs wr A n cur fp ∧ (∀ j, j < k → cur.getD j ByteArray.empty = markT (k0 + j)) ∧ Only fp w wr ∧ (∀ b ∈ fp, ∀ o, wr.frozen? ⟨b, o, none⟩ = false)) (fun _ i _ => n - (intOf i).toNat)
  case atStart => exact ⟨0, xs, Nat.zero_le _, rfl, rfl, HA.out, fun j hj => by omega, Only.refl _ _, HF.out⟩
  case round =>
    obtain ⟨k, cur, hk, rfl, rfl, hr, hm, hb, hf⟩ := hrel
    have HR := Lib.hid hr
    have HM := Lib.hid hm
    have HB := Lib.hid hb
    have HG := Lib.hid hf
    clear hr hb hf hm HA HF
    by_cases hlt : k < n
    · obtain ⟨p, o, rfl, hfp, hp, hc⟩ := HR.out.at_ (by omega)
      have HP := Lib.hid hfp
      clear hfp
      obtain ⟨K, hK⟩ : ∃ K : Nat, K = k0 + k := ⟨_, rfl⟩
      rw [← hK]
      have HK := Lib.hid hK
      have hK0 : 0 < K := by omega
      have hK1 : K ≤ 2000000 := by omega
      clear hK
      go_wp2_with fail
      refine (mark_text K hK0 (by omega) _).mono ?_; rintro e w1 ⟨rfl, b1⟩
      have R1 := Lib.hid (HR.out.below b1)
      have O1 := Lib.hid (HB.out.trans (.of_below b1))
      have c1 := (b1.cell (p := ⟨p, o + k, none⟩) hp).trans (hc k hlt)
      have c2 : w1.frozen? ⟨p, o + k, none⟩ = false := (World.frozen?_of_block (a := ⟨p, o + k, none⟩) (b1.block p hp)).trans (HG.out p (by rw [HP.out]; simp) (o + k))
      have hp1 : p < w1.heap.size := Nat.lt_of_lt_of_le hp b1.size
      have G1 : Hid (∀ b ∈ fp, ∀ o, w1.frozen? ⟨b, o, none⟩ = false) := fun b hb o' => (World.frozen?_of_block (a := ⟨b, o', none⟩) (b1.block b (HR.out.lt b hb))).trans (HG.out b hb o')
      clear hc b1
      generalize cur.getD k ByteArray.empty = x at c1
      obtain ⟨T, hT⟩ : ∃ T, T = markT K := ⟨_, rfl⟩
      rw [← hT]
      have HT := Lib.hid hT
      clear hT
      go_wp2
      go_roundw
      case rel =>
        have hl := HR.out.1
        refine ⟨k + 1, cur.set k T, by omega, by go_num, by rw [HK.out]; go_num, R1.out.set hlt _, fun j hj => ?_, O1.out.setCell (.inl (by rw [HP.out]; simp)) _, fun b hb o' => by rw [World.frozen?_setCell]; exact G1.out b hb o'⟩
        simp only [List.getD_eq_getElem?_getD, List.getElem?_set]
        by_cases hjk : k = j
        · subst hjk; simp [hl, hlt, HT.out, HK.out]
        · rw [if_neg hjk, ← List.getD_eq_getElem?_getD]; exact HM.out j (by omega)
      case measure => simp [intOf]; omega
    · obtain rfl : k = n := by omega
      go_wp2
      go_ret
      refine ⟨by simp, HB.out, ?_, HG.out⟩
      have e : cur = marks k0 k := list_extS _ _ (by rw [marks_len]; exact HR.out.1) (fun i hi => by rw [marks_len] at hi; rw [marks_at _ _ _ hi, HM.out i hi])
      rw [← e]; exact HR.out
end Go.Proofs.YtmdldoofljdakaaDoor
