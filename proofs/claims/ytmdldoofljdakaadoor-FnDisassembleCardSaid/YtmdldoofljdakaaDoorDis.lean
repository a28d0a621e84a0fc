/- Disassemble: what it returns; the model's. -/
import Derived.Test.YtmdldoofljdakaaDoorStrK
import Derived.Test.YtmdldoofljdakaaDoorSFmt
import Derived.Test.YtmdldoofljdakaaDoorOwnB
import Derived.Test.YtmdldoofljdakaaDoorDecL
import Derived.Maps.AppendAt
namespace Go.Proofs.YtmdldoofljdakaaDoor
open Go.ChangeShapes Go.WideShapes Go.ChangeAt Go.RowKit

abbrev sv (xs : List ByteArray) : List Value := xs.map Value.string
theorem sv_at (xs : List ByteArray) (i : Nat) (h : i < xs.length) : (sv xs)[i]? = some (.string (xs.getD i ByteArray.empty)) := by
  simp [sv, List.getElem?_map, List.getD, List.getElem?_eq_getElem h]
theorem own_strs {w : World} {base : Nat} {v : Value} {n : Nat} {xs : List ByteArray} (h : w.ownsRow base 9 1 v n (sv xs)) : ∃ A c fp, v = .slice A n c ∧ n ≤ c ∧ (A = none → c = 0) ∧ Strs w A n xs fp ∧ New base w fp ∧ ∀ b ∈ fp, v.ownBlock = some b := by
  have hl : xs.length = n := by have := h.1; simpa [sv] using this
  rcases h.2 with ⟨rfl, h0⟩ | ⟨g, cap, cur, rfl, hb, hh, hnc, _, hsz, hcur⟩
  · subst h0
    have : xs = [] := List.eq_nil_of_length_eq_zero hl
    subst this
    exact ⟨none, 0, [], rfl, Nat.le_refl _, fun _ => rfl, .nil _ _, .nil _ _, by simp⟩
  · by_cases h0 : n = 0
    · subst h0
      have : xs = [] := List.eq_nil_of_length_eq_zero hl
      subst this
      exact ⟨_, cap, [], rfl, hnc, by simp, .nil _ _, .nil _ _, by simp⟩
    · have hlt : g < w.heap.size := by
        by_cases hl : g < w.heap.size
        · exact hl
        · rw [Array.getElem?_eq_none (by omega)] at hh; cases hh
      refine ⟨_, cap, [g], rfl, hnc, by simp, ⟨hl, .inr ⟨by omega, g, 0, rfl, rfl, hlt, fun i hi => ?_⟩⟩, .one hb hlt (fun o => by simp [World.frozen?, hh]), by simp [Value.ownBlock]⟩
      rw [cell_of_row w g (0 + i) cur _ (0, 0) hh, Nat.zero_add]
      have e : (cur.toList.take (n * 1))[i]? = (sv xs)[i]? := by rw [hcur]
      rw [sv_at xs i (by omega), List.getElem?_take, if_pos (by omega)] at e
      simpa using e

/-- The instructions of a list of bytes from an index on, each with the index behind it. -/
def disFrom (xs : List Int) : Nat → Nat → List (Nat × Int × Int)
  | 0, _ => []
  | f + 1, a => match decN xs a with
    | none => []
    | some (op, arg) => (a + (lenN op).toNat, op, arg) :: disFrom xs f (a + (lenN op).toNat)
def seqL (xs : List Int) : List (Nat × Int × Int) := disFrom xs (xs.length + 1) 0
def endAt (l : List (Nat × Int × Int)) : Nat := (l.getLast?.map (·.1)).getD 0
theorem endAt_snoc (l : List (Nat × Int × Int)) (x : Nat × Int × Int) : endAt (l ++ [x]) = x.1 := by simp [endAt]
theorem dis_none {xs : List Int} {f a : Nat} (h : decN xs a = none) : disFrom xs f a = [] := by
  cases f with
  | zero => rfl
  | succ f => simp [disFrom, h]
theorem dis_some {xs : List Int} {f a : Nat} {op arg : Int} (h : decN xs a = some (op, arg)) (hf : xs.length < a + f) : ∃ g, xs.length < a + (lenN op).toNat + g ∧ disFrom xs f a = (a + (lenN op).toNat, op, arg) :: disFrom xs g (a + (lenN op).toNat) ∧ a < xs.length ∧ a + (lenN op).toNat ≤ xs.length ∧ 1 ≤ lenN op ∧ lenN op ≤ 3 ∧ ordB op arg = true := by
  obtain ⟨k, hk, h1, h2, h3, _, _⟩ := dec_some h
  obtain ⟨l1, _⟩ := ordB_len h3
  obtain ⟨_, l2⟩ := lenN_bd op
  have : k = a := by omega
  subst this
  cases f with
  | zero => omega
  | succ f => exact ⟨f, by omega, by simp [disFrom, h], h1, by omega, l1, l2, h3⟩
/-- The text of an instruction, as a text. -/
def fmtT (x : Nat × Int × Int) : ByteArray := ⟨(fmtN x.2.1 x.2.2).toArray⟩
/-- What Disassemble returns. -/
def disOk (xs : List Int) : Bool := decide ((seqL xs).length ≤ 60) && decide (endAt (seqL xs) = xs.length)
def disS (xs : List Int) : List ByteArray := if disOk xs = true then (seqL xs).map fmtT else []
theorem dis_bad {xs : List Int} (h : ¬ ((seqL xs).length ≤ 60 ∧ endAt (seqL xs) = xs.length)) : disOk xs = false ∧ disS xs = [] := by
  have : disOk xs = false := by
    unfold disOk
    by_cases h1 : (seqL xs).length ≤ 60
    · have h2 : ¬ endAt (seqL xs) = xs.length := fun e => h ⟨h1, e⟩
      simp [h2]
    · simp [h1]
  exact ⟨this, by simp [disS, this]⟩
theorem dis_good {xs : List Int} (h1 : (seqL xs).length ≤ 60) (h2 : endAt (seqL xs) = xs.length) : disOk xs = true ∧ disS xs = (seqL xs).map fmtT := by
  have : disOk xs = true := by simp [disOk, h1, h2]
  exact ⟨this, by simp [disS, this]⟩
def Disd (xs : List Int) (w : World) (e : Ending) (w' : World) : Prop :=
  ∃ (A : Option Addr) (n c : Nat) (fp : List Nat), e = .returned (.tuple #[.slice A n c, .bool (disOk xs)]) ∧ n ≤ c ∧ n ≤ 60 ∧ Strs w' A n (disS xs) fp ∧ New w.heap.size w' fp ∧ Below w.heap.size w w'
theorem disd_none {xs : List Int} {w w' : World} {A : Option Addr} {c : Nat} (h : disOk xs = false ∧ disS xs = []) (b : Below w.heap.size w w') : Disd xs w (.returned (.tuple #[.slice A 0 c, .bool false])) w' :=
  ⟨A, 0, c, [], by rw [h.1], by omega, by omega, by rw [h.2]; exact .nil _ _, .nil _ _, b⟩
set_option maxRecDepth 100000 in
set_option maxHeartbeats 2000000 in
theorem spec_dis (A : Option Addr) (N c : Nat) (xs : List Int) (fa : List Nat) (w : World) (ha : Ints w A N xs fa) (hN : N ≤ 1000000000) :
    Calls Tryd.prog 27 #[.slice A N c] w (Disd xs w) := by
  have HA := Lib.hid ha
  have hlen := ha.1
  clear ha
  obtain ⟨i0, hi, hz0, hz1, hz2⟩ := info_parts infoStr
  have E0 := Lib.hid (own_empty w 9 w.heap.size (Nat.le_refl _))
  go_enter Tryd.func27, Tryd.ntmps27
  go_wp2_with fail
  go_loopw [4, 5] (fun v i wr => ∃ (pre : List (Nat × Int × Int)) (f a : Nat) (A2 : Option Addr) (d2 : Nat), a ≤ N ∧ i = .int .i64 a ∧ v = .slice A2 pre.length d2 ∧ pre.length ≤ 60 ∧ seqL xs = pre ++ disFrom xs f a ∧ xs.length < a + f ∧ endAt pre = a ∧ wr.ownsRow w.heap.size 9 1 v pre.length (sv (pre.map fmtT)) ∧ Below w.heap.size w wr) (fun _ i _ => N - (intOf i).toNat)
  case atStart => exact ⟨[], xs.length + 1, 0, _, 0, by omega, rfl, rfl, by simp, rfl, by omega, rfl, E0.out, below1 w _⟩
  case round =>
    obtain ⟨pre, f, a, A2, d2, hk, rfl, rfl, hp60, hseq, hf, hend, hown, hbl⟩ := hrel
    have HS := Lib.hid hseq
    have HE := Lib.hid hend
    have HF := Lib.hid hf
    have HW := Lib.hid hown
    have Bw := Lib.hid hbl
    have zr : w.heap.size ≤ wr.heap.size := hbl.size
    clear hseq hown hbl hend hf E0
    by_cases hlt : a < N
    · go_wp2_with fail
      refine (spec_dec _ _ _ _ _ _ _ (HA.out.below Bw.out) (by omega)).mono ?_; rintro e w3 ⟨rfl, b3⟩
      have W3 := Lib.hid (own_below HW.out b3)
      have B3 := Lib.hid (Bw.out.trans (b3.mono (by omega)))
      have zr3 : wr.heap.size ≤ w3.heap.size := b3.size
      clear b3
      cases hd : decN xs (a : Int) with
      | none =>
        have HBd := Lib.hid (dis_bad (xs := xs) (by
          rintro ⟨_, h2⟩
          rw [HS.out, dis_none hd, List.append_nil, HE.out] at h2
          omega))
        have hV : decV none = .tuple #[.agg #[.int .i64 0, .int .i64 0], .int .i64 0, .bool false] := rfl
        rw [hV]
        clear hV hd
        go_wp2_with fail
        refine bodyPost_ret (v := .tuple #[.slice _ 0 0, .bool false]) (by simp [results, Tryd.results27, go_sem]; rfl) rfl ?_
        exact disd_none HBd.out ((B3.out.alloc (by omega) _).alloc (by simp; omega) _)
      | some y =>
        obtain ⟨op, arg⟩ := y
        obtain ⟨g, g1, g2, _, g3, l1, l2, _⟩ := dis_some hd HF.out
        have hV : decV (some (op, arg)) = .tuple #[.agg #[.int .i64 op, .int .i64 arg], .int .i64 (lenN op), .bool true] := rfl
        rw [hV]
        have HS2 := Lib.hid (show seqL xs = (pre ++ [(a + (lenN op).toNat, op, arg)]) ++ disFrom xs g (a + (lenN op).toNat) by rw [HS.out, g2]; simp)
        clear hV hd HS g2
        generalize hL : lenN op = L at *
        obtain ⟨m, rfl⟩ := Int.eq_ofNat_of_zero_le (show 0 ≤ L by omega)
        simp only [Int.toNat_natCast] at g1 g3 HS2
        clear hL
        by_cases h60 : pre.length = 60
        · have HBd := Lib.hid (dis_bad (xs := xs) (by
            rintro ⟨h1, _⟩
            rw [HS2.out] at h1
            simp at h1
            omega))
          have h60' : ((pre.length : Int) == 60) = true := by simp; omega
          go_wp2_with fail
          refine bodyPost_ret (v := .tuple #[.slice _ 0 0, .bool false]) (by simp [results, Tryd.results27, go_sem]; rfl) rfl ?_
          exact disd_none HBd.out ((B3.out.alloc (by omega) _).alloc (by simp; omega) _)
        · have h60' : ((pre.length : Int) == 60) = false := by simp; omega
          go_wp2_with fail
          refine (spec_fmt _ _ _).mono ?_; rintro e w4 ⟨rfl, b4⟩
          have W4 := Lib.hid (own_below (W3.out.alloc (.cells #[.int .i64 op, .int .i64 arg] 24)) b4)
          have B4 := Lib.hid ((B3.out.alloc (show w.heap.size ≤ w3.heap.size by omega) (.cells #[.int .i64 op, .int .i64 arg] 24)).trans (b4.mono (by simp; omega)))
          have z4 : w3.heap.size ≤ w4.heap.size := by have := b4.size; simp at this; omega
          clear b4 W3
          obtain ⟨T, hT⟩ : ∃ T : ByteArray, T = ⟨(fmtN op arg).toArray⟩ := ⟨_, rfl⟩
          rw [← hT]
          have HT := Lib.hid hT
          clear hT
          go_wp2_with (at_builtin; refine wpList_append_own _ rfl _ _ 34 rfl w.heap.size 9 i0 (.string ⟨#[]⟩) 1 16 Tryd.underlying34 hi hz0 hz1 hz2 rfl (by decide) _ _ _ rfl (W4.out.alloc _) ⟨w4.heap.size, 0, none⟩ 1 1 [.string T] rfl rfl (cell_one_new _ _ _) (by simp [Value.oneCell']) (by unfold maxLen; omega) (by omega) (by simp; omega) ?_; intro v' w5 own5 gr5 _)
          have e5 : sv (pre.map fmtT) ++ [Value.string T] = sv ((pre ++ [(a + m, op, arg)]).map fmtT) := by simp [sv, fmtT, HT.out]
          rw [e5] at own5
          obtain ⟨A5, d5, f5, rfl, _, _, _, _, _⟩ := own_strs own5
          have W5 := Lib.hid own5
          have B5 := Lib.hid (below_grown (B4.out.alloc (show w.heap.size ≤ w4.heap.size by omega) _) gr5 (by simp; omega) (fun g hg => by have := (own_lt W4.out g hg).1; omega))
          clear own5 gr5 e5
          go_wp2
          go_roundw
          case rel => exact ⟨pre ++ [(a + m, op, arg)], g, a + m, A5, d5, by omega, by go_num, by simp, by simp; omega, HS2.out, by omega, endAt_snoc _ _, by simpa using W5.out, B5.out⟩
          case measure => simp [intOf]; omega
    · obtain rfl : a = N := by omega
      have hd : decN xs (a : Int) = none := by
        cases hd : decN xs (a : Int) with
        | none => rfl
        | some y => obtain ⟨op, arg⟩ := y; obtain ⟨k, hk, h1, _⟩ := dec_some hd; omega
      have hq : seqL xs = pre := by rw [HS.out, dis_none hd, List.append_nil]
      have HP := Lib.hid (dis_good (xs := xs) (by rw [hq]; exact hp60) (by rw [hq, HE.out]; omega))
      rw [hq] at HP
      clear hd hq
      obtain ⟨A6, c6, f6, e6, hc6, _, i6, n6, _⟩ := own_strs HW.out
      injection e6 with e61 e62 e63
      subst e61 e63
      have I6 := Lib.hid i6
      have N6 := Lib.hid n6
      clear i6 n6
      go_wp2_with fail
      refine bodyPost_ret (v := .tuple #[.slice A2 pre.length d2, .bool true]) (by simp [results, Tryd.results27, go_sem]) rfl ?_
      exact ⟨A2, pre.length, d2, f6, by rw [HP.out.1], hc6, by omega, by rw [HP.out.2]; exact I6.out, N6.out, Bw.out⟩
end Go.Proofs.YtmdldoofljdakaaDoor
