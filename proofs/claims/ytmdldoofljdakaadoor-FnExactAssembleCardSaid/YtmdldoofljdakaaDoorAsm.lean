/- Assemble: the program's and the model's. -/
import Derived.Test.YtmdldoofljdakaaDoorStrK
import Derived.Test.YtmdldoofljdakaaDoorSPar
import Derived.Test.YtmdldoofljdakaaDoorOwnB
namespace Go.Proofs.YtmdldoofljdakaaDoor
open Go.ChangeShapes Go.WideShapes Go.ChangeAt Go.RowKit

/-- The instruction of a line. -/
def lin (x : ByteArray) : Option (Int × Int) := parN x.data.toList
def linB (x : ByteArray) : List Int := match lin x with
  | some (op, arg) => ordN op arg
  | none => []
/-- The bytes of the instructions of lines. -/
def bytesOf (xs : List ByteArray) : List Int := xs.flatMap linB
theorem take_more {xs : List ByteArray} {k : Nat} (h : k < xs.length) : xs.take (k + 1) = xs.take k ++ [xs.getD k ByteArray.empty] := by
  rw [List.take_succ_eq_append_getElem h]
  simp [List.getD, List.getElem?_eq_getElem h]
theorem bytesOf_more {xs : List ByteArray} {k : Nat} (h : k < xs.length) : bytesOf (xs.take (k + 1)) = bytesOf (xs.take k) ++ linB (xs.getD k ByteArray.empty) := by
  rw [take_more h]; simp [bytesOf]
theorem linB_len (x : ByteArray) : (linB x).length ≤ 3 := by
  unfold linB
  split
  · exact (ordN_bytes _ _).1
  · simp
theorem bytesOf_len (xs : List ByteArray) : (bytesOf xs).length ≤ 3 * xs.length := by
  unfold bytesOf
  induction xs with
  | nil => simp
  | cons x r ih => have := linB_len x; rw [List.flatMap_cons, List.length_append, List.length_cons]; omega
/-- What Assemble returns: the bytes, and the number of the first line that is none. -/
def asmBad (xs : List ByteArray) : Int := match xs.findIdx? fun x => (lin x).isNone with
  | some k => (k : Int) + 1
  | none => if 60 < xs.length then 61 else 0
def asmB (xs : List ByteArray) : List Int := if asmBad xs = 0 then bytesOf xs else []
theorem asm_bad {xs : List ByteArray} {k : Nat} (hk : k < xs.length) (hb : ∀ j, j < k → (lin (xs.getD j ByteArray.empty)).isSome = true) (hn : lin (xs.getD k ByteArray.empty) = none) : asmBad xs = (k : Int) + 1 ∧ asmB xs = [] := by
  have hf : xs.findIdx? (fun x => (lin x).isNone) = some k := by
    rw [List.findIdx?_eq_some_iff_getElem]
    refine ⟨hk, ?_, fun j hj => ?_⟩
    · have : xs.getD k ByteArray.empty = xs[k] := by simp [List.getD, List.getElem?_eq_getElem hk]
      rw [← this, hn]; rfl
    · have hj' : j < xs.length := by omega
      have := hb j hj
      rw [show xs.getD j ByteArray.empty = xs[j] by simp [List.getD, List.getElem?_eq_getElem hj']] at this
      cases h : lin xs[j] <;> simp_all
  have h1 : asmBad xs = (k : Int) + 1 := by unfold asmBad; rw [hf]
  refine ⟨h1, ?_⟩
  unfold asmB
  rw [if_neg (by omega)]
theorem asm_fine {xs : List ByteArray} (hb : ∀ j, j < xs.length → (lin (xs.getD j ByteArray.empty)).isSome = true) : asmBad xs = if 60 < xs.length then 61 else 0 := by
  have hf : xs.findIdx? (fun x => (lin x).isNone) = none := by
    rw [List.findIdx?_eq_none_iff]
    intro x hx
    obtain ⟨j, hj, rfl⟩ := List.getElem_of_mem hx
    have := hb j hj
    rw [show xs.getD j ByteArray.empty = xs[j] by simp [List.getD, List.getElem?_eq_getElem hj]] at this
    cases h : lin xs[j] <;> simp_all
  unfold asmBad; rw [hf]
theorem asm_many {xs : List ByteArray} (hb : ∀ j, j < xs.length → (lin (xs.getD j ByteArray.empty)).isSome = true) (h : 60 < xs.length) : asmBad xs = 61 ∧ asmB xs = [] := by
  have h1 := asm_fine hb
  rw [if_pos h] at h1
  refine ⟨h1, ?_⟩
  unfold asmB; rw [if_neg (by omega)]
theorem asm_all {xs : List ByteArray} (hb : ∀ j, j < xs.length → (lin (xs.getD j ByteArray.empty)).isSome = true) (h : ¬ 60 < xs.length) : asmBad xs = 0 ∧ asmB xs = bytesOf xs := by
  have h1 := asm_fine hb
  rw [if_neg h] at h1
  refine ⟨h1, ?_⟩
  unfold asmB; rw [if_pos h1]
theorem ba_list (X : ByteArray) : ∃ s : List UInt8, X = ⟨s.toArray⟩ ∧ lin X = parN s ∧ s.length = X.size := by
  obtain ⟨⟨l⟩⟩ := X
  exact ⟨l, rfl, rfl, rfl⟩
def Asmd (xs : List ByteArray) (w : World) (e : Ending) (w' : World) : Prop :=
  ∃ (A : Option Addr) (n c : Nat) (fp : List Nat), e = .returned (.tuple #[.slice A n c, .int .i64 (asmBad xs)]) ∧ n ≤ c ∧ n ≤ 1000000000 ∧ Ints w' A n (asmB xs) fp ∧ New w.heap.size w' fp ∧ Below w.heap.size w w'
theorem asmd_none {xs : List ByteArray} {w w' : World} {A : Option Addr} {c : Nat} {q : Int} (h : asmBad xs = q ∧ asmB xs = []) (b : Below w.heap.size w w') : Asmd xs w (.returned (.tuple #[.slice A 0 c, .int .i64 q])) w' :=
  ⟨A, 0, c, [], by rw [h.1], by omega, by omega, by rw [h.2]; exact .nil _ _, .nil _ _, b⟩
set_option maxRecDepth 100000 in
set_option maxHeartbeats 2000000 in
theorem impl_asm (A : Option Addr) (N c : Nat) (xs : List ByteArray) (fa : List Nat) (w : World) (ha : Strs w A N xs fa) (hN : N ≤ 1048576) (hx : ∀ i, i < N → (xs.getD i ByteArray.empty).size ≤ 1048576) (h : NumEnv w) :
    Calls Tryd.prog 21 #[.slice A N c] w (Asmd xs w) := by
  have HA := Lib.hid ha
  have HX := Lib.hid hx
  have H := Lib.hid h
  have hlen := ha.1
  clear ha hx h
  go_enter Tryd.func21, Tryd.ntmps21
  go_wp2_with fail
  refine (impl_newOps _ H.out.1.1).mono ?_; rintro e w1 ⟨rfl, m1, b1⟩
  have B1 := Lib.hid b1
  have M1 : Hid (OpMap w1 w.heap.size) := m1
  have z1 : w.heap.size < w1.heap.size := OpMap.lt m1
  clear b1 m1
  go_wp2_with fail
  go_loopw [5, 13] (fun v i wr => ∃ (k n : Nat) (A2 : Option Addr) (d2 : Nat), k ≤ N ∧ i = .int .i64 k ∧ v = .slice A2 n d2 ∧ n ≤ 3 * k ∧ (∀ j, j < k → (lin (xs.getD j ByteArray.empty)).isSome = true) ∧ wr.ownsRow (w.heap.size + 1) 3 1 v n (iv (bytesOf (xs.take k))) ∧ Below (w.heap.size + 1) w1 wr) (fun _ i _ => N - (intOf i).toNat)
  case atStart => exact ⟨0, 0, none, 0, Nat.zero_le _, rfl, rfl, by omega, fun j hj => by omega, World.ownsRow_nil _ _ _ _, Below.refl _ _⟩
  case round =>
    obtain ⟨k, n, A2, d2, hk, rfl, rfl, hn3, hok, hown, hbl⟩ := hrel
    have HK := Lib.hid hok
    have HW := Lib.hid hown
    have HB := Lib.hid hbl
    have Bw : Hid (Below w.heap.size w wr) := B1.out.trans (hbl.mono (by omega))
    have zr : w.heap.size < wr.heap.size := Nat.lt_of_lt_of_le z1 hbl.size
    clear hok hown hbl
    by_cases hlt : k < N
    · have Mr : Hid (OpMap wr w.heap.size) := by
        obtain ⟨es, cl, h1, h2⟩ := M1.out
        exact ⟨es, cl, (HB.out.block _ (by omega)).trans h1, h2⟩
      obtain ⟨p, o, rfl, _, hp, hc⟩ := (HA.out.below Bw.out).at_ (by omega)
      have c1 := hc k hlt
      have s1 := HX.out k hlt
      have HM := Lib.hid (bytesOf_more (xs := xs) (k := k) (by omega))
      have HBad := Lib.hid (asm_bad (xs := xs) (k := k) (by omega) HK.out)
      have HK' := Lib.hid (show (lin (xs.getD k ByteArray.empty)).isSome = true → ∀ j, j < k + 1 → (lin (xs.getD j ByteArray.empty)).isSome = true from fun e j hj => by
        by_cases e2 : j = k
        · subst e2; exact e
        · exact HK.out j (by omega))
      clear hc
      generalize hX : xs.getD k ByteArray.empty = X at c1 s1
      obtain ⟨s, hXs, hlin, hsl⟩ := ba_list X
      rw [hX, hlin] at HBad
      rw [hX] at HM
      have HXX := Lib.hid hX
      have HXs := Lib.hid hXs
      have HLin := Lib.hid hlin
      clear hX hXs hlin
      go_wp2_with fail
      rw [HXs.out]
      refine (impl_parse w.heap.size s (by omega) _ (H.out.below Bw.out) Mr.out).mono ?_; rintro e w3 ⟨rfl, b3⟩
      rw [← HXs.out]
      have W3 := Lib.hid (own_below HW.out b3)
      have B3 := Lib.hid (HB.out.trans (b3.mono (by omega)))
      have zr3 : wr.heap.size ≤ w3.heap.size := b3.size
      clear b3 c1
      cases hp2 : parN s with
      | none =>
        have HBd := Lib.hid (HBad.out hp2)
        have hV : parV none = .tuple #[.agg #[.int .i64 0, .int .i64 0], .bool false] := rfl
        rw [hV]
        clear hV HBad hp2
        go_wp2_with fail
        refine bodyPost_ret (v := .tuple #[.slice none 0 0, .int .i64 ((k : Int) + 1)]) (by simp [results, Tryd.results21, go_sem]) rfl ?_
        exact asmd_none HBd.out ((B1.out.trans (B3.out.mono (by omega))).alloc (by omega) _)
      | some y =>
        obtain ⟨op, arg⟩ := y
        have hV : parV (some (op, arg)) = .tuple #[.agg #[.int .i64 op, .int .i64 arg], .bool true] := rfl
        rw [hV]
        have hlB : linB X = ordN op arg := by unfold linB; rw [HLin.out, hp2]
        have hsome : (lin X).isSome = true := by rw [HLin.out, hp2]; rfl
        rw [hlB] at HM
        have HK2 := Lib.hid (HK'.out (by rw [HXX.out]; exact hsome))
        clear hV hlB hsome hp2 HBad HK' HLin HXX HXs
        have Ba : Hid (Below w.heap.size w (w3.alloc (.cells #[.int .i64 op, .int .i64 arg] 24))) := (B1.out.trans (B3.out.mono (by omega))).alloc (by omega) _
        go_wp2_with fail
        refine (impl_ordBytes _ _ _ (H.out.1.1.below Ba.out)).mono ?_; rintro e w4 ⟨A4, c4, f4, rfl, hc4, i4, n4, b4⟩
        have W4 := Lib.hid (own_below (W3.out.alloc (.cells #[.int .i64 op, .int .i64 arg] 24)) b4)
        have B4 := Lib.hid ((B3.out.alloc (show w.heap.size + 1 ≤ w3.heap.size by omega) (.cells #[.int .i64 op, .int .i64 arg] 24)).trans (b4.mono (by simp; omega)))
        have z4 : w3.heap.size ≤ w4.heap.size := by have := b4.size; simp at this; omega
        have o1 := (ordN_bytes op arg).1
        have I4 := Lib.hid i4
        clear i4 n4 b4 W3
        generalize hz : ordN op arg = ys at *
        clear hz
        go_wp2_with (at_builtin; refine wpList_append_ints rfl _ _ rfl (w.heap.size + 1) _ n _ rfl W4.out _ _ _ ys f4 rfl I4.out (by omega) (by omega) ?_; intro v' w5 own5 gr5 _)
        obtain ⟨A5, d5, f5, rfl, _, _, _, _, _⟩ := own_ints own5
        have W5 := Lib.hid (show w5.ownsRow (w.heap.size + 1) 3 1 (.slice A5 (n + ys.length) d5) (n + ys.length) (iv (bytesOf (xs.take (k + 1)))) by rw [HM.out]; exact own5)
        have B5 := Lib.hid (below_grown B4.out gr5 (by omega) (fun g hg => by have := (own_lt W4.out g hg).1; omega))
        clear own5 gr5
        go_wp2
        go_roundw
        case rel => exact ⟨k + 1, n + ys.length, A5, d5, by omega, by go_num, rfl, by omega, HK2.out, W5.out, B5.out⟩
        case measure => simp [intOf]; omega
    · obtain rfl : k = N := by omega
      have HT := Lib.hid (show xs.take k = xs by rw [List.take_of_length_le (by omega)])
      by_cases h60 : 60 < k
      · have HP := Lib.hid (asm_many (xs := xs) (by rw [hlen]; exact HK.out) (by omega))
        have h60' : (60 : Int) < (k : Int) := by omega
        go_wp2_with fail
        refine bodyPost_ret (v := .tuple #[.slice none 0 0, .int .i64 61]) (by simp [results, Tryd.results21, go_sem]) rfl ?_
        exact asmd_none HP.out Bw.out
      · have HP := Lib.hid (asm_all (xs := xs) (by rw [hlen]; exact HK.out) (by omega))
        have h60' : (k : Int) ≤ 60 := by omega
        obtain ⟨A6, c6, f6, e6, hc6, _, i6, n6, _⟩ := own_ints HW.out
        injection e6 with e61 e62 e63
        subst e61 e63
        rw [HT.out] at i6
        have I6 := Lib.hid i6
        have N6 := Lib.hid (n6.mono (show w.heap.size ≤ w.heap.size + 1 by omega))
        clear i6 n6
        go_wp2_with fail
        refine bodyPost_ret (v := .tuple #[.slice A2 n d2, .int .i64 0]) (by simp [results, Tryd.results21, go_sem]) rfl ?_
        exact ⟨A2, n, d2, f6, by rw [HP.out.1], hc6, by omega, by rw [HP.out.2]; exact I6.out, N6.out, Bw.out⟩
set_option maxRecDepth 100000 in
set_option maxHeartbeats 2000000 in
theorem spec_asm (A : Option Addr) (N c : Nat) (xs : List ByteArray) (fa : List Nat) (w : World) (ha : Strs w A N xs fa) (hN : N ≤ 1048576) (hx : ∀ i, i < N → (xs.getD i ByteArray.empty).size ≤ 1048576) :
    Calls Tryd.prog 22 #[.slice A N c] w (Asmd xs w) := by
  have HA := Lib.hid ha
  have HX := Lib.hid hx
  have hlen := ha.1
  clear ha hx
  have E0 := Lib.hid (own_empty w 3 w.heap.size (Nat.le_refl _))
  go_enter Tryd.func22, Tryd.ntmps22
  go_wp2_with fail
  go_loopw [4, 5] (fun v i wr => ∃ (k n : Nat) (A2 : Option Addr) (d2 : Nat), k ≤ N ∧ i = .int .i64 k ∧ v = .slice A2 n d2 ∧ n ≤ 3 * k ∧ (∀ j, j < k → (lin (xs.getD j ByteArray.empty)).isSome = true) ∧ wr.ownsRow w.heap.size 3 1 v n (iv (bytesOf (xs.take k))) ∧ Below w.heap.size w wr) (fun _ i _ => N - (intOf i).toNat)
  case atStart => exact ⟨0, 0, _, 0, Nat.zero_le _, rfl, rfl, by omega, fun j hj => by omega, E0.out, below1 w _⟩
  case round =>
    obtain ⟨k, n, A2, d2, hk, rfl, rfl, hn3, hok, hown, hbl⟩ := hrel
    have HK := Lib.hid hok
    have HW := Lib.hid hown
    have Bw := Lib.hid hbl
    have zr : w.heap.size ≤ wr.heap.size := hbl.size
    clear hok hown hbl
    by_cases hlt : k < N
    · obtain ⟨p, o, rfl, _, hp, hc⟩ := (HA.out.below Bw.out).at_ (by omega)
      have c1 := hc k hlt
      have s1 := HX.out k hlt
      have HM := Lib.hid (bytesOf_more (xs := xs) (k := k) (by omega))
      have HBad := Lib.hid (asm_bad (xs := xs) (k := k) (by omega) HK.out)
      have HK' := Lib.hid (show (lin (xs.getD k ByteArray.empty)).isSome = true → ∀ j, j < k + 1 → (lin (xs.getD j ByteArray.empty)).isSome = true from fun e j hj => by
        by_cases e2 : j = k
        · subst e2; exact e
        · exact HK.out j (by omega))
      clear hc
      generalize hX : xs.getD k ByteArray.empty = X at c1 s1
      obtain ⟨s, hXs, hlin, hsl⟩ := ba_list X
      rw [hX, hlin] at HBad
      rw [hX] at HM
      have HXX := Lib.hid hX
      have HXs := Lib.hid hXs
      have HLin := Lib.hid hlin
      clear hX hXs hlin
      go_wp2_with fail
      rw [HXs.out]
      refine (spec_par s _).mono ?_; rintro e w3 ⟨rfl, b3⟩
      rw [← HXs.out]
      have W3 := Lib.hid (own_below HW.out b3)
      have B3 := Lib.hid (Bw.out.trans (b3.mono (by omega)))
      have zr3 : wr.heap.size ≤ w3.heap.size := b3.size
      clear b3 c1
      cases hp2 : parN s with
      | none =>
        have HBd := Lib.hid (HBad.out hp2)
        have hV : parV none = .tuple #[.agg #[.int .i64 0, .int .i64 0], .bool false] := rfl
        rw [hV]
        clear hV HBad hp2
        go_wp2_with fail
        refine bodyPost_ret (v := .tuple #[.slice _ 0 0, .int .i64 ((k : Int) + 1)]) (by simp [results, Tryd.results22, go_sem]; rfl) rfl ?_
        exact asmd_none HBd.out ((B3.out.alloc (by omega) _).alloc (by simp; omega) _)
      | some y =>
        obtain ⟨op, arg⟩ := y
        have hV : parV (some (op, arg)) = .tuple #[.agg #[.int .i64 op, .int .i64 arg], .bool true] := rfl
        rw [hV]
        have hlB : linB X = ordN op arg := by unfold linB; rw [HLin.out, hp2]
        have hsome : (lin X).isSome = true := by rw [HLin.out, hp2]; rfl
        rw [hlB] at HM
        have HK2 := Lib.hid (HK'.out (by rw [HXX.out]; exact hsome))
        clear hV hlB hsome hp2 HBad HK' HLin HXX HXs
        go_wp2_with fail
        refine (spec_ordBytes _ _ _).mono ?_; rintro e w4 ⟨A4, c4, f4, rfl, hc4, i4, n4, b4⟩
        have W4 := Lib.hid (own_below (W3.out.alloc (.cells #[.int .i64 op, .int .i64 arg] 24)) b4)
        have B4 := Lib.hid ((B3.out.alloc (show w.heap.size ≤ w3.heap.size by omega) (.cells #[.int .i64 op, .int .i64 arg] 24)).trans (b4.mono (by simp; omega)))
        have z4 : w3.heap.size ≤ w4.heap.size := by have := b4.size; simp at this; omega
        have o1 := (ordN_bytes op arg).1
        have I4 := Lib.hid i4
        clear i4 n4 b4 W3
        generalize hz : ordN op arg = ys at *
        clear hz
        go_wp2_with (at_builtin; refine wpList_append_ints rfl _ _ rfl w.heap.size _ n _ rfl W4.out _ _ _ ys f4 rfl I4.out (by omega) (by omega) ?_; intro v' w5 own5 gr5 _)
        obtain ⟨A5, d5, f5, rfl, _, _, _, _, _⟩ := own_ints own5
        have W5 := Lib.hid (show w5.ownsRow w.heap.size 3 1 (.slice A5 (n + ys.length) d5) (n + ys.length) (iv (bytesOf (xs.take (k + 1)))) by rw [HM.out]; exact own5)
        have B5 := Lib.hid (below_grown B4.out gr5 (by omega) (fun g hg => by have := (own_lt W4.out g hg).1; omega))
        clear own5 gr5
        go_wp2
        go_roundw
        case rel => exact ⟨k + 1, n + ys.length, A5, d5, by omega, by go_num, rfl, by omega, HK2.out, W5.out, B5.out⟩
        case measure => simp [intOf]; omega
    · obtain rfl : k = N := by omega
      have HT := Lib.hid (show xs.take k = xs by rw [List.take_of_length_le (by omega)])
      by_cases h60 : 60 < k
      · have HP := Lib.hid (asm_many (xs := xs) (by rw [hlen]; exact HK.out) (by omega))
        have h60' : (60 : Int) < (k : Int) := by omega
        go_wp2_with fail
        refine bodyPost_ret (v := .tuple #[.slice _ 0 0, .int .i64 61]) (by simp [results, Tryd.results22, go_sem]; rfl) rfl ?_
        exact asmd_none HP.out (Bw.out.alloc (by omega) _)
      · have HP := Lib.hid (asm_all (xs := xs) (by rw [hlen]; exact HK.out) (by omega))
        have h60' : (k : Int) ≤ 60 := by omega
        obtain ⟨A6, c6, f6, e6, hc6, _, i6, n6, _⟩ := own_ints HW.out
        injection e6 with e61 e62 e63
        subst e61 e63
        rw [HT.out] at i6
        have I6 := Lib.hid i6
        have N6 := Lib.hid n6
        clear i6 n6
        go_wp2_with fail
        refine bodyPost_ret (v := .tuple #[.slice A2 n d2, .int .i64 0]) (by simp [results, Tryd.results22, go_sem]) rfl ?_
        exact ⟨A2, n, d2, f6, by rw [HP.out.1], hc6, by omega, by rw [HP.out.2]; exact I6.out, N6.out, Bw.out⟩
end Go.Proofs.YtmdldoofljdakaaDoor
