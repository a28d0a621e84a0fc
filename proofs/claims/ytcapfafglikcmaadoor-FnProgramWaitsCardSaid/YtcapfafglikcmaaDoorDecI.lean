/- The program's argumentOf and DecodeOrder. -/
import Derived.Test.YtcapfafglikcmaaDoorKD
import Derived.Test.YtcapfafglikcmaaDoorOps
import Derived.Deep.DeepCutAuto
namespace Go.Proofs.YtcapfafglikcmaaDoor
open Go.ChangeShapes Go.WideShapes Go.ChangeAt Go.RowKit

/-- The number of which these are the bytes, the lowest one first. -/
def argN : List Int → Int
  | [] => 0
  | x :: xs => x + 256 * argN xs
theorem arg_drop (xs : List Int) (q : Nat) (h : q < xs.length) : argN (xs.drop q) = xs.getD q 0 + 256 * argN (xs.drop (q + 1)) := by
  rw [List.drop_eq_getElem_cons h]; simp [argN, List.getD, List.getElem?_eq_getElem h]
theorem arg_bd (xs : List Int) (q : Nat) (hl : xs.length ≤ 2) (hb : bytesB xs = true) : 0 ≤ argN (xs.drop q) ∧ argN (xs.drop q) ≤ 65535 ∧ (1 ≤ q → argN (xs.drop q) ≤ 255) := by
  match xs, hl with
  | [], _ => simp [argN]
  | [x], _ =>
    have := byteB_yes (show byteB x = true by simpa [bytesB] using hb)
    rcases q with _ | q
    · simp [argN]; omega
    · simp [argN]
  | [x, y], _ =>
    have h2 : byteB x = true ∧ byteB y = true := by simpa [bytesB] using hb
    have := byteB_yes h2.1
    have := byteB_yes h2.2
    rcases q with _ | _ | q
    · simp [argN]; omega
    · simp [argN]; omega
    · simp [argN]
theorem impl_argOf (A : Option Addr) (n c : Nat) (xs : List Int) (fa : List Nat) (w : World) (ha : Ints w A n xs fa) (hn : n ≤ 2) (hb : bytesB xs = true) :
    Calls Tryd.prog 79 #[.slice A n c] w fun e w' => e = .returned (.int .i64 (argN xs)) ∧ w = w' := by
  have hl := ha.1
  have HA := Lib.hid ha
  have HB := Lib.hid hb
  have HL := Lib.hid hl
  clear ha hb hl
  go_enter Tryd.func79, Tryd.ntmps79
  go_wp2
  go_loop [3, 4] (fun v i => ∃ m : Int, -1 ≤ m ∧ m < n ∧ i = .int .i64 m ∧ v = .int .i64 (argN (xs.drop (m + 1).toNat))) (fun _ i => (intOf i + 1).toNat)
  case atStart => exact ⟨(n : Int) - 1, by omega, by omega, rfl, by rw [show ((n : Int) - 1 + 1).toNat = n by omega, List.drop_of_length_le (by rw [HL.out]; omega)]; rfl⟩
  case round =>
    obtain ⟨m, m0, m1, rfl, rfl⟩ := hrel
    by_cases hm : 0 ≤ m
    · obtain ⟨q, rfl⟩ : ∃ q : Nat, m = q := ⟨m.toNat, by omega⟩
      have hq : q < n := by omega
      obtain ⟨b, o, rfl, _, hbb, hc⟩ := HA.out.at_ (by omega)
      have c0 := hc q hq
      clear hc
      have HS := Lib.hid (arg_drop xs q (by rw [HL.out]; exact hq))
      obtain ⟨d0, d1, d2⟩ := arg_bd xs (q + 1) (by rw [HL.out]; exact hn) HB.out
      have d3 := d2 (by omega)
      obtain ⟨f0, f1, _⟩ := arg_bd xs q (by rw [HL.out]; exact hn) HB.out
      have x0 := byteB_yes ((bytesB_iff xs).1 HB.out q (by rw [HL.out]; exact hq))
      rw [show ((q : Int) + 1).toNat = q + 1 by omega]
      generalize xs.getD q 0 = x at c0 HS x0
      generalize hD : argN (xs.drop (q + 1)) = D at d0 d1 d2 d3 HS
      have HD := Lib.hid hD
      clear hD d2 m0 m1
      obtain ⟨x0, x1⟩ := x0
      go_wp2
      go_round
      case rel => exact ⟨(q : Int) - 1, by omega, by omega, by go_num, by rw [show ((q : Int) - 1 + 1).toNat = q by omega, HS.out]; congr 1; omega⟩
      case measure => simp [intOf]
    · obtain rfl : m = -1 := by omega
      clear hm m0 m1
      go_wp2
      go_ret
      exact ⟨rfl, rfl⟩
/-- The numbers behind the operation. -/
theorem behind_ints {w : World} {b o n k L : Nat} {xs : List Int} (hl : xs.length = n) (hb : b < w.heap.size) (hc : ∀ j, j < n → w.cell? ⟨b, o + j, none⟩ = some (.int .i64 (xs.getD j 0))) (hL : 1 ≤ L) (hk : k + 1 + L ≤ n) :
    Ints w (some ⟨b, o + (k + 1), none⟩) L ((xs.drop (k + 1)).take L) [b] := by
  refine ⟨by simp; omega, .inr ⟨by omega, b, o + (k + 1), rfl, rfl, hb, fun i hi => ?_⟩⟩
  rw [Nat.add_assoc, hc (k + 1 + i) (by omega)]
  simp [List.getD_eq_getElem?_getD, hi, List.getElem?_drop]
theorem ints_drew {w : World} {A : Option Addr} {n : Nat} {xs : List Int} {fp : List Nat} (h : Ints w A n xs fp) : Ints w.drew A n xs fp := h
theorem take_one (xs : List Int) (k : Nat) (h : k + 1 < xs.length) : (xs.drop (k + 1)).take 1 = [xs.getD (k + 1) 0] := by
  refine list_ext0 _ _ (by simp; omega) fun i hi => ?_
  have : i = 0 := by simpa using hi
  subst this
  simp [List.getD_eq_getElem?_getD]
theorem take_two (xs : List Int) (k : Nat) (h : k + 2 < xs.length) : (xs.drop (k + 1)).take 2 = [xs.getD (k + 1) 0, xs.getD (k + 2) 0] := by
  refine list_ext0 _ _ (by simp; omega) fun i hi => ?_
  have : i = 0 ∨ i = 1 := by simp at hi; omega
  rcases this with rfl | rfl
  · simp [List.getD_eq_getElem?_getD]
  · simp [List.getD_eq_getElem?_getD]
theorem lenN_known {op : Int} (h : betB op 0 15 = true) : 1 ≤ lenN op := by
  obtain ⟨h0, h1⟩ := betB_yes h
  have hc : op = 0 ∨ op = 1 ∨ op = 2 ∨ op = 3 ∨ op = 4 ∨ op = 5 ∨ op = 6 ∨ op = 7 ∨ op = 8 ∨ op = 9 ∨ op = 10 ∨ op = 11 ∨ op = 12 ∨ op = 13 ∨ op = 14 ∨ op = 15 := by omega
  rcases hc with rfl | rfl | rfl | rfl | rfl | rfl | rfl | rfl | rfl | rfl | rfl | rfl | rfl | rfl | rfl | rfl <;> decide
set_option maxHeartbeats 4000000 in
theorem impl_dec (A : Option Addr) (n c : Nat) (xs : List Int) (fa : List Nat) (i : Int) (w : World) (ho : Ops w) (ha : Ints w A n xs fa) (hn : n ≤ 1000000000) (hnc : n ≤ c) :
    Calls Tryd.prog 56 #[.slice A n c, .int .i64 i] w (Decoded (decN xs i) w) := by
  have hl := ha.1
  have HO := Lib.hid ho
  clear ho
  by_cases hi : betB i 0 ((n : Int) - 1) = true
  · obtain ⟨i0, i1⟩ := betB_yes hi
    obtain ⟨k, rfl⟩ : ∃ k : Nat, i = k := ⟨i.toNat, by omega⟩
    clear hi i0
    have hk : k < n := by omega
    obtain ⟨b, o, rfl, _, hb, hc⟩ := ha.at_ (by omega)
    have c0 := hc k hk
    have HC := Lib.hid hc
    clear hc ha
    have D0 := Lib.hid (dec_zero (xs := xs) (k := k))
    have D9 := Lib.hid (dec_far (xs := xs) (k := k))
    have D1 := Lib.hid (dec_one (xs := xs) (k := k) (by omega))
    have D2 := Lib.hid (dec_two (xs := xs) (k := k) (by omega))
    have D3 := Lib.hid (dec_three (xs := xs) (k := k) (by omega))
    rw [hl] at D9 D2 D3
    generalize xs.getD k 0 = op at c0 D0 D1 D2 D3 D9
    have HX := Lib.hid hl
    clear hl
    obtain ⟨l0, l1⟩ := lenN_bd op
    have hK1 : betB op 0 15 = true → 1 ≤ lenN op := lenN_known
    have hK0 : betB op 0 15 = false → lenN op = 0 := lenN_no
    generalize hL : lenN op = L at l0 l1 D0 D1 D2 D3 D9 hK1 hK0
    have HL := Lib.hid hL
    generalize hBB : betB op 0 15 = B at hK1 hK0
    have HBB := Lib.hid hBB
    clear hL hBB
    go_enter Tryd.func56, Tryd.ntmps56
    have KK1 := Lib.hid hK1
    have KK0 := Lib.hid hK0
    clear hK1 hK0
    go_wp2_with fail
    refine (impl_opOf _ _ (HO.out.below (below1 w _))).mono ?_; rintro e w1 ⟨rfl, b1⟩
    rw [HL.out, HBB.out]
    generalize topN op = T
    generalize nameN op = NM
    have X1 : Hid (Box w1 w.heap.size 61 [.int .i64 0, .int .i64 0]) := (Box.new w _ _).below b1
    have B1 : Hid (Below w.heap.size w w1) := (below1 w _).trans (b1.mono (by simp))
    have z1 : w.heap.size < w1.heap.size := X1.out.lt
    have CC : Hid (∀ j, j < n → w1.cell? ⟨b, o + j, none⟩ = some (.int .i64 (xs.getD j 0))) := fun j hj => (B1.out.cell (p := ⟨b, o + j, none⟩) hb).trans (HC.out j hj)
    have c1 : w1.cell? ⟨b, o + k, none⟩ = some (.int .i64 op) := (B1.out.cell (p := ⟨b, o + k, none⟩) hb).trans c0
    have hb1 : b < w1.heap.size := by omega
    clear b1 c0 HC
    have e0 : w1.cell? ⟨w.heap.size, 0, none⟩ = some (.int .i64 0) := X1.out.cell 0
    have e1 : w1.cell? ⟨w.heap.size, 1, none⟩ = some (.int .i64 0) := X1.out.cell 1
    have e2 := X1.out.frozen 0
    have e3 := X1.out.frozen 1
    have FIN2 : Hid (∀ (u v : Value) (o1 : Obj), Below w.heap.size w (((w1.setCell ⟨w.heap.size, 0, none⟩ u).setCell ⟨w.heap.size, 1, none⟩ v).alloc o1)) := fun u v o1 => ((B1.out.setCell (show w.heap.size ≤ w.heap.size from Nat.le_refl _) u).setCell (show w.heap.size ≤ w.heap.size from Nat.le_refl _) v).alloc (by simp; omega) o1
    cases B
    · have HN := Lib.hid (D0.out (KK0.out rfl))
      clear D0 D1 D2 D3 D9
      go_wp2_with fail
      refine bodyPost_ret (v := .tuple #[.agg #[.int .i64 0, .int .i64 0], .int .i64 0, .bool false]) (by simp [results, Tryd.results56, go_sem, e0, e1, z1]) rfl ?_
      exact decoded_none HN.out (FIN2.out _ _ _)
    · have hL1 := KK1.out rfl
      by_cases h9 : (n : Int) - k < L
      · have HN := Lib.hid (D9.out (by omega))
        clear D0 D1 D2 D3 D9
        go_wp2_with fail
        refine bodyPost_ret (v := .tuple #[.agg #[.int .i64 0, .int .i64 0], .int .i64 0, .bool false]) (by simp [results, Tryd.results56, go_sem, e0, e1, z1]) rfl ?_
        exact decoded_none HN.out (FIN2.out _ _ _)
      · have hd : decide ((n : Int) - k < L) = false := by simpa using h9
        clear D0 D9
        have hc3 : L = 1 ∨ L = 2 ∨ L = 3 := by omega
        rcases hc3 with rfl | rfl | rfl
        · have HN := Lib.hid (D1.out rfl)
          have HV := Lib.hid (show ordB op 0 = true by simp [ordB, HL.out])
          have HBY := Lib.hid (show bytesB [] = true from rfl)
          have HAR := Lib.hid (show argN [] = 0 from rfl)
          clear D1 D2 D3
          by_cases hkc : k + 1 = c
          · have BI : Hid (Ints (w1.alloc (.cells #[.string ⟨NM.toArray⟩, .int .i64 1, .int .i64 T] 90)) (some ⟨b, o, none⟩) 0 [] []) := .nil _ _
            go_wp2_with fail
            refine (allBytes_any _ _ _ _ _ _ BI.out (by omega)).mono ?_; rintro e w' ⟨rfl, rfl⟩
            rw [HBY.out]
            go_wp2_with fail
            clear e0 e1 e2 e3
            have BJ := Lib.hid (BI.out.below (below1 _ (.cells #[.int .i64 0, .int .i64 0] 61)))
            go_cut [10] (fun t10 wc => t10 = .pointer (some ⟨w1.heap.size + 1, 0, none⟩) ∧ wc = ((w1.alloc (.cells #[.string ⟨NM.toArray⟩, .int .i64 1, .int .i64 T] 90)).alloc (.cells #[.int .i64 op, .int .i64 0] 61)).drew)
            case first =>
              go_region_with (go_at_call 79; refine (impl_argOf _ _ _ _ _ _ (by first | (with_reducible exact ints_drew BI.out) | (with_reducible exact ints_drew BJ.out)) (by omega) HBY.out).mono ?_; rintro e w' ⟨rfl, rfl⟩; rw [HAR.out])
              all_goals (go_wp2; go_meet; case rel => exact ⟨rfl, rfl⟩)
            case rest =>
              obtain ⟨rfl, rfl⟩ := hcut
              go_wp2_with fail
              refine (impl_ordValid _ _ _ (HO.out.below ((B1.out.alloc B1.out.size _).alloc (by simp; omega) _).drew)).mono ?_; rintro e w2 ⟨rfl, b2⟩
              rw [HV.out]
              have b3 : Below (w1.heap.size + 2) ((w1.alloc (.cells #[.string ⟨NM.toArray⟩, .int .i64 1, .int .i64 T] 90)).alloc (.cells #[.int .i64 op, .int .i64 0] 61)) w2 := ⟨b2.os, b2.tape, b2.output, b2.size, fun k hk => b2.block k (by simpa using hk)⟩
              have X2 := Lib.hid (((X1.out.alloc _).alloc _).keep b3 (by omega))
              have Y2 : Hid (Box w2 (w1.heap.size + 1) 61 [.int .i64 op, .int .i64 0]) := (Box.new_at _ _ _ (w1.heap.size + 1) (by simp)).keep b3 (by omega)
              have Z2 : Hid (Box w2 w1.heap.size 90 [.string ⟨NM.toArray⟩, .int .i64 1, .int .i64 T]) := ((Box.new w1 _ _).alloc _).keep b3 (by omega)
              have B2 : Hid (Below w.heap.size w w2) := ((B1.out.alloc B1.out.size _).alloc (by simp; omega) _).trans (b3.mono (by omega))
              have z2 : w1.heap.size + 1 < w2.heap.size := Y2.out.lt
              clear b2 b3
              have e0 : w2.cell? ⟨w.heap.size, 0, none⟩ = some (.int .i64 0) := X2.out.cell 0
              have e1 : w2.cell? ⟨w.heap.size, 1, none⟩ = some (.int .i64 0) := X2.out.cell 1
              have e2 := X2.out.frozen 0
              have e3 := X2.out.frozen 1
              have y0 : w2.cell? ⟨w1.heap.size + 1, 0, none⟩ = some (.int .i64 op) := Y2.out.cell 0
              have y1 : w2.cell? ⟨w1.heap.size + 1, 1, none⟩ = some (.int .i64 0) := Y2.out.cell 1
              have y2 : w2.cell? ⟨w1.heap.size, 1, none⟩ = some (.int .i64 1) := Z2.out.cell 1
              go_wp2_with fail
              go_region
              all_goals
                go_wp2_with fail
                refine bodyPost_ret (v := .tuple #[.agg #[.int .i64 op, .int .i64 0], .int .i64 1, .bool true]) (by simp [results, Tryd.results56, go_sem, e0, e1]) rfl ?_
                exact decoded_some HN.out HL.out ((B2.out.setCell (show w.heap.size ≤ w.heap.size from Nat.le_refl _) _).setCell (show w.heap.size ≤ w.heap.size from Nat.le_refl _) _).drew
          · have BI : Hid (Ints (w1.alloc (.cells #[.string ⟨NM.toArray⟩, .int .i64 1, .int .i64 T] 90)) (some ⟨b, o + (k + 1), none⟩) 0 [] []) := .nil _ _
            have hkd : k + 1 < c := by omega
            clear hkc
            go_wp2_with fail
            refine (allBytes_any _ _ _ _ _ _ BI.out (by omega)).mono ?_; rintro e w' ⟨rfl, rfl⟩
            rw [HBY.out]
            go_wp2_with fail
            clear e0 e1 e2 e3
            have BJ := Lib.hid (BI.out.below (below1 _ (.cells #[.int .i64 0, .int .i64 0] 61)))
            go_cut [10] (fun t10 wc => t10 = .pointer (some ⟨w1.heap.size + 1, 0, none⟩) ∧ wc = ((w1.alloc (.cells #[.string ⟨NM.toArray⟩, .int .i64 1, .int .i64 T] 90)).alloc (.cells #[.int .i64 op, .int .i64 0] 61)).drew)
            case first =>
              go_region_with (go_at_call 79; refine (impl_argOf _ _ _ _ _ _ (by first | (with_reducible exact ints_drew BI.out) | (with_reducible exact ints_drew BJ.out)) (by omega) HBY.out).mono ?_; rintro e w' ⟨rfl, rfl⟩; rw [HAR.out])
              all_goals (go_wp2; go_meet; case rel => exact ⟨rfl, rfl⟩)
            case rest =>
              obtain ⟨rfl, rfl⟩ := hcut
              go_wp2_with fail
              refine (impl_ordValid _ _ _ (HO.out.below ((B1.out.alloc B1.out.size _).alloc (by simp; omega) _).drew)).mono ?_; rintro e w2 ⟨rfl, b2⟩
              rw [HV.out]
              have b3 : Below (w1.heap.size + 2) ((w1.alloc (.cells #[.string ⟨NM.toArray⟩, .int .i64 1, .int .i64 T] 90)).alloc (.cells #[.int .i64 op, .int .i64 0] 61)) w2 := ⟨b2.os, b2.tape, b2.output, b2.size, fun k hk => b2.block k (by simpa using hk)⟩
              have X2 := Lib.hid (((X1.out.alloc _).alloc _).keep b3 (by omega))
              have Y2 : Hid (Box w2 (w1.heap.size + 1) 61 [.int .i64 op, .int .i64 0]) := (Box.new_at _ _ _ (w1.heap.size + 1) (by simp)).keep b3 (by omega)
              have Z2 : Hid (Box w2 w1.heap.size 90 [.string ⟨NM.toArray⟩, .int .i64 1, .int .i64 T]) := ((Box.new w1 _ _).alloc _).keep b3 (by omega)
              have B2 : Hid (Below w.heap.size w w2) := ((B1.out.alloc B1.out.size _).alloc (by simp; omega) _).trans (b3.mono (by omega))
              have z2 : w1.heap.size + 1 < w2.heap.size := Y2.out.lt
              clear b2 b3
              have e0 : w2.cell? ⟨w.heap.size, 0, none⟩ = some (.int .i64 0) := X2.out.cell 0
              have e1 : w2.cell? ⟨w.heap.size, 1, none⟩ = some (.int .i64 0) := X2.out.cell 1
              have e2 := X2.out.frozen 0
              have e3 := X2.out.frozen 1
              have y0 : w2.cell? ⟨w1.heap.size + 1, 0, none⟩ = some (.int .i64 op) := Y2.out.cell 0
              have y1 : w2.cell? ⟨w1.heap.size + 1, 1, none⟩ = some (.int .i64 0) := Y2.out.cell 1
              have y2 : w2.cell? ⟨w1.heap.size, 1, none⟩ = some (.int .i64 1) := Z2.out.cell 1
              go_wp2_with fail
              go_region
              all_goals
                go_wp2_with fail
                refine bodyPost_ret (v := .tuple #[.agg #[.int .i64 op, .int .i64 0], .int .i64 1, .bool true]) (by simp [results, Tryd.results56, go_sem, e0, e1]) rfl ?_
                exact decoded_some HN.out HL.out ((B2.out.setCell (show w.heap.size ≤ w.heap.size from Nat.le_refl _) _).setCell (show w.heap.size ≤ w.heap.size from Nat.le_refl _) _).drew
        · have HN := Lib.hid (D2.out rfl (by omega))
          have BI0 := Lib.hid (behind_ints (w := w1) (o := o) (k := k) (L := 1) HX.out hb1 CC.out (by omega) (by omega))
          rw [take_one xs k (by rw [HX.out]; omega)] at BI0
          generalize xs.getD (k + 1) 0 = x at HN BI0
          have BI := Lib.hid (BI0.out.below (below1 w1 (.cells #[.string ⟨NM.toArray⟩, .int .i64 2, .int .i64 T] 90)))
          have HAR := Lib.hid (show argN [x] = x by simp [argN])
          have HV := Lib.hid (show ordB op x = byteB x by simp [ordB, HL.out])
          have hkd : k + 1 < c := by omega
          clear D1 D2 D3 BI0
          by_cases hbx : byteB x = true
          · have HM := Lib.hid (HN.out.trans (if_pos hbx))
            have HBY := Lib.hid (show bytesB [x] = true by simp [bytesB, hbx])
            rw [hbx] at HV
            clear hbx
            go_wp2_with fail
            refine (allBytes_any _ _ _ _ _ _ BI.out (by omega)).mono ?_; rintro e w' ⟨rfl, rfl⟩
            rw [HBY.out]
            go_wp2_with fail
            clear e0 e1 e2 e3
            have BJ := Lib.hid (BI.out.below (below1 _ (.cells #[.int .i64 0, .int .i64 0] 61)))
            go_cut [10] (fun t10 wc => t10 = .pointer (some ⟨w1.heap.size + 1, 0, none⟩) ∧ wc = ((w1.alloc (.cells #[.string ⟨NM.toArray⟩, .int .i64 2, .int .i64 T] 90)).alloc (.cells #[.int .i64 op, .int .i64 x] 61)).drew)
            case first =>
              go_region_with (go_at_call 79; refine (impl_argOf _ _ _ _ _ _ (by first | (with_reducible exact ints_drew BI.out) | (with_reducible exact ints_drew BJ.out)) (by omega) HBY.out).mono ?_; rintro e w' ⟨rfl, rfl⟩; rw [HAR.out])
              all_goals (go_wp2; go_meet; case rel => exact ⟨rfl, rfl⟩)
            case rest =>
              obtain ⟨rfl, rfl⟩ := hcut
              go_wp2_with fail
              refine (impl_ordValid _ _ _ (HO.out.below ((B1.out.alloc B1.out.size _).alloc (by simp; omega) _).drew)).mono ?_; rintro e w2 ⟨rfl, b2⟩
              rw [HV.out]
              have b3 : Below (w1.heap.size + 2) ((w1.alloc (.cells #[.string ⟨NM.toArray⟩, .int .i64 2, .int .i64 T] 90)).alloc (.cells #[.int .i64 op, .int .i64 x] 61)) w2 := ⟨b2.os, b2.tape, b2.output, b2.size, fun k hk => b2.block k (by simpa using hk)⟩
              have X2 := Lib.hid (((X1.out.alloc _).alloc _).keep b3 (by omega))
              have Y2 : Hid (Box w2 (w1.heap.size + 1) 61 [.int .i64 op, .int .i64 x]) := (Box.new_at _ _ _ (w1.heap.size + 1) (by simp)).keep b3 (by omega)
              have Z2 : Hid (Box w2 w1.heap.size 90 [.string ⟨NM.toArray⟩, .int .i64 2, .int .i64 T]) := ((Box.new w1 _ _).alloc _).keep b3 (by omega)
              have B2 : Hid (Below w.heap.size w w2) := ((B1.out.alloc B1.out.size _).alloc (by simp; omega) _).trans (b3.mono (by omega))
              have z2 : w1.heap.size + 1 < w2.heap.size := Y2.out.lt
              clear b2 b3
              have e0 : w2.cell? ⟨w.heap.size, 0, none⟩ = some (.int .i64 0) := X2.out.cell 0
              have e1 : w2.cell? ⟨w.heap.size, 1, none⟩ = some (.int .i64 0) := X2.out.cell 1
              have e2 := X2.out.frozen 0
              have e3 := X2.out.frozen 1
              have y0 : w2.cell? ⟨w1.heap.size + 1, 0, none⟩ = some (.int .i64 op) := Y2.out.cell 0
              have y1 : w2.cell? ⟨w1.heap.size + 1, 1, none⟩ = some (.int .i64 x) := Y2.out.cell 1
              have y2 : w2.cell? ⟨w1.heap.size, 1, none⟩ = some (.int .i64 2) := Z2.out.cell 1
              go_wp2_with fail
              go_region
              all_goals
                go_wp2_with fail
                refine bodyPost_ret (v := .tuple #[.agg #[.int .i64 op, .int .i64 x], .int .i64 2, .bool true]) (by simp [results, Tryd.results56, go_sem, e0, e1]) rfl ?_
                exact decoded_some HM.out HL.out ((B2.out.setCell (show w.heap.size ≤ w.heap.size from Nat.le_refl _) _).setCell (show w.heap.size ≤ w.heap.size from Nat.le_refl _) _).drew
          · have HM := Lib.hid (HN.out.trans (if_neg hbx))
            have HBY := Lib.hid (show bytesB [x] = false by simp [bytesB, hbx])
            clear hbx
            go_wp2_with fail
            refine (allBytes_any _ _ _ _ _ _ BI.out (by omega)).mono ?_; rintro e w' ⟨rfl, rfl⟩
            rw [HBY.out]
            go_wp2_with fail
            refine bodyPost_ret (v := .tuple #[.agg #[.int .i64 0, .int .i64 0], .int .i64 0, .bool false]) (by simp [results, Tryd.results56, go_sem, e0, e1, z1]) rfl ?_
            exact decoded_none HM.out (FIN2.out _ _ _)
        · have HN := Lib.hid (D3.out rfl (by omega))
          have BI0 := Lib.hid (behind_ints (w := w1) (o := o) (k := k) (L := 2) HX.out hb1 CC.out (by omega) (by omega))
          rw [take_two xs k (by rw [HX.out]; omega)] at BI0
          generalize xs.getD (k + 1) 0 = x at HN BI0
          generalize xs.getD (k + 2) 0 = y at HN BI0
          have BI := Lib.hid (BI0.out.below (below1 w1 (.cells #[.string ⟨NM.toArray⟩, .int .i64 3, .int .i64 T] 90)))
          have HAR := Lib.hid (show argN [x, y] = x + 256 * y by simp [argN])
          have hkd : k + 1 < c := by omega
          clear D1 D2 D3 BI0
          by_cases hbx : byteB x = true ∧ byteB y = true
          · have HBY := Lib.hid (show bytesB [x, y] = true by simp [bytesB, hbx])
            obtain ⟨hx, hy⟩ := hbx
            obtain ⟨x0, x1⟩ := byteB_yes hx
            obtain ⟨y0', y1'⟩ := byteB_yes hy
            by_cases hby : betB y 0 3 = true
            · have HM := Lib.hid (HN.out.trans (if_pos ⟨hx, hby⟩))
              have HV := Lib.hid (show ordB op (x + 256 * y) = true by have := betB_yes hby; simp [ordB, HL.out, addrB]; omega)
              clear hx hy hby
              go_wp2_with fail
              refine (allBytes_any _ _ _ _ _ _ BI.out (by omega)).mono ?_; rintro e w' ⟨rfl, rfl⟩
              rw [HBY.out]
              go_wp2_with fail
              clear e0 e1 e2 e3
              have BJ := Lib.hid (BI.out.below (below1 _ (.cells #[.int .i64 0, .int .i64 0] 61)))
              go_cut [10] (fun t10 wc => t10 = .pointer (some ⟨w1.heap.size + 1, 0, none⟩) ∧ wc = ((w1.alloc (.cells #[.string ⟨NM.toArray⟩, .int .i64 3, .int .i64 T] 90)).alloc (.cells #[.int .i64 op, .int .i64 (x + 256 * y)] 61)).drew)
              case first =>
                go_region_with (go_at_call 79; refine (impl_argOf _ _ _ _ _ _ (by first | (with_reducible exact ints_drew BI.out) | (with_reducible exact ints_drew BJ.out)) (by omega) HBY.out).mono ?_; rintro e w' ⟨rfl, rfl⟩; rw [HAR.out])
                all_goals (go_wp2; go_meet; case rel => exact ⟨rfl, rfl⟩)
              case rest =>
                obtain ⟨rfl, rfl⟩ := hcut
                go_wp2_with fail
                refine (impl_ordValid _ _ _ (HO.out.below ((B1.out.alloc B1.out.size _).alloc (by simp; omega) _).drew)).mono ?_; rintro e w2 ⟨rfl, b2⟩
                rw [HV.out]
                have b3 : Below (w1.heap.size + 2) ((w1.alloc (.cells #[.string ⟨NM.toArray⟩, .int .i64 3, .int .i64 T] 90)).alloc (.cells #[.int .i64 op, .int .i64 (x + 256 * y)] 61)) w2 := ⟨b2.os, b2.tape, b2.output, b2.size, fun k hk => b2.block k (by simpa using hk)⟩
                have X2 := Lib.hid (((X1.out.alloc _).alloc _).keep b3 (by omega))
                have Y2 : Hid (Box w2 (w1.heap.size + 1) 61 [.int .i64 op, .int .i64 (x + 256 * y)]) := (Box.new_at _ _ _ (w1.heap.size + 1) (by simp)).keep b3 (by omega)
                have Z2 : Hid (Box w2 w1.heap.size 90 [.string ⟨NM.toArray⟩, .int .i64 3, .int .i64 T]) := ((Box.new w1 _ _).alloc _).keep b3 (by omega)
                have B2 : Hid (Below w.heap.size w w2) := ((B1.out.alloc B1.out.size _).alloc (by simp; omega) _).trans (b3.mono (by omega))
                have z2 : w1.heap.size + 1 < w2.heap.size := Y2.out.lt
                clear b2 b3
                have e0 : w2.cell? ⟨w.heap.size, 0, none⟩ = some (.int .i64 0) := X2.out.cell 0
                have e1 : w2.cell? ⟨w.heap.size, 1, none⟩ = some (.int .i64 0) := X2.out.cell 1
                have e2 := X2.out.frozen 0
                have e3 := X2.out.frozen 1
                have y0 : w2.cell? ⟨w1.heap.size + 1, 0, none⟩ = some (.int .i64 op) := Y2.out.cell 0
                have y1 : w2.cell? ⟨w1.heap.size + 1, 1, none⟩ = some (.int .i64 (x + 256 * y)) := Y2.out.cell 1
                have y2 : w2.cell? ⟨w1.heap.size, 1, none⟩ = some (.int .i64 3) := Z2.out.cell 1
                go_wp2_with fail
                go_region
                all_goals
                  go_wp2_with fail
                  refine bodyPost_ret (v := .tuple #[.agg #[.int .i64 op, .int .i64 (x + 256 * y)], .int .i64 3, .bool true]) (by simp [results, Tryd.results56, go_sem, e0, e1]) rfl ?_
                  exact decoded_some HM.out HL.out ((B2.out.setCell (show w.heap.size ≤ w.heap.size from Nat.le_refl _) _).setCell (show w.heap.size ≤ w.heap.size from Nat.le_refl _) _).drew
            · have HM := Lib.hid (HN.out.trans (if_neg (fun h => hby h.2)))
              have HV := Lib.hid (show ordB op (x + 256 * y) = false by have := betB_no (show betB y 0 3 = false by simpa using hby); simp [ordB, HL.out, addrB]; omega)
              clear hx hy hby
              go_wp2_with fail
              refine (allBytes_any _ _ _ _ _ _ BI.out (by omega)).mono ?_; rintro e w' ⟨rfl, rfl⟩
              rw [HBY.out]
              go_wp2_with fail
              clear e0 e1 e2 e3
              have BJ := Lib.hid (BI.out.below (below1 _ (.cells #[.int .i64 0, .int .i64 0] 61)))
              go_cut [10] (fun t10 wc => t10 = .pointer (some ⟨w1.heap.size + 1, 0, none⟩) ∧ wc = ((w1.alloc (.cells #[.string ⟨NM.toArray⟩, .int .i64 3, .int .i64 T] 90)).alloc (.cells #[.int .i64 op, .int .i64 (x + 256 * y)] 61)).drew)
              case first =>
                go_region_with (go_at_call 79; refine (impl_argOf _ _ _ _ _ _ (by first | (with_reducible exact ints_drew BI.out) | (with_reducible exact ints_drew BJ.out)) (by omega) HBY.out).mono ?_; rintro e w' ⟨rfl, rfl⟩; rw [HAR.out])
                all_goals (go_wp2; go_meet; case rel => exact ⟨rfl, rfl⟩)
              case rest =>
                obtain ⟨rfl, rfl⟩ := hcut
                go_wp2_with fail
                refine (impl_ordValid _ _ _ (HO.out.below ((B1.out.alloc B1.out.size _).alloc (by simp; omega) _).drew)).mono ?_; rintro e w2 ⟨rfl, b2⟩
                rw [HV.out]
                have b3 : Below (w1.heap.size + 2) ((w1.alloc (.cells #[.string ⟨NM.toArray⟩, .int .i64 3, .int .i64 T] 90)).alloc (.cells #[.int .i64 op, .int .i64 (x + 256 * y)] 61)) w2 := ⟨b2.os, b2.tape, b2.output, b2.size, fun k hk => b2.block k (by simpa using hk)⟩
                have X2 := Lib.hid (((X1.out.alloc _).alloc _).keep b3 (by omega))
                have Y2 : Hid (Box w2 (w1.heap.size + 1) 61 [.int .i64 op, .int .i64 (x + 256 * y)]) := (Box.new_at _ _ _ (w1.heap.size + 1) (by simp)).keep b3 (by omega)
                have Z2 : Hid (Box w2 w1.heap.size 90 [.string ⟨NM.toArray⟩, .int .i64 3, .int .i64 T]) := ((Box.new w1 _ _).alloc _).keep b3 (by omega)
                have B2 : Hid (Below w.heap.size w w2) := ((B1.out.alloc B1.out.size _).alloc (by simp; omega) _).trans (b3.mono (by omega))
                have z2 : w1.heap.size + 1 < w2.heap.size := Y2.out.lt
                clear b2 b3
                have e0 : w2.cell? ⟨w.heap.size, 0, none⟩ = some (.int .i64 0) := X2.out.cell 0
                have e1 : w2.cell? ⟨w.heap.size, 1, none⟩ = some (.int .i64 0) := X2.out.cell 1
                have e2 := X2.out.frozen 0
                have e3 := X2.out.frozen 1
                go_wp2_with fail
                refine bodyPost_ret (v := .tuple #[.agg #[.int .i64 0, .int .i64 0], .int .i64 0, .bool false]) (by simp [results, Tryd.results56, go_sem, e0, e1]) rfl ?_
                exact decoded_none HM.out ((B2.out.setCell (show w.heap.size ≤ w.heap.size from Nat.le_refl _) _).setCell (show w.heap.size ≤ w.heap.size from Nat.le_refl _) _)
          · have HM := Lib.hid (HN.out.trans (if_neg (fun h => hbx ⟨h.1, by have := betB_yes h.2; exact byteB_mk (by omega) (by omega)⟩)))
            have HBY := Lib.hid (show bytesB [x, y] = false by simpa [bytesB] using hbx)
            clear hbx
            go_wp2_with fail
            refine (allBytes_any _ _ _ _ _ _ BI.out (by omega)).mono ?_; rintro e w' ⟨rfl, rfl⟩
            rw [HBY.out]
            go_wp2_with fail
            refine bodyPost_ret (v := .tuple #[.agg #[.int .i64 0, .int .i64 0], .int .i64 0, .bool false]) (by simp [results, Tryd.results56, go_sem, e0, e1, z1]) rfl ?_
            exact decoded_none HM.out (FIN2.out _ _ _)
  · have HN := Lib.hid (dec_out (xs := xs) (i := i) (by rw [hl]; simpa using hi))
    have ho := betB_no (show betB i 0 ((n : Int) - 1) = false by simpa using hi)
    clear hi ha hl
    have ho2 : i < 0 ∨ (0 ≤ i ∧ (n : Int) ≤ i) := by omega
    clear ho
    rcases ho2 with ho | ⟨ho, ho'⟩
    all_goals
      go_enter Tryd.func56, Tryd.ntmps56
      go_wp2_with fail
      refine bodyPost_ret (v := .tuple #[.agg #[.int .i64 0, .int .i64 0], .int .i64 0, .bool false]) (by simp [results, Tryd.results56, go_sem]) rfl ?_
      exact decoded_none HN.out (below1 w _)
end Go.Proofs.YtcapfafglikcmaaDoor
