/- Decoding instructions: what a list of numbers holds at a place; the model's DecodeOrder. -/
import Derived.Test.YtgciaafapbaliaaGreatDoorOrderD
import Derived.RegionTactic
import Derived.ChangeAlike
namespace Go.Proofs.YtgciaafapbaliaaGreatDoor
open Go.ChangeShapes Go.WideShapes Go.ChangeAt Go.RowKit

/-- The instruction whose bytes begin a list at a place: its operation and its argument. -/
def decN (xs : List Int) (i : Int) : Option (Int × Int) :=
  if betB i 0 (xs.length - 1) = true ∧ lenN (xs.getD i.toNat 0) ≠ 0 ∧ i ≤ xs.length - lenN (xs.getD i.toNat 0) then
    if lenN (xs.getD i.toNat 0) = 1 then some (xs.getD i.toNat 0, 0)
    else if lenN (xs.getD i.toNat 0) = 2 then (if byteB (xs.getD (i.toNat + 1) 0) = true then some (xs.getD i.toNat 0, xs.getD (i.toNat + 1) 0) else none)
    else if byteB (xs.getD (i.toNat + 1) 0) = true ∧ betB (xs.getD (i.toNat + 2) 0) 0 3 = true then some (xs.getD i.toNat 0, xs.getD (i.toNat + 1) 0 + 256 * xs.getD (i.toNat + 2) 0) else none
  else none
def decV : Option (Int × Int) → Value
  | some (op, arg) => .tuple #[.agg #[.int .i64 op, .int .i64 arg], .int .i64 (lenN op), .bool true]
  | none => .tuple #[.agg #[.int .i64 0, .int .i64 0], .int .i64 0, .bool false]
def Decoded (d : Option (Int × Int)) (w : World) (e : Ending) (w' : World) : Prop := e = .returned (decV d) ∧ Below w.heap.size w w'
theorem decoded_none {d : Option (Int × Int)} {w w' : World} (h : d = none) (b : Below w.heap.size w w') : Decoded d w (.returned (.tuple #[.agg #[.int .i64 0, .int .i64 0], .int .i64 0, .bool false])) w' := by
  subst h; exact ⟨rfl, b⟩
theorem decoded_some {d : Option (Int × Int)} {w w' : World} {op arg L : Int} (h : d = some (op, arg)) (hL : lenN op = L) (b : Below w.heap.size w w') : Decoded d w (.returned (.tuple #[.agg #[.int .i64 op, .int .i64 arg], .int .i64 L, .bool true])) w' := by
  subst h; subst hL; exact ⟨rfl, b⟩
theorem dec_out {xs : List Int} {i : Int} (h : betB i 0 (xs.length - 1) = false) : decN xs i = none := by simp [decN, h]
theorem dec_zero {xs : List Int} {k : Nat} (h : lenN (xs.getD k 0) = 0) : decN xs k = none := by
  unfold decN; rw [if_neg]; rintro ⟨_, h2, _⟩; exact h2 (by rw [Int.toNat_natCast]; exact h)
theorem dec_far {xs : List Int} {k : Nat} (h : (xs.length : Int) - lenN (xs.getD k 0) < k) : decN xs k = none := by
  unfold decN; rw [if_neg]; rintro ⟨_, _, h3⟩; rw [Int.toNat_natCast] at h3; omega
theorem dec_in {xs : List Int} {k : Nat} (h0 : k < xs.length) (h1 : lenN (xs.getD k 0) ≠ 0) (h2 : (k : Int) ≤ xs.length - lenN (xs.getD k 0)) : betB k 0 (xs.length - 1) = true ∧ lenN (xs.getD (k : Int).toNat 0) ≠ 0 ∧ (k : Int) ≤ xs.length - lenN (xs.getD (k : Int).toNat 0) :=
  ⟨by simp [betB]; omega, by simpa using h1, by simpa using h2⟩
theorem dec_one {xs : List Int} {k : Nat} (h0 : k < xs.length) (h1 : lenN (xs.getD k 0) = 1) : decN xs k = some (xs.getD k 0, 0) := by
  unfold decN; rw [if_pos (dec_in h0 (by omega) (by omega))]; simp only [Int.toNat_natCast]; rw [if_pos h1]
theorem dec_two {xs : List Int} {k : Nat} (h0 : k < xs.length) (h1 : lenN (xs.getD k 0) = 2) (h2 : (k : Int) ≤ xs.length - 2) : decN xs k = if byteB (xs.getD (k + 1) 0) = true then some (xs.getD k 0, xs.getD (k + 1) 0) else none := by
  unfold decN; rw [if_pos (dec_in h0 (by omega) (by omega))]; simp only [Int.toNat_natCast]; rw [if_neg (by omega), if_pos h1]
theorem dec_three {xs : List Int} {k : Nat} (h0 : k < xs.length) (h1 : lenN (xs.getD k 0) = 3) (h2 : (k : Int) ≤ xs.length - 3) : decN xs k = if byteB (xs.getD (k + 1) 0) = true ∧ betB (xs.getD (k + 2) 0) 0 3 = true then some (xs.getD k 0, xs.getD (k + 1) 0 + 256 * xs.getD (k + 2) 0) else none := by
  unfold decN; rw [if_pos (dec_in h0 (by omega) (by omega))]; simp only [Int.toNat_natCast]; rw [if_neg (by omega), if_neg (by omega)]
theorem byteB_bet (x : Int) : betB x 0 255 = byteB x := rfl
theorem spec_dec (A : Option Addr) (n c : Nat) (xs : List Int) (fa : List Nat) (i : Int) (w : World) (ha : Ints w A n xs fa) (hn : n ≤ 1000000000) :
    Calls Tryz.prog 57 #[.slice A n c, .int .i64 i] w (Decoded (decN xs i) w) := by
  have hl := ha.1
  by_cases hi : betB i 0 ((n : Int) - 1) = true
  · have HB := Lib.hid hi
    obtain ⟨i0, i1⟩ := betB_yes hi
    obtain ⟨k, rfl⟩ : ∃ k : Nat, i = k := ⟨i.toNat, by omega⟩
    clear hi i0
    have hk : k < n := by omega
    obtain ⟨b, o, rfl, _, hb, hc⟩ := ha.at_ (by omega)
    have c0 := hc k hk
    have HC := Lib.hid hc
    clear hc ha
    have D0 := Lib.hid (dec_zero (xs := xs) (k := k))
    have D9 := Lib.hid (dec_far (xs := xs) (k := k))
    have D1 := Lib.hid (dec_one (xs := xs) (k := k) (by omega))
    have D2 := Lib.hid (dec_two (xs := xs) (k := k) (by omega))
    have D3 := Lib.hid (dec_three (xs := xs) (k := k) (by omega))
    rw [hl] at D9 D2 D3
    generalize xs.getD k 0 = op at c0 D0 D1 D2 D3 D9
    have HX := Lib.hid hl
    clear hl
    obtain ⟨l0, l1⟩ := lenN_bd op
    generalize hL : lenN op = L at l0 l1 D0 D1 D2 D3 D9
    have HL := Lib.hid hL
    clear hL
    go_enter Tryz.func57, Tryz.ntmps57
    go_wp2_with fail
    refine (l1In_any _ _ _ _).mono ?_; rintro e w' ⟨rfl, rfl⟩
    rw [HB.out]
    go_wp2_with fail
    refine (spec_len _ _).mono ?_; rintro e w1 ⟨rfl, b1⟩
    rw [HL.out]
    have X1 : Hid (Box w1 w.heap.size 57 [.int .i64 0, .int .i64 0]) := (Box.new w _ _).below b1
    have B1 : Hid (Below w.heap.size w w1) := (below1 w _).trans (b1.mono (by simp))
    have z1 : w.heap.size < w1.heap.size := X1.out.lt
    have CC : Hid (∀ j, j < n → w1.cell? ⟨b, o + j, none⟩ = some (.int .i64 (xs.getD j 0))) := fun j hj => (B1.out.cell (p := ⟨b, o + j, none⟩) hb).trans (HC.out j hj)
    have c1 : w1.cell? ⟨b, o + k, none⟩ = some (.int .i64 op) := (B1.out.cell (p := ⟨b, o + k, none⟩) hb).trans c0
    have hb1 : b < w1.heap.size := by omega
    clear b1 c0 HC
    have fin : ∀ (o1 : Obj) (w2 : World), Below w1.heap.size (w1.alloc o1) w2 → ∀ (u v : Value), Below w.heap.size w ((w2.setCell ⟨w.heap.size, 0, none⟩ u).setCell ⟨w.heap.size, 1, none⟩ v) := fun o1 w2 hw u v => (((B1.out.alloc B1.out.size o1).trans (hw.mono B1.out.size)).setCell (show w.heap.size ≤ w.heap.size from Nat.le_refl _) u).setCell (show w.heap.size ≤ w.heap.size from Nat.le_refl _) v
    have FIN := Lib.hid fin
    clear fin
    have FIN2 : Hid (∀ (u v : Value) (o1 : Obj), Below w.heap.size w (((w1.setCell ⟨w.heap.size, 0, none⟩ u).setCell ⟨w.heap.size, 1, none⟩ v).alloc o1)) := fun u v o1 => ((B1.out.setCell (show w.heap.size ≤ w.heap.size from Nat.le_refl _) u).setCell (show w.heap.size ≤ w.heap.size from Nat.le_refl _) v).alloc (by simp; omega) o1
    by_cases h0 : L = 0
    · subst h0
      have HN := Lib.hid (D0.out rfl)
      clear D0 D1 D2 D3 D9
      have e0 : w1.cell? ⟨w.heap.size, 0, none⟩ = some (.int .i64 0) := X1.out.cell 0
      have e1 : w1.cell? ⟨w.heap.size, 1, none⟩ = some (.int .i64 0) := X1.out.cell 1
      have e2 := X1.out.frozen 0
      have e3 := X1.out.frozen 1
      go_wp2_with fail
      refine bodyPost_ret (v := .tuple #[.agg #[.int .i64 0, .int .i64 0], .int .i64 0, .bool false]) (by simp [results, Tryz.results57, go_sem, e0, e1]) rfl ?_
      exact decoded_none HN.out ((B1.out.setCell (show w.heap.size ≤ w.heap.size from Nat.le_refl _) _).setCell (show w.heap.size ≤ w.heap.size from Nat.le_refl _) _)
    · have hq : (L == 0) = false := by simpa using h0
      by_cases h9 : (n : Int) - L < k
      · have HN := Lib.hid (D9.out h9)
        clear D0 D1 D2 D3 D9
        have e0 : w1.cell? ⟨w.heap.size, 0, none⟩ = some (.int .i64 0) := X1.out.cell 0
        have e1 : w1.cell? ⟨w.heap.size, 1, none⟩ = some (.int .i64 0) := X1.out.cell 1
        have e2 := X1.out.frozen 0
        have e3 := X1.out.frozen 1
        go_wp2_with fail
        refine bodyPost_ret (v := .tuple #[.agg #[.int .i64 0, .int .i64 0], .int .i64 0, .bool false]) (by simp [results, Tryz.results57, go_sem, e0, e1]) rfl ?_
        exact decoded_none HN.out ((B1.out.setCell (show w.heap.size ≤ w.heap.size from Nat.le_refl _) _).setCell (show w.heap.size ≤ w.heap.size from Nat.le_refl _) _)
      · have hd : decide ((n : Int) - L < k) = false := by simpa using h9
        clear D0 D9
        have hc3 : L = 1 ∨ L = 2 ∨ L = 3 := by omega
        rcases hc3 with rfl | rfl | rfl
        · have HN := Lib.hid (D1.out rfl)
          have HV := Lib.hid (show ordB op 0 = true by simp [ordB, HL.out])
          clear D1 D2 D3 hq h0
          go_wp2_with fail
          refine (spec_ordValid _ _ _).mono ?_; rintro e w2 ⟨rfl, b2⟩
          rw [HV.out]
          have X2 := Lib.hid ((X1.out.alloc (.cells #[.int .i64 op, .int .i64 0] 57)).below b2)
          have Y2 : Hid (Box w2 w1.heap.size 57 [.int .i64 op, .int .i64 0]) := (Box.new w1 _ _).below b2
          have F2 := Lib.hid (FIN.out _ w2 (b2.mono (by simp)))
          clear b2
          have e0 : w2.cell? ⟨w.heap.size, 0, none⟩ = some (.int .i64 0) := X2.out.cell 0
          have e1 : w2.cell? ⟨w.heap.size, 1, none⟩ = some (.int .i64 0) := X2.out.cell 1
          have e2 := X2.out.frozen 0
          have e3 := X2.out.frozen 1
          have y0 : w2.cell? ⟨w1.heap.size, 0, none⟩ = some (.int .i64 op) := Y2.out.cell 0
          have y1 : w2.cell? ⟨w1.heap.size, 1, none⟩ = some (.int .i64 0) := Y2.out.cell 1
          go_wp2_with fail
          refine bodyPost_ret (v := .tuple #[.agg #[.int .i64 op, .int .i64 0], .int .i64 1, .bool true]) (by simp [results, Tryz.results57, go_sem, e0, e1]) rfl ?_
          exact decoded_some HN.out HL.out (F2.out _ _)
        · have HN := Lib.hid (D2.out rfl (by omega))
          have c2 := CC.out (k + 1) (by omega)
          generalize xs.getD (k + 1) 0 = x at HN c2
          have HV := Lib.hid (show ordB op x = byteB x by simp [ordB, HL.out])
          clear D1 D2 D3 hq h0
          go_wp2_with fail
          refine (spec_ordValid _ _ _).mono ?_; rintro e w2 ⟨rfl, b2⟩
          rw [HV.out]
          have X2 := Lib.hid ((X1.out.alloc (.cells #[.int .i64 op, .int .i64 x] 57)).below b2)
          have Y2 : Hid (Box w2 w1.heap.size 57 [.int .i64 op, .int .i64 x]) := (Box.new w1 _ _).below b2
          have F2 := Lib.hid (FIN.out _ w2 (b2.mono (by simp)))
          clear b2
          have e0 : w2.cell? ⟨w.heap.size, 0, none⟩ = some (.int .i64 0) := X2.out.cell 0
          have e1 : w2.cell? ⟨w.heap.size, 1, none⟩ = some (.int .i64 0) := X2.out.cell 1
          have e2 := X2.out.frozen 0
          have e3 := X2.out.frozen 1
          have y0 : w2.cell? ⟨w1.heap.size, 0, none⟩ = some (.int .i64 op) := Y2.out.cell 0
          have y1 : w2.cell? ⟨w1.heap.size, 1, none⟩ = some (.int .i64 x) := Y2.out.cell 1
          by_cases hbx : byteB x = true
          · have HM := Lib.hid (HN.out.trans (if_pos hbx))
            rw [hbx]
            clear hbx
            go_wp2_with fail
            refine bodyPost_ret (v := .tuple #[.agg #[.int .i64 op, .int .i64 x], .int .i64 2, .bool true]) (by simp [results, Tryz.results57, go_sem, e0, e1]) rfl ?_
            exact decoded_some HM.out HL.out (F2.out _ _)
          · have HM := Lib.hid (HN.out.trans (if_neg hbx))
            rw [show byteB x = false by simpa using hbx]
            clear hbx
            go_wp2_with fail
            refine bodyPost_ret (v := .tuple #[.agg #[.int .i64 0, .int .i64 0], .int .i64 0, .bool false]) (by simp [results, Tryz.results57, go_sem, e0, e1]) rfl ?_
            exact decoded_none HM.out (F2.out _ _)
        · have HN := Lib.hid (D3.out rfl (by omega))
          have c2 := CC.out (k + 1) (by omega)
          have c3 := CC.out (k + 2) (by omega)
          generalize xs.getD (k + 1) 0 = x at HN c2
          generalize xs.getD (k + 2) 0 = y at HN c3
          have e0 : w1.cell? ⟨w.heap.size, 0, none⟩ = some (.int .i64 0) := X1.out.cell 0
          have e1 : w1.cell? ⟨w.heap.size, 1, none⟩ = some (.int .i64 0) := X1.out.cell 1
          have e2 := X1.out.frozen 0
          have e3 := X1.out.frozen 1
          clear D1 D2 D3 hq h0
          by_cases hbx : byteB x = true
          · have HX1 := Lib.hid (show betB x 0 255 = true from hbx)
            by_cases hby : betB y 0 3 = true
            · have HY := Lib.hid hby
              have HM := Lib.hid (HN.out.trans (if_pos ⟨hbx, hby⟩))
              obtain ⟨x0, x1⟩ := byteB_yes hbx
              obtain ⟨y0, y1⟩ := betB_yes hby
              have HV := Lib.hid (show ordB op (x + 256 * y) = true by simp [ordB, HL.out, addrB]; omega)
              clear hbx hby e0 e1 e2 e3
              go_wp2_with fail
              refine (l1In_any _ _ _ _).mono ?_; rintro e w' ⟨rfl, rfl⟩
              rw [HX1.out]
              go_wp2_with fail
              refine (l1In_any _ _ _ _).mono ?_; rintro e w' ⟨rfl, rfl⟩
              rw [HY.out]
              go_wp2_with fail
              go_region
              all_goals
                go_wp2_with fail
                refine (spec_ordValid _ _ _).mono ?_; rintro e w2 ⟨rfl, b2⟩
                rw [HV.out]
                have X2 : Hid (Box w2 w.heap.size 57 [.int .i64 0, .int .i64 0]) := (show Box (w1.alloc (.cells #[.int .i64 op, .int .i64 (x + 256 * y)] 57)).drew _ _ _ from X1.out.alloc _).below b2
                have Y2 : Hid (Box w2 w1.heap.size 57 [.int .i64 op, .int .i64 (x + 256 * y)]) := (show Box (w1.alloc (.cells #[.int .i64 op, .int .i64 (x + 256 * y)] 57)).drew _ _ _ from Box.new w1 _ _).below b2
                have F2 := Lib.hid (FIN.out (.cells #[.int .i64 op, .int .i64 (x + 256 * y)] 57) w2 ((show Below w1.heap.size (w1.alloc (.cells #[.int .i64 op, .int .i64 (x + 256 * y)] 57)) (w1.alloc (.cells #[.int .i64 op, .int .i64 (x + 256 * y)] 57)).drew from (Below.refl _ _).drew).trans (b2.mono (by simp))))
                clear b2
                have e0 : w2.cell? ⟨w.heap.size, 0, none⟩ = some (.int .i64 0) := X2.out.cell 0
                have e1 : w2.cell? ⟨w.heap.size, 1, none⟩ = some (.int .i64 0) := X2.out.cell 1
                have e2 := X2.out.frozen 0
                have e3 := X2.out.frozen 1
                have u0 : w2.cell? ⟨w1.heap.size, 0, none⟩ = some (.int .i64 op) := Y2.out.cell 0
                have u1 : w2.cell? ⟨w1.heap.size, 1, none⟩ = some (.int .i64 (x + 256 * y)) := Y2.out.cell 1
                go_wp2_with fail
                refine bodyPost_ret (v := .tuple #[.agg #[.int .i64 op, .int .i64 (x + 256 * y)], .int .i64 3, .bool true]) (by simp [results, Tryz.results57, go_sem, e0, e1]) rfl ?_
                exact decoded_some HM.out HL.out (F2.out _ _)
            · have HY := Lib.hid (show betB y 0 3 = false by simpa using hby)
              have HM := Lib.hid (HN.out.trans (if_neg (fun h => hby h.2)))
              clear hbx hby
              go_wp2_with fail
              refine (l1In_any _ _ _ _).mono ?_; rintro e w' ⟨rfl, rfl⟩
              rw [HX1.out]
              go_wp2_with fail
              refine (l1In_any _ _ _ _).mono ?_; rintro e w' ⟨rfl, rfl⟩
              rw [HY.out]
              go_wp2_with fail
              refine bodyPost_ret (v := .tuple #[.agg #[.int .i64 0, .int .i64 0], .int .i64 0, .bool false]) (by simp [results, Tryz.results57, go_sem, e0, e1, z1]) rfl ?_
              exact decoded_none HM.out (FIN2.out _ _ _)
          · have HX1 := Lib.hid (show betB x 0 255 = false by rw [byteB_bet]; simpa using hbx)
            have HM := Lib.hid (HN.out.trans (if_neg (fun h => hbx h.1)))
            clear hbx
            go_wp2_with fail
            refine (l1In_any _ _ _ _).mono ?_; rintro e w' ⟨rfl, rfl⟩
            rw [HX1.out]
            go_wp2_with fail
            refine bodyPost_ret (v := .tuple #[.agg #[.int .i64 0, .int .i64 0], .int .i64 0, .bool false]) (by simp [results, Tryz.results57, go_sem, e0, e1, z1]) rfl ?_
            exact decoded_none HM.out (FIN2.out _ _ _)
  · have HB := Lib.hid (show betB i 0 ((n : Int) - 1) = false by simpa using hi)
    have HN := Lib.hid (dec_out (xs := xs) (i := i) (by rw [hl]; exact HB.out))
    clear hi ha hl
    go_enter Tryz.func57, Tryz.ntmps57
    go_wp2_with fail
    refine (l1In_any _ _ _ _).mono ?_; rintro e w' ⟨rfl, rfl⟩
    rw [HB.out]
    go_wp2_with fail
    refine bodyPost_ret (v := .tuple #[.agg #[.int .i64 0, .int .i64 0], .int .i64 0, .bool false]) (by simp [results, Tryz.results57, go_sem]) rfl ?_
    exact decoded_none HN.out (below1 w _)
end Go.Proofs.YtgciaafapbaliaaGreatDoor
