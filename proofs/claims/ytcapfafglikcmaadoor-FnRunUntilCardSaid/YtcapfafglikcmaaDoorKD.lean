import Derived.Test.YtcapfafglikcmaaDoorKC
import Derived.RegionTactic
import Derived.ChangeAlike

section
/- Decoding instructions: what a list of numbers holds at a place; the model's DecodeOrder. -/
namespace Go.Proofs.YtcapfafglikcmaaDoor
open Go.ChangeShapes Go.WideShapes Go.ChangeAt Go.RowKit

/-- The instruction whose bytes begin a list at a place: its operation and its argument. -/
def decN (xs : List Int) (i : Int) : Option (Int × Int) :=
  if betB i 0 (xs.length - 1) = true ∧ lenN (xs.getD i.toNat 0) ≠ 0 ∧ i ≤ xs.length - lenN (xs.getD i.toNat 0) then
    if lenN (xs.getD i.toNat 0) = 1 then some (xs.getD i.toNat 0, 0)
    else if lenN (xs.getD i.toNat 0) = 2 then (if byteB (xs.getD (i.toNat + 1) 0) = true then some (xs.getD i.toNat 0, xs.getD (i.toNat + 1) 0) else none)
    else if byteB (xs.getD (i.toNat + 1) 0) = true ∧ betB (xs.getD (i.toNat + 2) 0) 0 3 = true then some (xs.getD i.toNat 0, xs.getD (i.toNat + 1) 0 + 256 * xs.getD (i.toNat + 2) 0) else none
  else none
def decV : Option (Int × Int) → Value
  | some (op, arg) => .tuple #[.agg #[.int .i64 op, .int .i64 arg], .int .i64 (lenN op), .bool true]
  | none => .tuple #[.agg #[.int .i64 0, .int .i64 0], .int .i64 0, .bool false]
def Decoded (d : Option (Int × Int)) (w : World) (e : Ending) (w' : World) : Prop := e = .returned (decV d) ∧ Below w.heap.size w w'
theorem decoded_none {d : Option (Int × Int)} {w w' : World} (h : d = none) (b : Below w.heap.size w w') : Decoded d w (.returned (.tuple #[.agg #[.int .i64 0, .int .i64 0], .int .i64 0, .bool false])) w' := by
  subst h; exact ⟨rfl, b⟩
theorem decoded_some {d : Option (Int × Int)} {w w' : World} {op arg L : Int} (h : d = some (op, arg)) (hL : lenN op = L) (b : Below w.heap.size w w') : Decoded d w (.returned (.tuple #[.agg #[.int .i64 op, .int .i64 arg], .int .i64 L, .bool true])) w' := by
  subst h; subst hL; exact ⟨rfl, b⟩
theorem dec_out {xs : List Int} {i : Int} (h : betB i 0 (xs.length - 1) = false) : decN xs i = none := by simp [decN, h]
theorem dec_zero {xs : List Int} {k : Nat} (h : lenN (xs.getD k 0) = 0) : decN xs k = none := by
  unfold decN; rw [if_neg]; rintro ⟨_, h2, _⟩; exact h2 (by rw [Int.toNat_natCast]; exact h)
theorem dec_far {xs : List Int} {k : Nat} (h : (xs.length : Int) - lenN (xs.getD k 0) < k) : decN xs k = none := by
  unfold decN; rw [if_neg]; rintro ⟨_, _, h3⟩; rw [Int.toNat_natCast] at h3; omega
theorem dec_in {xs : List Int} {k : Nat} (h0 : k < xs.length) (h1 : lenN (xs.getD k 0) ≠ 0) (h2 : (k : Int) ≤ xs.length - lenN (xs.getD k 0)) : betB k 0 (xs.length - 1) = true ∧ lenN (xs.getD (k : Int).toNat 0) ≠ 0 ∧ (k : Int) ≤ xs.length - lenN (xs.getD (k : Int).toNat 0) :=
  ⟨by simp [betB]; omega, by simpa using h1, by simpa using h2⟩
theorem dec_one {xs : List Int} {k : Nat} (h0 : k < xs.length) (h1 : lenN (xs.getD k 0) = 1) : decN xs k = some (xs.getD k 0, 0) := by
  unfold decN; rw [if_pos (dec_in h0 (by omega) (by omega))]; simp only [Int.toNat_natCast]; rw [if_pos h1]
theorem dec_two {xs : List Int} {k : Nat} (h0 : k < xs.length) (h1 : lenN (xs.getD k 0) = 2) (h2 : (k : Int) ≤ xs.length - 2) : decN xs k = if byteB (xs.getD (k + 1) 0) = true then some (xs.getD k 0, xs.getD (k + 1) 0) else none := by
  unfold decN; rw [if_pos (dec_in h0 (by omega) (by omega))]; simp only [Int.toNat_natCast]; rw [if_neg (by omega), if_pos h1]
theorem dec_three {xs : List Int} {k : Nat} (h0 : k < xs.length) (h1 : lenN (xs.getD k 0) = 3) (h2 : (k : Int) ≤ xs.length - 3) : decN xs k = if byteB (xs.getD (k + 1) 0) = true ∧ betB (xs.getD (k + 2) 0) 0 3 = true then some (xs.getD k 0, xs.getD (k + 1) 0 + 256 * xs.getD (k + 2) 0) else none := by
  unfold decN; rw [if_pos (dec_in h0 (by omega) (by omega))]; simp only [Int.toNat_natCast]; rw [if_neg (by omega), if_neg (by omega)]
theorem byteB_bet (x : Int) : betB x 0 255 = byteB x := rfl
theorem spec_dec (A : Option Addr) (n c : Nat) (xs : List Int) (fa : List Nat) (i : Int) (w : World) (ha : Ints w A n xs fa) (hn : n ≤ 1000000000) :
    Calls Tryd.prog 64 #[.slice A n c, .int .i64 i] w (Decoded (decN xs i) w) := by
  have hl := ha.1
  by_cases hi : betB i 0 ((n : Int) - 1) = true
  · have HB := Lib.hid hi
    obtain ⟨i0, i1⟩ := betB_yes hi
    obtain ⟨k, rfl⟩ : ∃ k : Nat, i = k := ⟨i.toNat, by omega⟩
    clear hi i0
    have hk : k < n := by omega
    obtain ⟨b, o, rfl, _, hb, hc⟩ := ha.at_ (by omega)
    have c0 := hc k hk
    have HC := Lib.hid hc
    clear hc ha
    have D0 := Lib.hid (dec_zero (xs := xs) (k := k))
    have D9 := Lib.hid (dec_far (xs := xs) (k := k))
    have D1 := Lib.hid (dec_one (xs := xs) (k := k) (by omega))
    have D2 := Lib.hid (dec_two (xs := xs) (k := k) (by omega))
    have D3 := Lib.hid (dec_three (xs := xs) (k := k) (by omega))
    rw [hl] at D9 D2 D3
    generalize xs.getD k 0 = op at c0 D0 D1 D2 D3 D9
    have HX := Lib.hid hl
    clear hl
    obtain ⟨l0, l1⟩ := lenN_bd op
    generalize hL : lenN op = L at l0 l1 D0 D1 D2 D3 D9
    have HL := Lib.hid hL
    clear hL
    go_enter Tryd.func64, Tryd.ntmps64
    go_wp2_with fail
    refine (l1In_any _ _ _ _).mono ?_; rintro e w' ⟨rfl, rfl⟩
    rw [HB.out]
    go_wp2_with fail
    refine (spec_len _ _).mono ?_; rintro e w1 ⟨rfl, b1⟩
    rw [HL.out]
    have X1 : Hid (Box w1 w.heap.size 61 [.int .i64 0, .int .i64 0]) := (Box.new w _ _).below b1
    have B1 : Hid (Below w.heap.size w w1) := (below1 w _).trans (b1.mono (by simp))
    have z1 : w.heap.size < w1.heap.size := X1.out.lt
    have CC : Hid (∀ j, j < n → w1.cell? ⟨b, o + j, none⟩ = some (.int .i64 (xs.getD j 0))) := fun j hj => (B1.out.cell (p := ⟨b, o + j, none⟩) hb).trans (HC.out j hj)
    have c1 : w1.cell? ⟨b, o + k, none⟩ = some (.int .i64 op) := (B1.out.cell (p := ⟨b, o + k, none⟩) hb).trans c0
    have hb1 : b < w1.heap.size := by omega
    clear b1 c0 HC
    have fin : ∀ (o1 : Obj) (w2 : World), Below w1.heap.size (w1.alloc o1) w2 → ∀ (u v : Value), Below w.heap.size w ((w2.setCell ⟨w.heap.size, 0, none⟩ u).setCell ⟨w.heap.size, 1, none⟩ v) := fun o1 w2 hw u v => (((B1.out.alloc B1.out.size o1).trans (hw.mono B1.out.size)).setCell (show w.heap.size ≤ w.heap.size from Nat.le_refl _) u).setCell (show w.heap.size ≤ w.heap.size from Nat.le_refl _) v
    have FIN := Lib.hid fin
    clear fin
    have FIN2 : Hid (∀ (u v : Value) (o1 : Obj), Below w.heap.size w (((w1.setCell ⟨w.heap.size, 0, none⟩ u).setCell ⟨w.heap.size, 1, none⟩ v).alloc o1)) := fun u v o1 => ((B1.out.setCell (show w.heap.size ≤ w.heap.size from Nat.le_refl _) u).setCell (show w.heap.size ≤ w.heap.size from Nat.le_refl _) v).alloc (by simp; omega) o1
    by_cases h0 : L = 0
    · subst h0
      have HN := Lib.hid (D0.out rfl)
      clear D0 D1 D2 D3 D9
      have e0 : w1.cell? ⟨w.heap.size, 0, none⟩ = some (.int .i64 0) := X1.out.cell 0
      have e1 : w1.cell? ⟨w.heap.size, 1, none⟩ = some (.int .i64 0) := X1.out.cell 1
      have e2 := X1.out.frozen 0
      have e3 := X1.out.frozen 1
      go_wp2_with fail
      refine bodyPost_ret (v := .tuple #[.agg #[.int .i64 0, .int .i64 0], .int .i64 0, .bool false]) (by simp [results, Tryd.results64, go_sem, e0, e1]) rfl ?_
      exact decoded_none HN.out ((B1.out.setCell (show w.heap.size ≤ w.heap.size from Nat.le_refl _) _).setCell (show w.heap.size ≤ w.heap.size from Nat.le_refl _) _)
    · have hq : (L == 0) = false := by simpa using h0
      by_cases h9 : (n : Int) - L < k
      · have HN := Lib.hid (D9.out h9)
        clear D0 D1 D2 D3 D9
        have e0 : w1.cell? ⟨w.heap.size, 0, none⟩ = some (.int .i64 0) := X1.out.cell 0
        have e1 : w1.cell? ⟨w.heap.size, 1, none⟩ = some (.int .i64 0) := X1.out.cell 1
        have e2 := X1.out.frozen 0
        have e3 := X1.out.frozen 1
        go_wp2_with fail
        refine bodyPost_ret (v := .tuple #[.agg #[.int .i64 0, .int .i64 0], .int .i64 0, .bool false]) (by simp [results, Tryd.results64, go_sem, e0, e1]) rfl ?_
        exact decoded_none HN.out ((B1.out.setCell (show w.heap.size ≤ w.heap.size from Nat.le_refl _) _).setCell (show w.heap.size ≤ w.heap.size from Nat.le_refl _) _)
      · have hd : decide ((n : Int) - L < k) = false := by simpa using h9
        clear D0 D9
        have hc3 : L = 1 ∨ L = 2 ∨ L = 3 := by omega
        rcases hc3 with rfl | rfl | rfl
        · have HN := Lib.hid (D1.out rfl)
          have HV := Lib.hid (show ordB op 0 = true by simp [ordB, HL.out])
          clear D1 D2 D3 hq h0
          go_wp2_with fail
          refine (spec_ordValid _ _ _).mono ?_; rintro e w2 ⟨rfl, b2⟩
          rw [HV.out]
          have X2 := Lib.hid ((X1.out.alloc (.cells #[.int .i64 op, .int .i64 0] 61)).below b2)
          have Y2 : Hid (Box w2 w1.heap.size 61 [.int .i64 op, .int .i64 0]) := (Box.new w1 _ _).below b2
          have F2 := Lib.hid (FIN.out _ w2 (b2.mono (by simp)))
          clear b2
          have e0 : w2.cell? ⟨w.heap.size, 0, none⟩ = some (.int .i64 0) := X2.out.cell 0
          have e1 : w2.cell? ⟨w.heap.size, 1, none⟩ = some (.int .i64 0) := X2.out.cell 1
          have e2 := X2.out.frozen 0
          have e3 := X2.out.frozen 1
          have y0 : w2.cell? ⟨w1.heap.size, 0, none⟩ = some (.int .i64 op) := Y2.out.cell 0
          have y1 : w2.cell? ⟨w1.heap.size, 1, none⟩ = some (.int .i64 0) := Y2.out.cell 1
          go_wp2_with fail
          refine bodyPost_ret (v := .tuple #[.agg #[.int .i64 op, .int .i64 0], .int .i64 1, .bool true]) (by simp [results, Tryd.results64, go_sem, e0, e1]) rfl ?_
          exact decoded_some HN.out HL.out (F2.out _ _)
        · have HN := Lib.hid (D2.out rfl (by omega))
          have c2 := CC.out (k + 1) (by omega)
          generalize xs.getD (k + 1) 0 = x at HN c2
          have HV := Lib.hid (show ordB op x = byteB x by simp [ordB, HL.out])
          clear D1 D2 D3 hq h0
          go_wp2_with fail
          refine (spec_ordValid _ _ _).mono ?_; rintro e w2 ⟨rfl, b2⟩
          rw [HV.out]
          have X2 := Lib.hid ((X1.out.alloc (.cells #[.int .i64 op, .int .i64 x] 61)).below b2)
          have Y2 : Hid (Box w2 w1.heap.size 61 [.int .i64 op, .int .i64 x]) := (Box.new w1 _ _).below b2
          have F2 := Lib.hid (FIN.out _ w2 (b2.mono (by simp)))
          clear b2
          have e0 : w2.cell? ⟨w.heap.size, 0, none⟩ = some (.int .i64 0) := X2.out.cell 0
          have e1 : w2.cell? ⟨w.heap.size, 1, none⟩ = some (.int .i64 0) := X2.out.cell 1
          have e2 := X2.out.frozen 0
          have e3 := X2.out.frozen 1
          have y0 : w2.cell? ⟨w1.heap.size, 0, none⟩ = some (.int .i64 op) := Y2.out.cell 0
          have y1 : w2.cell? ⟨w1.heap.size, 1, none⟩ = some (.int .i64 x) := Y2.out.cell 1
          by_cases hbx : byteB x = true
          · have HM := Lib.hid (HN.out.trans (if_pos hbx))
            rw [hbx]
            clear hbx
            go_wp2_with fail
            refine bodyPost_ret (v := .tuple #[.agg #[.int .i64 op, .int .i64 x], .int .i64 2, .bool true]) (by simp [results, Tryd.results64, go_sem, e0, e1]) rfl ?_
            exact decoded_some HM.out HL.out (F2.out _ _)
          · have HM := Lib.hid (HN.out.trans (if_neg hbx))
            rw [show byteB x = false by simpa using hbx]
            clear hbx
            go_wp2_with fail
            refine bodyPost_ret (v := .tuple #[.agg #[.int .i64 0, .int .i64 0], .int .i64 0, .bool false]) (by simp [results, Tryd.results64, go_sem, e0, e1]) rfl ?_
            exact decoded_none HM.out (F2.out _ _)
        · have HN := Lib.hid (D3.out rfl (by omega))
          have c2 := CC.out (k + 1) (by omega)
          have c3 := CC.out (k + 2) (by omega)
          generalize xs.getD (k + 1) 0 = x at HN c2
          generalize xs.getD (k + 2) 0 = y at HN c3
          have e0 : w1.cell? ⟨w.heap.size, 0, none⟩ = some (.int .i64 0) := X1.out.cell 0
          have e1 : w1.cell? ⟨w.heap.size, 1, none⟩ = some (.int .i64 0) := X1.out.cell 1
          have e2 := X1.out.frozen 0
          have e3 := X1.out.frozen 1
          clear D1 D2 D3 hq h0
          by_cases hbx : byteB x = true
          · have HX1 := Lib.hid (show betB x 0 255 = true from hbx)
            by_cases hby : betB y 0 3 = true
            · have HY := Lib.hid hby
              have HM := Lib.hid (HN.out.trans (if_pos ⟨hbx, hby⟩))
              obtain ⟨x0, x1⟩ := byteB_yes hbx
              obtain ⟨y0, y1⟩ := betB_yes hby
              have HV := Lib.hid (show ordB op (x + 256 * y) = true by simp [ordB, HL.out, addrB]; omega)
              clear hbx hby e0 e1 e2 e3
              go_wp2_with fail
              refine (l1In_any _ _ _ _).mono ?_; rintro e w' ⟨rfl, rfl⟩
              rw [HX1.out]
              go_wp2_with fail
              refine (l1In_any _ _ _ _).mono ?_; rintro e w' ⟨rfl, rfl⟩
              rw [HY.out]
              go_wp2_with fail
              go_region
              all_goals
                go_wp2_with fail
                refine (spec_ordValid _ _ _).mono ?_; rintro e w2 ⟨rfl, b2⟩
                rw [HV.out]
                have X2 : Hid (Box w2 w.heap.size 61 [.int .i64 0, .int .i64 0]) := (show Box (w1.alloc (.cells #[.int .i64 op, .int .i64 (x + 256 * y)] 61)).drew _ _ _ from X1.out.alloc _).below b2
                have Y2 : Hid (Box w2 w1.heap.size 61 [.int .i64 op, .int .i64 (x + 256 * y)]) := (show Box (w1.alloc (.cells #[.int .i64 op, .int .i64 (x + 256 * y)] 61)).drew _ _ _ from Box.new w1 _ _).below b2
                have F2 := Lib.hid (FIN.out (.cells #[.int .i64 op, .int .i64 (x + 256 * y)] 61) w2 ((show Below w1.heap.size (w1.alloc (.cells #[.int .i64 op, .int .i64 (x + 256 * y)] 61)) (w1.alloc (.cells #[.int .i64 op, .int .i64 (x + 256 * y)] 61)).drew from (Below.refl _ _).drew).trans (b2.mono (by simp))))
                clear b2
                have e0 : w2.cell? ⟨w.heap.size, 0, none⟩ = some (.int .i64 0) := X2.out.cell 0
                have e1 : w2.cell? ⟨w.heap.size, 1, none⟩ = some (.int .i64 0) := X2.out.cell 1
                have e2 := X2.out.frozen 0
                have e3 := X2.out.frozen 1
                have u0 : w2.cell? ⟨w1.heap.size, 0, none⟩ = some (.int .i64 op) := Y2.out.cell 0
                have u1 : w2.cell? ⟨w1.heap.size, 1, none⟩ = some (.int .i64 (x + 256 * y)) := Y2.out.cell 1
                go_wp2_with fail
                refine bodyPost_ret (v := .tuple #[.agg #[.int .i64 op, .int .i64 (x + 256 * y)], .int .i64 3, .bool true]) (by simp [results, Tryd.results64, go_sem, e0, e1]) rfl ?_
                exact decoded_some HM.out HL.out (F2.out _ _)
            · have HY := Lib.hid (show betB y 0 3 = false by simpa using hby)
              have HM := Lib.hid (HN.out.trans (if_neg (fun h => hby h.2)))
              clear hbx hby
              go_wp2_with fail
              refine (l1In_any _ _ _ _).mono ?_; rintro e w' ⟨rfl, rfl⟩
              rw [HX1.out]
              go_wp2_with fail
              refine (l1In_any _ _ _ _).mono ?_; rintro e w' ⟨rfl, rfl⟩
              rw [HY.out]
              go_wp2_with fail
              refine bodyPost_ret (v := .tuple #[.agg #[.int .i64 0, .int .i64 0], .int .i64 0, .bool false]) (by simp [results, Tryd.results64, go_sem, e0, e1, z1]) rfl ?_
              exact decoded_none HM.out (FIN2.out _ _ _)
          · have HX1 := Lib.hid (show betB x 0 255 = false by rw [byteB_bet]; simpa using hbx)
            have HM := Lib.hid (HN.out.trans (if_neg (fun h => hbx h.1)))
            clear hbx
            go_wp2_with fail
            refine (l1In_any _ _ _ _).mono ?_; rintro e w' ⟨rfl, rfl⟩
            rw [HX1.out]
            go_wp2_with fail
            refine bodyPost_ret (v := .tuple #[.agg #[.int .i64 0, .int .i64 0], .int .i64 0, .bool false]) (by simp [results, Tryd.results64, go_sem, e0, e1, z1]) rfl ?_
            exact decoded_none HM.out (FIN2.out _ _ _)
  · have HB := Lib.hid (show betB i 0 ((n : Int) - 1) = false by simpa using hi)
    have HN := Lib.hid (dec_out (xs := xs) (i := i) (by rw [hl]; exact HB.out))
    clear hi ha hl
    go_enter Tryd.func64, Tryd.ntmps64
    go_wp2_with fail
    refine (l1In_any _ _ _ _).mono ?_; rintro e w' ⟨rfl, rfl⟩
    rw [HB.out]
    go_wp2_with fail
    refine bodyPost_ret (v := .tuple #[.agg #[.int .i64 0, .int .i64 0], .int .i64 0, .bool false]) (by simp [results, Tryd.results64, go_sem]) rfl ?_
    exact decoded_none HN.out (below1 w _)
end Go.Proofs.YtcapfafglikcmaaDoor
end

section
/- The machine of chapter 5 as plain data: what is valid, what a step makes of it, what several steps make of it. -/
namespace Go.Proofs.YtcapfafglikcmaaDoor

/-- A machine as data. -/
structure Mach where
  mem : Mem
  a : Int
  at_ : Int
  carry : Bool
  back : List Int
  stop : Bool
  cyc : Int
def addrsB (xs : List Int) : Bool := xs.all addrB
theorem addrsB_iff (xs : List Int) : addrsB xs = true ↔ ∀ i, i < xs.length → addrB (xs.getD i 0) = true := by
  unfold addrsB
  rw [List.all_eq_true]
  constructor
  · intro h i hi; exact h _ (getD_mem_of 0 xs i hi)
  · intro h x hx
    obtain ⟨i, hi, rfl⟩ := List.getElem_of_mem hx
    have := h i hi
    simpa [List.getD, List.getElem?_eq_getElem hi] using this
theorem addrsB_no (xs : List Int) (i : Nat) (hi : i < xs.length) (h : addrB (xs.getD i 0) = false) : addrsB xs = false := by
  by_cases hh : addrsB xs = true
  · rw [(addrsB_iff xs).1 hh i hi] at h; cases h
  · simpa using hh
def machB (X : Mach) : Bool := byteB X.a && addrB X.at_ && decide (0 ≤ X.cyc) && decide (X.cyc ≤ 1000000000) && decide (X.back.length ≤ 8) && addrsB X.back && validB X.mem
/-- What a valid machine has, its cycles at most C. -/
structure GoodX (X : Mach) (C : Int) : Prop where
  mem : Good X.mem
  a0 : 0 ≤ X.a
  a1 : X.a ≤ 255
  t0 : 0 ≤ X.at_
  t1 : X.at_ ≤ 1023
  len : X.back.length ≤ 8
  back : ∀ i, i < X.back.length → 0 ≤ X.back.getD i 0 ∧ X.back.getD i 0 ≤ 1023
  c0 : 0 ≤ X.cyc
  c1 : X.cyc ≤ C
theorem goodX_of {X : Mach} (h : machB X = true) : GoodX X 1000000000 := by
  simp only [machB, Bool.and_eq_true, decide_eq_true_eq] at h
  obtain ⟨⟨⟨⟨⟨⟨h1, h2⟩, h3⟩, h4⟩, h5⟩, h6⟩, h7⟩ := h
  have hb := byteB_yes h1
  have ht := addrB_yes h2
  exact ⟨good_of h7, hb.1, hb.2, ht.1, ht.2, h5, fun i hi => addrB_yes ((addrsB_iff X.back).1 h6 i hi), h3, h4⟩
theorem addrB_mk {a : Int} (h0 : 0 ≤ a) (h1 : a ≤ 1023) : addrB a = true := by simp [addrB, h0, h1]
theorem validX_of {X : Mach} (h : GoodX X 1000000000) : machB X = true := by
  simp only [machB, Bool.and_eq_true, decide_eq_true_eq]
  exact ⟨⟨⟨⟨⟨⟨byteB_mk h.a0 h.a1, addrB_mk h.t0 h.t1⟩, h.c0⟩, h.c1⟩, h.len⟩, (addrsB_iff X.back).2 fun i hi => addrB_mk (h.back i hi).1 (h.back i hi).2⟩, valid_of h.mem⟩
/-- The zero value, and a new machine. -/
def machZ : Mach := ⟨memZ, 0, 0, false, [], false, 0⟩
def newX (rs : List (List Int)) : Mach := if validB (newM rs) = true then ⟨newM rs, 0, 512, false, [], false, 0⟩ else machZ
theorem machZ_no : machB machZ = false := by decide

/-- The bytes from an address on, and the instruction there. -/
def bytesN (M : Mem) (k : Nat) : List Int := [readN M (k % 1024), readN M ((k + 1) % 1024), readN M ((k + 2) % 1024)]
def fetchN (X : Mach) : Option (Int × Int) := decN (bytesN X.mem X.at_.toNat) 0
def andN (a b : Int) : Int := bits .and .i64 a b
def xorN (a b : Int) : Int := bits .xor .i64 a b
/-- What an instruction does, the address being the one behind it. -/
def doN (X : Mach) (op arg : Int) : Mach :=
  if op = 1 then { X with a := arg }
  else if op = 2 then { X with a := readN X.mem arg.toNat }
  else if op = 3 then { X with mem := writeN X.mem arg.toNat X.a }
  else if op = 4 then { X with a := addN X.a (readN X.mem arg.toNat) X.carry, carry := addC X.a (readN X.mem arg.toNat) X.carry }
  else if op = 5 then { X with a := subN X.a (readN X.mem arg.toNat) X.carry, carry := subC X.a (readN X.mem arg.toNat) X.carry }
  else if op = 6 then { X with a := andN X.a (readN X.mem arg.toNat) }
  else if op = 7 then { X with a := xorN X.a (readN X.mem arg.toNat) }
  else if op = 8 then { X with a := rolN X.a X.carry, carry := rolC X.a }
  else if op = 9 then { X with a := rorN X.a X.carry, carry := rorC X.a }
  else if op = 10 then { X with at_ := arg }
  else if op = 11 then (if X.a = 0 then { X with at_ := arg } else X)
  else if op = 12 then (if X.carry = true then { X with at_ := arg } else X)
  else if op = 13 then (if X.back.length = 8 then { X with stop := true } else { X with back := X.back ++ [X.at_], at_ := arg })
  else if op = 14 then (if X.back.length = 0 then { X with stop := true } else { X with at_ := X.back.getD (X.back.length - 1) 0, back := X.back.take (X.back.length - 1) })
  else if op = 15 then { X with stop := true }
  else X
def moveN (X : Mach) (op : Int) : Mach := { X with at_ := (X.at_ + lenN op) % 1024, cyc := X.cyc + lenN op }
def stepN (X : Mach) : Mach :=
  if X.stop = true then X else match fetchN X with
    | none => { X with stop := true }
    | some (op, arg) => doN (moveN X op) op arg
def runN (X : Mach) : Nat → Mach
  | 0 => X
  | k + 1 => stepN (runN X k)
def untilN (ad : Int) : Nat → Nat → Mach → Nat × Mach
  | 0, j, X => (j, X)
  | f + 1, j, X => if X.stop = true then (j, X) else if (stepN X).at_ = ad then (j + 1, stepN X) else untilN ad f (j + 1) (stepN X)
theorem byteB_all {x : Int} (h : byteB x = true) : 0 ≤ x ∧ x ≤ 255 := byteB_yes h
theorem betB_yes3 {a l h : Int} (e : betB a l h = true) : l ≤ a ∧ a ≤ h := by simpa [betB] using e
/-- What is decoded at 0: the first byte, an operation, and an argument that fits. -/
theorem dec_fit {xs : List Int} {op arg : Int} (h : decN xs 0 = some (op, arg)) : op = xs.getD 0 0 ∧ 1 ≤ lenN op ∧ 0 ≤ op ∧ op ≤ 15 ∧ 0 ≤ arg ∧ arg ≤ 1023 ∧ (lenN op = 2 → arg ≤ 255) := by
  unfold decN at h
  have e0 : (0 : Int).toNat = 0 := rfl
  rw [e0] at h
  split at h
  · rename_i hh
    obtain ⟨_, h1, _⟩ := hh
    have hb : betB (xs.getD 0 0) 0 15 = true := by
      by_cases hc : betB (xs.getD 0 0) 0 15 = true
      · exact hc
      · exfalso; apply h1; unfold lenN; rw [if_neg hc]
    have hop := betB_yes3 hb
    have hl := lenN_bd (xs.getD 0 0)
    split at h
    · injection h with h; injection h with h2 h3
      subst h2; subst h3
      exact ⟨rfl, by omega, hop.1, hop.2, by omega, by omega, by omega⟩
    · split at h
      · split at h
        · rename_i hy
          have hy := byteB_yes hy
          injection h with h; injection h with h2 h3
          subst h2; subst h3
          exact ⟨rfl, by omega, hop.1, hop.2, by simpa using hy.1, by omega, fun _ => hy.2⟩
        · cases h
      · split at h
        · rename_i hy
          have hy1 := byteB_yes hy.1
          have hy2 := betB_yes3 hy.2
          injection h with h; injection h with h2 h3
          subst h2; subst h3
          exact ⟨rfl, by omega, hop.1, hop.2, by omega, by omega, by omega⟩
        · cases h
  · cases h
theorem dec_none_len {x y z : Int} (h : lenN x = 0) : decN [x, y, z] 0 = none := dec_zero (k := 0) h
/-- Decoding looks at no more bytes than the instruction has. -/
theorem dec_take {x y z : Int} (h : 1 ≤ lenN x) : decN (([x, y, z] : List Int).take (lenN x).toNat) 0 = decN [x, y, z] 0 := by
  have hb := lenN_bd x
  have hl : lenN x = 1 ∨ lenN x = 2 ∨ lenN x = 3 := by omega
  rcases hl with hl | hl | hl
  · rw [hl]
    have e1 : (([x, y, z] : List Int).take (1 : Int).toNat) = [x] := rfl
    rw [e1]
    rw [show (0 : Int) = ((0 : Nat) : Int) from rfl, dec_one (xs := [x]) (k := 0) (by simp) hl, dec_one (xs := [x, y, z]) (k := 0) (by simp) hl]
    rfl
  · rw [hl]
    have e1 : (([x, y, z] : List Int).take (2 : Int).toNat) = [x, y] := rfl
    rw [e1]
    rw [show (0 : Int) = ((0 : Nat) : Int) from rfl, dec_two (xs := [x, y]) (k := 0) (by simp) hl (by simp), dec_two (xs := [x, y, z]) (k := 0) (by simp) hl (by simp)]
    rfl
  · rw [hl]
    rfl
theorem i64_and_nat (a b : Nat) (ha : a < 256) (hb : b < 256) : bits .and .i64 (a : Int) (b : Int) = ((a &&& b : Nat) : Int) := by
  have hx : a &&& b < 2 ^ 8 := Nat.and_lt_two_pow _ (by omega)
  show IntKind.i64.wrap ((BitVec.ofInt 64 (a : Int) &&& BitVec.ofInt 64 (b : Int)).toNat : Int) = _
  rw [BitVec.toNat_and, ofInt_u64 a (by omega), ofInt_u64 b (by omega), IntKind.wrap_i64]
  omega
theorem i64_xor_nat (a b : Nat) (ha : a < 256) (hb : b < 256) : bits .xor .i64 (a : Int) (b : Int) = ((a ^^^ b : Nat) : Int) := by
  have hx : a ^^^ b < 2 ^ 8 := Nat.xor_lt_two_pow (by omega) (by omega)
  show IntKind.i64.wrap ((BitVec.ofInt 64 (a : Int) ^^^ BitVec.ofInt 64 (b : Int)).toNat : Int) = _
  rw [BitVec.toNat_xor, ofInt_u64 a (by omega), ofInt_u64 b (by omega), IntKind.wrap_i64]
  omega
theorem andN_bd (a b : Int) (a0 : 0 ≤ a) (a1 : a ≤ 255) (b0 : 0 ≤ b) (b1 : b ≤ 255) : 0 ≤ andN a b ∧ andN a b ≤ 255 := by
  obtain ⟨A, rfl⟩ := Int.eq_ofNat_of_zero_le a0
  obtain ⟨B, rfl⟩ := Int.eq_ofNat_of_zero_le b0
  have hx : A &&& B < 2 ^ 8 := Nat.and_lt_two_pow _ (by omega)
  unfold andN
  rw [i64_and_nat A B (by omega) (by omega)]
  omega
theorem xorN_bd (a b : Int) (a0 : 0 ≤ a) (a1 : a ≤ 255) (b0 : 0 ≤ b) (b1 : b ≤ 255) : 0 ≤ xorN a b ∧ xorN a b ≤ 255 := by
  obtain ⟨A, rfl⟩ := Int.eq_ofNat_of_zero_le a0
  obtain ⟨B, rfl⟩ := Int.eq_ofNat_of_zero_le b0
  have hx : A ^^^ B < 2 ^ 8 := Nat.xor_lt_two_pow (by omega) (by omega)
  unfold xorN
  rw [i64_xor_nat A B (by omega) (by omega)]
  omega
theorem addM_bd (a b : Int) (c : Bool) : 0 ≤ addN a b c ∧ addN a b c ≤ 255 := by unfold addN; omega
theorem subM_bd (a b : Int) (c : Bool) : 0 ≤ subN a b c ∧ subN a b c ≤ 255 := by unfold subN; omega
theorem rolM_bd (a : Int) (c : Bool) : 0 ≤ rolN a c ∧ rolN a c ≤ 255 := by unfold rolN; omega
theorem rorM_bd (a : Int) (c : Bool) (h0 : 0 ≤ a) (h1 : a ≤ 255) : 0 ≤ rorN a c ∧ rorN a c ≤ 255 := by
  unfold rorN digi
  cases c <;> simp <;> omega
theorem getD_append_one (xs : List Int) (x : Int) (i : Nat) : (xs ++ [x]).getD i 0 = if i < xs.length then xs.getD i 0 else if i = xs.length then x else 0 := by
  simp only [List.getD_eq_getElem?_getD, List.getElem?_append]
  split
  · rfl
  · split
    · rename_i h; subst h; simp
    · rename_i h1 h2
      rw [List.getElem?_eq_none (by simp; omega)]; rfl
theorem getD_take (xs : List Int) (n i : Nat) (h : i < n) : (xs.take n).getD i 0 = xs.getD i 0 := by
  simp only [List.getD_eq_getElem?_getD, List.getElem?_take, h, if_true]
theorem doN_1 (X : Mach) (arg : Int) : doN X 1 arg = { X with a := arg } := rfl
theorem doN_2 (X : Mach) (arg : Int) : doN X 2 arg = { X with a := readN X.mem arg.toNat } := rfl
theorem doN_3 (X : Mach) (arg : Int) : doN X 3 arg = { X with mem := writeN X.mem arg.toNat X.a } := rfl
theorem doN_4 (X : Mach) (arg : Int) : doN X 4 arg = { X with a := addN X.a (readN X.mem arg.toNat) X.carry, carry := addC X.a (readN X.mem arg.toNat) X.carry } := rfl
theorem doN_5 (X : Mach) (arg : Int) : doN X 5 arg = { X with a := subN X.a (readN X.mem arg.toNat) X.carry, carry := subC X.a (readN X.mem arg.toNat) X.carry } := rfl
theorem doN_6 (X : Mach) (arg : Int) : doN X 6 arg = { X with a := andN X.a (readN X.mem arg.toNat) } := rfl
theorem doN_7 (X : Mach) (arg : Int) : doN X 7 arg = { X with a := xorN X.a (readN X.mem arg.toNat) } := rfl
theorem doN_8 (X : Mach) (arg : Int) : doN X 8 arg = { X with a := rolN X.a X.carry, carry := rolC X.a } := rfl
theorem doN_9 (X : Mach) (arg : Int) : doN X 9 arg = { X with a := rorN X.a X.carry, carry := rorC X.a } := rfl
theorem doN_10 (X : Mach) (arg : Int) : doN X 10 arg = { X with at_ := arg } := rfl
theorem doN_11 (X : Mach) (arg : Int) : doN X 11 arg = (if X.a = 0 then { X with at_ := arg } else X) := rfl
theorem doN_12 (X : Mach) (arg : Int) : doN X 12 arg = (if X.carry = true then { X with at_ := arg } else X) := rfl
theorem doN_13 (X : Mach) (arg : Int) : doN X 13 arg = (if X.back.length = 8 then { X with stop := true } else { X with back := X.back ++ [X.at_], at_ := arg }) := rfl
theorem doN_14 (X : Mach) (arg : Int) : doN X 14 arg = (if X.back.length = 0 then { X with stop := true } else { X with at_ := X.back.getD (X.back.length - 1) 0, back := X.back.take (X.back.length - 1) }) := rfl
theorem doN_15 (X : Mach) (arg : Int) : doN X 15 arg = { X with stop := true } := rfl
theorem doN_0 (X : Mach) (arg : Int) : doN X 0 arg = X := rfl
theorem doN_no (X : Mach) (op arg : Int) (h : op < 1 ∨ 15 < op) : doN X op arg = X := by
  unfold doN
  rw [if_neg (show ¬ op = 1 by omega), if_neg (show ¬ op = 2 by omega), if_neg (show ¬ op = 3 by omega), if_neg (show ¬ op = 4 by omega), if_neg (show ¬ op = 5 by omega), if_neg (show ¬ op = 6 by omega), if_neg (show ¬ op = 7 by omega), if_neg (show ¬ op = 8 by omega), if_neg (show ¬ op = 9 by omega), if_neg (show ¬ op = 10 by omega), if_neg (show ¬ op = 11 by omega), if_neg (show ¬ op = 12 by omega), if_neg (show ¬ op = 13 by omega), if_neg (show ¬ op = 14 by omega), if_neg (show ¬ op = 15 by omega)]
theorem good_do {X : Mach} {C : Int} (g : GoodX X C) {op arg : Int} (h0 : 0 ≤ arg) (h1 : arg ≤ 1023) (h2 : op = 1 → arg ≤ 255) : GoodX (doN X op arg) C := by
  have hr := readN_byte g.mem arg.toNat (by omega)
  by_cases e1 : op = 1
  · subst e1
    rw [doN_1]
    exact ⟨g.mem, h0, h2 rfl, g.t0, g.t1, g.len, g.back, g.c0, g.c1⟩
  by_cases e2 : op = 2
  · subst e2
    rw [doN_2]
    exact ⟨g.mem, hr.1, hr.2, g.t0, g.t1, g.len, g.back, g.c0, g.c1⟩
  by_cases e3 : op = 3
  · subst e3
    rw [doN_3]
    exact ⟨good_write g.mem _ _ g.a0 g.a1, g.a0, g.a1, g.t0, g.t1, g.len, g.back, g.c0, g.c1⟩
  by_cases e4 : op = 4
  · subst e4
    rw [doN_4]
    exact ⟨g.mem, (addM_bd _ _ _).1, (addM_bd _ _ _).2, g.t0, g.t1, g.len, g.back, g.c0, g.c1⟩
  by_cases e5 : op = 5
  · subst e5
    rw [doN_5]
    exact ⟨g.mem, (subM_bd _ _ _).1, (subM_bd _ _ _).2, g.t0, g.t1, g.len, g.back, g.c0, g.c1⟩
  by_cases e6 : op = 6
  · subst e6
    rw [doN_6]
    exact ⟨g.mem, (andN_bd _ _ g.a0 g.a1 hr.1 hr.2).1, (andN_bd _ _ g.a0 g.a1 hr.1 hr.2).2, g.t0, g.t1, g.len, g.back, g.c0, g.c1⟩
  by_cases e7 : op = 7
  · subst e7
    rw [doN_7]
    exact ⟨g.mem, (xorN_bd _ _ g.a0 g.a1 hr.1 hr.2).1, (xorN_bd _ _ g.a0 g.a1 hr.1 hr.2).2, g.t0, g.t1, g.len, g.back, g.c0, g.c1⟩
  by_cases e8 : op = 8
  · subst e8
    rw [doN_8]
    exact ⟨g.mem, (rolM_bd _ _).1, (rolM_bd _ _).2, g.t0, g.t1, g.len, g.back, g.c0, g.c1⟩
  by_cases e9 : op = 9
  · subst e9
    rw [doN_9]
    exact ⟨g.mem, (rorM_bd _ _ g.a0 g.a1).1, (rorM_bd _ _ g.a0 g.a1).2, g.t0, g.t1, g.len, g.back, g.c0, g.c1⟩
  by_cases e10 : op = 10
  · subst e10
    rw [doN_10]
    exact ⟨g.mem, g.a0, g.a1, h0, h1, g.len, g.back, g.c0, g.c1⟩
  by_cases e11 : op = 11
  · subst e11
    rw [doN_11]
    split
    · exact ⟨g.mem, g.a0, g.a1, h0, h1, g.len, g.back, g.c0, g.c1⟩
    · exact g
  by_cases e12 : op = 12
  · subst e12
    rw [doN_12]
    split
    · exact ⟨g.mem, g.a0, g.a1, h0, h1, g.len, g.back, g.c0, g.c1⟩
    · exact g
  by_cases e13 : op = 13
  · subst e13
    rw [doN_13]
    split
    · exact ⟨g.mem, g.a0, g.a1, g.t0, g.t1, g.len, g.back, g.c0, g.c1⟩
    · rename_i hl
      refine ⟨g.mem, g.a0, g.a1, h0, h1, ?_, fun i hi => ?_, g.c0, g.c1⟩
      · have := g.len
        show (X.back ++ [X.at_]).length ≤ 8
        rw [List.length_append]; simp; omega
      · show 0 ≤ (X.back ++ [X.at_]).getD i 0 ∧ (X.back ++ [X.at_]).getD i 0 ≤ 1023
        rw [getD_append_one]
        split
        · rename_i hi; exact g.back i hi
        · split
          · exact ⟨g.t0, g.t1⟩
          · omega
  by_cases e14 : op = 14
  · subst e14
    rw [doN_14]
    split
    · exact ⟨g.mem, g.a0, g.a1, g.t0, g.t1, g.len, g.back, g.c0, g.c1⟩
    · rename_i hl
      have hb := g.back (X.back.length - 1) (by omega)
      refine ⟨g.mem, g.a0, g.a1, hb.1, hb.2, ?_, fun i hi => ?_, g.c0, g.c1⟩
      · have := g.len
        show (X.back.take (X.back.length - 1)).length ≤ 8
        rw [List.length_take]; omega
      · have hi : i < (X.back.take (X.back.length - 1)).length := hi
        rw [List.length_take] at hi
        show 0 ≤ (X.back.take (X.back.length - 1)).getD i 0 ∧ (X.back.take (X.back.length - 1)).getD i 0 ≤ 1023
        rw [getD_take _ _ _ (by omega)]
        exact g.back i (by omega)
  by_cases e15 : op = 15
  · subst e15
    rw [doN_15]
    exact ⟨g.mem, g.a0, g.a1, g.t0, g.t1, g.len, g.back, g.c0, g.c1⟩
  rw [doN_no X op arg (by omega)]
  exact g
theorem good_more {X : Mach} {C D : Int} (g : GoodX X C) (h : C ≤ D) : GoodX X D := ⟨g.mem, g.a0, g.a1, g.t0, g.t1, g.len, g.back, g.c0, Int.le_trans g.c1 h⟩
theorem good_move {X : Mach} {C : Int} (g : GoodX X C) (op : Int) : GoodX (moveN X op) (C + 3) := by
  have hl := lenN_bd op
  have := g.t0
  have := g.c0
  have := g.c1
  refine ⟨g.mem, g.a0, g.a1, ?_, ?_, g.len, g.back, ?_, ?_⟩
  · show 0 ≤ (X.at_ + lenN op) % 1024; omega
  · show (X.at_ + lenN op) % 1024 ≤ 1023; omega
  · show 0 ≤ X.cyc + lenN op; omega
  · show X.cyc + lenN op ≤ C + 3; omega
theorem lenN_one : lenN 1 = 2 := by decide
theorem good_step {X : Mach} {C : Int} (g : GoodX X C) : GoodX (stepN X) (C + 3) := by
  unfold stepN
  split
  · exact good_more g (by omega)
  · split
    · exact ⟨g.mem, g.a0, g.a1, g.t0, g.t1, g.len, g.back, g.c0, Int.le_trans g.c1 (by omega)⟩
    · rename_i op arg h
      obtain ⟨_, _, _, _, h0, h1, h2⟩ := dec_fit h
      exact good_do (good_move g op) h0 h1 fun e => h2 (by rw [e]; exact lenN_one)
theorem good_run {X : Mach} {C : Int} (g : GoodX X C) (k : Nat) : GoodX (runN X k) (C + 3 * k) := by
  induction k with
  | zero => exact good_more g (by omega)
  | succ k ih => exact good_more (good_step ih) (by omega)
theorem run_add (X : Mach) (j k : Nat) : runN (runN X j) k = runN X (j + k) := by
  induction k with
  | zero => rfl
  | succ k ih => show stepN (runN (runN X j) k) = stepN (runN X (j + k)); rw [ih]
theorem until_run (ad : Int) (X : Mach) (f : Nat) : ∀ j, (untilN ad f j (runN X j)).2 = runN X (untilN ad f j (runN X j)).1 ∧ (untilN ad f j (runN X j)).1 ≤ j + f ∧ j ≤ (untilN ad f j (runN X j)).1 := by
  induction f with
  | zero => intro j; exact ⟨rfl, Nat.le_refl _, Nat.le_refl _⟩
  | succ f ih =>
    intro j
    unfold untilN
    split
    · exact ⟨rfl, Nat.le_add_right _ _, Nat.le_refl _⟩
    · split
      · exact ⟨rfl, by show j + 1 ≤ j + (f + 1); omega, by show j ≤ j + 1; omega⟩
      · have h := ih (j + 1)
        have e : stepN (runN X j) = runN X (j + 1) := rfl
        rw [e]
        exact ⟨h.1, by omega, by omega⟩
end Go.Proofs.YtcapfafglikcmaaDoor
end
