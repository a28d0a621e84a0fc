import Derived.Test.YtacebhncecninaaGA
import Derived.Test.YtacebhncecninaaGB
import Derived.Test.YtacebhncecninaaGC
import Derived.Deep.DeepCutAuto
import Derived.Test.YtacebhncecninaaGD
import Derived.Great.BuildSlice

section
/- A slice that came in: it stays; its length. -/
namespace Go.Proofs.Ytacebhncecninaa
open Go.ChangeShapes Go.WideShapes Go.ChangeAt Go.RowKit

theorem isRow_stays {k : IntKind} {w w' : World} {a : Option Addr} {len cap : Nat} {zs : List Int} (h : IsRow k w a len cap zs) (b : Below w.heap.size w w') : IsRow k w' a len cap zs := by
  rcases h with h | ⟨x, rfl, hl, hm, hz, hc, hw⟩
  · exact .inl h
  · exact .inr ⟨x, rfl, hl, hm, hz, fun i hi => (b.cell (World.block_lt_of_cell? _ _ (hc i hi))).trans (hc i hi), hw⟩
theorem isRow_len {k : IntKind} {w : World} {a : Option Addr} {len cap : Nat} {zs : List Int} (h : IsRow k w a len cap zs) : len ≤ 9223372036854775807 := by
  rcases h with ⟨_, h, _⟩ | ⟨x, _, hl, hm, _⟩
  · omega
  · unfold maxLen at hm; omega
end Go.Proofs.Ytacebhncecninaa
end

section
/- A drawn tile. -/
namespace Go.Proofs.Ytacebhncecninaa
open Go.ChangeShapes Go.WideShapes Go.ChangeAt Go.RowKit
set_option linter.unusedVariables false

/-- All pixels are in l..h. -/
def PxIn (l h : Int) (px : List Int) : Prop := px.length = 64 ∧ ∀ i, i < 64 → l ≤ px.getD i 0 ∧ px.getD i 0 ≤ h
theorem PxIn.z64 : PxIn 0 3 z64 := ⟨z64_len, fun i _ => by rw [z64_get]; omega⟩
theorem PxIn.mono {l h l' h' : Int} {px : List Int} (p : PxIn l h px) (hl : l' ≤ l) (hh : h ≤ h') : PxIn l' h' px := ⟨p.1, fun i hi => by have := p.2 i hi; omega⟩
theorem PxIn.set {l h : Int} {px : List Int} (p : PxIn l h px) (k : Nat) (v : Int) (v0 : l ≤ v) (v1 : v ≤ h) : PxIn l h (px.set k v) := by
  refine ⟨by rw [List.length_set]; exact p.1, fun i hi => ?_⟩
  have hp := p.2 i hi
  rw [List.getD_eq_getElem?_getD, List.getElem?_set]
  by_cases e : k = i
  · rw [if_pos e]
    by_cases hk : k < px.length
    · rw [if_pos hk]; exact ⟨v0, v1⟩
    · have := p.1; omega
  · rw [if_neg e, ← List.getD_eq_getElem?_getD]; exact hp
theorem iv_put (px : List Int) (i : Nat) (v : Int) : (iv px).set i (.int .i64 v) = iv (px.set i v) := by simp [List.map_set]
theorem two_4 (v : Int) (d0 : 0 ≤ v) (d1 : v < 2) : ∃ u : Int, (#[Value.int .i64 (-1), .int .i64 4] : Array Value)[v.toNat]? = some (.int .i64 u) ∧ -1 ≤ u ∧ u ≤ 4 := by
  have h : v = 0 ∨ v = 1 := by omega
  rcases h with rfl | rfl <;> exact ⟨_, rfl, by omega, by omega⟩
theorem odd_le (q m : Nat) (n : Int) (w : World) (h : Rd w q m) (hm : m ≤ 1000000) (hn : 0 ≤ n) (hn2 : n ≤ 1000000) : Calls Try.prog 93 #[.pointer (some ⟨q, 0, none⟩), .int .i64 n] w (Odded q m w) := by
  by_cases h0 : n = 0
  · subst h0
    refine (odd_zero q w).mono ?_
    rintro e w' ⟨rfl, rfl⟩
    exact ⟨false, rfl, Sole.refl _ _, h.mono (by omega)⟩
  · exact odd_any q m n w h (by omega) (by omega) (by omega)
/-- What drawing a tile leaves. -/
def TilDrawn (q m : Nat) (w : World) (e : Ending) (w' : World) : Prop := ∃ px, PxIn (-1) 4 px ∧ e = .returned (tilV px) ∧ Only [q] w w' ∧ Rd w' q (m + 140)
set_option maxRecDepth 100000 in
set_option maxHeartbeats 4000000 in
theorem tile_any (q m : Nat) (n : Int) (w : World) (h : Rd w q m) (hm : m ≤ 100000) (hn : 0 ≤ n) (hn2 : n ≤ 1000) : Calls Try.prog 92 #[.pointer (some ⟨q, 0, none⟩), .int .i64 n] w (TilDrawn q m w) := by
  have hq := h.lt
  have R0 := Lib.hid h
  clear h
  go_enter Try.func92, Try.ntmps92
  go_wp2_with (first | (refine st_alloc (by rfl) rfl ?_) | (refine st_build (by rfl) rfl ?_) | (refine st_store (by rfl) _ _ rfl _ rfl z64 rfl z64_len (iv z64) (Box.new_at _ _ _ _ (by simp)) (by simp [z64_len]) ?_))
  obtain ⟨w1, hw1⟩ : ∃ w1, w1 = ((w.alloc (.cells (iv z64).toArray 57)).alloc (.cells (iv z64).toArray 57)).setRow (w.heap.size + 1) (iv z64).toArray := ⟨_, rfl⟩
  have X1 : Hid (Box w1 w.heap.size 57 (iv z64)) := by rw [hw1]; exact ((Box.new w _ _).alloc _).rowFar (by omega)
  have Y1 : Hid (Box w1 (w.heap.size + 1) 57 (iv z64)) := by rw [hw1]; exact Box.row (cs := iv z64) (Box.new_at _ _ _ _ (by simp))
  have O1 : Hid (Only [q] w w1) := by rw [hw1]; exact (((Only.refl _ w).alloc _).alloc _).row (.inr (by omega)) _
  have R1 : Hid (Rd w1 q m) := by rw [hw1]; exact ((R0.out.alloc _).alloc _).stay (below_row (Below.refl _ _) (by omega) _)
  rw [← hw1]
  clear hw1 R0
  generalize hbr : w.heap.size = br at X1 Y1 ⊢
  generalize hbx : br + 1 = bx at Y1 ⊢
  have hne : br ≠ q ∧ bx ≠ q ∧ br ≠ bx ∧ q < bx ∧ w.heap.size ≤ bx ∧ w.heap.size ≤ br := by omega
  have HN := Lib.hid hne
  clear hne hbr hbx
  refine (pick_any q _ 4 _ R1.out (by omega) (by omega) (by omega)).mono ?_
  rintro e w2 ⟨v, v0, v1, rfl, s2, r2⟩
  have X2 := Lib.hid (X1.out.only s2.only (by simpa using HN.out.1))
  have Y2 := Lib.hid (Y1.out.only s2.only (by simpa using HN.out.2.1))
  have O2 := Lib.hid (O1.out.trans s2.only)
  have R2 := Lib.hid r2
  clear s2 r2 X1 Y1 O1 R1
  go_wp2_with fail
  refine (pick_any q _ 9 _ R2.out (by omega) (by omega) (by omega)).mono ?_
  rintro e w3 ⟨st, st0, st1, rfl, s3, r3⟩
  have X3 := Lib.hid (X2.out.only s3.only (by simpa using HN.out.1))
  have Y3 := Lib.hid (Y2.out.only s3.only (by simpa using HN.out.2.1))
  have O3 := Lib.hid (O2.out.trans s3.only)
  have R3 := Lib.hid r3
  clear s3 r3 X2 Y2 O2 R2
  go_wp2_with fail
  obtain ⟨sy, hsy⟩ : ∃ sy, 1 + st = sy := ⟨_, rfl⟩
  have sy0 : 1 ≤ sy := by omega
  have sy1 : sy ≤ 9 := by omega
  rw [hsy]
  clear hsy
  go_loopw [6, 8] (fun u i wr => ∃ (k : Nat) (v : Int) (px : List Int), k ≤ 64 ∧ u = .int .i64 v ∧ (0 ≤ v ∧ v < 4) ∧ i = .int .i64 k ∧ PxIn 0 3 px ∧ Box wr br 57 (iv z64) ∧ Box wr bx 57 (iv px) ∧ Only [q] w wr ∧ Rd wr q (m + 2 + 2 * k)) (fun _ i _ => 64 - (intOf i).toNat)
  case atStart => exact ⟨0, v, z64, by omega, rfl, ⟨v0, v1⟩, rfl, PxIn.z64, X3.out, Y3.out, O3.out, R3.out⟩
  case round =>
    obtain ⟨k, v', px, hk, rfl, ⟨v0', v1'⟩, rfl, hpx, hx, hy, ho, hr⟩ := hrel
    have XR := Lib.hid hx
    have YR := Lib.hid hy
    have OR := Lib.hid ho
    have RR := Lib.hid hr
    have HP := Lib.hid hpx
    clear hx hy ho hr hpx X3 Y3 O3 R3 v0 v1
    by_cases h64 : k < 64
    · have i64' : (k : Int) < 64 := by omega
      have k0 : 0 ≤ (k : Int) := by omega
      go_wp2_with fail
      refine (pick_any q _ sy _ RR.out (by omega) sy0 (by omega)).mono ?_
      rintro e w4 ⟨z, z0, z1, rfl, s4, r4⟩
      have X4 := Lib.hid (XR.out.only s4.only (by simpa using HN.out.1))
      have Y4 := Lib.hid (YR.out.only s4.only (by simpa using HN.out.2.1))
      have O4 := Lib.hid (OR.out.trans s4.only)
      have R4 := Lib.hid r4
      clear s4 r4 XR YR OR RR
      by_cases hz : z = 0
      · subst hz
        go_wp2_with fail
        refine (pick_any q _ 4 _ R4.out (by omega) (by omega) (by omega)).mono ?_
        rintro e w5 ⟨v5, v50, v51, rfl, s5, r5⟩
        have X5 := Lib.hid (X4.out.only s5.only (by simpa using HN.out.1))
        have Y5 := Lib.hid (Y4.out.only s5.only (by simpa using HN.out.2.1))
        have O5 := Lib.hid (O4.out.trans s5.only)
        have R5 := Lib.hid r5
        clear s5 r5 X4 Y4 O4 R4
        have y0 := til_cell Y5.out k (by rw [HP.out.1]; exact h64)
        have g0 := Y5.out.frozen k
        go_wp2_with fail
        go_roundw
        case rel => exact ⟨k + 1, v5, px.set k v5, by omega, rfl, ⟨v50, v51⟩, by go_num, HP.out.set k v5 v50 (by omega), X5.out.far HN.out.2.2.1 _, by rw [← iv_put]; exact Y5.out.set k (.int .i64 v5), O5.out.setCell (.inr HN.out.2.2.2.2.1) _, (R5.out.far HN.out.2.2.2.1 _).mono (by omega)⟩
        case measure => simp [intOf]; omega
      · have hz' : (z == 0) = false := by simpa using hz
        clear hz
        have y0 := til_cell Y4.out k (by rw [HP.out.1]; exact h64)
        have g0 := Y4.out.frozen k
        go_wp2_with fail
        go_roundw
        case rel => exact ⟨k + 1, v', px.set k v', by omega, rfl, ⟨v0', v1'⟩, by go_num, HP.out.set k v' v0' (by omega), X4.out.far HN.out.2.2.1 _, by rw [← iv_put]; exact Y4.out.set k (.int .i64 v'), O4.out.setCell (.inr HN.out.2.2.2.2.1) _, (R4.out.far HN.out.2.2.2.1 _).mono (by omega)⟩
        case measure => simp [intOf]; omega
    · obtain rfl : k = 64 := by omega
      clear h64
      go_wp2_with fail
      refine (odd_le q _ n _ RR.out (by omega) hn (by omega)).mono ?_
      rintro e w4 ⟨bb, rfl, s4, r4⟩
      have X4 := Lib.hid (XR.out.only s4.only (by simpa using HN.out.1))
      have Y4 := Lib.hid (YR.out.only s4.only (by simpa using HN.out.2.1))
      have O4 := Lib.hid (OR.out.trans s4.only)
      have R4 := Lib.hid r4
      clear s4 r4 XR YR OR RR
      cases bb
      · have hl := HP.out.1
        go_wp2_with (first | (refine st_load (by rfl) _ rfl _ rfl px hl Y4.out ?_) | (refine st_store (by rfl) _ _ rfl _ rfl px rfl hl (iv z64) X4.out (by simp [z64_len]) ?_))
        have RF : Hid (Box (w4.setRow br (iv px).toArray) br 57 (iv px)) := Box.row X4.out
        refine bodyPost_ret (v := tilV px) (til_ret rfl rfl RF.out hl) rfl ?_
        exact ⟨px, HP.out.mono (by omega) (by omega), rfl, O4.out.row (.inr HN.out.2.2.2.2.2) _, (R4.out.stay (below_row (Below.refl _ _) (by have := HN.out; omega) _)).mono (by omega)⟩
      · go_wp2_with fail
        refine (pick_any q _ 64 _ R4.out (by omega) (by omega) (by omega)).mono ?_
        rintro e w5 ⟨i, i0, i1, rfl, s5, r5⟩
        have X5 := Lib.hid (X4.out.only s5.only (by simpa using HN.out.1))
        have Y5 := Lib.hid (Y4.out.only s5.only (by simpa using HN.out.2.1))
        have O5 := Lib.hid (O4.out.trans s5.only)
        have R5 := Lib.hid r5
        have zq5 : q < w5.heap.size := R5.out.lt
        clear s5 r5 X4 Y4 O4 R4
        go_wp2_with fail
        refine (pick_any q _ 2 _ (R5.out.alloc _) (by omega) (by omega) (by omega)).mono ?_
        rintro e w6 ⟨z, z0, z1, rfl, s6, r6⟩
        obtain ⟨u, hu, u0, u1⟩ := two_4 z z0 z1
        have cu := lit_at2 s6 zq5 hu
        have X6 := Lib.hid ((X5.out.alloc _).only s6.only (by simpa using HN.out.1))
        have Y6 := Lib.hid ((Y5.out.alloc _).only s6.only (by simpa using HN.out.2.1))
        have O6 := Lib.hid ((O5.out.alloc _).trans s6.only)
        have R6 := Lib.hid r6
        clear s6 r6 X5 Y5 O5 R5
        have vn : z < ((2 : Nat) : Int) := by omega
        obtain ⟨j, rfl⟩ := Int.eq_ofNat_of_zero_le i0
        have y0 := til_cell Y6.out j (by rw [HP.out.1]; omega)
        have g0 := Y6.out.frozen j
        go_upto_region 12 with (fail)
        have X7 := Lib.hid (X6.out.far (b' := bx) (i := j) HN.out.2.2.1 (.int .i64 u))
        have Y7 : Hid (Box (w6.setCell ⟨bx, j, none⟩ (.int .i64 u)) bx 57 (iv (px.set j u))) := by rw [← iv_put]; exact Y6.out.set j (.int .i64 u)
        have O7 := Lib.hid (O6.out.setCell (q := bx) (j := j) (.inr HN.out.2.2.2.2.1) (.int .i64 u))
        have R7 := Lib.hid (R6.out.far (b := bx) (i := j) HN.out.2.2.2.1 (.int .i64 u))
        have HP7 := Lib.hid ((HP.out.mono (l' := -1) (h' := 4) (by omega) (by omega)).set j u u0 u1)
        generalize w6.setCell ⟨bx, j, none⟩ (.int .i64 u) = w7 at X7 Y7 O7 R7 ⊢
        clear y0 g0 cu X6 Y6 O6 R6
        generalize px.set j u = py at Y7 HP7
        have hl := HP7.out.1
        go_wp2_with (first | (refine st_load (by rfl) _ rfl _ rfl py hl Y7.out ?_) | (refine st_store (by rfl) _ _ rfl _ rfl py rfl hl (iv z64) X7.out (by simp [z64_len]) ?_))
        have RF : Hid (Box (w7.setRow br (iv py).toArray) br 57 (iv py)) := Box.row X7.out
        refine bodyPost_ret (v := tilV py) (til_ret rfl rfl RF.out hl) rfl ?_
        exact ⟨py, HP7.out, rfl, O7.out.row (.inr HN.out.2.2.2.2.2) _, (R7.out.stay (below_row (Below.refl _ _) (by have := HN.out; omega) _)).mono (by omega)⟩
end Go.Proofs.Ytacebhncecninaa
end

section
/- The model's drawn backgrounds: what lies in memory while one is drawn. -/
namespace Go.Proofs.Ytacebhncecninaa
open Go.ChangeShapes Go.WideShapes Go.ChangeAt Go.RowKit
set_option linter.unusedVariables false

theorem own_only_any {S : List Nat} {w w' : World} {base : Nat} {e : TypeId} {s : Nat} {v : Value} {n : Nat} {xs : List Value} (h : w.ownsRow base e s v n xs) (k : Only S w w') (hS : ∀ b ∈ S, b < base) : w'.ownsRow base e s v n xs := by
  rcases h with ⟨hl, h | ⟨g, cap, cur, rfl, hb, hh, hr⟩⟩
  · exact ⟨hl, .inl h⟩
  · have hg : g < w.heap.size := by
      by_cases hl : g < w.heap.size
      · exact hl
      · rw [Array.getElem?_eq_none (by omega)] at hh; cases hh
    exact ⟨hl, .inr ⟨g, cap, cur, rfl, hb, (k.block g hg (fun hs => by have := hS g hs; omega)).trans hh, hr⟩⟩
theorem own_block {w : World} {base : Nat} {e : TypeId} {s : Nat} {v : Value} {n : Nat} {xs : List Value} (h : w.ownsRow base e s v n xs) : ∀ g, v.ownBlock = some g → base ≤ g ∧ g < w.heap.size ∧ ∃ cur, w.heap[g]? = some (.cells cur e (0, 0)) := by
  intro g hg
  rcases h.2 with ⟨rfl, _⟩ | ⟨g', cap, cur, rfl, hb, hh, _⟩
  · simp [Value.ownBlock] at hg
  · have e : some g' = some g := hg
    injection e with e
    subst e
    refine ⟨hb, ?_, cur, hh⟩
    by_cases hl : g' < w.heap.size
    · exact hl
    · rw [Array.getElem?_eq_none (by omega)] at hh; cases hh
/-- A row of the call's own stays when a row of another type grows. -/
theorem own_beside {w w' : World} {base : Nat} {e e' : TypeId} {s s' : Nat} {v u : Value} {n n' : Nat} {xs ys : List Value} (h : w.ownsRow base e s v n xs) (k : w.ownsRow base e' s' u n' ys) (hne : e ≠ e') (g : w.grownBy w' u.ownBlock) : w'.ownsRow base e s v n xs := by
  have hb := own_block k
  have ho := own_block h
  rcases h with ⟨hl, h | ⟨g0, cap, cur, rfl, hb0, hh, hr⟩⟩
  · exact ⟨hl, .inl h⟩
  · obtain ⟨_, hlt, _⟩ := ho g0 rfl
    refine ⟨hl, .inr ⟨g0, cap, cur, rfl, hb0, (g.block g0 hlt fun hs => ?_).trans hh, hr⟩⟩
    obtain ⟨_, _, cur', hc⟩ := hb g0 hs.symm
    rw [hh] at hc
    simp only [Option.some.injEq, Obj.cells.injEq] at hc
    exact hne hc.2.1
theorem only_grown {S : List Nat} {a w w' : World} {row : Option Nat} (h : Only S a w) (g : w.grownBy w' row) (hr : ∀ k, row = some k → a.heap.size ≤ k) : Only S a w' :=
  ⟨g.os.trans h.os, g.tape.trans h.tape, g.output.trans h.output, Nat.le_trans h.size g.size, fun k hk hn => (g.block k (Nat.lt_of_lt_of_le hk h.size) (fun e => by have := hr k e.symm; omega)).trans (h.block k hk hn)⟩
theorem box_grown {w w' : World} {row : Option Nat} {b : Nat} {t : TypeId} {cs : List Value} (h : Box w b t cs) (g : w.grownBy w' row) (hr : ∀ k, row = some k → b ≠ k) : Box w' b t cs := (g.block b h.lt (fun e => hr b e.symm rfl)).trans h
theorem rd_grown {w w' : World} {row : Option Nat} {q m : Nat} (h : Rd w q m) (g : w.grownBy w' row) (hr : ∀ k, row = some k → q < k) : Rd w' q m :=
  h.stay ⟨g.os, g.tape, g.output, g.size, fun k hk => g.block k (by have := h.lt; omega) (fun e => by have := hr k e.symm; omega)⟩
/-- What lies in memory while a background is drawn: the variable in block b, the result's in block r. -/
structure FD (w0 : World) (q r b m : Nat) (W sx sy : Int) (n nt : Nat) (xs zs : List Int) (mv tv : Value) (w : World) : Prop where
  box : Box w b 26 [.int .i64 W, mv, tv, .int .i64 sx, .int .i64 sy]
  res : Box w r 26 (fcs 0 none 0 0 none 0 0 0 0)
  mo : w.ownsRow (b + 1) 3 1 mv n (iv xs)
  tw : w.ownsRow (b + 1) 57 64 tv nt (iv zs)
  only : Only [q] w0 w
  rd : Rd w q m
  hq : q < r
  hr : r < b
  hw : w0.heap.size ≤ r
section
variable {w0 : World} {q r b m : Nat} {W sx sy : Int} {n nt : Nat} {xs zs : List Int} {mv tv : Value} {w : World}
theorem FD.drawn {w' : World} {m' : Nat} (h : FD w0 q r b m W sx sy n nt xs zs mv tv w) (o : Only [q] w w') (k : Rd w' q m') : FD w0 q r b m' W sx sy n nt xs zs mv tv w' :=
  ⟨h.box.only o (by have := h.hq; have := h.hr; simp; omega), h.res.only o (by have := h.hq; simp; omega), own_only_any h.mo o (by have := h.hq; have := h.hr; simp; omega), own_only_any h.tw o (by have := h.hq; have := h.hr; simp; omega), h.only.trans o, k, h.hq, h.hr, h.hw⟩
theorem FD.below {w' : World} (h : FD w0 q r b m W sx sy n nt xs zs mv tv w) (o : Below w.heap.size w w') : FD w0 q r b m W sx sy n nt xs zs mv tv w' :=
  h.drawn (.of_below o) (h.rd.keep o)
theorem FD.mono {m' : Nat} (h : FD w0 q r b m W sx sy n nt xs zs mv tv w) (k : m ≤ m') : FD w0 q r b m' W sx sy n nt xs zs mv tv w := ⟨h.box, h.res, h.mo, h.tw, h.only, h.rd.mono k, h.hq, h.hr, h.hw⟩
theorem FD.boxT {w' : World} (h : FD w0 q r b m W sx sy n nt xs zs mv tv w) (g : w.grownBy w' tv.ownBlock) : Box w' b 26 [.int .i64 W, mv, tv, .int .i64 sx, .int .i64 sy] :=
  box_grown h.box g fun k e => by have := (own_block h.tw k e).1; omega
theorem FD.boxI {w' : World} (h : FD w0 q r b m W sx sy n nt xs zs mv tv w) (g : w.grownBy w' mv.ownBlock) : Box w' b 26 [.int .i64 W, mv, tv, .int .i64 sx, .int .i64 sy] :=
  box_grown h.box g fun k e => by have := (own_block h.mo k e).1; omega
/-- More tiles. -/
theorem FD.tiles {w' : World} {v' : Value} {nt' : Nat} {zs' : List Int} (h : FD w0 q r b m W sx sy n nt xs zs mv tv w) (ow : w'.ownsRow (b + 1) 57 64 v' nt' (iv zs')) (g : w.grownBy w' tv.ownBlock) :
    FD w0 q r b m W sx sy n nt' xs zs' mv v' (w'.setCell ⟨b, 2, none⟩ v') := by
  have hk : ∀ k, tv.ownBlock = some k → b + 1 ≤ k := fun k hk => (own_block h.tw k hk).1
  have h1 := h.hq
  have h2 := h.hr
  have h3 := h.hw
  have bx := box_grown h.box g fun k e => by have := hk k e; omega
  have rx := box_grown h.res g fun k e => by have := hk k e; omega
  have mx := own_beside h.mo h.tw (by decide) g
  have o1 : Only [b] w' (w'.setCell ⟨b, 2, none⟩ v') := (Only.refl _ _).setCell (.inl (by simp)) _
  refine ⟨bx.set 2 v', rx.far (by omega) _, own_only_any mx o1 (by simp), own_only_any ow o1 (by simp), ?_, ?_, h1, h2, h3⟩
  · exact (only_grown h.only g fun k e => by have := hk k e; omega).setCell (.inr (by omega)) _
  · exact (rd_grown h.rd g fun k e => by have := hk k e; omega).far (by omega) _
/-- More numbers. -/
theorem FD.nums {w' : World} {v' : Value} {n' : Nat} {xs' : List Int} (h : FD w0 q r b m W sx sy n nt xs zs mv tv w) (ow : w'.ownsRow (b + 1) 3 1 v' n' (iv xs')) (g : w.grownBy w' mv.ownBlock) :
    FD w0 q r b m W sx sy n' nt xs' zs v' tv (w'.setCell ⟨b, 1, none⟩ v') := by
  have hk : ∀ k, mv.ownBlock = some k → b + 1 ≤ k := fun k hk => (own_block h.mo k hk).1
  have h1 := h.hq
  have h2 := h.hr
  have h3 := h.hw
  have bx := box_grown h.box g fun k e => by have := hk k e; omega
  have rx := box_grown h.res g fun k e => by have := hk k e; omega
  have tx := own_beside h.tw h.mo (by decide) g
  have o1 : Only [b] w' (w'.setCell ⟨b, 1, none⟩ v') := (Only.refl _ _).setCell (.inl (by simp)) _
  refine ⟨bx.set 1 v', rx.far (by omega) _, own_only_any ow o1 (by simp), own_only_any tx o1 (by simp), ?_, ?_, h1, h2, h3⟩
  · exact (only_grown h.only g fun k e => by have := hk k e; omega).setCell (.inr (by omega)) _
  · exact (rd_grown h.rd g fun k e => by have := hk k e; omega).far (by omega) _
end
/-- The same with plain slices: for what is changed at the end. -/
structure FE (w0 : World) (q r b m : Nat) (W sx sy : Int) (A : Option Addr) (n c : Nat) (T : Option Addr) (nt d : Nat) (xs zs : List Int) (fa ft : List Nat) (w : World) : Prop where
  box : Box w b 26 (fcs W A n c T nt d sx sy)
  res : Box w r 26 (fcs 0 none 0 0 none 0 0 0 0)
  ia : Ints w A n xs fa
  it : Ints w T (64 * nt) zs ft
  nw : New (b + 1) w (fa ++ ft)
  only : Only [q] w0 w
  rd : Rd w q m
  hq : q < r
  hr : r < b
  hw : w0.heap.size ≤ r
theorem FD.ends {w0 : World} {q r b m : Nat} {W sx sy : Int} {n nt : Nat} {xs zs : List Int} {mv tv : Value} {w : World} (h : FD w0 q r b m W sx sy n nt xs zs mv tv w) : ∃ A c T d fa ft, mv = .slice A n c ∧ n ≤ c ∧ tv = .slice T nt d ∧ nt ≤ d ∧ FE w0 q r b m W sx sy A n c T nt d xs zs fa ft w := by
  obtain ⟨A, c, T, d, fa, ft, rfl, hc, rfl, hd, hi, hz, hn, _⟩ := own_two h.mo h.tw
  exact ⟨A, c, T, d, fa, ft, rfl, hc, rfl, hd, h.box, h.res, hi, hz, hn, h.only, h.rd, h.hq, h.hr, h.hw⟩
section
variable {w0 : World} {q r b m : Nat} {W sx sy : Int} {A : Option Addr} {n c : Nat} {T : Option Addr} {nt d : Nat} {xs zs : List Int} {fa ft : List Nat} {w : World}
theorem FE.drawn {w' : World} {m' : Nat} (h : FE w0 q r b m W sx sy A n c T nt d xs zs fa ft w) (o : Only [q] w w') (k : Rd w' q m') : FE w0 q r b m' W sx sy A n c T nt d xs zs fa ft w' := by
  have s : Same (fa ++ ft) w w' := .of_only o fun x hx hs => by
    have := (h.nw.lt x hx).1
    have := h.hq
    have := h.hr
    simp at hs; omega
  exact ⟨h.box.only o (by have := h.hq; have := h.hr; simp; omega), h.res.only o (by have := h.hq; simp; omega), h.ia.keep (s.sub fun x hx => List.mem_append_left _ hx), h.it.keep (s.sub fun x hx => List.mem_append_right _ hx), h.nw.keep s, h.only.trans o, k, h.hq, h.hr, h.hw⟩
theorem FE.below {w' : World} (h : FE w0 q r b m W sx sy A n c T nt d xs zs fa ft w) (o : Below w.heap.size w w') : FE w0 q r b m W sx sy A n c T nt d xs zs fa ft w' := h.drawn (.of_below o) (h.rd.keep o)
theorem FE.mono {m' : Nat} (h : FE w0 q r b m W sx sy A n c T nt d xs zs fa ft w) (k : m ≤ m') : FE w0 q r b m' W sx sy A n c T nt d xs zs fa ft w := ⟨h.box, h.res, h.ia, h.it, h.nw, h.only, h.rd.mono k, h.hq, h.hr, h.hw⟩
/-- A field is stored. -/
theorem FE.store (h : FE w0 q r b m W sx sy A n c T nt d xs zs fa ft w) (i : Nat) (v : Value) (W' sx' sy' : Int) (A' : Option Addr) (n' c' : Nat) (T' : Option Addr) (nt' d' : Nat) (xs' zs' : List Int) (fa' ft' : List Nat) (hs : (fcs W A n c T nt d sx sy).set i v = fcs W' A' n' c' T' nt' d' sx' sy')
    (ia : Ints w A' n' xs' fa') (it : Ints w T' (64 * nt') zs' ft') (nw : New (b + 1) w (fa' ++ ft')) : FE w0 q r b m W' sx' sy' A' n' c' T' nt' d' xs' zs' fa' ft' (w.setCell ⟨b, i, none⟩ v) := by
  have h1 := h.hq
  have h2 := h.hr
  have h3 := h.hw
  have o : Only [b] w (w.setCell ⟨b, i, none⟩ v) := (Only.refl _ _).setCell (.inl (by simp)) _
  have s : Same (fa' ++ ft') w (w.setCell ⟨b, i, none⟩ v) := .of_only o fun x hx hs => by
    have := (nw.lt x hx).1
    simp at hs; omega
  refine ⟨by rw [← hs]; exact h.box.set i v, h.res.far (by omega) _, ia.keep (s.sub fun x hx => List.mem_append_left _ hx), it.keep (s.sub fun x hx => List.mem_append_right _ hx), nw.keep s, h.only.setCell (.inr (by omega)) _, h.rd.far (by omega) _, h1, h2, h3⟩
end
/-- A tile into the first place. -/
theorem FE.tileRun {w0 : World} {q r b m : Nat} {W sx sy : Int} {A : Option Addr} {n c pT oT nt d : Nat} {xs zs : List Int} {fa ft : List Nat} {w : World} (h : FE w0 q r b m W sx sy A n c (some ⟨pT, oT, none⟩) nt d xs zs fa ft w) (px : List Int) (hp : px.length = 64) (hn : 0 < nt) :
    (storeCells ⟨pT, oT, none⟩ (iv px) 0).run Try.prog w = .ok () (w.setCells pT oT (iv px)) := by
  obtain ⟨p', o', he, hf, hl, hc⟩ := h.it.at_ (by omega)
  injection he with he
  injection he with e1 e2 _
  subst e1 e2
  refine run_storeCells_cells (P := Try.prog) pT oT (iv px) 0 w (fun j hj => ?_) (fun j hj => ?_) (iv_one px)
  · have hj' : j < 64 := by simpa [hp] using hj
    rw [Nat.add_zero, hc j (by omega)]; rfl
  · exact h.nw.free pT (List.mem_append_right _ (by rw [hf]; simp)) _
theorem only_setCells {S : List Nat} {a : World} (b : Nat) : ∀ (vs : List Value) (o : Nat) (w : World), Only S a w → (b ∈ S ∨ a.heap.size ≤ b) → Only S a (w.setCells b o vs)
  | [], _, _, h, _ => h
  | v :: r, o, w, h, hb => by
    rw [World.setCells]
    exact only_setCells b r (o + 1) _ (h.setCell hb v) hb
theorem rd_setCells {q m : Nat} (b : Nat) (hq : q < b) : ∀ (vs : List Value) (o : Nat) (w : World), Rd w q m → Rd (w.setCells b o vs) q m
  | [], _, _, h => h
  | v :: r, o, w, h => by
    rw [World.setCells]
    exact rd_setCells b hq r (o + 1) _ (h.far hq v)
theorem FE.tileSet {w0 : World} {q r b m : Nat} {W sx sy : Int} {A : Option Addr} {n c pT oT nt d : Nat} {xs zs : List Int} {fa ft : List Nat} {w : World} (h : FE w0 q r b m W sx sy A n c (some ⟨pT, oT, none⟩) nt d xs zs fa ft w) (px : List Int) (hp : px.length = 64) (hn : 0 < nt) :
    FE w0 q r b m W sx sy A n c (some ⟨pT, oT, none⟩) nt d xs (px ++ zs.drop 64) fa ft (w.setCells pT oT (iv px)) := by
  obtain ⟨p', o', he, hf, hl, hc⟩ := h.it.at_ (by omega)
  injection he with he
  injection he with e1 e2 _
  subst e1 e2
  have h1 := h.hq
  have h2 := h.hr
  have h3 := h.hw
  have hpT := (h.nw.lt pT (List.mem_append_right _ (by rw [hf]; simp))).1
  have o : Only [pT] w (w.setCells pT oT (iv px)) := only_setCells pT (iv px) oT w (Only.refl _ _) (.inl (by simp))
  have sa : Same fa w (w.setCells pT oT (iv px)) := .of_only o fun x hx hs => by
    have hd := (List.nodup_append.1 h.nw.once).2.2 x hx pT (by rw [hf]; simp)
    simp at hs; exact hd hs
  have hz := h.it.1
  have hlv : (iv px).length = 64 := by simp [hp]
  refine ⟨h.box.only o (by simp; omega), h.res.only o (by simp; omega), h.ia.keep sa, ⟨by rw [List.length_append, List.length_drop, hp, hz]; omega, .inr ⟨by omega, pT, oT, rfl, hf, Nat.lt_of_lt_of_le hl o.size, fun i hi => ?_⟩⟩, ?_, only_setCells pT (iv px) oT w h.only (.inr (by omega)), rd_setCells pT (by omega) (iv px) oT w h.rd, h1, h2, h3⟩
  · by_cases hi64 : i < 64
    · rw [World.cell?_setCells_in pT (iv px) oT w (fun j hj => by rw [hc j (by omega)]; rfl) i (by omega)]
      have := iv_at px i (by omega)
      rw [List.getElem?_eq_getElem (by omega)] at this
      rw [this, List.getD_eq_getElem?_getD, List.getD_eq_getElem?_getD, List.getElem?_append_left (by omega)]
    · rw [World.cell?_setCells_out pT (iv px) oT w ⟨pT, oT + i, none⟩ (fun _ _ => .inr (by show oT + (iv px).length ≤ oT + i; omega)), hc i hi, List.getD_eq_getElem?_getD, List.getD_eq_getElem?_getD, List.getElem?_append_right (by omega), List.getElem?_drop, hp, show 64 + (i - 64) = i by omega]
  · exact ⟨h.nw.once, fun x hx => ⟨(h.nw.lt x hx).1, Nat.lt_of_lt_of_le (h.nw.lt x hx).2 o.size⟩, fun x hx off => by rw [World.frozen?_setCells]; exact h.nw.free x hx off⟩
/-- What drawing a background leaves. -/
def FldDrawn (q m : Nat) (w : World) (e : Ending) (w' : World) : Prop := ∃ (F : Fld) (A : Option Addr) (c : Nat) (T : Option Addr) (d : Nat) (fa ft : List Nat), e = .returned (fv F A c T d) ∧ F.xs.length ≤ 1000 ∧ F.nt ≤ 1000 ∧ F.xs.length ≤ c ∧ F.nt ≤ d ∧ FHas w' A T F fa ft ∧ New w.heap.size w' (fa ++ ft) ∧ Only [q] w w' ∧ Rd w' q (m + 1000)
theorem FE.out {w0 : World} {q r b m m0 : Nat} {W sx sy : Int} {A : Option Addr} {n c : Nat} {T : Option Addr} {nt d : Nat} {xs zs : List Int} {fa ft : List Nat} {w : World} (h : FE w0 q r b m W sx sy A n c T nt d xs zs fa ft w) (hn : n ≤ 1000) (ht : nt ≤ 1000) (hnc : n ≤ c) (htd : nt ≤ d) (hm : m ≤ m0 + 1000) :
    FldDrawn q m0 w0 (.returned (fldV W A n c T nt d sx sy)) (w.setRow r (fcs W A n c T nt d sx sy).toArray) := by
  have h1 := h.hq
  have h2 := h.hr
  have h3 := h.hw
  have o : Only [r] w (w.setRow r (fcs W A n c T nt d sx sy).toArray) := (Only.refl _ _).row (.inl (by simp)) _
  have s : Same (fa ++ ft) w (w.setRow r (fcs W A n c T nt d sx sy).toArray) := .of_only o fun x hx hs => by
    have := (h.nw.lt x hx).1
    simp at hs; omega
  have hl := h.ia.1
  subst hl
  exact ⟨⟨W, xs, nt, zs, sx, sy⟩, A, c, T, d, fa, ft, rfl, hn, ht, hnc, htd, ⟨h.ia.keep (s.sub fun x hx => List.mem_append_left _ hx), h.it.keep (s.sub fun x hx => List.mem_append_right _ hx)⟩, (show New w0.heap.size w (fa ++ ft) from ⟨h.nw.once, fun x hx => ⟨by have := (h.nw.lt x hx).1; omega, (h.nw.lt x hx).2⟩, h.nw.free⟩).keep s, h.only.row (.inr (by omega)) _, (h.rd.stay (below_row (Below.refl _ _) (show q + 1 ≤ r by omega) _)).mono hm⟩
theorem New.left {L : Nat} {w : World} {fp fq : List Nat} (h : New L w (fp ++ fq)) : New L w (fp ++ []) := by
  rw [List.append_nil]
  exact ⟨(List.nodup_append.1 h.once).1, fun b hb => h.lt b (List.mem_append_left _ hb), fun b hb => h.free b (List.mem_append_left _ hb)⟩
theorem New.right {L : Nat} {w : World} {fp fq : List Nat} (h : New L w (fp ++ fq)) : New L w ([] ++ fq) :=
  ⟨(List.nodup_append.1 h.once).2.1, fun b hb => h.lt b (List.mem_append_right _ hb), fun b hb => h.free b (List.mem_append_right _ hb)⟩
theorem New.part {L : Nat} {w : World} {fp fp' fq : List Nat} (h : New L w (fp ++ fq)) (k : fp' = [] ∨ fp' = fp) : New L w (fp' ++ fq) := by
  rcases k with rfl | rfl
  · exact h.right
  · exact h
/-- A slice without its first number. -/
theorem ints_tail {w : World} {p o n : Nat} {xs : List Int} {fp : List Nat} (h : Ints w (some ⟨p, o, none⟩) n xs fp) (hn : 1 ≤ n) : ∃ fp', Ints w (some ⟨p, o + 1, none⟩) (n - 1) (xs.drop 1) fp' ∧ (fp' = [] ∨ fp' = fp) := by
  have hl := h.1
  obtain ⟨p', o', he, hf, hp, hc⟩ := h.at_ (by omega)
  injection he with he
  injection he with e1 e2 _
  subst e1 e2
  by_cases h1 : n = 1
  · refine ⟨[], ⟨by rw [List.length_drop]; omega, .inl ⟨by omega, rfl⟩⟩, .inl rfl⟩
  · refine ⟨fp, ⟨by rw [List.length_drop]; omega, .inr ⟨by omega, p, o + 1, rfl, hf, hp, fun i hi => ?_⟩⟩, .inr rfl⟩
    have := hc (i + 1) (by omega)
    rw [show o + 1 + i = o + (i + 1) by omega, this, List.getD_eq_getElem?_getD, List.getD_eq_getElem?_getD, List.getElem?_drop, Nat.add_comm 1 i]
/-- A slice of one tile. -/
theorem fill_tile (px : List Int) (hp : px.length = 64) (cells : Array Value) (hc : cells.size = 64) : Instr.fill (fun i => some (i * 64, 64)) cells [(0, tilV px)] = some (iv px).toArray := by
  have hs : (tilV px).cells.size = 64 := by show (iv px).toArray.size = 64; simp [hp]
  obtain ⟨r, h1, h2, h3⟩ := Great.fill_dense (s := 64) (by omega) [tilV px] 0 cells (by intro v hv; simp at hv; subst hv; exact hs) (by simp [hc])
  have e : (([tilV px].zipIdx 0).map fun x => (x.2, x.1)) = [(0, tilV px)] := rfl
  rw [e] at h1
  rw [h1]
  congr 1
  apply Array.ext_getElem?
  intro k
  rw [h3 k]
  by_cases hk : k < 64
  · rw [if_pos ⟨by omega, by simpa using hk⟩, show k / 64 - 0 = 0 by omega, show k % 64 = k by omega]
    rfl
  · rw [if_neg (by simp; omega)]
    rw [Array.getElem?_eq_none (by omega), Array.getElem?_eq_none (by simp [hp]; omega)]
theorem run_buildT (px : List Int) (hp : px.length = 64) (w : World) : (Instr.buildSlice 24 1 #[(0, tilV px)]).run Try.prog w = .ok (.slice (some ⟨w.heap.size, 0, none⟩) 1 1) (w.alloc (.cells (iv px).toArray 57)) := by
  obtain ⟨i, hi, hz, hs, hb⟩ := tile_parts
  refine run_buildSlice (P := Try.prog) w 24 57 1 _ _ i _ Try.underlying24 hi hz (by rw [hs]; omega) (by rw [hs]; omega) ?_
  rw [hs]
  exact fill_tile px hp _ (by simp)
/-- The same as the walk leaves it. -/
theorem fold_tile (px : List Int) (hp : px.length = 64) (Z : Array Value) (hZ : Z.size = 64) : List.foldl (fun cs (x : Value × Nat) => cs.setIfInBounds x.snd x.fst) Z ((iv px).zipIdx) = (iv px).toArray := by
  obtain ⟨h1, h2⟩ := Great.foldl_set 0 (iv px) 0 Z
  simp only [Nat.zero_add] at h1 h2
  apply Array.ext_getElem?
  intro k
  rw [h2 k]
  by_cases hk : k < 64
  · rw [if_pos ⟨Nat.zero_le _, by simp [hp]; exact hk, by omega⟩]
    simp
  · rw [if_neg (by omega), Array.getElem?_eq_none (by omega), Array.getElem?_eq_none (by simp [hp]; omega)]
theorem lone_num (w : World) (u : Int) : Ints (w.alloc (.cells #[.int .i64 u] 3)) (some ⟨w.heap.size, 0, none⟩) 1 [u] [w.heap.size] := by
  refine ⟨rfl, .inr ⟨by omega, w.heap.size, 0, rfl, rfl, by simp, fun i hi => ?_⟩⟩
  obtain rfl : i = 0 := by omega
  rw [World.cell?_alloc_new]
  rfl
theorem lone_tile (w : World) (px : List Int) (hp : px.length = 64) : Ints (w.alloc (.cells (iv px).toArray 57)) (some ⟨w.heap.size, 0, none⟩) (64 * 1) px [w.heap.size] := by
  refine ⟨by omega, .inr ⟨by omega, w.heap.size, 0, rfl, rfl, by simp, fun i hi => ?_⟩⟩
  rw [Nat.zero_add, (Box.new w (iv px).toArray 57).cell i]
  exact iv_at px i (by omega)
section
variable {ops : Array Oper} {Q : Exit → Act → World → Prop} {T : Nat → Value → World → Prop} {a0 : Act} {S : List Nat} {q m : Nat} {w0 : World} {J D : World → Prop} {i : Nat} {o : Oper}
/-- A pick of one of so many as an operation has yielded. -/
theorem ob_pickv (hg : o.guard = none) (x y : Operand) (n : Int) (ty : Array TypeId) (hop : o.op = .call { callee := .value (.func 53), args := #[x, y], argTypes := ty }) (hq : q ∈ S) (hJ : Kept q J) (hD : Kept q D) (hm : m + ops.size ≤ 1000000000) (hn : 1 ≤ n) (hn2 : n ≤ 1000000000)
    (hx : ∀ (ρ : Operand → Value) w, PreR ops T ρ w o.after.toList → ρ x = .pointer (some ⟨q, 0, none⟩) ∧ ρ y = .int .i64 n) (hT : ∀ v w, TI 0 (n - 1) v w → T i (dstV o v) w) :
    Ob Try.prog ops Q (Cls S q m w0 J) (Rel S D) T a0 i o :=
  ob_only hg hq hJ hD fun ρ k w hk hI hc hf _ hp => by
    have e : (execOp ρ o).run Try.prog w = .ok (.enter 53 #[.pointer (some ⟨q, 0, none⟩), .int .i64 n]) w := by
      obtain ⟨h1, h2⟩ := hx ρ w hp
      have h3 := hf 53
      unfold execOp; rw [hop]
      simp [go_sem, h1, h2, h3]
    rw [e, UponT_enter]
    refine (pick_any q (m + k) n w hI.rd (by omega) hn hn2).mono ?_
    rintro e w' ⟨z, z0, z1, rfl, hs, hr⟩
    exact ⟨_, rfl, hs.only, hr, hT _ _ ⟨z, rfl, z0, by omega⟩⟩
end
/-- A number of the table is replaced. -/
theorem FE.numSet {w0 : World} {q r b m : Nat} {W sx sy : Int} {n c pA oA : Nat} {T : Option Addr} {nt d : Nat} {xs zs : List Int} {fa ft : List Nat} {w : World} (h : FE w0 q r b m W sx sy (some ⟨pA, oA, none⟩) n c T nt d xs zs fa ft w) (k : Nat) (hk : k < n) (v : Int) :
    FE w0 q r b m W sx sy (some ⟨pA, oA, none⟩) n c T nt d (xs.set k v) zs fa ft (w.setCell ⟨pA, oA + k, none⟩ (.int .i64 v)) := by
  obtain ⟨p', o', he, hf, hl, hc⟩ := h.ia.at_ (by omega)
  injection he with he
  injection he with e1 e2 _
  subst e1 e2
  have h1 := h.hq
  have h2 := h.hr
  have h3 := h.hw
  have hpA := (h.nw.lt pA (List.mem_append_left _ (by rw [hf]; simp))).1
  have o : Only [pA] w (w.setCell ⟨pA, oA + k, none⟩ (.int .i64 v)) := (Only.refl _ _).setCell (.inl (by simp)) _
  have st : Same ft w (w.setCell ⟨pA, oA + k, none⟩ (.int .i64 v)) := .of_only o fun x hx hs => by
    have hd := (List.nodup_append.1 h.nw.once).2.2 pA (by rw [hf]; simp) x hx
    simp at hs; exact hd hs.symm
  exact ⟨h.box.far (by omega) _, h.res.far (by omega) _, h.ia.set hk v, h.it.keep st, ⟨h.nw.once, fun x hx => ⟨(h.nw.lt x hx).1, by simpa using (h.nw.lt x hx).2⟩, fun x hx off => by rw [World.frozen?_setCell]; exact h.nw.free x hx off⟩, h.only.setCell (.inr (by omega)) _, h.rd.far (by omega) _, h1, h2, h3⟩
/-- A place of the table. -/
def TAt (p o n : Nat) : Value → World → Prop := fun v _ => ∃ i : Nat, i < n ∧ v = .pointer (some ⟨p, o + i, none⟩)
theorem stab_tat {S : List Nat} {D : World → Prop} (p o n : Nat) : Stab (Rel S D) (TAt p o n) := fun _ _ _ _ h => h
end Go.Proofs.Ytacebhncecninaa
end
