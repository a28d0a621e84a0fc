/- Timers that the laws draw. -/
import Derived.Test.YtmmngdofbmkmhaaTimD
import Derived.Test.YtmmngdofbmkmhaaRowIn
namespace Go.Proofs.Ytmmngdofbmkmhaa
open Go.ChangeShapes Go.WideShapes Go.ChangeAt Go.RowKit
set_option linter.unusedVariables false

/-- A timer that a law got. -/
def TimGot (w : World) (e : Ending) (w' : World) : Prop := ∃ l r f : Int, e = .returned (.agg #[.int .i64 l, .int .i64 r, .int .i64 f]) ∧ (-1 ≤ l ∧ l ≤ 1001) ∧ (-1 ≤ r ∧ r ≤ 1001) ∧ (-1 ≤ f ∧ f ≤ 8) ∧ Below w.heap.size w w'
def SkGot (w : World) (e : Ending) (w' : World) : Prop := ∃ l r f n : Int, e = .returned (.tuple #[.agg #[.int .i64 l, .int .i64 r, .int .i64 f], .int .i64 n]) ∧ (-1 ≤ l ∧ l ≤ 1001) ∧ (-1 ≤ r ∧ r ≤ 1001) ∧ (-1 ≤ f ∧ f ≤ 8) ∧ (-1 ≤ n ∧ n ≤ 100001) ∧ Below w.heap.size w w'
theorem draw_timValid (a : Option Addr) (len cap : Nat) (zs : List Int) (w : World) (h : IsRow .u8 w a len cap zs) : Calls Try.prog 12 #[.slice a len cap] w (TimGot w) := by
  have H := Lib.hid (isRow_stays h (below1 w (.cells #[.int .i64 0, .int .i64 0, .int .i64 0] 24)))
  clear h
  go_enter Try.func12, Try.ntmps12
  go_wp2_with fail
  refine (open_any a len cap zs _ H.out).mono ?_
  rintro e w1 ⟨rfl, b1, r1⟩
  have X1 : Hid (Box w1 w.heap.size 24 [.int .i64 0, .int .i64 0, .int .i64 0]) := (Box.new w _ _).below b1
  have B1 : Hid (Below w.heap.size w w1) := (below1 w _).trans (b1.mono (by simp))
  have R1 := Lib.hid r1
  have zq : w.heap.size < (w.alloc (.cells #[.int .i64 0, .int .i64 0, .int .i64 0] 24)).heap.size := by simp
  generalize (w.alloc (.cells #[.int .i64 0, .int .i64 0, .int .i64 0] 24)).heap.size = q at R1 zq
  have zq1 : q < w1.heap.size := R1.out.lt
  clear b1 r1
  go_wp2_with fail
  refine (timer_any q 0 2 _ R1.out (by omega) (by omega) (by omega)).mono ?_
  rintro e w2 ⟨l, r, f, rfl, hl, hr, hf, o2, r2⟩
  have X2 := Lib.hid (X1.out.only o2 (by simp; omega))
  have B2 := Lib.hid (B1.out.trans (o2.below (B := w.heap.size) (fun b hb => by simp at hb; omega) B1.out.size))
  have R2 := Lib.hid r2
  have ZW : Hid (w1.heap.size ≤ w2.heap.size) := o2.size
  clear o2 r2
  have e0 : w2.cell? ⟨w.heap.size, 0, none⟩ = some (.int .i64 0) := X2.out.cell 0
  have g0 := X2.out.frozen 0
  have e1 : w2.cell? ⟨w.heap.size, 1, none⟩ = some (.int .i64 0) := X2.out.cell 1
  have g1 := X2.out.frozen 1
  have e2 : w2.cell? ⟨w.heap.size, 2, none⟩ = some (.int .i64 0) := X2.out.cell 2
  have g2 := X2.out.frozen 2
  go_wp2_with fail
  refine bodyPost_ret (v := .agg #[.int .i64 l, .int .i64 r, .int .i64 f]) (by simp [results, Try.results12, go_sem, e0, e1, e2]) rfl ?_
  exact ⟨l, r, f, rfl, hl, hr, hf, ((B2.out.setCell (Nat.le_refl _) _).setCell (Nat.le_refl _) _).setCell (Nat.le_refl _) _⟩
theorem draw_tick (a : Option Addr) (len cap : Nat) (zs : List Int) (w : World) (h : IsRow .u8 w a len cap zs) : Calls Try.prog 16 #[.slice a len cap] w (TimGot w) := by
  have H := Lib.hid (isRow_stays h (below1 w (.cells #[.int .i64 0, .int .i64 0, .int .i64 0] 24)))
  clear h
  go_enter Try.func16, Try.ntmps16
  go_wp2_with fail
  refine (open_any a len cap zs _ H.out).mono ?_
  rintro e w1 ⟨rfl, b1, r1⟩
  have X1 : Hid (Box w1 w.heap.size 24 [.int .i64 0, .int .i64 0, .int .i64 0]) := (Box.new w _ _).below b1
  have B1 : Hid (Below w.heap.size w w1) := (below1 w _).trans (b1.mono (by simp))
  have R1 := Lib.hid r1
  have zq : w.heap.size < (w.alloc (.cells #[.int .i64 0, .int .i64 0, .int .i64 0] 24)).heap.size := by simp
  generalize (w.alloc (.cells #[.int .i64 0, .int .i64 0, .int .i64 0] 24)).heap.size = q at R1 zq
  have zq1 : q < w1.heap.size := R1.out.lt
  clear b1 r1
  go_wp2_with fail
  refine (timer_any q 0 9 _ R1.out (by omega) (by omega) (by omega)).mono ?_
  rintro e w2 ⟨l, r, f, rfl, hl, hr, hf, o2, r2⟩
  have X2 := Lib.hid (X1.out.only o2 (by simp; omega))
  have B2 := Lib.hid (B1.out.trans (o2.below (B := w.heap.size) (fun b hb => by simp at hb; omega) B1.out.size))
  have R2 := Lib.hid r2
  have ZW : Hid (w1.heap.size ≤ w2.heap.size) := o2.size
  clear o2 r2
  have e0 : w2.cell? ⟨w.heap.size, 0, none⟩ = some (.int .i64 0) := X2.out.cell 0
  have g0 := X2.out.frozen 0
  have e1 : w2.cell? ⟨w.heap.size, 1, none⟩ = some (.int .i64 0) := X2.out.cell 1
  have g1 := X2.out.frozen 1
  have e2 : w2.cell? ⟨w.heap.size, 2, none⟩ = some (.int .i64 0) := X2.out.cell 2
  have g2 := X2.out.frozen 2
  go_wp2_with fail
  refine bodyPost_ret (v := .agg #[.int .i64 l, .int .i64 r, .int .i64 f]) (by simp [results, Try.results16, go_sem, e0, e1, e2]) rfl ?_
  exact ⟨l, r, f, rfl, hl, hr, hf, ((B2.out.setCell (Nat.le_refl _) _).setCell (Nat.le_refl _) _).setCell (Nat.le_refl _) _⟩
theorem draw_next (a : Option Addr) (len cap : Nat) (zs : List Int) (w : World) (h : IsRow .u8 w a len cap zs) : Calls Try.prog 22 #[.slice a len cap] w (TimGot w) := by
  have H := Lib.hid (isRow_stays h (below1 w (.cells #[.int .i64 0, .int .i64 0, .int .i64 0] 24)))
  clear h
  go_enter Try.func22, Try.ntmps22
  go_wp2_with fail
  refine (open_any a len cap zs _ H.out).mono ?_
  rintro e w1 ⟨rfl, b1, r1⟩
  have X1 : Hid (Box w1 w.heap.size 24 [.int .i64 0, .int .i64 0, .int .i64 0]) := (Box.new w _ _).below b1
  have B1 : Hid (Below w.heap.size w w1) := (below1 w _).trans (b1.mono (by simp))
  have R1 := Lib.hid r1
  have zq : w.heap.size < (w.alloc (.cells #[.int .i64 0, .int .i64 0, .int .i64 0] 24)).heap.size := by simp
  generalize (w.alloc (.cells #[.int .i64 0, .int .i64 0, .int .i64 0] 24)).heap.size = q at R1 zq
  have zq1 : q < w1.heap.size := R1.out.lt
  clear b1 r1
  go_wp2_with fail
  refine (timer_any q 0 9 _ R1.out (by omega) (by omega) (by omega)).mono ?_
  rintro e w2 ⟨l, r, f, rfl, hl, hr, hf, o2, r2⟩
  have X2 := Lib.hid (X1.out.only o2 (by simp; omega))
  have B2 := Lib.hid (B1.out.trans (o2.below (B := w.heap.size) (fun b hb => by simp at hb; omega) B1.out.size))
  have R2 := Lib.hid r2
  have ZW : Hid (w1.heap.size ≤ w2.heap.size) := o2.size
  clear o2 r2
  have e0 : w2.cell? ⟨w.heap.size, 0, none⟩ = some (.int .i64 0) := X2.out.cell 0
  have g0 := X2.out.frozen 0
  have e1 : w2.cell? ⟨w.heap.size, 1, none⟩ = some (.int .i64 0) := X2.out.cell 1
  have g1 := X2.out.frozen 1
  have e2 : w2.cell? ⟨w.heap.size, 2, none⟩ = some (.int .i64 0) := X2.out.cell 2
  have g2 := X2.out.frozen 2
  go_wp2_with fail
  refine bodyPost_ret (v := .agg #[.int .i64 l, .int .i64 r, .int .i64 f]) (by simp [results, Try.results22, go_sem, e0, e1, e2]) rfl ?_
  exact ⟨l, r, f, rfl, hl, hr, hf, ((B2.out.setCell (Nat.le_refl _) _).setCell (Nat.le_refl _) _).setCell (Nat.le_refl _) _⟩
set_option maxRecDepth 100000 in
set_option maxHeartbeats 4000000 in
theorem draw_skip (a : Option Addr) (len cap : Nat) (zs : List Int) (w : World) (h : IsRow .u8 w a len cap zs) : Calls Try.prog 19 #[.slice a len cap] w (SkGot w) := by
  have H := Lib.hid (isRow_stays h (below1 w (.cells #[.int .i64 0, .int .i64 0, .int .i64 0] 24)))
  clear h
  go_enter Try.func19, Try.ntmps19
  go_wp2_with fail
  refine (open_any a len cap zs _ H.out).mono ?_
  rintro e w1 ⟨rfl, b1, r1⟩
  have X1 : Hid (Box w1 w.heap.size 24 [.int .i64 0, .int .i64 0, .int .i64 0]) := (Box.new w _ _).below b1
  have B1 : Hid (Below w.heap.size w w1) := (below1 w _).trans (b1.mono (by simp))
  have R1 := Lib.hid r1
  have zq : w.heap.size < (w.alloc (.cells #[.int .i64 0, .int .i64 0, .int .i64 0] 24)).heap.size := by simp
  generalize (w.alloc (.cells #[.int .i64 0, .int .i64 0, .int .i64 0] 24)).heap.size = q at R1 zq
  have zq1 : q < w1.heap.size := R1.out.lt
  clear b1 r1
  go_wp2_with fail
  refine (timer_any q 0 12 _ R1.out (by omega) (by omega) (by omega)).mono ?_
  rintro e w2 ⟨l, r, f, rfl, hl, hr, hf, o2, r2⟩
  have X2 := Lib.hid (X1.out.only o2 (by simp; omega))
  have B2 := Lib.hid (B1.out.trans (o2.below (B := w.heap.size) (fun b hb => by simp at hb; omega) B1.out.size))
  have R2 := Lib.hid r2
  have ZW : Hid (w1.heap.size ≤ w2.heap.size) := o2.size
  clear o2 r2
  
  have X3 := Lib.hid (X2.out.alloc (.cells #[.int .i64 l, .int .i64 r, .int .i64 f] 24))
  have Y3 : Hid (Box (w2.alloc (.cells #[.int .i64 l, .int .i64 r, .int .i64 f] 24)) w2.heap.size 24 [.int .i64 l, .int .i64 r, .int .i64 f]) := Box.new w2 _ _
  have O3 : Hid (Only [q] w2 (w2.alloc (.cells #[.int .i64 l, .int .i64 r, .int .i64 f] 24))) := (Only.refl _ w2).alloc _
  have R3 := Lib.hid (R2.out.alloc (.cells #[.int .i64 l, .int .i64 r, .int .i64 f] 24))
  have z3 : w2.heap.size < (w2.alloc (.cells #[.int .i64 l, .int .i64 r, .int .i64 f] 24)).heap.size := by simp
  have zw : w1.heap.size ≤ w2.heap.size := ZW.out
  go_upto_region 3 with (fail)
  generalize w2.alloc (.cells #[.int .i64 l, .int .i64 r, .int .i64 f] 24) = w6 at X3 Y3 O3 R3 z3 ⊢
  have zr : w.heap.size < w6.heap.size := X3.out.lt
  have zqq : q < w6.heap.size := R3.out.lt
  have zrq : w.heap.size ≠ q := by omega
  have zbr : w2.heap.size ≠ w.heap.size ∧ w2.heap.size ≠ q := by omega
  have hJ : Kept q (Res w.heap.size 24 3) := Res.kept zrq
  have hD : Kept q (fun wx => Box wx w.heap.size 24 [.int .i64 l, .int .i64 r, .int .i64 f]) := box_kept zrq
  have hq : q ∈ [q, w.heap.size] := by simp
  have hS : ∀ b ∈ [q, w.heap.size], b < w6.heap.size := by simp; omega
  refine wp_region_typed (Cls [q, w.heap.size] q (0 + 40) w6 (Res w.heap.size 24 3)) (Rel [q, w.heap.size] (fun wx => Box wx w.heap.size 24 [.int .i64 l, .int .i64 r, .int .i64 f]))
    (Ty [TV (.agg #[.int .i64 l, .int .i64 r, .int .i64 f]), TV (.pointer (some ⟨q, 0, none⟩)), TI 0 99, TV (.pointer (some ⟨q, 0, none⟩)), TI 0 255, TI 0 99450, TL [q, w.heap.size] 4 (-1) 100001, TL [q, w.heap.size] 6 0 3, TV (.pointer (some ⟨q, 0, none⟩)), TI 0 5, TP [q, w.heap.size] 0 3, TI 0 3, TP [q, w.heap.size] (-1) 100001, TI (-1) 100001, fun _ wx => Box wx w.heap.size 24 [.int .i64 l, .int .i64 r, .int .i64 f], TI (-1) 100001])
    (by kernel_rfl) (by kernel_rfl) (stab_ty _ ⟨stab_tv _, stab_tv _, stab_ti _ _, stab_tv _, stab_ti _ _, stab_ti _ _, stab_tl _ _ _, stab_tl _ _ _, stab_tv _, stab_ti _ _, stab_tp _ _, stab_ti _ _, stab_tp _ _, stab_ti _ _, stab_done _ (fun _ h => h) (fun _ h => h), stab_ti _ _, trivial⟩)
    ⟨(Only.refl _ w6).trans (.of_below (Below.refl _ _).drew), R3.out.stay (Below.refl _ _).drew, _, rfl, X3.out, by simp [plainV]⟩ ?_ ?_
  · refine ⟨?_, ?_, ?_, ?_, ?_, ?_, ?_, ?_, ?_, ?_, ?_, ?_, ?_, ?_, ?_, ?_, trivial⟩
    · refine ob_val rfl (.agg #[.int .i64 l, .int .i64 r, .int .i64 f]) hq hJ hD fun ρ kk wx hI _ hx _ => ⟨?_, rfl⟩
      have e5 : ρ (.tmp 5) = .pointer (some ⟨w2.heap.size, 0, none⟩) := hx 5 rfl
      have Y := Y3.out.only hI.only (by simp; omega)
      have c0 : wx.cell? ⟨w2.heap.size, 0, none⟩ = some (.int .i64 l) := Y.cell 0
      have c1 : wx.cell? ⟨w2.heap.size, 1, none⟩ = some (.int .i64 r) := Y.cell 1
      have c2 : wx.cell? ⟨w2.heap.size, 2, none⟩ = some (.int .i64 f) := Y.cell 2
      unfold execOp
      simp only [e5]
      clear e5 hx Y hI
      go_simp
    · exact ob_move rfl (.tmp 4) (.inl rfl) hq hJ hD fun ρ wx _ hx _ => hx 4 rfl
    · exact ob_pick rfl (.tmp 11) 100 _ rfl hq hJ hD (by simp) (by omega) (by omega) (fun ρ wx hp => hp.1 rfl) (fun _ _ h => h)
    · exact ob_move rfl (.tmp 4) (.inl rfl) hq hJ hD fun ρ wx _ hx _ => hx 4 rfl
    · exact ob_pick rfl (.tmp 13) 256 _ rfl hq hJ hD (by simp) (by omega) (by omega) (fun ρ wx hp => hp.1 rfl) (fun _ _ h => h)
    · exact ob_mul rfl (.tmp 14) (.const (.int .i64 390)) 390 0 255 0 99450 _ _ rfl rfl hq hJ hD (fun ρ wx hc hp => ⟨hp.1 rfl, hc _⟩) (by omega) (by omega) (by omega) (by omega) (by omega) (fun _ _ h => h)
    · refine ob_build rfl 4 (-1) 100001 hq hJ hD hS (fun ρ wx hc hx hp => ?_) (fun _ _ h => h)
      obtain ⟨z, hz, z0, z1⟩ : TI 0 99 (ρ (.tmp 12)) wx := hp.1 rfl
      obtain ⟨y, hy, y0, y1⟩ : TI 0 99450 (ρ (.tmp 15)) wx := hp.2.1 rfl
      refine ⟨#[.int .i64 (z), .int .i64 (y), .int .i64 (-1), .int .i64 (100001)], ?_, ?_⟩
      · unfold execOp
        simp only [List.map_toArray, List.map_cons, List.map_nil, hc, hz, hy]
        clear hx hp hc
        go_simp
      · intro j hj
        have h : j = 0 ∨ j = 1 ∨ j = 2 ∨ j = 3 := by omega
        rcases h with rfl | rfl | rfl | rfl <;> exact ⟨_, rfl, by omega, by omega⟩
    · refine ob_build rfl 6 (0) 3 hq hJ hD hS (fun ρ wx hc hx hp => ?_) (fun _ _ h => h)
      refine ⟨#[.int .i64 (0), .int .i64 (0), .int .i64 (0), .int .i64 (1), .int .i64 (2), .int .i64 (3)], ?_, ?_⟩
      · unfold execOp
        simp only [List.map_toArray, List.map_cons, List.map_nil, hc]
        clear hx hp hc
        go_simp
      · intro j hj
        have h : j = 0 ∨ j = 1 ∨ j = 2 ∨ j = 3 ∨ j = 4 ∨ j = 5 := by omega
        rcases h with rfl | rfl | rfl | rfl | rfl | rfl <;> exact ⟨_, rfl, by omega, by omega⟩
    · exact ob_move rfl (.tmp 4) (.inl rfl) hq hJ hD fun ρ wx _ hx _ => hx 4 rfl
    · exact ob_pick rfl (.tmp 18) 6 _ rfl hq hJ hD (by simp) (by omega) (by omega) (fun ρ wx hp => hp.1 rfl) (fun _ _ h => h)
    · exact ob_index rfl (.tmp 17) (.tmp 19) 6 (0) 3 rfl hq hJ hD (fun ρ wx hp => ⟨hp.1 rfl, hp.2.1 rfl⟩) (fun _ _ h => h)
    · exact ob_load rfl (.tmp 20) (0) 3 rfl hq hJ hD (fun ρ wx hp => hp.1 rfl) (fun _ _ h => h)
    · exact ob_index rfl (.tmp 16) (.tmp 21) 4 (-1) 100001 rfl hq hJ hD (fun ρ wx hp => ⟨hp.1 rfl, hp.2.1 rfl⟩) (fun _ _ h => h)
    · exact ob_load rfl (.tmp 22) (-1) 100001 rfl hq hJ hD (fun ρ wx hp => hp.1 rfl) (fun _ _ h => h)
    · refine ob_put rfl w.heap.size _ [.int .i64 l, .int .i64 r, .int .i64 f] (by simp) zrq (by simp [plainV]) (fun ρ wx cs hb hl' _ hx hp => ?_) (fun _ _ h => h)
      have e2 : ρ (.tmp 2) = .pointer (some ⟨w.heap.size, 0, none⟩) := hx 2 rfl
      have e10 : ρ (.tmp 10) = .agg #[.int .i64 l, .int .i64 r, .int .i64 f] := hp.1 rfl
      obtain ⟨v0, v1, v2, rfl⟩ : ∃ v0 v1 v2, cs = [v0, v1, v2] := by
        match cs, hl' with
        | [a, b, e], _ => exact ⟨a, b, e, rfl⟩
      have c0 := hb.cell 0
      have c1 := hb.cell 1
      have c2 := hb.cell 2
      have f0 := hb.frozen 0
      have f1 := hb.frozen 1
      have f2 := hb.frozen 2
      show _ = Result.ok _ (((wx.setCell ⟨w.heap.size, 0, none⟩ (.int .i64 l)).setCell ⟨w.heap.size, 1, none⟩ (.int .i64 r)).setCell ⟨w.heap.size, 2, none⟩ (.int .i64 f))
      unfold execOp
      simp only [e2, e10]
      clear e2 e10 hx hp hb
      go_simp
    · exact ob_move rfl (.tmp 23) (.inr rfl) hq hJ hD fun ρ wx _ _ hp => hp.1 rfl
  · intro vs wx hI hF
    obtain ⟨_, _, _, _, _, _, _, _, _, _, _, _, _, _, hd, ⟨t, ht, t0, t1⟩, _⟩ := hF
    have O4 := Lib.hid ((O3.out.mono (T := [q, w.heap.size]) (by simp)).trans hI.only)
    have DB : Hid (Box wx w.heap.size 24 [.int .i64 l, .int .i64 r, .int .i64 f]) := hd
    replace ht : vs 15 = .int .i64 t := ht
    simp only [putAll, Act.put, List.setIfInBounds_toArray, List.set_cons_zero, List.set_cons_succ, ht]
    have e0 : wx.cell? ⟨w.heap.size, 0, none⟩ = some (.int .i64 l) := DB.out.cell 0
    have e1 : wx.cell? ⟨w.heap.size, 1, none⟩ = some (.int .i64 r) := DB.out.cell 1
    have e2 : wx.cell? ⟨w.heap.size, 2, none⟩ = some (.int .i64 f) := DB.out.cell 2
    clear hI hd ht hJ hD
    go_wp2
    refine bodyPost_ret (v := .tuple #[.agg #[.int .i64 l, .int .i64 r, .int .i64 f], .int .i64 t]) (by simp [results, Try.results19, go_sem, e0, e1, e2]) rfl ?_
    exact ⟨l, r, f, t, rfl, hl, hr, hf, ⟨t0, t1⟩, B2.out.trans (O4.out.below (B := w.heap.size) (by simp; omega) B2.out.size)⟩
end Go.Proofs.Ytmmngdofbmkmhaa
