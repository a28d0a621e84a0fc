/- A drawn memory with two addresses and a number. -/
import Derived.Test.YtbcibgfjdenheaaMemH
import Derived.Test.YtbcibgfjdenheaaTypedK
namespace Go.Proofs.Ytbcibgfjdenheaa
open Go.ChangeShapes Go.WideShapes Go.ChangeAt Go.RowKit

def MemGot3 (w : World) (e : Ending) (w' : World) : Prop := ∃ (A : Option Addr) (n c : Nat) (R : Option Addr) (k d : Nat) (M : Mem) (x y t : Int), -1 ≤ x ∧ x ≤ 1024 ∧ -1 ≤ y ∧ y ≤ 1024 ∧ -1 ≤ t ∧ t ≤ 257 ∧ e = .returned (.tuple #[.agg #[.slice A n c, .slice R k d, .int .i64 M.bank], .int .i64 x, .int .i64 y, .int .i64 t]) ∧ MemHere w' A n c R k d M ∧ Below w.heap.size w w'
set_option maxRecDepth 100000 in
set_option maxHeartbeats 4000000 in
theorem draw_memCopy (a : Option Addr) (len cap : Nat) (zs : List Int) (w : World) (h : IsRow .u8 w a len cap zs) :
    Calls Try.prog 7 #[.slice a len cap] w (MemGot3 w) := by
  have H := Lib.hid (isRow_stays h (below1 w (.cells #[.slice none 0 0, .slice none 0 0, .int .i64 0] 26)))
  clear h
  go_enter Try.func7, Try.ntmps7
  go_wp2_with fail
  refine (open_any a len cap zs _ H.out).mono ?_
  rintro e w1 ⟨rfl, b1, r1⟩
  have X1 : Hid (Box w1 w.heap.size 26 [.slice none 0 0, .slice none 0 0, .int .i64 0]) := (Box.new w _ _).below b1
  have B1 : Hid (Below w.heap.size w w1) := (below1 w _).trans (b1.mono (by simp))
  have R1 := Lib.hid r1
  have zq : w.heap.size < (w.alloc (.cells #[.slice none 0 0, .slice none 0 0, .int .i64 0] 26)).heap.size := by simp
  generalize (w.alloc (.cells #[.slice none 0 0, .slice none 0 0, .int .i64 0] 26)).heap.size = q at R1 zq
  have zq1 : q < w1.heap.size := R1.out.lt
  clear b1 r1
  go_wp2_with fail
  refine (mem_any q 0 14 _ R1.out (by omega) (by omega) (by omega)).mono ?_
  rintro e w2 ⟨A, n, c, R, k, d, M, fa, fr, rfl, hn, hk, i2, g2, n2, hs, o2, r2⟩
  have X2 := Lib.hid (X1.out.only o2 (by simp; omega))
  have B2 := Lib.hid (B1.out.trans (o2.below (B := w.heap.size) (fun b hb => by simp at hb; omega) B1.out.size))
  have HH : Hid (∀ (S : List Nat) (w' : World), Only S w2 w' → (∀ b ∈ S, b < w1.heap.size) → MemHere w' A n c R k d M) := fun S w' o h => here_only hn hk i2 g2 n2 hs o h
  have R2 := Lib.hid r2
  have ZW : Hid (w1.heap.size ≤ w2.heap.size) := o2.size
  clear i2 g2 n2 o2 r2 hs
  go_wp2_with fail
  have X3 := Lib.hid (X2.out.alloc (.cells #[.slice A n c, .slice R k d, .int .i64 M.bank] 26))
  have Y3 : Hid (Box (w2.alloc (.cells #[.slice A n c, .slice R k d, .int .i64 M.bank] 26)) w2.heap.size 26 [.slice A n c, .slice R k d, .int .i64 M.bank]) := Box.new w2 _ _
  have O3 : Hid (Only [q] w2 (w2.alloc (.cells #[.slice A n c, .slice R k d, .int .i64 M.bank] 26))) := (Only.refl _ w2).alloc _
  have R3 := Lib.hid (R2.out.alloc (.cells #[.slice A n c, .slice R k d, .int .i64 M.bank] 26))
  have z3 : w2.heap.size < (w2.alloc (.cells #[.slice A n c, .slice R k d, .int .i64 M.bank] 26)).heap.size := by simp
  have zw : w1.heap.size ≤ w2.heap.size := ZW.out
  generalize w2.alloc (.cells #[.slice A n c, .slice R k d, .int .i64 M.bank] 26) = w3 at X3 Y3 O3 R3 z3
  refine (place_any q (0 + 800) 14 _ R3.out (by omega) (by omega) (by omega)).mono ?_
  rintro e w5 ⟨x, x0, x1, rfl, o5, r5⟩
  have O5 := Lib.hid (O3.out.trans o5)
  have X5 := Lib.hid (X3.out.only o5 (by simp; omega))
  have Y5 := Lib.hid (Y3.out.only o5 (by simp; omega))
  have R5 := Lib.hid r5
  clear o5 r5
  go_wp2_with fail
  refine (place_any q (0 + 800 + 7) 14 _ R5.out (by omega) (by omega) (by omega)).mono ?_
  rintro e w6 ⟨y, y0, y1, rfl, o6, r6⟩
  have O6 := Lib.hid (O5.out.trans o6)
  have X6 := Lib.hid (X5.out.only o6 (by simp; omega))
  have Y6 := Lib.hid (Y5.out.only o6 (by simp; omega))
  have R6 := Lib.hid r6
  clear o6 r6 O5 X5 Y5 R5 O3 X3 Y3 R3
  go_wp2_with fail
  have zr : w.heap.size < w6.heap.size := X6.out.lt
  have zb : w2.heap.size < w6.heap.size := Y6.out.lt
  have zqq : q < w6.heap.size := R6.out.lt
  have zrq : w.heap.size ≠ q := by omega
  have zbr : w2.heap.size ≠ w.heap.size ∧ w2.heap.size ≠ q := by omega
  let J : World → Prop := Res w.heap.size 26 3
  let D : World → Prop := fun wx => Box wx w.heap.size 26 [.slice A n c, .slice R k d, .int .i64 M.bank]
  have hJ : Kept q J := Res.kept zrq
  have hD : Kept q D := box_kept zrq
  have hq : q ∈ [q, w.heap.size] := by simp
  have hS : ∀ b ∈ [q, w.heap.size], b < w6.heap.size := by simp; omega
  refine wp_region_typed (Cls [q, w.heap.size] q (0 + 800 + 7 + 7) w6 J) (Rel [q, w.heap.size] D)
    (Ty [TV (.agg #[.slice A n c, .slice R k d, .int .i64 M.bank]), TV (.int .i64 x), TV (.int .i64 y), TV (.pointer (some ⟨q, 0, none⟩)), TI 0 29, TL [q, w.heap.size] 5 (-1) 257, TL [q, w.heap.size] 8 0 4, TV (.pointer (some ⟨q, 0, none⟩)), TI 0 7, TP [q, w.heap.size] 0 4, TI 0 4, TP [q, w.heap.size] (-1) 257, TI (-1) 257, fun _ wx => D wx, TV (.int .i64 x), TV (.int .i64 y), TI (-1) 257])
    (by kernel_rfl) (by kernel_rfl) (stab_ty _ ⟨stab_tv _, stab_tv _, stab_tv _, stab_tv _, stab_ti _ _, stab_tl _ _ _, stab_tl _ _ _, stab_tv _, stab_ti _ _, stab_tp _ _, stab_ti _ _, stab_tp _ _, stab_ti _ _, stab_done _ (fun _ h => h) (fun _ h => h), stab_tv _, stab_tv _, stab_ti _ _, trivial⟩)
    ⟨(Only.refl _ w6).trans (.of_below (Below.refl _ _).drew), R6.out.stay (Below.refl _ _).drew, _, rfl, X6.out, by simp [plainV]⟩ ?_ ?_
  · refine ⟨?_, ?_, ?_, ?_, ?_, ?_, ?_, ?_, ?_, ?_, ?_, ?_, ?_, ?_, ?_, ?_, ?_, trivial⟩
    · refine ob_val rfl (.agg #[.slice A n c, .slice R k d, .int .i64 M.bank]) hq hJ hD fun ρ kk wx hI _ hx _ => ⟨?_, rfl⟩
      have e7 : ρ (.tmp 7) = .pointer (some ⟨w2.heap.size, 0, none⟩) := hx 7 rfl
      have Y := Y6.out.only hI.only (by simp; omega)
      have c0 : wx.cell? ⟨w2.heap.size, 0, none⟩ = some (.slice A n c) := Y.cell 0
      have c1 : wx.cell? ⟨w2.heap.size, 1, none⟩ = some (.slice R k d) := Y.cell 1
      have c2 : wx.cell? ⟨w2.heap.size, 2, none⟩ = some (.int .i64 M.bank) := Y.cell 2
      unfold execOp
      simp only [e7]
      clear e7 hx Y hI
      go_simp
    · exact ob_move rfl (.tmp 8) (.inl rfl) hq hJ hD fun ρ wx _ hx _ => hx 8 rfl
    · exact ob_move rfl (.tmp 9) (.inl rfl) hq hJ hD fun ρ wx _ hx _ => hx 9 rfl
    · exact ob_move rfl (.tmp 6) (.inl rfl) hq hJ hD fun ρ wx _ hx _ => hx 6 rfl
    · exact ob_pick rfl (.tmp 21) 30 _ rfl hq hJ hD (by simp) (by omega) (by omega) (fun ρ wx hp => hp.1 rfl) (fun _ _ h => h)
    · refine ob_build rfl 5 (-1) 257 hq hJ hD hS (fun ρ wx hc hx hp => ?_) (fun _ _ h => h)
      obtain ⟨z, hz, z0, z1⟩ : TI 0 29 (ρ (.tmp 22)) wx := hp.1 rfl
      refine ⟨#[.int .i64 z, .int .i64 256, .int .i64 257, .int .i64 (-1), .int .i64 0], ?_, ?_⟩
      · unfold execOp
        simp only [List.map_toArray, List.map_cons, List.map_nil, hz, hc]
        clear hz hx hp hc
        go_simp
      · intro j hj
        have h : j = 0 ∨ j = 1 ∨ j = 2 ∨ j = 3 ∨ j = 4 := by omega
        rcases h with rfl | rfl | rfl | rfl | rfl <;> exact ⟨_, rfl, by omega, by omega⟩
    · refine ob_build rfl 8 0 4 hq hJ hD hS (fun ρ wx hc hx hp => ?_) (fun _ _ h => h)
      refine ⟨#[.int .i64 0, .int .i64 0, .int .i64 0, .int .i64 0, .int .i64 1, .int .i64 2, .int .i64 3, .int .i64 4], ?_, ?_⟩
      · unfold execOp
        simp only [List.map_toArray, List.map_cons, List.map_nil, hc]
        clear hx hp hc
        go_simp
      · intro j hj
        have h : j = 0 ∨ j = 1 ∨ j = 2 ∨ j = 3 ∨ j = 4 ∨ j = 5 ∨ j = 6 ∨ j = 7 := by omega
        rcases h with rfl | rfl | rfl | rfl | rfl | rfl | rfl | rfl <;> exact ⟨_, rfl, by omega, by omega⟩
    · exact ob_move rfl (.tmp 6) (.inl rfl) hq hJ hD fun ρ wx _ hx _ => hx 6 rfl
    · exact ob_pick rfl (.tmp 25) 8 _ rfl hq hJ hD (by simp) (by omega) (by omega) (fun ρ wx hp => hp.1 rfl) (fun _ _ h => h)
    · exact ob_index rfl (.tmp 24) (.tmp 26) 8 0 4 rfl hq hJ hD (fun ρ wx hp => ⟨hp.1 rfl, hp.2.1 rfl⟩) (fun _ _ h => h)
    · exact ob_load rfl (.tmp 27) 0 4 rfl hq hJ hD (fun ρ wx hp => hp.1 rfl) (fun _ _ h => h)
    · exact ob_index rfl (.tmp 23) (.tmp 28) 5 (-1) 257 rfl hq hJ hD (fun ρ wx hp => ⟨hp.1 rfl, hp.2.1 rfl⟩) (fun _ _ h => h)
    · exact ob_load rfl (.tmp 29) (-1) 257 rfl hq hJ hD (fun ρ wx hp => hp.1 rfl) (fun _ _ h => h)
    · refine ob_put rfl w.heap.size _ [.slice A n c, .slice R k d, .int .i64 M.bank] (by simp) zrq (by simp [plainV]) (fun ρ wx cs hb hl _ hx hp => ?_) (fun _ _ h => h)
      have e2 : ρ (.tmp 2) = .pointer (some ⟨w.heap.size, 0, none⟩) := hx 2 rfl
      have e18 : ρ (.tmp 18) = .agg #[.slice A n c, .slice R k d, .int .i64 M.bank] := hp.1 rfl
      obtain ⟨v0, v1, v2, rfl⟩ : ∃ v0 v1 v2, cs = [v0, v1, v2] := by
        match cs, hl with
        | [a, b, e], _ => exact ⟨a, b, e, rfl⟩
      have c0 := hb.cell 0
      have c1 := hb.cell 1
      have c2 := hb.cell 2
      have f0 := hb.frozen 0
      have f1 := hb.frozen 1
      have f2 := hb.frozen 2
      show _ = Result.ok _ (((wx.setCell ⟨w.heap.size, 0, none⟩ (.slice A n c)).setCell ⟨w.heap.size, 1, none⟩ (.slice R k d)).setCell ⟨w.heap.size, 2, none⟩ (.int .i64 M.bank))
      unfold execOp
      simp only [e2, e18]
      clear e2 e18 hx hp hb
      go_simp
    · exact ob_move rfl (.tmp 19) (.inr rfl) hq hJ hD fun ρ wx _ _ hp => hp.1 rfl
    · exact ob_move rfl (.tmp 20) (.inr rfl) hq hJ hD fun ρ wx _ _ hp => hp.1 rfl
    · exact ob_move rfl (.tmp 30) (.inr rfl) hq hJ hD fun ρ wx _ _ hp => hp.1 rfl
  · intro vs wx hI hF
    obtain ⟨_, hx, hy, _, _, _, _, _, _, _, _, _, _, hd, hx', hy', ⟨t, ht, t0, t1⟩, _⟩ := hF
    have O6' := Lib.hid (O6.out.mono (T := [q, w.heap.size]) (by simp))
    have O4 := Lib.hid (O6'.out.trans hI.only)
    have DB : Hid (Box wx w.heap.size 26 [.slice A n c, .slice R k d, .int .i64 M.bank]) := hd
    replace hx' : vs 14 = .int .i64 x := hx'
    replace hy' : vs 15 = .int .i64 y := hy'
    replace ht : vs 16 = .int .i64 t := ht
    simp only [putAll, Act.put, List.setIfInBounds_toArray, List.set_cons_zero, List.set_cons_succ, hx', hy', ht]
    have e0 : wx.cell? ⟨w.heap.size, 0, none⟩ = some (.slice A n c) := DB.out.cell 0
    have e1 : wx.cell? ⟨w.heap.size, 1, none⟩ = some (.slice R k d) := DB.out.cell 1
    have e2 : wx.cell? ⟨w.heap.size, 2, none⟩ = some (.int .i64 M.bank) := DB.out.cell 2
    clear hI hd hx hy hx' hy' ht hJ hD
    go_wp2
    refine bodyPost_ret (v := .tuple #[.agg #[.slice A n c, .slice R k d, .int .i64 M.bank], .int .i64 x, .int .i64 y, .int .i64 t]) (by simp [results, Try.results7, go_sem, e0, e1, e2]) rfl ?_
    exact ⟨A, n, c, R, k, d, M, x, y, t, x0, x1, y0, y1, t0, t1, rfl, HH.out [q, w.heap.size] _ O4.out (by simp; omega), B2.out.trans (O4.out.below (B := w.heap.size) (by simp; omega) B2.out.size)⟩
end Go.Proofs.Ytbcibgfjdenheaa
