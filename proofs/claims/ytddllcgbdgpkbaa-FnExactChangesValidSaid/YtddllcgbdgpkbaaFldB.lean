/- The program's FieldValid. -/
import Derived.Test.YtddllcgbdgpkbaaFldA
namespace Go.Proofs.Ytddllcgbdgpkbaa
open Go.ChangeShapes Go.WideShapes Go.ChangeAt Go.RowKit
set_option linter.unusedVariables false

theorem below_tile (w : World) (px : List Int) (hp : px.length = 64) : Below w.heap.size w ((w.alloc (.cells (iv z64).toArray 74)).setRow w.heap.size (iv px).toArray) := below_row (below1 w _) (Nat.le_refl _) _
set_option maxHeartbeats 1000000 in
theorem im_tiles (T : Option Addr) (m d : Nat) (zs : List Int) (ft : List Nat) (w : World) (ht : Ints w T (64 * m) zs ft) (hm : m ≤ 1000000000) :
    Calls Try.prog 65 #[.slice T m d] w fun e w' => e = .returned (.bool (decide (m ≤ 16) && tilB zs)) ∧ Below w.heap.size w w' := by
  by_cases h16 : m ≤ 16
  · have HD : Hid (decide (m ≤ 16) = true) := Lib.hid (by simpa using h16)
    have HT := Lib.hid ht
    have HZ := Lib.hid ht.1
    clear ht
    go_enter Try.func65, Try.ntmps65
    go_wp2_with fail
    go_loopw [10] (fun i wr => ∃ k : Nat, k ≤ m ∧ i = .int .i64 k ∧ Below w.heap.size w wr ∧ ∀ j, j < k → tilB (tl zs j) = true) (fun i _ => m - (intOf i).toNat)
    case atStart => exact ⟨0, by omega, rfl, Below.refl _ _, fun j hj => by omega⟩
    case round =>
      obtain ⟨k, hk, rfl, hb, hall⟩ := hrel
      have HK := Lib.hid hall
      have HB := Lib.hid hb
      clear hall hb
      by_cases hlt : k < m
      · obtain ⟨p, o, rfl, _, _, hc⟩ := HT.out.at_ (by omega)
        clear hc
        have RG := Lib.hid (til_range (HT.out.below HB.out) hlt)
        have h64 := Lib.hid (tl_len HZ.out hlt)
        obtain ⟨px, hpx⟩ : ∃ px, tl zs k = px := ⟨_, rfl⟩
        rw [hpx] at RG h64
        have HP := Lib.hid hpx
        clear hpx
        go_wp2_with (first | (refine st_loadm (by rfl) _ rfl _ _ rfl px h64.out RG.out ?_) | (refine st_alloc (by rfl) rfl ?_) | (refine st_store (by rfl) _ _ rfl _ rfl px rfl h64.out (iv z64) (Box.new _ _ _) (by simp [z64_len]) ?_) | (refine st_load (by rfl) _ rfl _ rfl px h64.out (Box.row (cs := iv z64) (Box.new _ _ _)) ?_))
        refine (im_valid px h64.out _).mono ?_; rintro e w2 ⟨rfl, b2⟩
        have B2 := Lib.hid (below_then (below_then HB.out (below_tile wr px h64.out)) b2)
        clear b2
        cases hv : tilB px
        · have HF := Lib.hid (tls_no HZ.out k hlt (by rw [HP.out]; exact hv))
          go_wp2_with fail
          go_ret
          exact ⟨ret_bool (by rw [HD.out, HF.out]; rfl), B2.out⟩
        · have HV := Lib.hid hv
          clear hv
          go_wp2_with fail
          go_roundw
          case rel => exact ⟨k + 1, by omega, by go_num, B2.out, fun j hj => by
            by_cases e : j = k
            · subst e; rw [HP.out]; exact HV.out
            · exact HK.out j (by omega)⟩
          case measure => simp [intOf]; omega
      · have HF := Lib.hid (tls_yes HZ.out fun j hj => HK.out j (by omega))
        go_wp2_with fail
        go_ret
        exact ⟨ret_bool (by rw [HD.out, HF.out]; rfl), HB.out⟩
  · have HD : Hid (decide (m ≤ 16) = false) := Lib.hid (by simpa using h16)
    go_enter Try.func65, Try.ntmps65
    go_wp2_with fail
    go_ret
    exact ⟨ret_bool (by rw [HD.out]; rfl), Below.refl _ _⟩
/-- A background in memory: its table and its tiles. -/
def FHas (w : World) (A T : Option Addr) (F : Fld) (fa ft : List Nat) : Prop := Ints w A F.xs.length F.xs fa ∧ Ints w T (64 * F.nt) F.zs ft
theorem FHas.below {w w' : World} {A T : Option Addr} {F : Fld} {fa ft : List Nat} (h : FHas w A T F fa ft) (k : Below w.heap.size w w') : FHas w' A T F fa ft := ⟨h.1.below k, h.2.below k⟩
/-- A background's value. -/
abbrev fv (F : Fld) (A : Option Addr) (c : Nat) (T : Option Addr) (d : Nat) : Value := fldV F.w A F.xs.length c T F.nt d F.sx F.sy
def FSmall (F : Fld) : Prop := F.xs.length ≤ 1000000000 ∧ F.nt ≤ 1000000000
set_option maxHeartbeats 1000000 in
theorem im_fieldValid (F : Fld) (A : Option Addr) (c : Nat) (T : Option Addr) (d : Nat) (fa ft : List Nat) (w : World) (hF : FHas w A T F fa ft) (hs : FSmall F) :
    Calls Try.prog 42 #[fv F A c T d] w fun e w' => e = .returned (.bool (fldB F)) ∧ Below w.heap.size w w' := by
  have HE := Lib.hid (fldB_prog F)
  obtain ⟨W, xs, m, zs, sx, sy⟩ := F
  obtain ⟨hF1, hF2⟩ := hF
  obtain ⟨hs1, hs2⟩ := hs
  simp only at hs1 hs2 hF1 hF2
  obtain ⟨n, hn⟩ : ∃ n, n = xs.length := ⟨_, rfl⟩
  show Calls Try.prog 42 #[fldV W A xs.length c T m d sx sy] w fun e w' => e = .returned (.bool (fldB ⟨W, xs, m, zs, sx, sy⟩)) ∧ Below w.heap.size w w'
  simp only at HE
  rw [← hn] at hs1 hF1 HE ⊢
  have B1 := Lib.hid (below1 w (.cells #[.int .i64 W, .slice A n c, .slice T m d, .int .i64 sx, .int .i64 sy] 33))
  have X1 := Lib.hid (Box.new w #[.int .i64 W, .slice A n c, .slice T m d, .int .i64 sx, .int .i64 sy] 33)
  have HA := Lib.hid (hF1.below B1.out)
  have HT := Lib.hid (hF2.below B1.out)
  clear hF1 hF2 hn
  generalize fldB ⟨W, xs, m, zs, sx, sy⟩ = R at HE ⊢
  go_enter Try.func42, Try.ntmps42
  go_wp2_with fail
  generalize w.alloc (.cells #[.int .i64 W, .slice A n c, .slice T m d, .int .i64 sx, .int .i64 sy] 33) = w1 at X1 B1 HA HT ⊢
  generalize hbb : w.heap.size = bb at X1 B1 ⊢
  refine (im_isShift sx _).mono ?_; rintro e w2 ⟨rfl, rfl⟩
  cases hx : betB sx 0 255
  · rw [hx] at HE
    go_wp2_with fail
    go_ret
    exact ⟨ret_bool HE.out.symm, by first | exact B1.out | (rw [hbb]; exact B1.out)⟩
  rw [hx] at HE
  clear hx
  have c4 : w1.cell? ⟨bb, 4, none⟩ = some (.int .i64 sy) := X1.out.cell 4
  go_wp2_with fail
  refine (im_isShift sy _).mono ?_; rintro e w2 ⟨rfl, rfl⟩
  cases hx : betB sy 0 255
  · rw [hx] at HE
    go_wp2_with fail
    go_ret
    exact ⟨ret_bool HE.out.symm, by first | exact B1.out | (rw [hbb]; exact B1.out)⟩
  rw [hx] at HE
  clear hx c4
  have k0 := X1.out.cell 0
  have k1 := X1.out.cell 1
  have k2 := X1.out.cell 2
  have k3 := X1.out.cell 3
  have k4 := X1.out.cell 4
  go_wp2_with fail
  clear k0 k1 k2 k3 k4
  refine (im_table W A n c T m d sx sy _ hs1).mono ?_; rintro e w2 ⟨rfl, b2⟩
  have X2 := Lib.hid (X1.out.below b2)
  have B2 : Hid (Below bb w w2) := Lib.hid (B1.out.trans (b2.mono (by have := B1.out.size; have := X1.out.lt; omega)))
  have HA2 := Lib.hid (HA.out.below b2)
  have HT2 := Lib.hid (HT.out.below b2)
  clear b2 X1 B1 HA HT
  cases hx : tblB W n
  · rw [hx] at HE
    go_wp2_with fail
    go_ret
    exact ⟨ret_bool HE.out.symm, by first | exact B2.out | (rw [hbb]; exact B2.out)⟩
  rw [hx] at HE
  clear hx
  have k0 := X2.out.cell 0
  have k1 := X2.out.cell 1
  have k2 := X2.out.cell 2
  have k3 := X2.out.cell 3
  have k4 := X2.out.cell 4
  go_wp2_with fail
  clear k0 k1 k2 k3 k4
  refine (im_known W A n c T m d sx sy xs fa _ HA2.out hs1 hs2).mono ?_; rintro e w3 ⟨rfl, b3⟩
  have X3 := Lib.hid (X2.out.below b3)
  have B3 : Hid (Below bb w w3) := Lib.hid (B2.out.trans (b3.mono (by have := B2.out.size; have := X2.out.lt; omega)))
  have HT3 := Lib.hid (HT2.out.below b3)
  clear b3 X2 B2 HA2 HT2
  cases hx : knownB m xs
  · rw [hx] at HE
    go_wp2_with fail
    go_ret
    exact ⟨ret_bool HE.out.symm, by first | exact B3.out | (rw [hbb]; exact B3.out)⟩
  rw [hx] at HE
  clear hx
  have k2 : w3.cell? ⟨bb, 2, none⟩ = some (.slice T m d) := X3.out.cell 2
  go_wp2_with fail
  clear k2
  refine (im_tiles T m d zs ft _ HT3.out hs2).mono ?_; rintro e w4 ⟨rfl, b4⟩
  have B4 : Hid (Below bb w w4) := Lib.hid (B3.out.trans (b4.mono (by have := B3.out.size; have := X3.out.lt; omega)))
  clear b4
  go_wp2_with fail
  go_ret
  exact ⟨ret_bool (by rw [HE.out]; rfl), by first | exact B4.out | (rw [hbb]; exact B4.out)⟩
end Go.Proofs.Ytddllcgbdgpkbaa
