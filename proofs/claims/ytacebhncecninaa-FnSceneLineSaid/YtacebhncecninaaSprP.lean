/- A sprite's row on a line that it covers. -/
import Derived.Test.YtacebhncecninaaSprO
namespace Go.Proofs.Ytacebhncecninaa
open Go.ChangeShapes Go.WideShapes Go.ChangeAt Go.RowKit
set_option linter.unusedVariables false

theorem ints_mid {w : World} {g t : Nat} {ty : TypeId} {px : List Int} (hb : Box w g ty (iv px)) (hl : px.length = 64) (ht : t + 8 ≤ 64) : Ints w (some ⟨g, t, none⟩) 8 ((px.drop t).take 8) [g] := by
  refine ⟨by rw [List.length_take, List.length_drop]; omega, .inr ⟨by omega, g, t, rfl, rfl, hb.lt, fun i hi => ?_⟩⟩
  rw [hb.cell, iv_at px _ (by omega), List.getD_eq_getElem?_getD, List.getD_eq_getElem?_getD, List.getElem?_take, if_pos hi, List.getElem?_drop]
set_option maxRecDepth 100000 in
set_option maxHeartbeats 4000000 in
theorem im_row (s : Spr) (T : Option Addr) (m d : Nat) (zs : List Int) (ft : List Nat) (y : Int) (w : World) (hT : Ints w T (64 * m) zs ft) (hm : m ≤ 1000000000) (ht : tilB zs = true) (hs : sprOk m s = true) (hy : 0 ≤ y - s.y ∧ y - s.y ≤ 7) :
    Calls Try.prog 111 #[sprV s, .slice T m d, .int .i64 y] w (Copied (rowF s zs y) 8 w) := by
  have X1 := Lib.hid (spr_new w s)
  have B1 := Lib.hid (below1 w (.cells #[.int .i64 s.x, .int .i64 s.y, .int .i64 s.n, .bool s.ac, .bool s.dn, .bool s.bh] 48))
  have T1 := Lib.hid (hT.below B1.out)
  have HZ := Lib.hid hT.1
  clear hT
  unfold sprOk at hs
  simp only [Bool.and_eq_true] at hs
  have hn := betB_iff.1 hs.2
  obtain ⟨k, hk⟩ : ∃ k : Nat, s.n = k := ⟨s.n.toNat, by omega⟩
  have hkm : k < m := by omega
  have hk0 : (k : Int) < m := by omega
  obtain ⟨j, hj⟩ : ∃ j : Nat, y - s.y = j := ⟨(y - s.y).toNat, by omega⟩
  have hj7 : j ≤ 7 := by omega
  have hys := betB_iff.1 hs.1.2
  have HR : Hid (rowF s zs y = ((flipT (tl zs k) s.ac s.dn).drop (8 * j)).take 8) := Lib.hid (by unfold rowF; rw [hk, hj]; simp)
  generalize rowF s zs y = R at HR ⊢
  have h64 := Lib.hid (tl_len HZ.out hkm)
  have hfl := flip_len (tl zs k) s.ac s.dn
  obtain ⟨p, o, rfl, _, _, hc⟩ := T1.out.at_ (by omega)
  clear hc
  have RG : Hid (∀ w', Below (w.alloc (.cells #[.int .i64 s.x, .int .i64 s.y, .int .i64 s.n, .bool s.ac, .bool s.dn, .bool s.bh] 48)).heap.size (w.alloc (.cells #[.int .i64 s.x, .int .i64 s.y, .int .i64 s.n, .bool s.ac, .bool s.dn, .bool s.bh] 48)) w' → w'.rangeAt p (o + k * 64) (iv (tl zs k))) := Lib.hid fun w' hw' => til_range (T1.out.below hw') hkm
  obtain ⟨px, hpx⟩ : ∃ px, tl zs k = px := ⟨_, rfl⟩
  rw [hpx] at RG h64 HR hfl
  have HKN := Lib.hid hk
  have HJJ := Lib.hid hj
  clear hpx hs hn hk hj
  go_enter Try.func111, Try.ntmps111
  go_upto_region 1 with (fail)
  generalize w.alloc (.cells #[.int .i64 s.x, .int .i64 s.y, .int .i64 s.n, .bool s.ac, .bool s.dn, .bool s.bh] 48) = w1 at X1 B1 T1 RG ⊢
  generalize hbb : w.heap.size = bb at X1 ⊢
  have HBB := Lib.hid hbb
  clear hbb
  refine wp_region_end (by dsimp only [List.dropLast]) rfl (ClB w1) RlB
    (Ty [TV (.slice (some ⟨p, o, none⟩) m d), TV (.pointer (some ⟨bb, 2, none⟩)), TV (.int .i64 k), TV (.pointer (some ⟨p, o + k * 64, none⟩)), TV (tilV px), TV (.pointer (some ⟨bb, 3, none⟩)), TV (.bool s.ac), TV (.pointer (some ⟨bb, 4, none⟩)), TV (.bool s.dn), TV (tilV (flipT px s.ac s.dn)), TVar w1.heap.size 57 (iv z64)])
    (by kernel_rfl) (by kernel_rfl) (by kernel_rfl) (stab_ty _ ⟨stabB_k _, stabB_k _, stabB_k _, stabB_k _, stabB_k _, stabB_k _, stabB_k _, stabB_k _, stabB_k _, stabB_k _, stabB_var, trivial⟩) (Below.refl _ _).drew ?_ ?_
  · refine ⟨?_, ?_, ?_, ?_, ?_, ?_, ?_, ?_, ?_, ?_, ?_, trivial⟩
    · exact lb_move (.tmp 1) (.inl rfl) (fun _ _ _ => want_none rfl) fun ρ wx hc hx hp => hx 1 rfl
    · refine lb_val (.pointer (some ⟨bb, 2, none⟩)) (fun _ _ _ => want_none rfl) fun ρ wx hb hc hx hp => ⟨?_, rfl⟩
      have h1 : ρ (.tmp 3) = .pointer (some ⟨bb, 0, none⟩) := hx 3 rfl
      unfold execOp
      simp only [h1]
      clear h1 hx hp hc hb
      go_simp
    · refine lb_val (.int .i64 k) (fun _ _ _ => want_none rfl) fun ρ wx hb hc hx hp => ⟨?_, rfl⟩
      have h1 : ρ (.tmp 10) = .pointer (some ⟨bb, 2, none⟩) := hp.1 rfl
      have c1 : wx.cell? ⟨bb, 2, none⟩ = some (.int .i64 s.n) := (X1.out.below hb).cell 2
      rw [HKN.out] at c1
      unfold execOp
      simp only [h1]
      clear h1 hx hp hc hb
      go_simp
    · refine lb_val (.pointer (some ⟨p, o + k * 64, none⟩)) (fun _ _ _ => want_none rfl) fun ρ wx hb hc hx hp => ⟨?_, rfl⟩
      have h0 : ρ (.tmp 9) = .slice (some ⟨p, o, none⟩) m d := hp.1 rfl
      have h1 : ρ (.tmp 11) = .int .i64 k := hp.2.1 rfl
      unfold execOp
      simp only [h0, h1]
      clear h0 h1 hx hc hp hb
      go_simp
    · exact lb_tilm (.tmp 12) p (o + k * 64) px rfl h64.out RG.out (fun _ _ _ => want_none rfl) fun ρ wx hx hp => ⟨hp.1 rfl, rfl⟩
    · refine lb_val (.pointer (some ⟨bb, 3, none⟩)) (fun _ _ _ => want_none rfl) fun ρ wx hb hc hx hp => ⟨?_, rfl⟩
      have h1 : ρ (.tmp 3) = .pointer (some ⟨bb, 0, none⟩) := hx 3 rfl
      unfold execOp
      simp only [h1]
      clear h1 hx hp hc hb
      go_simp
    · refine lb_val (.bool s.ac) (fun _ _ _ => want_none rfl) fun ρ wx hb hc hx hp => ⟨?_, rfl⟩
      have h1 : ρ (.tmp 14) = .pointer (some ⟨bb, 3, none⟩) := hp.1 rfl
      have c1 : wx.cell? ⟨bb, 3, none⟩ = some (.bool s.ac) := (X1.out.below hb).cell 3
      unfold execOp
      simp only [h1]
      clear h1 hx hp hc hb
      go_simp
    · refine lb_val (.pointer (some ⟨bb, 4, none⟩)) (fun _ _ _ => want_none rfl) fun ρ wx hb hc hx hp => ⟨?_, rfl⟩
      have h1 : ρ (.tmp 3) = .pointer (some ⟨bb, 0, none⟩) := hx 3 rfl
      unfold execOp
      simp only [h1]
      clear h1 hx hp hc hb
      go_simp
    · refine lb_val (.bool s.dn) (fun _ _ _ => want_none rfl) fun ρ wx hb hc hx hp => ⟨?_, rfl⟩
      have h1 : ρ (.tmp 16) = .pointer (some ⟨bb, 4, none⟩) := hp.1 rfl
      have c1 : wx.cell? ⟨bb, 4, none⟩ = some (.bool s.dn) := (X1.out.below hb).cell 4
      unfold execOp
      simp only [h1]
      clear h1 hx hp hc hb
      go_simp
    · refine lb_known _ _ _ (tilV (flipT px s.ac s.dn)) (fun _ _ => by simp [go_sem]) rfl (fun _ _ _ => want_none rfl) #[tilV px, .bool s.ac, .bool s.dn] (fun w hb => im_flip px s.ac s.dn h64.out w) (fun ρ wx hc hx hp => ?_) (fun _ => rfl)
      have h0 : ρ (.tmp 13) = tilV px := hp.1 rfl
      have h1 : ρ (.tmp 15) = .bool s.ac := hp.2.1 rfl
      have h2 : ρ (.tmp 17) = .bool s.dn := hp.2.2.1 rfl
      simp only [List.map_toArray, List.map_cons, List.map_nil, h0, h1, h2]
    · exact lb_var (fun _ _ _ => want_none rfl) (fun ρ wx => by
        unfold execOp
        simp only [Sem.run_bind, run_allocTil, Result.andThen_ok, Sem.run_pure]) (fun _ _ h => h)
  intro vs wx hI hF
  obtain ⟨-, -, -, -, -, -, -, -, -, h9, ⟨b6, h10, hL6, hb6⟩, -⟩ := hF
  replace h9 : vs 9 = tilV (flipT px s.ac s.dn) := h9
  replace h10 : vs 10 = .pointer (some ⟨b6, 0, none⟩) := h10
  have HI : Hid (Below w1.heap.size w1 wx) := hI
  simp only [putAll, Act.put, List.setIfInBounds_toArray, List.set_cons_zero, List.set_cons_succ, h9, h10]
  clear hI h9 h10
  obtain ⟨F, hF⟩ : ∃ F, flipT px s.ac s.dn = F := ⟨_, rfl⟩
  rw [hF] at hfl HR ⊢
  clear hF
  have Y6 := Lib.hid (Box.row (ds := iv F) hb6)
  have B6 := Lib.hid (below_row (below_then B1.out HI.out) (show w.heap.size ≤ b6 by have := B1.out.size; omega) (iv F).toArray)
  have X6 := Lib.hid ((X1.out.below HI.out).rowFar (g := b6) (ds := (iv F).toArray) (by have := X1.out.lt; omega))
  have N6 : Hid (w.heap.size ≤ b6) := Lib.hid (by have := B1.out.size; omega)
  refine ⟨wx.setRow b6 (iv F).toArray, exec_store ty_tile _ _ (.tmp 7) (.tmp 18) wx b6 _ (iv z64) (iv F) rfl rfl rfl hb6 (by simp [z64_len]) (by simp [hfl]) (iv_all _), ?_⟩
  generalize wx.setRow b6 (iv F).toArray = w6 at Y6 B6 X6 ⊢
  have c1 : w6.cell? ⟨bb, 1, none⟩ = some (.int .i64 s.y) := X6.out.cell 1
  have hw1 : IntKind.i64.wrap (y - s.y) = (j : Int) := by rw [HJJ.out, IntKind.wrap_i64]; omega
  have hw2 : IntKind.i64.wrap ((j : Int) * 8) = ((8 * j : Nat) : Int) := by rw [IntKind.wrap_i64]; omega
  have hw3 : IntKind.i64.wrap (((8 * j : Nat) : Int) + 8) = ((8 * j + 8 : Nat) : Int) := by rw [IntKind.wrap_i64]; omega
  clear HI X1 T1 RG hb6 HZ
  obtain ⟨t, htj⟩ : ∃ t : Nat, 8 * j = t := ⟨_, rfl⟩
  rw [htj] at hw2 hw3 HR
  have ht56 : t + 8 ≤ 64 := by omega
  clear htj
  have ht1 : (t : Int) ≤ ((t + 8 : Nat) : Int) := by omega
  have ht2 : ((t + 8 : Nat) : Int) ≤ 64 := by omega
  have hsl : ∀ wq, (Instr.sliceAt 55 (.pointer (some ⟨b6, 0, none⟩)) (some (.int .i64 (t : Int))) (some (.int .i64 ((t : Int) + 8))) none).run Try.prog wq = .ok (.slice (some ⟨b6, 0 + t, none⟩) (t + 8 - t) (64 - t)) wq := fun wq => run_slice_pixels wq b6 0 t (t + 8) (by omega) (by omega) (by omega)
  go_wp2_with fail
  go_ret
  rw [HR.out]
  exact ⟨some ⟨b6, t, none⟩, 64 - t, [b6], by go_num, by omega, ints_mid Y6.out hfl ht56, .one N6.out Y6.out.lt Y6.out.frozen, B6.out⟩
end Go.Proofs.Ytacebhncecninaa
