/- The model's functions on sound channels: mixing. -/
import Derived.Test.YtfbpnneegenhgaaVocU
import Derived.Test.YtfbpnneegenhgaaTilS
namespace Go.Proofs.Ytfbpnneegenhgaa
open Go.ChangeShapes Go.WideShapes Go.ChangeAt Go.RowKit
set_option linter.unusedVariables false

/-- The sum of sample j of the first channels. -/
def mixAt (L : List Int) (j : Nat) : Nat → Int
  | 0 => 0
  | k + 1 => mixAt L j k + lev (adv (vocK L k) j)
def vocsB (L : List Int) (m : Nat) : Bool := (List.range m).all fun k => vocB (vocK L k)
def mixB (L : List Int) (m : Nat) (n : Int) : Bool := decide (m ≤ 4) && betB n 0 400 && vocsB L m
def mixS (L : List Int) (N k : Nat) : List Int := (List.range N).map fun j => mixAt L j k
def mixK (L : List Int) (N k j : Nat) : List Int := (List.range N).map fun i => mixAt L i (if i < j then k + 1 else k)
def mixT (L : List Int) (m : Nat) (n : Int) : List Int := if mixB L m n = true then mixS L n.toNat m else []
theorem vocsB_iff {L : List Int} {m : Nat} : vocsB L m = true ↔ ∀ k, k < m → vocB (vocK L k) = true := by simp [vocsB]
theorem mixT_no {L : List Int} {m : Nat} {n : Int} (h : mixB L m n = false) : mixT L m n = [] := if_neg (by rw [h]; simp)
theorem mixT_yes {L : List Int} {m : Nat} {n : Int} (h : mixB L m n = true) : mixT L m n = mixS L n.toNat m := if_pos h
theorem mixS_len (L : List Int) (N k : Nat) : (mixS L N k).length = N := by simp [mixS]
theorem mixK_len (L : List Int) (N k j : Nat) : (mixK L N k j).length = N := by simp [mixK]
theorem mixK_zero (L : List Int) (N k : Nat) : mixK L N k 0 = mixS L N k := by simp [mixK, mixS]
theorem mixK_all (L : List Int) (N k : Nat) : mixK L N k N = mixS L N (k + 1) := by
  unfold mixK mixS
  refine List.map_congr_left fun i hi => ?_
  rw [if_pos (List.mem_range.1 hi)]
theorem mixS_zero (L : List Int) (N : Nat) : mixS L N 0 = List.replicate N 0 := by
  unfold mixS
  apply List.ext_getElem (by simp)
  intro i h1 h2
  simp [mixAt]
theorem mixK_at (L : List Int) (N k j : Nat) (h : j < N) : (mixK L N k j).getD j 0 = mixAt L j k := by
  unfold mixK
  rw [List.getD_eq_getElem?_getD, List.getElem?_map, List.getElem?_range h]
  simp
theorem mixS_at (L : List Int) (N k j : Nat) (h : j < N) : (mixS L N k).getD j 0 = mixAt L j k := by
  unfold mixS
  rw [List.getD_eq_getElem?_getD, List.getElem?_map, List.getElem?_range h]
  rfl
theorem mixK_set (L : List Int) (N k j : Nat) (h : j < N) : (mixK L N k j).set j (mixAt L j k + lev (adv (vocK L k) j)) = mixK L N k (j + 1) := by
  apply List.ext_getElem (by simp [mixK])
  intro i h1 h2
  simp only [mixK, List.getElem_set, List.getElem_map, List.getElem_range]
  by_cases e : j = i
  · subst e
    rw [if_pos rfl, if_pos (by omega)]
    rfl
  · rw [if_neg e]
    by_cases e2 : i < j
    · rw [if_pos e2, if_pos (by omega)]
    · rw [if_neg e2, if_neg (by omega)]
theorem mixAt_b {L : List Int} {m : Nat} (h : vocsB L m = true) (j : Nat) : ∀ k, k ≤ m → 0 ≤ mixAt L j k ∧ mixAt L j k ≤ 15 * k
  | 0, _ => by simp [mixAt]
  | k + 1, hk => by
    have ih := mixAt_b h j k (by omega)
    have := lev_b (adv_ok (vocsB_iff.1 h k (by omega)) j)
    show 0 ≤ mixAt L j k + lev (adv (vocK L k) j) ∧ mixAt L j k + lev (adv (vocK L k) j) ≤ 15 * ((k + 1 : Nat) : Int)
    omega
theorem infoIntV : (Try.prog.info? 3).map (fun i => (i.zero, i.size, i.bytes)) = some (some (.int .i64 0), 1, 8) := by kernel_rfl
theorem made_zeros (n : Nat) : madeCells #[.int .i64 0] n = (iv (List.replicate n 0)).toArray := by
  apply Array.ext
  · rw [size_madeCells]; simp [iv]
  · intro j h1 h2
    simp only [madeCells, Array.getElem_map, Array.getElem_range, iv, List.map_replicate, List.getElem_toArray, List.getElem_replicate]
    simp [Nat.mod_one]
theorem run_make_ints (n : Nat) (hn : n ≤ 1000000) (w : World) : (Instr.makeSlice 31 (.int .i64 (n : Int)) (.int .i64 (n : Int))).run Try.prog w = .ok (.slice (some ⟨w.heap.size, 0, none⟩) n n) (w.alloc (.cells (iv (List.replicate n 0)).toArray 3)) := by
  have h := Go.run_make_row' (P := Try.prog) 31 3 (.int .i64 0) 8 Try.underlying31 infoIntV rfl .i64 .i64 n (by omega) (by omega) w
  rw [made_zeros] at h
  exact h
theorem copied_boxV {w w' : World} {n g : Nat} {t : TypeId} {xs : List Int} (h : Box w' g t (iv xs)) (hl : xs.length = n) (hg : w.heap.size ≤ g) (hb : Below w.heap.size w w') : Copied xs n w (.returned (.slice (some ⟨g, 0, none⟩) n n)) w' := by
  by_cases h0 : n = 0
  · subst h0
    have : xs = [] := List.eq_nil_of_length_eq_zero hl
    subst this
    exact ⟨_, _, [], rfl, Nat.le_refl _, .nil _ _, .nil _ _, hb⟩
  · refine ⟨_, _, [g], rfl, Nat.le_refl _, ⟨hl, .inr ⟨by omega, g, 0, rfl, rfl, h.lt, fun i hi => ?_⟩⟩, .one hg h.lt h.frozen, hb⟩
    rw [Nat.zero_add, h.cell i]
    exact iv_at xs i (by omega)
theorem ivSetV (S : List Int) (k : Nat) (a : Int) : (iv S).set k (.int .i64 a) = iv (S.set k a) := by simp [iv, List.map_set]
set_option maxRecDepth 100000 in
set_option maxHeartbeats 4000000 in
theorem spec_mix (A : Option Addr) (m c : Nat) (L : List Int) (fl : List Nat) (n : Int) (w : World) (hL : Ints w A (5 * m) L fl) (hm : m ≤ 1000000000) :
    Calls Try.prog 27 #[.slice A m c, .int .i64 n] w (Copied (mixT L m n) (mixT L m n).length w) := by
  have HLR : Hid (∀ W, Below w.heap.size w W → Ints W A (5 * m) L fl) := Lib.hid fun W h => hL.below h
  clear hL
  by_cases hm4 : m ≤ 4
  · have i4 : (m : Int) ≤ 4 := by omega
    go_enter Try.func27, Try.ntmps27
    go_wp2_with fail
    refine (l1In_any n 0 400 _).mono ?_; rintro e' w' ⟨rfl, rfl⟩
    cases hn : betB n 0 400
    · have HT := Lib.hid (mixT_no (L := L) (m := m) (n := n) (by unfold mixB; rw [hn]; simp))
      clear hn
      go_wp2_with fail
      go_ret
      rw [HT.out]
      exact ⟨_, 0, [], rfl, Nat.le_refl _, Ints.nil _ _, .nil _ _, below1 w _⟩
    have HN := Lib.hid hn
    obtain ⟨n0, n1⟩ := betB_iff.1 hn
    obtain ⟨N, rfl⟩ := Int.eq_ofNat_of_zero_le n0
    have hN : N ≤ 400 := by omega
    clear hn n0 n1
    have hmk := run_make_ints N (by omega)
    rw [← mixS_zero L N] at hmk
    go_wp2_with fail
    obtain ⟨w1, hw1⟩ : ∃ w1, w1 = w.alloc (.cells (iv (mixS L N 0)).toArray 3) := ⟨_, rfl⟩
    have X1 : Hid (Box w1 w.heap.size 3 (iv (mixS L N 0))) := Lib.hid (by rw [hw1]; exact Box.new _ _ _)
    have B1 : Hid (Below w.heap.size w w1) := Lib.hid (by rw [hw1]; exact below1 w _)
    rw [← hw1]
    clear hw1 hmk
    generalize hb0 : w.heap.size = b0 at X1 B1 HLR ⊢
    have HB0 := Lib.hid hb0
    clear hb0
    go_loopw [4, 6, 7, 8, 9] (fun v4 i v7 v8 v9 wr => ∃ k : Nat, k ≤ m ∧ i = .int .i64 k ∧ vocsB L k = true ∧ Box wr b0 3 (iv (mixS L N k)) ∧ Below b0 w wr) (fun _ i _ _ _ _ => m - (intOf i).toNat)
    case atStart => exact ⟨0, by omega, rfl, rfl, X1.out, B1.out⟩
    case round =>
      obtain ⟨k, hk, rfl, hvk, hx, hb⟩ := hrel
      have VR := Lib.hid hvk
      have XR := Lib.hid hx
      have BR := Lib.hid hb
      clear hvk hx hb X1 B1
      by_cases hkm : k < m
      · have hkm' : (k : Int) < (m : Int) := by omega
        have IL := HLR.out _ BR.out
        obtain ⟨p, o, rfl, _, _, hcz⟩ := IL.at_ (by omega)
        clear hcz
        have HRG : Hid (∀ W, Below b0 w W → W.rangeAt p (o + k * 5) (vcs (vocK L k))) := Lib.hid fun W h => voc_range (HLR.out W h) hkm
        clear IL
        have HY : Hid (∀ j, mixAt L j (k + 1) = mixAt L j k + lev (adv (vocK L k) j)) := Lib.hid fun j => rfl
        have HVK : Hid (vocB (vocK L k) = false → vocsB L m = false) := Lib.hid fun h => by
          cases hq : vocsB L m
          · rfl
          · rw [vocsB_iff.1 hq k hkm] at h; exact absurd h (by simp)
        have HV1 : Hid (vocB (vocK L k) = true → vocsB L (k + 1) = true) := Lib.hid fun h => vocsB_iff.2 fun q hq => by
          by_cases e : q = k
          · subst e; exact h
          · exact vocsB_iff.1 VR.out q (by omega)
        have HKS : Hid (∀ j, j < N → (mixK L N k j).set j (mixAt L j k + lev (adv (vocK L k) j)) = mixK L N k (j + 1)) := Lib.hid fun j hj => mixK_set L N k j hj
        have HAB : Hid (∀ j, 0 ≤ mixAt L j k ∧ mixAt L j k ≤ 60) := Lib.hid fun j => by have := mixAt_b VR.out j k (Nat.le_refl _); omega
        generalize vocK L k = y at HRG HY HVK HV1 HKS
        have RG := Lib.hid (HRG.out _ BR.out)
        go_wp2_with (first | (refine vo_loadm (by rfl) _ rfl p (o + k * 5) rfl y RG.out ?_))
        refine (spec_voiceValid y _).mono ?_; rintro e' w2 ⟨rfl, b2⟩
        have X2 := Lib.hid (XR.out.below b2)
        have B2 := Lib.hid (below_via BR.out b2 (by have := XR.out.lt; omega))
        have R2 := Lib.hid (HRG.out _ B2.out)
        clear b2 XR BR RG
        cases hv : vocB y
        · have HT := Lib.hid (mixT_no (L := L) (m := m) (n := (N : Int)) (by unfold mixB; rw [HVK.out hv]; simp))
          clear hv
          go_wp2_with fail
          go_ret
          rw [HT.out]
          exact ⟨_, 0, [], rfl, Nat.le_refl _, Ints.nil _ _, .nil _ _, by rw [HB0.out]; exact B2.out.alloc (by have := X2.out.lt; omega) _⟩
        have HVY := Lib.hid hv
        have HVN := Lib.hid (HV1.out hv)
        clear hv HV1 HVK
        go_wp2_with (first | (refine vo_loadm (by rfl) _ rfl p (o + k * 5) rfl y R2.out ?_))
        refine (spec_play y (N : Int) _).mono ?_; rintro e' w3 ⟨As, cs, fs, rfl, hcs, is, ns, b3⟩
        have HPY := Lib.hid (play_yes (x := y) (n := (N : Int)) (by unfold playB; rw [HVY.out, HN.out]; rfl))
        rw [Int.toNat_natCast] at HPY
        rw [HPY.out.1, smp_len] at is hcs
        rw [HPY.out.1, HPY.out.2, smp_len]
        have X3 := Lib.hid (X2.out.below b3)
        have B3 := Lib.hid (below_via B2.out b3 (by have := X2.out.lt; omega))
        have I3 := Lib.hid is
        have N3 := Lib.hid ns
        have s3 : b0 < w3.heap.size := X3.out.lt
        have HFS : Hid (∀ b ∈ fs, b ∉ [b0]) := Lib.hid fun b hb => by have := (ns.lt b hb).1; have := X2.out.lt; simp; omega
        clear b3 X2 B2 is ns R2 hcs HPY
        generalize adv y N = z
        obtain ⟨w4, hw4⟩ : ∃ w4, w4 = (w3.alloc (.cells #[.int .i64 0, .int .i64 0, .int .i64 0, .int .i64 0, .int .i64 0] 24)).setRow w3.heap.size (vcs z).toArray := ⟨_, rfl⟩
        have b4 : Below w3.heap.size w3 w4 := by rw [hw4]; exact below_row (below1 w3 _) (Nat.le_refl _) _
        have X4 : Hid (Box w4 b0 3 (iv (mixK L N k 0))) := Lib.hid (by rw [mixK_zero]; exact X3.out.below b4)
        have B4 := Lib.hid (below_via B3.out b4 (by omega))
        have I4 := Lib.hid (I3.out.below b4)
        have HZ : Hid (Box (w3.alloc (.cells #[.int .i64 0, .int .i64 0, .int .i64 0, .int .i64 0, .int .i64 0] 24)) w3.heap.size 24 (vcs .zero)) := Lib.hid (Box.new w3 _ _)
        go_upto_region 10 with (first | (refine vo_store (by rfl) _ _ rfl w3.heap.size rfl z rfl (vcs .zero) HZ.out rfl ?_))
        rw [← hw4]
        have s4 : b0 < w4.heap.size := X4.out.lt
        clear hw4 b4 X3 B3 I3 N3 HZ s3
        go_wp2_with fail
        obtain ⟨W0, rfl⟩ : ∃ W0, W0 = wr := ⟨wr, rfl⟩
        go_loopw [9] (fun i ws => ∃ j : Nat, j ≤ N ∧ i = .int .i64 j ∧ Box ws b0 3 (iv (mixK L N k j)) ∧ Only [b0] w4 ws) (fun i _ => N - (intOf i).toNat)
        case atStart => exact ⟨0, by omega, rfl, X4.out, Only.refl _ _⟩
        case round =>
          obtain ⟨ws, rfl⟩ : ∃ ws, ws = wr := ⟨wr, rfl⟩
          obtain ⟨j, hj, rfl, hx, ho⟩ := hrel
          have XS := Lib.hid hx
          have OS := Lib.hid ho
          clear hx ho X4
          by_cases hjN : j < N
          · have hjN' : (j : Int) < (N : Int) := by omega
            have IS := I4.out.keep (Same.of_only OS.out HFS.out)
            obtain ⟨ps, os, rfl, _, _, hcz⟩ := IS.at_ (by omega)
            clear hcz
            have HJ := Lib.hid hjN
            have HCS : Hid (∀ wx, Below ws.heap.size ws wx → wx.cell? ⟨ps, os + j, none⟩ = some (.int .i64 (lev (adv y j)))) := Lib.hid fun wx hb => by
              have h1 := IS.below hb
              obtain ⟨p', o', he, _, _, hc⟩ := h1.at_ (by omega)
              injection he with he
              injection he with e1 e2 _
              subst e1 e2
              rw [hc j hjN, smp_at y hjN]
            have HCX : Hid (∀ wx, Below ws.heap.size ws wx → wx.cell? ⟨b0, j, none⟩ = some (.int .i64 (mixAt L j k))) := Lib.hid fun wx hb => by
              rw [(XS.out.below hb).cell j, iv_at _ j (by rw [mixK_len]; exact hjN), mixK_at L N k j hjN]
            have HST := Lib.hid (HKS.out j hjN)
            have HLB := lev_b (adv_ok HVY.out j)
            have HXB := HAB.out j
            clear IS
            generalize lev (adv y j) = a at HCS HST HLB
            generalize mixAt L j k = q at HCX HST HXB
            have HW := Lib.hid (wrapV (q + a) (by omega) (by omega))
            clear HLB HXB
            go_wp2_with fail
            refine wp_region_end (by dsimp only [List.dropLast]) rfl (ClB ws) RlB (Ty [TV (.slice (some ⟨b0, 0, none⟩) N N), TV (.int .i64 (j : Int)), TV (.slice (some ⟨b0, 0, none⟩) N N), TV (.int .i64 (j : Int)), TV (.pointer (some ⟨b0, j, none⟩)), TV (.int .i64 q), TV (.slice (some ⟨ps, os, none⟩) N cs), TV (.int .i64 (j : Int)), TV (.pointer (some ⟨ps, os + j, none⟩)), TV (.int .i64 a), TV (.int .i64 (q + a)), TV (.pointer (some ⟨b0, j, none⟩))])
              (by kernel_rfl) (by kernel_rfl) (by kernel_rfl) (stab_ty _ ⟨stabB_k _, stabB_k _, stabB_k _, stabB_k _, stabB_k _, stabB_k _, stabB_k _, stabB_k _, stabB_k _, stabB_k _, stabB_k _, stabB_k _, trivial⟩) (Below.refl _ _).drew ?_ ?_
            · refine ⟨?_, ?_, ?_, ?_, ?_, ?_, ?_, ?_, ?_, ?_, ?_, ?_, trivial⟩
              · exact lb_move (.tmp 5) (.inl rfl) (fun _ _ _ => want_none rfl) fun ρ wx hc hx hp => hx 5 rfl
              · exact lb_move (.tmp 9) (.inl rfl) (fun _ _ _ => want_none rfl) fun ρ wx hc hx hp => hx 9 rfl
              · exact lb_move (.tmp 5) (.inl rfl) (fun _ _ _ => want_none rfl) fun ρ wx hc hx hp => hx 5 rfl
              · exact lb_move (.tmp 9) (.inl rfl) (fun _ _ _ => want_none rfl) fun ρ wx hc hx hp => hx 9 rfl
              · refine lb_val (.pointer (some ⟨b0, j, none⟩)) (fun _ _ _ => want_none rfl) fun ρ wx hb hc hx hp => ⟨?_, rfl⟩
                have h50 : ρ (.tmp 50) = .slice (some ⟨b0, 0, none⟩) N N := hp.1 rfl
                have h51 : ρ (.tmp 51) = .int .i64 (j : Int) := hp.2.1 rfl
                have g1 := hjN'
                unfold execOp
                simp only [h50, h51]
                clear h50 h51 hx hp hc hb
                go_simp
              · refine lb_val (.int .i64 q) (fun _ _ _ => want_none rfl) fun ρ wx hb hc hx hp => ⟨?_, rfl⟩
                have h52 : ρ (.tmp 52) = .pointer (some ⟨b0, j, none⟩) := hp.1 rfl
                have cc := HCX.out wx hb
                unfold execOp
                simp only [h52]
                clear h52 hx hp hc hb
                go_simp
              · exact lb_move (.tmp 7) (.inl rfl) (fun _ _ _ => want_none rfl) fun ρ wx hc hx hp => hx 7 rfl
              · exact lb_move (.tmp 9) (.inl rfl) (fun _ _ _ => want_none rfl) fun ρ wx hc hx hp => hx 9 rfl
              · refine lb_val (.pointer (some ⟨ps, os + j, none⟩)) (fun _ _ _ => want_none rfl) fun ρ wx hb hc hx hp => ⟨?_, rfl⟩
                have h54 : ρ (.tmp 54) = .slice (some ⟨ps, os, none⟩) N cs := hp.1 rfl
                have h55 : ρ (.tmp 55) = .int .i64 (j : Int) := hp.2.1 rfl
                have g1 := hjN'
                unfold execOp
                simp only [h54, h55]
                clear h54 h55 hx hp hc hb
                go_simp
              · refine lb_val (.int .i64 a) (fun _ _ _ => want_none rfl) fun ρ wx hb hc hx hp => ⟨?_, rfl⟩
                have h56 : ρ (.tmp 56) = .pointer (some ⟨ps, os + j, none⟩) := hp.1 rfl
                have cc := HCS.out wx hb
                unfold execOp
                simp only [h56]
                clear h56 hx hp hc hb
                go_simp
              · refine lb_val (.int .i64 (q + a)) (fun _ _ _ => want_none rfl) fun ρ wx hb hc hx hp => ⟨?_, rfl⟩
                have h53 : ρ (.tmp 53) = .int .i64 q := hp.1 rfl
                have h57 : ρ (.tmp 57) = .int .i64 a := hp.2.1 rfl
                have g1 := HW.out
                unfold execOp
                simp only [h53, h57]
                clear h53 h57 hx hp hc hb
                go_simp
              · refine lb_val (.pointer (some ⟨b0, j, none⟩)) (fun _ _ _ => want_none rfl) fun ρ wx hb hc hx hp => ⟨?_, rfl⟩
                have h48 : ρ (.tmp 48) = .slice (some ⟨b0, 0, none⟩) N N := hp.1 rfl
                have h49 : ρ (.tmp 49) = .int .i64 (j : Int) := hp.2.1 rfl
                have g1 := hjN'
                unfold execOp
                simp only [h48, h49]
                clear h48 h49 hx hp hc hb
                go_simp
            intro vs wx hI hF
            obtain ⟨-, -, -, -, -, -, -, -, -, -, h10, h11, -⟩ := hF
            replace h10 : vs 10 = .int .i64 (q + a) := h10
            replace h11 : vs 11 = .pointer (some ⟨b0, j, none⟩) := h11
            simp only [putAll, Act.put, List.setIfInBounds_toArray, List.set_cons_zero, List.set_cons_succ, h10, h11]
            have X6 := XS.out.below hI
            refine ⟨_, exec_storeI (.tmp 59) (.tmp 58) wx b0 j (q + a) q rfl rfl rfl X6 (by rw [← X6.cell j]; exact HCX.out wx hI), ?_⟩
            have X7 : Hid (Box (wx.setCell ⟨b0, j, none⟩ (.int .i64 (q + a))) b0 3 (iv (mixK L N k (j + 1)))) := Lib.hid (by rw [← HST.out, ← ivSetV]; exact X6.set j _)
            have O7 : Hid (Only [b0] w4 (wx.setCell ⟨b0, j, none⟩ (.int .i64 (q + a)))) := Lib.hid ((OS.out.trans (.of_below hI)).setCell (.inl (by simp)) _)
            generalize wx.setCell ⟨b0, j, none⟩ (.int .i64 (q + a)) = w7 at X7 O7 ⊢
            clear X6 hI h10 h11 HCX HCS HST
            go_wp2_with fail
            go_roundw
            case rel => exact ⟨j + 1, by omega, by go_num, X7.out, O7.out⟩
            case measure => simp [intOf]; omega
          · obtain rfl : j = N := by omega
            have XF : Hid (Box ws b0 3 (iv (mixS L j (k + 1)))) := Lib.hid (by rw [← mixK_all]; exact XS.out)
            have BF : Hid (Below b0 w ws) := Lib.hid (B4.out.trans (OS.out.below (B := b0) (by simp) (by omega)))
            clear XS OS B4 I4
            go_wp2_with fail
            go_roundw
            case rel => exact ⟨k + 1, by omega, by go_num, HVN.out, XF.out, BF.out⟩
            case measure => simp [intOf]; omega
      · obtain rfl : k = m := by omega
        have HT := Lib.hid (mixT_yes (L := L) (m := k) (n := (N : Int)) (by unfold mixB; rw [HN.out, VR.out]; simp [hm4]))
        rw [Int.toNat_natCast] at HT
        go_wp2_with fail
        go_ret
        rw [HT.out, mixS_len]
        exact copied_boxV XR.out (mixS_len _ _ _) (by rw [HB0.out]; omega) (by rw [HB0.out]; exact BR.out)
  · have i4 : (4 : Int) < m := by omega
    have HT := Lib.hid (mixT_no (L := L) (m := m) (n := n) (by unfold mixB; simp [hm4]))
    go_enter Try.func27, Try.ntmps27
    go_wp2_with fail
    go_ret
    rw [HT.out]
    exact ⟨_, 0, [], rfl, Nat.le_refl _, Ints.nil _ _, .nil _ _, below1 w _⟩
end Go.Proofs.Ytfbpnneegenhgaa
