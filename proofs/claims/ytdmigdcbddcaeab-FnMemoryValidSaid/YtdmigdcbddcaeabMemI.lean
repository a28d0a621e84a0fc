/- Contracts on memories that lie here; the walk of FnReadMemory. -/
import Derived.Test.YtdmigdcbddcaeabMemH
import Derived.Test.YtdmigdcbddcaeabMemZ
import Derived.Deep.RegionHeld3
namespace Go.Proofs.Ytdmigdcbddcaeab
open Go.ChangeShapes Go.WideShapes Go.ChangeAt Go.RowKit

section
variable {w : World} {A : Option Addr} {n c : Nat} {R : Option Addr} {k d : Nat} {M : Mem}
theorem MemHere.parts (h : MemHere w A n c R k d M) : ∃ fa fr, Ints w A n M.ram fa ∧ Grid w R k M.rom fr ∧ n ≤ 1000000000 ∧ k ≤ 1000000000 ∧ ∀ i, (M.rom.getD i []).length ≤ 1000000000 := by
  have hr := h.ram_len
  have hk := h.rom_len
  obtain ⟨_, _, ⟨fa, h3⟩, ⟨fr, h4⟩, h5⟩ := h
  exact ⟨fa, fr, h3, h4, by omega, by omega, fun i => by have := h5.row i; omega⟩
theorem hv_impl (h : MemHere w A n c R k d M) : Calls Try.prog 10 #[.agg #[.slice A n c, .slice R k d, .int .i64 M.bank]] w fun e w' => e = .returned (.bool (validB M)) ∧ Below w.heap.size w w' := by
  obtain ⟨fa, fr, h1, h2, h3, h4, h5⟩ := h.parts
  exact impl_valid A n c R k d M fa fr w h1 h2 h3 h4 h5
theorem hv_spec (h : MemHere w A n c R k d M) : Calls Try.prog 11 #[.agg #[.slice A n c, .slice R k d, .int .i64 M.bank]] w fun e w' => e = .returned (.bool (validB M)) ∧ Below w.heap.size w w' := by
  obtain ⟨fa, fr, h1, h2, h3, h4, h5⟩ := h.parts
  exact spec_valid A n c R k d M fa fr w h1 h2 h3 h4 h5
theorem hr_impl (h : MemHere w A n c R k d M) (a : Int) : Calls Try.prog 14 #[.agg #[.slice A n c, .slice R k d, .int .i64 M.bank], .int .i64 a] w (Got (readM M a) w) := by
  obtain ⟨fa, fr, h1, h2, h3, h4, h5⟩ := h.parts
  exact impl_read A n c R k d M fa fr a w h1 h2 h3 h4 h5
theorem hr_spec (h : MemHere w A n c R k d M) (a : Int) : Calls Try.prog 15 #[.agg #[.slice A n c, .slice R k d, .int .i64 M.bank], .int .i64 a] w (Got (readM M a) w) := by
  obtain ⟨fa, fr, h1, h2, h3, h4, h5⟩ := h.parts
  exact spec_read A n c R k d M fa fr a w h1 h2 h3 h4 h5
theorem hw_impl (h : MemHere w A n c R k d M) (a v : Int) : Calls Try.prog 18 #[.agg #[.slice A n c, .slice R k d, .int .i64 M.bank], .int .i64 a, .int .i64 v] w (MemNew (writeM M a v) w) := by
  obtain ⟨fa, fr, h1, h2, h3, h4, h5⟩ := h.parts
  exact impl_write A n c R k d M fa fr a v w h1 h2 h3 h4 h5
theorem hw_spec (h : MemHere w A n c R k d M) (a v : Int) : Calls Try.prog 20 #[.agg #[.slice A n c, .slice R k d, .int .i64 M.bank], .int .i64 a, .int .i64 v] w (MemNew (writeM M a v) w) := by
  obtain ⟨fa, fr, h1, h2, h3, h4, h5⟩ := h.parts
  exact spec_write A n c R k d M fa fr a v w h1 h2 h3 h4 h5
theorem hc_impl (h : MemHere w A n c R k d M) (f t m : Int) : Calls Try.prog 24 #[.agg #[.slice A n c, .slice R k d, .int .i64 M.bank], .int .i64 f, .int .i64 t, .int .i64 m] w (MemNew (copyM M f t m) w) := by
  obtain ⟨fa, fr, h1, h2, h3, h4, h5⟩ := h.parts
  exact impl_copy A n c R k d M fa fr f t m w h1 h2 h3 h4 h5
theorem hc_spec (h : MemHere w A n c R k d M) (f t m : Int) : Calls Try.prog 25 #[.agg #[.slice A n c, .slice R k d, .int .i64 M.bank], .int .i64 f, .int .i64 t, .int .i64 m] w (MemNew (copyM M f t m) w) := by
  obtain ⟨fa, fr, h1, h2, h3, h4, h5⟩ := h.parts
  exact spec_copy A n c R k d M fa fr f t m w h1 h2 h3 h4 h5
theorem hs_same {A' : Option Addr} {n' c' : Nat} {R' : Option Addr} {k' d' : Nat} (h : MemHere w A n c R k d M) (h' : MemHere w A' n' c' R' k' d' M) : Calls Try.prog 19 #[.agg #[.slice A n c, .slice R k d, .int .i64 M.bank], .agg #[.slice A' n' c', .slice R' k' d', .int .i64 M.bank]] w fun e w' => e = .returned (.bool true) ∧ Below w.heap.size w w' := by
  obtain rfl : n = n' := by have := h.ram_len; have := h'.ram_len; omega
  obtain rfl : k = k' := by have := h.rom_len; have := h'.rom_len; omega
  obtain ⟨fa, fr, h1, h2, h3, h4, h5⟩ := h.parts
  obtain ⟨fa', fr', h1', h2', _, _, _⟩ := h'.parts
  exact same_mem A A' n c c' R R' k d d' M fa fr fa' fr' w h1 h1' h2 h2' h3 h4 h5
theorem MemNew.here {e : Ending} {w' : World} (h : MemNew M w e w') (hs : Small M 256) : ∃ (A : Option Addr) (n c : Nat) (R : Option Addr) (k d : Nat), e = .returned (.agg #[.slice A n c, .slice R k d, .int .i64 M.bank]) ∧ MemHere w' A n c R k d M ∧ Below w.heap.size w w' := by
  obtain ⟨A, n, c, R, k, d, fa, fr, rfl, h1, h2, h3, h4, _, h5⟩ := h
  exact ⟨A, n, c, R, k, d, rfl, ⟨h1, h2, ⟨fa, h3⟩, ⟨fr, h4⟩, hs⟩, h5⟩
end
theorem keeps {w w' : World} (b : Below w.heap.size w w') {a : Addr} {v : Value} (h : w.cell? a = some v) : w'.cell? a = some v := (b.cell (World.block_lt_of_cell? _ _ h)).trans h
/-- The cell of the working memory with a number. -/
theorem MemHere.ramAt {w : World} {A : Option Addr} {n c : Nat} {R : Option Addr} {k d : Nat} {M : Mem} (h : MemHere w A n c R k d M) (hn : n = 256) : ∃ b o, A = some ⟨b, o, none⟩ ∧ ∀ i, i < 256 → w.cell? ⟨b, o + i, none⟩ = some (.int .i64 (M.ram.getD i 0)) := by
  obtain ⟨_, _, ⟨fa, h3⟩, _, _⟩ := h
  subst hn
  obtain ⟨b, o, rfl, _, _, hc⟩ := h3.at_ (by omega)
  exact ⟨b, o, rfl, hc⟩
/-- A bank's header, and its cells. -/
theorem MemHere.romAt {w : World} {A : Option Addr} {n c : Nat} {R : Option Addr} {k d : Nat} {M : Mem} (h : MemHere w A n c R k d M) (g : Good M) {i : Nat} (hi : i < k) : ∃ b o a c1 p q, R = some ⟨b, o, none⟩ ∧ w.cell? ⟨b, o + i, none⟩ = some (.slice a 256 c1) ∧ a = some ⟨p, q, none⟩ ∧ ∀ j, j < 256 → w.cell? ⟨p, q + j, none⟩ = some (.int .i64 ((M.rom.getD i []).getD j 0)) := by
  have hk := h.rom_len
  obtain ⟨_, _, _, ⟨fr, h4⟩, _⟩ := h
  obtain ⟨b, o, a, m, c1, f1, rfl, _, hcell, _, hints, _⟩ := h4.row hi
  have hm : m = 256 := by rw [← hints.1]; exact g.rom i (by omega)
  subst hm
  obtain ⟨p, q, rfl, _, _, hc⟩ := hints.at_ (by omega)
  exact ⟨b, o, _, c1, p, q, rfl, hcell, rfl, hc⟩
theorem readM_in {M : Mem} (hv : validB M = true) {a : Int} (h0 : 0 ≤ a) (h1 : a ≤ 1023) : readM M a = readN M a.toNat := by
  have ha : addrB a = true := by simp [addrB, h0, h1]
  simp [readM, ha, hv]
theorem readM_out {M : Mem} {a : Int} (h : validB M = false ∨ a < 0 ∨ 1023 < a) : readM M a = 0 := by
  unfold readM
  rw [if_neg]
  rintro ⟨h1, h2⟩
  have := addrB_yes h1
  rcases h with h | h | h
  · rw [h] at h2; cases h2
  · omega
  · omega
set_option maxHeartbeats 8000000 in
set_option maxRecDepth 100000 in
theorem walk_FnReadMemory (a0 : Option Addr) (len0 cap0 : Nat) (z0 : List Int) (w : World) (w0 : IsRow .u8 w a0 len0 cap0 z0) :
    Calls Try.prog 4 #[.slice a0 len0 cap0] w fun e w' => e = .returned (.bool true) ∧ Below w.heap.size w w' := by
  have H := Lib.hid w0
  have hl := isRow_len w0
  clear w0
  by_cases hs : len0 ≤ 1048576
  · go_enter Try.func4, Try.ntmps4
    go_wp2_with fail
    refine (draw_memRead _ _ _ _ _ H.out).mono ?_; rintro e w1 ⟨A, n, c, R, k, d, M, x, x0, x1, rfl, h1, b1⟩
    have B1 := Lib.hid (b1.alloc b1.size (.cells #[.slice A n c, .slice R k d, .int .i64 M.bank] 26))
    have H1 := Lib.hid (h1.below (below1 w1 (.cells #[.slice A n c, .slice R k d, .int .i64 M.bank] 26)))
    clear b1 h1
    go_wp2_with fail
    refine (hr_impl H1.out _).mono ?_; rintro e w2 ⟨rfl, b2⟩
    have Y2 : Hid (Box w2 w1.heap.size 26 [.slice A n c, .slice R k d, .int .i64 M.bank]) := (Box.new w1 _ _).below b2
    have B2 := Lib.hid (below_then B1.out b2)
    have H2 := Lib.hid (H1.out.below b2)
    clear b2 H1
    have HR := Lib.hid (show readM M x = readM M x from rfl)
    generalize hv : readM M x = v at HR
    have HV := Lib.hid hv
    clear hv HR
    have c0 : w2.cell? ⟨w1.heap.size, 0, none⟩ = some (.slice A n c) := Y2.out.cell 0
    have c1 : w2.cell? ⟨w1.heap.size, 1, none⟩ = some (.slice R k d) := Y2.out.cell 1
    have c2 : w2.cell? ⟨w1.heap.size, 2, none⟩ = some (.int .i64 M.bank) := Y2.out.cell 2
    go_wp2_with fail
    refine (hr_spec H2.out _).mono ?_; rintro e w3 ⟨rfl, b3⟩
    rw [HV.out]
    have Y3 := Lib.hid (Y2.out.below b3)
    have B3 := Lib.hid (below_then B2.out b3)
    have H3 := Lib.hid (H2.out.below b3)
    clear b3 H2 c0 c1 c2
    have c0 : w3.cell? ⟨w1.heap.size, 0, none⟩ = some (.slice A n c) := Y3.out.cell 0
    have c1 : w3.cell? ⟨w1.heap.size, 1, none⟩ = some (.slice R k d) := Y3.out.cell 1
    have c2 : w3.cell? ⟨w1.heap.size, 2, none⟩ = some (.int .i64 M.bank) := Y3.out.cell 2
    go_wp2_with fail
    refine (hv_spec H3.out).mono ?_; rintro e w4 ⟨rfl, b4⟩
    have Y4 := Lib.hid (Y3.out.below b4)
    have B4 := Lib.hid (below_then B3.out b4)
    have H4 := Lib.hid (H3.out.below b4)
    clear b4 H3 c0 c1 c2
    by_cases hval : validB M = true
    · by_cases hx0 : x < 0
      · have HZ := Lib.hid (show v = 0 by rw [← HV.out]; exact readM_out (.inr (.inl hx0)))
        rw [hval, HZ.out]
        clear hval
        go_wp2_with fail
        refine (alive_any _).mono ?_; rintro e w' ⟨rfl, rfl⟩
        go_wp2_with fail
        go_ret
        exact ⟨rfl, B4.out⟩
      · by_cases hx1 : 1023 < x
        · have HZ := Lib.hid (show v = 0 by rw [← HV.out]; exact readM_out (.inr (.inr hx1)))
          have hxd : decide (x < 0) = false := by simpa using hx0
          rw [hval, HZ.out]
          clear hval hx0
          go_wp2_with fail
          refine (alive_any _).mono ?_; rintro e w' ⟨rfl, rfl⟩
          go_wp2_with fail
          go_ret
          exact ⟨rfl, B4.out⟩
        · have gd := good_of hval
          have hy0 : 0 ≤ x := by omega
          have hy1 : x ≤ 1023 := by omega
          have hxd : decide (x < 0) = false := by simpa using hx0
          have hxe : decide (1023 < x) = false := by simpa using hx1
          have hvb : 0 ≤ v ∧ v ≤ 255 := by rw [← HV.out, readM_in hval hy0 hy1]; exact readN_byte gd _ (by omega)
          obtain ⟨v0, v1⟩ := hvb
          obtain ⟨K, hK⟩ : ∃ K : Nat, x % 256 = (K : Int) := ⟨(x % 256).toNat, by omega⟩
          have hK2 : K < 256 := by omega
          have rl := H4.out.ram_len
          have ml := H4.out.rom_len
          have hn : n = 256 := by rw [← rl.1]; exact gd.ram
          have hk0 : 0 < k := by have := gd.one; omega
          have q0 := gd.bank0
          have q1 := gd.bank1
          obtain ⟨rb, ro, hA, hram⟩ := H4.out.ramAt hn
          obtain ⟨gb, go, r0, rc0, pb, po, hR, hh0, hr0, hp⟩ := H4.out.romAt gd hk0
          obtain ⟨gb', go', r1, rc1, qb, qo, hR', hh1, hr1, hq⟩ := H4.out.romAt gd (show M.bank.toNat < k by omega)
          subst hn hA hR hr0 hr1
          injection hR' with hR'
          injection hR' with e1 e2 _
          subst e1; subst e2
          have f0 : w4.cell? ⟨w1.heap.size, 0, none⟩ = some (.slice (some ⟨rb, ro, none⟩) 256 c) := Y4.out.cell 0
          have f1 : w4.cell? ⟨w1.heap.size, 1, none⟩ = some (.slice (some ⟨gb, go, none⟩) k d) := Y4.out.cell 1
          have f2 : w4.cell? ⟨w1.heap.size, 2, none⟩ = some (.int .i64 M.bank) := Y4.out.cell 2
          have f3 := hram K hK2
          have f4 : w4.cell? ⟨gb, go, none⟩ = some (.slice (some ⟨pb, po, none⟩) 256 rc0) := by simpa using hh0
          have f5 := hp K hK2
          have f6 := hh1
          have f7 := hq K hK2
          have E0 := Lib.hid (show readM M K = M.ram.getD K 0 by rw [readM_in hval (by omega) (by omega)]; simp [readN]; rw [if_pos (by omega), Nat.mod_eq_of_lt hK2])
          have E1 := Lib.hid (show readM M ((K : Int) + 256) = M.ram.getD K 0 by rw [readM_in hval (by omega) (by omega), show ((K : Int) + 256).toNat = K + 256 by omega]; unfold readN; rw [if_pos (by omega), show (K + 256) % 256 = K by omega])
          have E2 := Lib.hid (show readM M ((K : Int) + 512) = (M.rom.getD 0 []).getD K 0 by rw [readM_in hval (by omega) (by omega), show ((K : Int) + 512).toNat = K + 512 by omega]; unfold readN; rw [if_neg (by omega), if_pos (by omega), show K + 512 - 512 = K by omega])
          have E3 := Lib.hid (show readM M ((K : Int) + 768) = (M.rom.getD M.bank.toNat []).getD K 0 by rw [readM_in hval (by omega) (by omega), show ((K : Int) + 768).toNat = K + 768 by omega]; unfold readN; rw [if_neg (by omega), if_neg (by omega), show K + 768 - 768 = K by omega])
          generalize M.ram.getD K 0 = ra at f3 E0 E1
          generalize (M.rom.getD 0 []).getD K 0 = rz at f5 E2
          generalize (M.rom.getD M.bank.toNat []).getD K 0 = rk at f7 E3
          rw [hval]
          have bk : M.bank < (k : Int) := by omega
          have HK := Lib.hid hK
          clear hram hh0 hp hh1 hq hK hval hx0 hx1 gd rl ml q1
          go_wp2_with fail
          rw [HK.out]
          have KD : Hid (w4.drew.cell? ⟨w1.heap.size, 0, none⟩ = some (.slice (some ⟨rb, ro, none⟩) 256 c) ∧ w4.drew.cell? ⟨w1.heap.size, 1, none⟩ = some (.slice (some ⟨gb, go, none⟩) k d) ∧ w4.drew.cell? ⟨w1.heap.size, 2, none⟩ = some (.int .i64 M.bank) ∧ w4.drew.cell? ⟨rb, ro + K, none⟩ = some (.int .i64 ra) ∧ w4.drew.cell? ⟨gb, go, none⟩ = some (.slice (some ⟨pb, po, none⟩) 256 rc0) ∧ w4.drew.cell? ⟨pb, po + K, none⟩ = some (.int .i64 rz) ∧ w4.drew.cell? ⟨gb, go + M.bank.toNat, none⟩ = some (.slice (some ⟨qb, qo, none⟩) 256 rc1) ∧ w4.drew.cell? ⟨qb, qo + K, none⟩ = some (.int .i64 rk)) := ⟨f0, f1, f2, f3, f4, f5, f6, f7⟩
          have HD : Hid (MemHere w4.drew (some ⟨rb, ro, none⟩) 256 c (some ⟨gb, go, none⟩) k d M) := H4.out.below (Below.refl _ _).drew
          have BD : Hid (Below w.heap.size w w4.drew) := B4.out.drew
          have i0 : (0 : Int) ≤ (K : Int) := by omega
          have i1 : (K : Int) < 256 := by omega
          have hk3 : (0 : Int) < (k : Int) := by omega
          have y1 : IntKind.i64.wrap ((K : Int) + 256) = (K : Int) + 256 := IntWalk.i64_in _ (by omega)
          have y2 : IntKind.i64.wrap ((K : Int) + 512) = (K : Int) + 512 := IntWalk.i64_in _ (by omega)
          have y3 : IntKind.i64.wrap ((K : Int) + 768) = (K : Int) + 768 := IntWalk.i64_in _ (by omega)
          go_region_held3 (fun w' => w'.cell? ⟨w1.heap.size, 0, none⟩ = some (.slice (some ⟨rb, ro, none⟩) 256 c) ∧ w'.cell? ⟨w1.heap.size, 1, none⟩ = some (.slice (some ⟨gb, go, none⟩) k d) ∧ w'.cell? ⟨w1.heap.size, 2, none⟩ = some (.int .i64 M.bank) ∧ w'.cell? ⟨rb, ro + K, none⟩ = some (.int .i64 ra) ∧ w'.cell? ⟨gb, go, none⟩ = some (.slice (some ⟨pb, po, none⟩) 256 rc0) ∧ w'.cell? ⟨pb, po + K, none⟩ = some (.int .i64 rz) ∧ w'.cell? ⟨gb, go + M.bank.toNat, none⟩ = some (.slice (some ⟨qb, qo, none⟩) 256 rc1) ∧ w'.cell? ⟨qb, qo + K, none⟩ = some (.int .i64 rk))
            (first
              | (with_reducible exact KD.out)
              | (with_reducible exact K5.out)
              | (with_reducible exact K6.out)
              | (with_reducible exact K7.out)
              | (with_reducible exact K8.out)
              | go_keep)
            (first
              | (go_at_call 16; ((with_reducible refine (isByte_yes _ _ v0 v1).mono ?_)); rintro e w' ⟨rfl, rfl⟩)
              | (go_at_call 14; ((with_reducible refine (hr_impl H7.out _).mono ?_)); rintro e w8 ⟨rfl, b_⟩; rw [E3.out]; have K8 : Hid (w8.cell? ⟨w1.heap.size, 0, none⟩ = some (.slice (some ⟨rb, ro, none⟩) 256 c) ∧ w8.cell? ⟨w1.heap.size, 1, none⟩ = some (.slice (some ⟨gb, go, none⟩) k d) ∧ w8.cell? ⟨w1.heap.size, 2, none⟩ = some (.int .i64 M.bank) ∧ w8.cell? ⟨rb, ro + K, none⟩ = some (.int .i64 ra) ∧ w8.cell? ⟨gb, go, none⟩ = some (.slice (some ⟨pb, po, none⟩) 256 rc0) ∧ w8.cell? ⟨pb, po + K, none⟩ = some (.int .i64 rz) ∧ w8.cell? ⟨gb, go + M.bank.toNat, none⟩ = some (.slice (some ⟨qb, qo, none⟩) 256 rc1) ∧ w8.cell? ⟨qb, qo + K, none⟩ = some (.int .i64 rk)) := ⟨keeps b_ K7.out.1, keeps b_ K7.out.2.1, keeps b_ K7.out.2.2.1, keeps b_ K7.out.2.2.2.1, keeps b_ K7.out.2.2.2.2.1, keeps b_ K7.out.2.2.2.2.2.1, keeps b_ K7.out.2.2.2.2.2.2.1, keeps b_ K7.out.2.2.2.2.2.2.2⟩; have H8 := Lib.hid (H7.out.below b_); have B8 := Lib.hid (below_then B7.out b_); clear b_)
              | (go_at_call 14; ((with_reducible refine (hr_impl H6.out _).mono ?_)); rintro e w7 ⟨rfl, b_⟩; rw [E2.out]; have K7 : Hid (w7.cell? ⟨w1.heap.size, 0, none⟩ = some (.slice (some ⟨rb, ro, none⟩) 256 c) ∧ w7.cell? ⟨w1.heap.size, 1, none⟩ = some (.slice (some ⟨gb, go, none⟩) k d) ∧ w7.cell? ⟨w1.heap.size, 2, none⟩ = some (.int .i64 M.bank) ∧ w7.cell? ⟨rb, ro + K, none⟩ = some (.int .i64 ra) ∧ w7.cell? ⟨gb, go, none⟩ = some (.slice (some ⟨pb, po, none⟩) 256 rc0) ∧ w7.cell? ⟨pb, po + K, none⟩ = some (.int .i64 rz) ∧ w7.cell? ⟨gb, go + M.bank.toNat, none⟩ = some (.slice (some ⟨qb, qo, none⟩) 256 rc1) ∧ w7.cell? ⟨qb, qo + K, none⟩ = some (.int .i64 rk)) := ⟨keeps b_ K6.out.1, keeps b_ K6.out.2.1, keeps b_ K6.out.2.2.1, keeps b_ K6.out.2.2.2.1, keeps b_ K6.out.2.2.2.2.1, keeps b_ K6.out.2.2.2.2.2.1, keeps b_ K6.out.2.2.2.2.2.2.1, keeps b_ K6.out.2.2.2.2.2.2.2⟩; have H7 := Lib.hid (H6.out.below b_); have B7 := Lib.hid (below_then B6.out b_); clear b_)
              | (go_at_call 14; ((with_reducible refine (hr_impl H5.out _).mono ?_)); rintro e w6 ⟨rfl, b_⟩; rw [E1.out]; have K6 : Hid (w6.cell? ⟨w1.heap.size, 0, none⟩ = some (.slice (some ⟨rb, ro, none⟩) 256 c) ∧ w6.cell? ⟨w1.heap.size, 1, none⟩ = some (.slice (some ⟨gb, go, none⟩) k d) ∧ w6.cell? ⟨w1.heap.size, 2, none⟩ = some (.int .i64 M.bank) ∧ w6.cell? ⟨rb, ro + K, none⟩ = some (.int .i64 ra) ∧ w6.cell? ⟨gb, go, none⟩ = some (.slice (some ⟨pb, po, none⟩) 256 rc0) ∧ w6.cell? ⟨pb, po + K, none⟩ = some (.int .i64 rz) ∧ w6.cell? ⟨gb, go + M.bank.toNat, none⟩ = some (.slice (some ⟨qb, qo, none⟩) 256 rc1) ∧ w6.cell? ⟨qb, qo + K, none⟩ = some (.int .i64 rk)) := ⟨keeps b_ K5.out.1, keeps b_ K5.out.2.1, keeps b_ K5.out.2.2.1, keeps b_ K5.out.2.2.2.1, keeps b_ K5.out.2.2.2.2.1, keeps b_ K5.out.2.2.2.2.2.1, keeps b_ K5.out.2.2.2.2.2.2.1, keeps b_ K5.out.2.2.2.2.2.2.2⟩; have H6 := Lib.hid (H5.out.below b_); have B6 := Lib.hid (below_then B5.out b_); clear b_)
              | (go_at_call 14; ((with_reducible refine (hr_impl HD.out _).mono ?_)); rintro e w5 ⟨rfl, b_⟩; rw [E0.out]; have K5 : Hid (w5.cell? ⟨w1.heap.size, 0, none⟩ = some (.slice (some ⟨rb, ro, none⟩) 256 c) ∧ w5.cell? ⟨w1.heap.size, 1, none⟩ = some (.slice (some ⟨gb, go, none⟩) k d) ∧ w5.cell? ⟨w1.heap.size, 2, none⟩ = some (.int .i64 M.bank) ∧ w5.cell? ⟨rb, ro + K, none⟩ = some (.int .i64 ra) ∧ w5.cell? ⟨gb, go, none⟩ = some (.slice (some ⟨pb, po, none⟩) 256 rc0) ∧ w5.cell? ⟨pb, po + K, none⟩ = some (.int .i64 rz) ∧ w5.cell? ⟨gb, go + M.bank.toNat, none⟩ = some (.slice (some ⟨qb, qo, none⟩) 256 rc1) ∧ w5.cell? ⟨qb, qo + K, none⟩ = some (.int .i64 rk)) := ⟨keeps b_ KD.out.1, keeps b_ KD.out.2.1, keeps b_ KD.out.2.2.1, keeps b_ KD.out.2.2.2.1, keeps b_ KD.out.2.2.2.2.1, keeps b_ KD.out.2.2.2.2.2.1, keeps b_ KD.out.2.2.2.2.2.2.1, keeps b_ KD.out.2.2.2.2.2.2.2⟩; have H5 := Lib.hid (HD.out.below b_); have B5 := Lib.hid (below_then BD.out b_); clear b_))
          all_goals
            go_wp2_with fail
            go_ret
            exact ⟨rfl, B8.out⟩
    · have HZ := Lib.hid (show v = 0 by rw [← HV.out]; exact readM_out (.inl (by simpa using hval)))
      rw [show validB M = false by simpa using hval, HZ.out]
      clear hval
      go_wp2_with fail
      refine (alive_any _).mono ?_; rintro e w' ⟨rfl, rfl⟩
      go_wp2_with fail
      go_ret
      exact ⟨rfl, B4.out⟩
  · go_enter Try.func4, Try.ntmps4
    go_wp2_with fail
    go_ret
    exact ⟨rfl, Below.refl _ _⟩
end Go.Proofs.Ytdmigdcbddcaeab
