import Derived.Test.YtcapfafglikcmaaDoorKG
import Derived.Test.YtcapfafglikcmaaDoorMemV
import Derived.Test.YtcapfafglikcmaaDoorKD
import Derived.Deep.DeepCutAuto
import Derived.Deep.RegionLaw
import Derived.Test.YtcapfafglikcmaaDoorByteF

section
/- What the model reads at an address: three bytes, and the instruction there. -/
namespace Go.Proofs.YtcapfafglikcmaaDoor
open Go.ChangeShapes Go.WideShapes Go.ChangeAt Go.RowKit

theorem l2Read_two (A : Option Addr) (n c : Nat) (R : Option Addr) (k d : Nat) (M : Mem) (fa fr : List Nat) (t j : Nat) (w : World) (hi : Ints w A n M.ram fa) (hg : Grid w R k M.rom fr) (gd : Good M) :
    Calls Tryd.prog 62 #[.agg #[.slice A n c, .slice R k d, .int .i64 M.bank], .int .i64 (((t : Int) + (j : Int)) % 1024)] w (Got (readN M ((t + j) % 1024)) w) := by
  rw [show (((t : Int) + (j : Int)) % 1024) = (((t + j) % 1024 : Nat) : Int) by omega]
  exact l2Read_any A n c R k d M fa fr ((t + j) % 1024) w hi hg gd (by omega)
theorem bytes_take (M : Mem) (t j : Nat) (hj : j < 3) : (bytesN M t).take (j + 1) = (bytesN M t).take j ++ [readN M ((t + j) % 1024)] := by
  obtain rfl | rfl | rfl : j = 0 ∨ j = 1 ∨ j = 2 := by omega
  · rfl
  · rfl
  · rfl
theorem bytes_len (M : Mem) (t : Nat) : (bytesN M t).length = 3 := rfl
theorem Ints.take {w : World} {A : Option Addr} {n : Nat} {xs : List Int} {fp : List Nat} (h : Ints w A n xs fp) (k : Nat) (hk : k ≤ n) : ∃ fq, Ints w A k (xs.take k) fq := by
  obtain ⟨hl, ⟨rfl, rfl⟩ | ⟨h0, b, o, rfl, rfl, hb, hc⟩⟩ := h
  · obtain rfl : k = 0 := by omega
    exact ⟨[], rfl, .inl ⟨rfl, rfl⟩⟩
  · by_cases hk0 : k = 0
    · subst hk0; exact ⟨[], rfl, .inl ⟨rfl, rfl⟩⟩
    · refine ⟨[b], by rw [List.length_take]; omega, .inr ⟨by omega, b, o, rfl, rfl, hb, fun i hi => ?_⟩⟩
      rw [hc i (by omega), getD_take _ _ _ hi]
theorem ints_lone {w : World} {b : Nat} {t : TypeId} {x : Int} (h : Box w b t [.int .i64 x]) : Ints w (some ⟨b, 0, none⟩) 1 [x] [b] := ints_one h
set_option maxHeartbeats 2000000 in
theorem fetch_any {w : World} {q : Nat} {A : Option Addr} {c : Nat} {R : Option Addr} {d : Nat} {B : Option Addr} {g n k m : Nat} {X : Mach} {fa fr fb : List Nat} {L : Nat} {C : Int} (h : MachIn w q A c R d B g n k m X fa fr fb L) (gd : GoodX X C) :
    Calls Tryd.prog 47 #[.pointer (some ⟨q, 0, none⟩)] w (Decoded (fetchN X) w) := by
  have H := Lib.hid h
  have HG := Lib.hid gd
  obtain ⟨T, hT⟩ := Int.eq_ofNat_of_zero_le gd.t0
  have t1 : T < 1024 := by have := gd.t1; omega
  have HT := Lib.hid hT
  have HF := Lib.hid (show fetchN X = decN (bytesN X.mem T) 0 by unfold fetchN; rw [hT]; rfl)
  have hw := h.box.lt
  clear h gd hT
  go_enter Tryd.func47, Tryd.ntmps47
  go_wp2_with fail
  go_loopw [5, 6] (fun v i wr => ∃ (j : Nat) (A2 : Option Addr) (d2 : Nat), j ≤ 3 ∧ i = .int .i64 j ∧ v = .slice A2 j d2 ∧ wr.ownsRow (w.heap.size + 1) 3 1 v j (iv ((bytesN X.mem T).take j)) ∧ Box wr w.heap.size 61 [.int .i64 0, .int .i64 0] ∧ Below w.heap.size w wr) (fun _ i _ => 3 - (intOf i).toNat)
  case atStart =>
    refine ⟨0, _, _, by omega, rfl, rfl, ?_, (Box.new w _ _).alloc _, below2 w _ _⟩
    have h := own_empty (w.alloc (.cells #[.int .i64 0, .int .i64 0] 61)) 3 (w.heap.size + 1) (by simp)
    simpa using h
  case round =>
    obtain ⟨j, A2, d2, hj, rfl, rfl, ho, hb, hbw⟩ := hrel
    have OW := Lib.hid ho
    have XB := Lib.hid hb
    have BW := Lib.hid hbw
    have hs := hbw.size
    have hx1 : w.heap.size + 1 ≤ wr.heap.size := hb.lt
    clear ho hb hbw
    by_cases hlt : j < 3
    · have HM := Lib.hid (H.out.below BW.out)
      have HD : Hid (MachIn wr.drew q A c R d B g n k m X fa fr fb L) := HM.out.below (Below.refl _ _).drew
      have OD : Hid (wr.drew.ownsRow (w.heap.size + 1) 3 1 (.slice A2 j d2) j (iv ((bytesN X.mem T).take j))) := own_keep OW.out (Below.refl _ _).drew
      have XD : Hid (Box wr.drew w.heap.size 61 [.int .i64 0, .int .i64 0]) := XB.out
      have BD : Hid (Below w.heap.size w wr.drew) := BW.out.drew
      have e0 : wr.cell? ⟨q, 0, none⟩ = some (.slice A n c) := HM.out.box.cell 0
      have e1 : wr.cell? ⟨q, 1, none⟩ = some (.slice R k d) := HM.out.box.cell 1
      have e2 : wr.cell? ⟨q, 2, none⟩ = some (.int .i64 X.mem.bank) := HM.out.box.cell 2
      have e4 : wr.cell? ⟨q, 4, none⟩ = some (.int .i64 (T : Int)) := by rw [← HT.out]; exact HM.out.box.cell 4
      have hwr : IntKind.i64.wrap ((T : Int) + (j : Int)) = (T : Int) + (j : Int) := by rw [IntKind.wrap_i64]; omega
      have htm : ((T : Int) + (j : Int)).tmod 1024 = ((T : Int) + (j : Int)) % 1024 := Int.tmod_eq_emod_of_nonneg (by omega)
      have HB := Lib.hid (bytes_take X.mem T j hlt)
      obtain ⟨x, hx⟩ : ∃ x, x = readN X.mem ((T + j) % 1024) := ⟨_, rfl⟩
      have HX := Lib.hid hx
      have RD : Hid (Calls Tryd.prog 62 #[.agg #[.slice A n c, .slice R k d, .int .i64 X.mem.bank], .int .i64 (((T : Int) + (j : Int)) % 1024)] wr.drew (Got x wr.drew)) := by rw [hx]; exact Lib.hid (l2Read_two A n c R k d X.mem fa fr T j _ HD.out.has.ram HD.out.has.rom HG.out.mem)
      clear hx
      go_wp2_with fail
      go_region_law (first
        | (go_simp; go_at_call 62; refine RD.out.mono ?_; rintro e w1 ⟨rfl, b1⟩; have O1 := Lib.hid (own_keep (own_keep OD.out b1) (below1 w1 (.cells #[.int .i64 x] 3))); have I1 : Hid (Ints (w1.alloc (.cells #[.int .i64 x] 3)) (some ⟨w1.heap.size, 0, none⟩) 1 [x] [w1.heap.size]) := ints_one (Box.new w1 #[.int .i64 x] 3); have B1 := Lib.hid (BD.out.trans (b1.mono hs)); have X1 := Lib.hid ((XD.out.below b1).alloc (.cells #[.int .i64 x] 3)); have hs1 := b1.size; have B1a : Hid (Below w.heap.size w (w1.alloc (.cells #[.int .i64 x] 3))) := B1.out.alloc (Nat.le_trans hs hs1) _; have hb1 : w.heap.size + 1 ≤ (w1.alloc (.cells #[.int .i64 x] 3)).heap.size := Nat.le_trans hx1 (Nat.le_trans hs1 (below1 w1 _).size); clear b1)
        | ((with_reducible refine step_append_ints ?_ (.tmp 13) (.tmp 26) ?_ (w.heap.size + 1) (.slice A2 j d2) j ((bytesN X.mem T).take j) ?_ O1.out (some ⟨w1.heap.size, 0, none⟩) 1 1 [x] [w1.heap.size] ?_ I1.out ?_ hb1 ?_); rfl; rfl; rfl; rfl; omega; intro v2 w2 own2 gr2 at2; obtain ⟨A3, d3, _, rfl, _⟩ := own_ints own2; have b2 := below_grown (Below.refl (w.heap.size + 1) _) gr2 hb1 (fun b hb => (own_lt O1.out b hb).1); have O2 := Lib.hid own2; have B2 := Lib.hid (B1a.out.trans (b2.mono (by omega))); have X2 := Lib.hid (X1.out.keep b2 (by omega)); clear own2 gr2 at2 b2))
      all_goals
        go_wp2_with fail
        go_roundw
        case rel => exact ⟨j + 1, _, _, by omega, by go_num, rfl, by rw [HB.out, ← HX.out]; exact O2.out, X2.out, B2.out⟩
        case measure => simp [intOf]; omega
    · obtain rfl : j = 3 := by omega
      obtain ⟨_, _, fp, ev, hc3, _, hi, _, _⟩ := own_ints OW.out
      injection ev with e1 e2 e3
      subst e1; subst e3
      have II : Hid (Ints wr A2 3 (bytesN X.mem T) fp) := hi
      obtain ⟨b, o, rfl, _, hb, hcc⟩ := II.out.at_ (by omega)
      have cc0 : wr.cell? ⟨b, o, none⟩ = some (.int .i64 ((bytesN X.mem T).getD 0 0)) := hcc 0 (by omega)
      clear hi hcc OW
      obtain ⟨x, hx⟩ : ∃ x, x = (bytesN X.mem T).getD 0 0 := ⟨_, rfl⟩
      rw [← hx] at cc0
      have HX := Lib.hid hx
      clear hx
      go_wp2_with fail
      refine (spec_len x _).mono ?_
      rintro e w3 ⟨rfl, b3⟩
      have I3 := Lib.hid (II.out.below b3)
      have B3 := Lib.hid (BW.out.trans (b3.mono hs))
      have Z3 := Lib.hid (XB.out.below b3)
      obtain ⟨l0, l3⟩ := lenN_bd x
      have z0 : w3.cell? ⟨w.heap.size, 0, none⟩ = some (.int .i64 0) := Z3.out.cell 0
      have z1 : w3.cell? ⟨w.heap.size, 1, none⟩ = some (.int .i64 0) := Z3.out.cell 1
      have y0 := Z3.out.frozen 0
      have y1 := Z3.out.frozen 1
      clear b3 cc0
      by_cases hz : lenN x = 0
      · have HN := Lib.hid (show fetchN X = none by rw [HF.out]; exact dec_zero (k := 0) (by rw [← HX.out]; exact hz))
        rw [hz]
        clear hz
        go_wp2_with fail
        refine bodyPost_ret (v := .tuple #[.agg #[.int .i64 0, .int .i64 0], .int .i64 0, .bool false]) (by simp [results, Tryd.results47, go_sem, z0, z1]) rfl ?_
        exact decoded_none HN.out ((B3.out.setCell (Nat.le_refl _) _).setCell (Nat.le_refl _) _)
      · obtain ⟨N, hN⟩ := Int.eq_ofNat_of_zero_le l0
        have hq : ((N : Int) == 0) = false := by simp; omega
        have n1 : 1 ≤ N := by omega
        have n3 : N ≤ 3 := by omega
        have nd : N ≤ d2 := by omega
        obtain ⟨fq, hI⟩ := I3.out.take N n3
        have I4 := Lib.hid hI
        have HD := Lib.hid (show decN ((bytesN X.mem T).take N) 0 = fetchN X by
          rw [HF.out]
          have e : (bytesN X.mem T) = [x, readN X.mem ((T + 1) % 1024), readN X.mem ((T + 2) % 1024)] := by rw [HX.out]; rfl
          have h := dec_take (x := x) (y := readN X.mem ((T + 1) % 1024)) (z := readN X.mem ((T + 2) % 1024)) (by omega)
          rw [hN] at h
          rw [e]
          exact h)
        rw [hN]
        clear hz hN hI l0 l3
        go_wp2_with fail
        refine (spec_dec (some ⟨b, o, none⟩) N d2 _ fq 0 _ I4.out (by omega)).mono ?_
        rw [HD.out]
        rintro e w5 ⟨rfl, b5⟩
        have Z5 := Lib.hid (Z3.out.below b5)
        have B5 := Lib.hid (B3.out.trans (b5.mono B3.out.size))
        clear b5 z0 z1 y0 y1
        have z0 : w5.cell? ⟨w.heap.size, 0, none⟩ = some (.int .i64 0) := Z5.out.cell 0
        have z1 : w5.cell? ⟨w.heap.size, 1, none⟩ = some (.int .i64 0) := Z5.out.cell 1
        have y0 := Z5.out.frozen 0
        have y1 := Z5.out.frozen 1
        obtain ⟨O, G, Lq, ok, hdv⟩ : ∃ O G Lq ok, decV (fetchN X) = .tuple #[.agg #[.int .i64 O, .int .i64 G], .int .i64 Lq, .bool ok] := by
          rcases fetchN X with _ | ⟨op, arg⟩
          · exact ⟨_, _, _, _, rfl⟩
          · exact ⟨_, _, _, _, rfl⟩
        have HDV := Lib.hid hdv
        rw [hdv]
        clear hdv
        go_wp2_with fail
        refine bodyPost_ret (v := .tuple #[.agg #[.int .i64 O, .int .i64 G], .int .i64 Lq, .bool ok]) (by simp [results, Tryd.results47, go_sem, z0, z1]) rfl ?_
        exact ⟨by rw [HDV.out], (B5.out.setCell (Nat.le_refl _) _).setCell (Nat.le_refl _) _⟩
end Go.Proofs.YtcapfafglikcmaaDoor
end

section
/- What the model's instructions do to a machine in place: those that change the address. -/
namespace Go.Proofs.YtcapfafglikcmaaDoor
open Go.ChangeShapes Go.WideShapes Go.ChangeAt Go.RowKit

set_option maxHeartbeats 4000000 in
set_option maxRecDepth 100000 in
theorem sgo_wait {q : Nat} {A : Option Addr} {c : Nat} {R : Option Addr} {d : Nat} {B : Option Addr} {g n k m : Nat} {X : Mach} {fa fr fb : List Nat} {L : Nat} {w : World} {C : Int} (arg : Int) (h : MachIn w q A c R d B g n k m X fa fr fb L) (gd : GoodX X C) (r0 : 0 ≤ arg) (r1 : arg ≤ 1023) :
    Calls Tryd.prog 70 #[.pointer (some ⟨q, 0, none⟩), .agg #[.int .i64 0, .int .i64 arg]] w (Did q X L w) := by
  have _u := r0
  have _v := r1
  clear _u _v
  have hL := h.lt
  have HG := Lib.hid gd
  have m0 := h.below (below1 w (.cells #[.int .i64 0, .int .i64 arg] 61))
  have ZW0 := Lib.hid (Box.new w #[.int .i64 0, .int .i64 arg] 61)
  have B00 := Lib.hid ((below1 w (.cells #[.int .i64 0, .int .i64 arg] 61)).mono hL)
  have M0 := Lib.hid m0
  have s0 : Hid ((w.alloc (.cells #[.int .i64 0, .int .i64 arg] 61)).heap.size = w.heap.size + 1) := by show _ = _; simp
  clear h gd m0
  go_enter Tryd.func70, Tryd.ntmps70
  go_upto_region 1 with (fail)
  obtain ⟨W, hW⟩ : ∃ W, W = w.alloc (.cells #[.int .i64 0, .int .i64 arg] 61) := ⟨_, rfl⟩
  rw [← hW] at M0 ZW0 B00 s0
  rw [← hW]
  clear hW
  have z0 : W.cell? ⟨w.heap.size, 0, none⟩ = some (.int .i64 0) := ZW0.out.cell 0
  have z1 : W.cell? ⟨w.heap.size, 1, none⟩ = some (.int .i64 arg) := ZW0.out.cell 1
  have MD : Hid (MachIn W.drew q A c R d B g n k m X fa fr fb L) := M0.out.below (w' := W.drew) ((Below.refl _ _).drew)
  have ZD : Hid (Box W.drew w.heap.size 61 [.int .i64 0, .int .i64 arg]) := ZW0.out
  have lW : L ≤ W.heap.size := M0.out.lt
  have e3 : W.cell? ⟨q, 3, none⟩ = some (.int .i64 X.a) := M0.out.box.cell 3
  have e5 : W.cell? ⟨q, 5, none⟩ = some (.bool X.carry) := M0.out.box.cell 5
  have e6 : W.cell? ⟨q, 6, none⟩ = some (.slice B m g) := M0.out.box.cell 6
  go_wp2
  go_end0
  exact ⟨rfl, M0.out.here, B00.out⟩
set_option maxHeartbeats 4000000 in
set_option maxRecDepth 100000 in
theorem sgo_jump {q : Nat} {A : Option Addr} {c : Nat} {R : Option Addr} {d : Nat} {B : Option Addr} {g n k m : Nat} {X : Mach} {fa fr fb : List Nat} {L : Nat} {w : World} {C : Int} (arg : Int) (h : MachIn w q A c R d B g n k m X fa fr fb L) (gd : GoodX X C) (r0 : 0 ≤ arg) (r1 : arg ≤ 1023) :
    Calls Tryd.prog 70 #[.pointer (some ⟨q, 0, none⟩), .agg #[.int .i64 10, .int .i64 arg]] w (Did q { X with at_ := arg } L w) := by
  have _u := r0
  have _v := r1
  clear _u _v
  have hL := h.lt
  have HG := Lib.hid gd
  have m0 := h.below (below1 w (.cells #[.int .i64 10, .int .i64 arg] 61))
  have ZW0 := Lib.hid (Box.new w #[.int .i64 10, .int .i64 arg] 61)
  have B00 := Lib.hid ((below1 w (.cells #[.int .i64 10, .int .i64 arg] 61)).mono hL)
  have M0 := Lib.hid m0
  have s0 : Hid ((w.alloc (.cells #[.int .i64 10, .int .i64 arg] 61)).heap.size = w.heap.size + 1) := by show _ = _; simp
  clear h gd m0
  go_enter Tryd.func70, Tryd.ntmps70
  go_upto_region 1 with (fail)
  obtain ⟨W, hW⟩ : ∃ W, W = w.alloc (.cells #[.int .i64 10, .int .i64 arg] 61) := ⟨_, rfl⟩
  rw [← hW] at M0 ZW0 B00 s0
  rw [← hW]
  clear hW
  have z0 : W.cell? ⟨w.heap.size, 0, none⟩ = some (.int .i64 10) := ZW0.out.cell 0
  have z1 : W.cell? ⟨w.heap.size, 1, none⟩ = some (.int .i64 arg) := ZW0.out.cell 1
  have MD : Hid (MachIn W.drew q A c R d B g n k m X fa fr fb L) := M0.out.below (w' := W.drew) ((Below.refl _ _).drew)
  have ZD : Hid (Box W.drew w.heap.size 61 [.int .i64 10, .int .i64 arg]) := ZW0.out
  have lW : L ≤ W.heap.size := M0.out.lt
  have e3 : W.cell? ⟨q, 3, none⟩ = some (.int .i64 X.a) := M0.out.box.cell 3
  have e4 : W.cell? ⟨q, 4, none⟩ = some (.int .i64 X.at_) := M0.out.box.cell 4
  have e5 : W.cell? ⟨q, 5, none⟩ = some (.bool X.carry) := M0.out.box.cell 5
  have e6 : W.cell? ⟨q, 6, none⟩ = some (.slice B m g) := M0.out.box.cell 6
  have f4 := M0.out.box.frozen 4
  go_wp2
  go_end0
  exact ⟨rfl, (M0.out.store 4 (.int .i64 arg) { X with at_ := arg } rfl rfl rfl rfl).here, B00.out.trans (M0.out.stored 4 _)⟩
set_option maxHeartbeats 4000000 in
set_option maxRecDepth 100000 in
theorem sgo_zero {q : Nat} {A : Option Addr} {c : Nat} {R : Option Addr} {d : Nat} {B : Option Addr} {g n k m : Nat} {X : Mach} {fa fr fb : List Nat} {L : Nat} {w : World} {C : Int} (arg : Int) (h : MachIn w q A c R d B g n k m X fa fr fb L) (gd : GoodX X C) (r0 : 0 ≤ arg) (r1 : arg ≤ 1023) :
    Calls Tryd.prog 70 #[.pointer (some ⟨q, 0, none⟩), .agg #[.int .i64 11, .int .i64 arg]] w (Did q (if X.a = 0 then { X with at_ := arg } else X) L w) := by
  have _u := r0
  have _v := r1
  clear _u _v
  by_cases hz : X.a = 0
  · rw [if_pos hz]
    have hq : (X.a == 0) = true := by simp [hz]
    clear hz
    have hL := h.lt
    have HG := Lib.hid gd
    have m0 := h.below (below1 w (.cells #[.int .i64 11, .int .i64 arg] 61))
    have ZW0 := Lib.hid (Box.new w #[.int .i64 11, .int .i64 arg] 61)
    have B00 := Lib.hid ((below1 w (.cells #[.int .i64 11, .int .i64 arg] 61)).mono hL)
    have M0 := Lib.hid m0
    have s0 : Hid ((w.alloc (.cells #[.int .i64 11, .int .i64 arg] 61)).heap.size = w.heap.size + 1) := by show _ = _; simp
    clear h gd m0
    go_enter Tryd.func70, Tryd.ntmps70
    go_upto_region 1 with (fail)
    obtain ⟨W, hW⟩ : ∃ W, W = w.alloc (.cells #[.int .i64 11, .int .i64 arg] 61) := ⟨_, rfl⟩
    rw [← hW] at M0 ZW0 B00 s0
    rw [← hW]
    clear hW
    have z0 : W.cell? ⟨w.heap.size, 0, none⟩ = some (.int .i64 11) := ZW0.out.cell 0
    have z1 : W.cell? ⟨w.heap.size, 1, none⟩ = some (.int .i64 arg) := ZW0.out.cell 1
    have MD : Hid (MachIn W.drew q A c R d B g n k m X fa fr fb L) := M0.out.below (w' := W.drew) ((Below.refl _ _).drew)
    have ZD : Hid (Box W.drew w.heap.size 61 [.int .i64 11, .int .i64 arg]) := ZW0.out
    have lW : L ≤ W.heap.size := M0.out.lt
    have e3 : W.cell? ⟨q, 3, none⟩ = some (.int .i64 X.a) := M0.out.box.cell 3
    have e4 : W.cell? ⟨q, 4, none⟩ = some (.int .i64 X.at_) := M0.out.box.cell 4
    have e5 : W.cell? ⟨q, 5, none⟩ = some (.bool X.carry) := M0.out.box.cell 5
    have e6 : W.cell? ⟨q, 6, none⟩ = some (.slice B m g) := M0.out.box.cell 6
    have f4 := M0.out.box.frozen 4
    go_wp2
    go_end0
    exact ⟨rfl, (M0.out.store 4 (.int .i64 arg) { X with at_ := arg } rfl rfl rfl rfl).here, B00.out.trans (M0.out.stored 4 _)⟩
  · rw [if_neg hz]
    have hq : (X.a == 0) = false := by simp [hz]
    clear hz
    have hL := h.lt
    have HG := Lib.hid gd
    have m0 := h.below (below1 w (.cells #[.int .i64 11, .int .i64 arg] 61))
    have ZW0 := Lib.hid (Box.new w #[.int .i64 11, .int .i64 arg] 61)
    have B00 := Lib.hid ((below1 w (.cells #[.int .i64 11, .int .i64 arg] 61)).mono hL)
    have M0 := Lib.hid m0
    have s0 : Hid ((w.alloc (.cells #[.int .i64 11, .int .i64 arg] 61)).heap.size = w.heap.size + 1) := by show _ = _; simp
    clear h gd m0
    go_enter Tryd.func70, Tryd.ntmps70
    go_upto_region 1 with (fail)
    obtain ⟨W, hW⟩ : ∃ W, W = w.alloc (.cells #[.int .i64 11, .int .i64 arg] 61) := ⟨_, rfl⟩
    rw [← hW] at M0 ZW0 B00 s0
    rw [← hW]
    clear hW
    have z0 : W.cell? ⟨w.heap.size, 0, none⟩ = some (.int .i64 11) := ZW0.out.cell 0
    have z1 : W.cell? ⟨w.heap.size, 1, none⟩ = some (.int .i64 arg) := ZW0.out.cell 1
    have MD : Hid (MachIn W.drew q A c R d B g n k m X fa fr fb L) := M0.out.below (w' := W.drew) ((Below.refl _ _).drew)
    have ZD : Hid (Box W.drew w.heap.size 61 [.int .i64 11, .int .i64 arg]) := ZW0.out
    have lW : L ≤ W.heap.size := M0.out.lt
    have e3 : W.cell? ⟨q, 3, none⟩ = some (.int .i64 X.a) := M0.out.box.cell 3
    have e4 : W.cell? ⟨q, 4, none⟩ = some (.int .i64 X.at_) := M0.out.box.cell 4
    have e5 : W.cell? ⟨q, 5, none⟩ = some (.bool X.carry) := M0.out.box.cell 5
    have e6 : W.cell? ⟨q, 6, none⟩ = some (.slice B m g) := M0.out.box.cell 6
    have f4 := M0.out.box.frozen 4
    go_wp2
    go_end0
    exact ⟨rfl, M0.out.here, B00.out⟩
set_option maxHeartbeats 4000000 in
set_option maxRecDepth 100000 in
theorem sgo_carry {q : Nat} {A : Option Addr} {c : Nat} {R : Option Addr} {d : Nat} {B : Option Addr} {g n k m : Nat} {X : Mach} {fa fr fb : List Nat} {L : Nat} {w : World} {C : Int} (arg : Int) (h : MachIn w q A c R d B g n k m X fa fr fb L) (gd : GoodX X C) (r0 : 0 ≤ arg) (r1 : arg ≤ 1023) :
    Calls Tryd.prog 70 #[.pointer (some ⟨q, 0, none⟩), .agg #[.int .i64 12, .int .i64 arg]] w (Did q (if X.carry = true then { X with at_ := arg } else X) L w) := by
  have _u := r0
  have _v := r1
  clear _u _v
  by_cases hz : X.carry = true
  · rw [if_pos hz]
    have HZ := Lib.hid hz
    clear hz
    have hL := h.lt
    have HG := Lib.hid gd
    have m0 := h.below (below1 w (.cells #[.int .i64 12, .int .i64 arg] 61))
    have ZW0 := Lib.hid (Box.new w #[.int .i64 12, .int .i64 arg] 61)
    have B00 := Lib.hid ((below1 w (.cells #[.int .i64 12, .int .i64 arg] 61)).mono hL)
    have M0 := Lib.hid m0
    have s0 : Hid ((w.alloc (.cells #[.int .i64 12, .int .i64 arg] 61)).heap.size = w.heap.size + 1) := by show _ = _; simp
    clear h gd m0
    go_enter Tryd.func70, Tryd.ntmps70
    go_upto_region 1 with (fail)
    obtain ⟨W, hW⟩ : ∃ W, W = w.alloc (.cells #[.int .i64 12, .int .i64 arg] 61) := ⟨_, rfl⟩
    rw [← hW] at M0 ZW0 B00 s0
    rw [← hW]
    clear hW
    have z0 : W.cell? ⟨w.heap.size, 0, none⟩ = some (.int .i64 12) := ZW0.out.cell 0
    have z1 : W.cell? ⟨w.heap.size, 1, none⟩ = some (.int .i64 arg) := ZW0.out.cell 1
    have MD : Hid (MachIn W.drew q A c R d B g n k m X fa fr fb L) := M0.out.below (w' := W.drew) ((Below.refl _ _).drew)
    have ZD : Hid (Box W.drew w.heap.size 61 [.int .i64 12, .int .i64 arg]) := ZW0.out
    have lW : L ≤ W.heap.size := M0.out.lt
    have e3 : W.cell? ⟨q, 3, none⟩ = some (.int .i64 X.a) := M0.out.box.cell 3
    have e4 : W.cell? ⟨q, 4, none⟩ = some (.int .i64 X.at_) := M0.out.box.cell 4
    have e6 : W.cell? ⟨q, 6, none⟩ = some (.slice B m g) := M0.out.box.cell 6
    have f4 := M0.out.box.frozen 4
    have e5 : W.cell? ⟨q, 5, none⟩ = some (.bool true) := (M0.out.box.cell 5).trans (by rw [HZ.out]; rfl)
    go_wp2
    go_end0
    exact ⟨rfl, (M0.out.store 4 (.int .i64 arg) { X with at_ := arg } rfl rfl rfl rfl).here, B00.out.trans (M0.out.stored 4 _)⟩
  · rw [if_neg hz]
    have HZ := Lib.hid (show X.carry = false by simpa using hz)
    clear hz
    have hL := h.lt
    have HG := Lib.hid gd
    have m0 := h.below (below1 w (.cells #[.int .i64 12, .int .i64 arg] 61))
    have ZW0 := Lib.hid (Box.new w #[.int .i64 12, .int .i64 arg] 61)
    have B00 := Lib.hid ((below1 w (.cells #[.int .i64 12, .int .i64 arg] 61)).mono hL)
    have M0 := Lib.hid m0
    have s0 : Hid ((w.alloc (.cells #[.int .i64 12, .int .i64 arg] 61)).heap.size = w.heap.size + 1) := by show _ = _; simp
    clear h gd m0
    go_enter Tryd.func70, Tryd.ntmps70
    go_upto_region 1 with (fail)
    obtain ⟨W, hW⟩ : ∃ W, W = w.alloc (.cells #[.int .i64 12, .int .i64 arg] 61) := ⟨_, rfl⟩
    rw [← hW] at M0 ZW0 B00 s0
    rw [← hW]
    clear hW
    have z0 : W.cell? ⟨w.heap.size, 0, none⟩ = some (.int .i64 12) := ZW0.out.cell 0
    have z1 : W.cell? ⟨w.heap.size, 1, none⟩ = some (.int .i64 arg) := ZW0.out.cell 1
    have MD : Hid (MachIn W.drew q A c R d B g n k m X fa fr fb L) := M0.out.below (w' := W.drew) ((Below.refl _ _).drew)
    have ZD : Hid (Box W.drew w.heap.size 61 [.int .i64 12, .int .i64 arg]) := ZW0.out
    have lW : L ≤ W.heap.size := M0.out.lt
    have e3 : W.cell? ⟨q, 3, none⟩ = some (.int .i64 X.a) := M0.out.box.cell 3
    have e4 : W.cell? ⟨q, 4, none⟩ = some (.int .i64 X.at_) := M0.out.box.cell 4
    have e6 : W.cell? ⟨q, 6, none⟩ = some (.slice B m g) := M0.out.box.cell 6
    have f4 := M0.out.box.frozen 4
    have e5 : W.cell? ⟨q, 5, none⟩ = some (.bool false) := (M0.out.box.cell 5).trans (by rw [HZ.out]; rfl)
    go_wp2
    go_end0
    exact ⟨rfl, M0.out.here, B00.out⟩
set_option maxHeartbeats 4000000 in
set_option maxRecDepth 100000 in
theorem sgo_stop {q : Nat} {A : Option Addr} {c : Nat} {R : Option Addr} {d : Nat} {B : Option Addr} {g n k m : Nat} {X : Mach} {fa fr fb : List Nat} {L : Nat} {w : World} {C : Int} (arg : Int) (h : MachIn w q A c R d B g n k m X fa fr fb L) (gd : GoodX X C) (r0 : 0 ≤ arg) (r1 : arg ≤ 1023) :
    Calls Tryd.prog 70 #[.pointer (some ⟨q, 0, none⟩), .agg #[.int .i64 15, .int .i64 arg]] w (Did q { X with stop := true } L w) := by
  have _u := r0
  have _v := r1
  clear _u _v
  have hL := h.lt
  have HG := Lib.hid gd
  have m0 := h.below (below1 w (.cells #[.int .i64 15, .int .i64 arg] 61))
  have ZW0 := Lib.hid (Box.new w #[.int .i64 15, .int .i64 arg] 61)
  have B00 := Lib.hid ((below1 w (.cells #[.int .i64 15, .int .i64 arg] 61)).mono hL)
  have M0 := Lib.hid m0
  have s0 : Hid ((w.alloc (.cells #[.int .i64 15, .int .i64 arg] 61)).heap.size = w.heap.size + 1) := by show _ = _; simp
  clear h gd m0
  go_enter Tryd.func70, Tryd.ntmps70
  go_upto_region 1 with (fail)
  obtain ⟨W, hW⟩ : ∃ W, W = w.alloc (.cells #[.int .i64 15, .int .i64 arg] 61) := ⟨_, rfl⟩
  rw [← hW] at M0 ZW0 B00 s0
  rw [← hW]
  clear hW
  have z0 : W.cell? ⟨w.heap.size, 0, none⟩ = some (.int .i64 15) := ZW0.out.cell 0
  have z1 : W.cell? ⟨w.heap.size, 1, none⟩ = some (.int .i64 arg) := ZW0.out.cell 1
  have MD : Hid (MachIn W.drew q A c R d B g n k m X fa fr fb L) := M0.out.below (w' := W.drew) ((Below.refl _ _).drew)
  have ZD : Hid (Box W.drew w.heap.size 61 [.int .i64 15, .int .i64 arg]) := ZW0.out
  have lW : L ≤ W.heap.size := M0.out.lt
  have e3 : W.cell? ⟨q, 3, none⟩ = some (.int .i64 X.a) := M0.out.box.cell 3
  have e5 : W.cell? ⟨q, 5, none⟩ = some (.bool X.carry) := M0.out.box.cell 5
  have e6 : W.cell? ⟨q, 6, none⟩ = some (.slice B m g) := M0.out.box.cell 6
  have e7 : W.cell? ⟨q, 7, none⟩ = some (.bool X.stop) := M0.out.box.cell 7
  have f7 := M0.out.box.frozen 7
  go_wp2
  go_end0
  exact ⟨rfl, (M0.out.store 7 (.bool true) { X with stop := true } rfl rfl rfl rfl).here, B00.out.trans (M0.out.stored 7 _)⟩
end Go.Proofs.YtcapfafglikcmaaDoor
end
