import Derived.Test.YtcapfafglikcmaaDoorKC
import Derived.Test.YtcapfafglikcmaaDoorKG
import Derived.Test.YtcapfafglikcmaaDoorKF
import Derived.Deep.RegionWith
import Derived.Test.YtcapfafglikcmaaDoorKA

section
/- Drawn banks: one to three, each of 256 bytes, in new memory. -/
namespace Go.Proofs.YtcapfafglikcmaaDoor
open Go.ChangeShapes Go.WideShapes Go.ChangeAt Go.RowKit

/-- A bank in the making: n bytes, in a row of the call's own from block B on; of what was there in w0 at most the reader has changed. -/
structure Bank (q B : Nat) (w0 wr : World) (c : Nat) (A : Option Addr) (n d : Nat) (xs : List Int) : Prop where
  own : wr.ownsRow B 3 1 (.slice A n d) n (iv xs)
  len : xs.length = n
  bytes : bytesB xs = true
  only : Only [q] w0 wr
  rd : Rd wr q c
  base : B ≤ wr.heap.size
  top : w0.heap.size ≤ B
theorem Bank.other {q B : Nat} {w0 wr w' : World} {c c' : Nat} {A : Option Addr} {n d : Nat} {xs : List Int} (h : Bank q B w0 wr c A n d xs) (hq : q < B) (o : Only [q] wr w') (r : Rd w' q c') : Bank q B w0 w' c' A n d xs :=
  ⟨own_only h.own o (fun b hb e => by simp at hb; subst hb; have := (own_lt h.own _ e).1; omega), h.len, h.bytes, h.only.trans o, r, Nat.le_trans h.base o.size, h.top⟩
theorem bytesB_append {xs ys : List Int} (h : bytesB xs = true) (k : bytesB ys = true) : bytesB (xs ++ ys) = true := by
  unfold bytesB at *; rw [List.all_append, h, k]; rfl
theorem Bank.next {q B : Nat} {w0 wr w' : World} {c : Nat} {A : Option Addr} {n d m : Nat} {xs ys : List Int} {v' : Value} (h : Bank q B w0 wr c A n d xs) (hq : q < w0.heap.size) (own2 : w'.ownsRow B 3 1 v' (n + m) (iv (xs ++ ys))) (gr : wr.grownBy w' (Value.slice A n d).ownBlock) (hm : ys.length = m) (hy : bytesB ys = true) :
    ∃ A' d', v' = .slice A' (n + m) d' ∧ Bank q B w0 w' c A' (n + m) d' (xs ++ ys) := by
  obtain ⟨A', d', fp, rfl, _⟩ := own_ints own2
  have tp := h.top
  have lt := own_lt h.own
  have bl : Below B wr w' := (Below.refl B wr).grown gr h.base (fun k hk => (lt k hk).1)
  refine ⟨A', d', rfl, own2, by rw [List.length_append, h.len, hm], bytesB_append h.bytes hy, ?_, h.rd.stay (bl.mono (by omega)), Nat.le_trans h.base gr.size, tp⟩
  exact ⟨gr.os.trans h.only.os, gr.tape.trans h.only.tape, gr.output.trans h.only.output, Nat.le_trans h.only.size gr.size, fun k hk hn => (bl.block k (by omega)).trans (h.only.block k hk hn)⟩
theorem Grow.next_ {w1 W w2 : World} {N : Nat} {L : Nat} {rs : List (List Int)} {j : Nat} {v : Value} {D : List Row} (h : Grow w1 L rs j v D) (hL : L ≤ N) (lo : ∀ b ∈ D.flatMap Row.fp, b < N) (gl : ∀ g, v.ownBlock = some g → g < N) (hj : j < rs.length) {A : Option Addr} {m c : Nat} {fp : List Nat} (hm : m ≤ c) (hi : Ints w1 A m (rs.getD j []) fp) (hw : New N w1 fp)
    (bW : Below w1.heap.size w1 W) {g cap : Nat} (own2 : w2.ownsRow L 23 1 (.slice (some ⟨g, 0, none⟩) (j + 1) cap) (j + 1) (D.map Row.val ++ [.slice A m c])) (gr : W.grownBy w2 v.ownBlock) (hat : v.ownBlock = some g ∨ g = W.heap.size) :
    Grow w2 L rs (j + 1) (.slice (some ⟨g, 0, none⟩) (j + 1) cap) (D ++ [⟨A, m, c, rs.getD j [], fp⟩]) := by
  have hW := h.below bW
  obtain ⟨S, hS1, hS2⟩ : ∃ S : List Nat, (∀ b, v.ownBlock = some b → b ∈ S) ∧ ∀ b ∈ S, v.ownBlock = some b := by
    rcases hv : v.ownBlock with _ | b
    · exact ⟨[], by simp, by simp⟩
    · exact ⟨[b], by simp, by simp⟩
  have o2 : Only S W w2 := grown_only gr hS1
  have d1 : ∀ x ∈ D.flatMap Row.fp, x ∉ S := fun x hx hs => h.off x hx (hS2 x hs)
  have d2 : ∀ x ∈ fp, x ∉ S := fun x hx hs => by have := gl x (hS2 x hs); have := (hw.lt x hx).1; omega
  refine ⟨by simp [h.len], ?_, ?_, fun r hr => ?_, ?_, fun b hb e => ?_⟩
  · rw [List.map_append, h.xs, List.take_succ_eq_append_getElem hj]
    simp [List.getD, List.getElem?_eq_getElem hj]
  · rw [List.map_append]; exact own2
  · rcases List.mem_append.1 hr with hr | hr
    · exact ⟨(hW.ok r hr).1, (hW.ok r hr).2.keep (.of_only o2 fun x hx => d1 x (List.mem_flatMap.2 ⟨r, hr, hx⟩))⟩
    · simp at hr; subst hr
      exact ⟨hm, (hi.below bW).keep (.of_only o2 d2)⟩
  · rw [List.flatMap_append]
    simp only [List.flatMap_cons, List.flatMap_nil, List.append_nil]
    exact (hW.new.keep (.of_only o2 d1)).append (((hw.mono hL).keep (.of_below bW)).keep (.of_only o2 d2)) (fun x hx hy => by
      have := lo x hx
      have := (hw.lt x hy).1
      omega)
  · have e1 : some g = some b := e
    injection e1 with e1
    subst e1
    rw [List.flatMap_append] at hb
    simp only [List.flatMap_cons, List.flatMap_nil, List.append_nil] at hb
    rcases List.mem_append.1 hb with hb | hb
    · rcases hat with hat | hat
      · exact h.off g hb hat
      · have := (h.new.lt g hb).2; have := bW.size; omega
    · rcases hat with hat | hat
      · have := gl g hat; have := (hw.lt g hb).1; omega
      · have := (hw.lt g hb).2; have := bW.size; omega
theorem Grow.more {w : World} {L : Nat} {rs : List (List Int)} {j : Nat} {v : Value} {D : List Row} (h : Grow w L rs j v D) (hl : rs.length = j) (xs : List Int) : Grow w L (rs ++ [xs]) j v D :=
  ⟨h.len, by rw [h.xs, List.take_append_of_le_length (by omega)], h.own, h.ok, h.new, h.off⟩
theorem getD_snoc (rs : List (List Int)) (xs : List Int) : (rs ++ [xs]).getD rs.length [] = xs := by simp [List.getD]
theorem three (v y : Int) (d0 : 0 ≤ v) (d1 : v < 3) (y0 : 0 ≤ y) (y1 : y < 256) : ∃ u : Int, (#[Value.int .i64 0, .int .i64 y, .int .i64 15] : Array Value)[v.toNat]? = some (.int .i64 u) ∧ byteB u = true := by
  have h : v = 0 ∨ v = 1 ∨ v = 2 := by omega
  rcases h with rfl | rfl | rfl
  · exact ⟨0, rfl, by decide⟩
  · exact ⟨y, rfl, byteB_mk y0 (by omega)⟩
  · exact ⟨15, rfl, by decide⟩
/-- A slice's length. -/
def lenOf : Value → Nat | .slice _ n _ => n | _ => 0
theorem one_cell (w : World) (u : Int) : Ints (w.alloc (.cells #[.int .i64 u] 3)) (some ⟨w.heap.size, 0, none⟩) 1 [u] [w.heap.size] := by
  refine ⟨rfl, .inr ⟨by omega, w.heap.size, 0, rfl, rfl, by simp, fun x hx => ?_⟩⟩
  obtain rfl : x = 0 := by omega
  rw [Nat.zero_add, World.cell?_alloc_new]; rfl
theorem Only.then_below {S : List Nat} {a b c : World} (h : Only S a b) (k : Below a.heap.size b c) : Only S a c :=
  ⟨k.os.trans h.os, k.tape.trans h.tape, k.output.trans h.output, Nat.le_trans h.size k.size, fun j hj hn => (k.block j hj).trans (h.block j hj hn)⟩
theorem banks_snoc {rs : List (List Int)} {i : Nat} {xs : List Int} (hl : rs.length = i) (hb : ∀ x, x < i → bankB (rs.getD x []) = true) (hx : bankB xs = true) : ∀ x, x < i + 1 → bankB ((rs ++ [xs]).getD x []) = true := by
  intro x h
  by_cases he : x = i
  · subst he; rw [← hl, getD_snoc]; exact hx
  · have : (rs ++ [xs]).getD x [] = rs.getD x [] := by simp only [List.getD_eq_getElem?_getD]; rw [List.getElem?_append_left (by omega)]
    rw [this]; exact hb x (by omega)
theorem int_eq {a b : Int} (h : a = b) : Value.int .i64 a = .int .i64 b := by rw [h]
/-- What drawing banks leaves. -/
def RomDrawn (q m : Nat) (w : World) (e : Ending) (w' : World) : Prop :=
  ∃ (R : Option Addr) (k d : Nat) (rs : List (List Int)) (fr : List Nat), e = .returned (.slice R k d) ∧ k ≤ d ∧ 1 ≤ k ∧ k ≤ 3 ∧ Grid w' R k rs fr ∧ New w.heap.size w' fr ∧ (∀ i, i < k → bankB (rs.getD i []) = true) ∧ Only [q] w w' ∧ Rd w' q (m + 700) ∧ ∃ D, Grow w' w.heap.size rs k (.slice R k d) D
set_option maxRecDepth 100000 in
set_option maxHeartbeats 2000000 in
theorem rom_any (q m : Nat) (w : World) (h : Rd w q m) (hm : m ≤ 100000) : Calls Tryd.prog 61 #[.pointer (some ⟨q, 0, none⟩)] w (RomDrawn q m w) := by
  have hq := h.lt
  have H := Lib.hid (h.alloc (.cells #[] 23))
  clear h
  obtain ⟨i0, hi0, hz0, hz1, hz2⟩ := info_parts infoInts
  go_enter Tryd.func61, Tryd.ntmps61
  go_wp2_with fail
  refine (pick_any q m 3 _ H.out (by omega) (by omega) (by omega)).mono ?_
  rintro e w1 ⟨k, k0, k1, rfl, s1, r1⟩
  obtain ⟨K, rfl⟩ := Int.eq_ofNat_of_zero_le k0
  have G1 : Hid (Grow w1 w.heap.size [] 0 (.slice (some ⟨w.heap.size, 0, none⟩) 0 0) []) := ⟨rfl, rfl, own_only (own_empty w 23 w.heap.size (Nat.le_refl _)) s1.only (fun b hb e => by simp at hb; subst hb; have e' : some w.heap.size = some b := e; injection e'; omega), by simp, by simpa using New.nil _ _, by simp⟩
  have O1 : Hid (Only [q] w w1) := ((Only.refl _ w).alloc _).trans s1.only
  have R1 := Lib.hid r1
  have z1 : w.heap.size ≤ w1.heap.size := O1.out.size
  clear s1 r1 k0
  go_wp2_with fail
  go_loopw [3, 4] (fun v t wr => ∃ (i : Nat) (A : Option Addr) (d : Nat) (rs : List (List Int)) (D : List Row), i ≤ K + 1 ∧ t = .int .i64 (1 + (K : Int) - i) ∧ v = .slice A i d ∧ rs.length = i ∧ Grow wr w.heap.size rs i (.slice A i d) D ∧ (∀ x, x < i → bankB (rs.getD x []) = true) ∧ Only [q] w wr ∧ Rd wr q (m + 1 + 200 * i)) (fun _ t _ => (intOf t).toNat)
  case atStart => exact ⟨0, _, _, [], [], by omega, int_eq (by omega), rfl, rfl, G1.out, fun x hx => by omega, O1.out, R1.out⟩
  case round =>
    obtain ⟨i, A, d, rs, D, hi, rfl, rfl, hl, hg, hb, ho, hr⟩ := hrel
    obtain ⟨W0, rfl⟩ : ∃ W0, W0 = wr := ⟨wr, rfl⟩
    have HL := Lib.hid hl
    have HG := Lib.hid hg
    have HB := Lib.hid hb
    have HO := Lib.hid ho
    have HR := Lib.hid hr
    have z0 : w.heap.size ≤ W0.heap.size := ho.size
    clear hl hg hb ho hr G1 O1 R1 H
    by_cases hlt : i < K + 1
    · have t1 : (0 : Int) < 1 + (K : Int) - i := by omega
      go_wp2_with fail
      refine (pick_any q (m + 1 + 200 * i) 14 _ (HR.out.alloc _) (by omega) (by omega) (by omega)).mono ?_
      rintro e w2 ⟨jj, j0, j1, rfl, s2, r2⟩
      obtain ⟨J, rfl⟩ := Int.eq_ofNat_of_zero_le j0
      have N2 : Hid (Bank q W0.heap.size W0 w2 (m + 1 + 200 * i + 1) (some ⟨W0.heap.size, 0, none⟩) 0 0 []) := ⟨own_only (own_empty W0 3 W0.heap.size (Nat.le_refl _)) s2.only (fun b hb e => by simp at hb; subst hb; have e' : some W0.heap.size = some b := e; injection e'; omega), rfl, rfl, ((Only.refl _ W0).alloc _).trans s2.only, r2, by have := s2.size; simp at this; omega, Nat.le_refl _⟩
      clear s2 r2 j0
      go_wp2_with fail
      go_loopw [5, 6] (fun v t wx => ∃ (jx n : Nat) (A2 : Option Addr) (d2 : Nat) (xs : List Int), jx ≤ 13 ∧ t = .int .i64 jx ∧ v = .slice A2 n d2 ∧ n + 3 * jx ≤ 39 ∧ Bank q W0.heap.size W0 wx (m + 1 + 200 * i + 1 + 8 * (13 - jx)) A2 n d2 xs) (fun _ t _ => (intOf t).toNat)
      case atStart => exact ⟨J, 0, _, _, [], by omega, rfl, rfl, by omega, ⟨N2.out.own, N2.out.len, N2.out.bytes, N2.out.only, N2.out.rd.mono (by omega), N2.out.base, N2.out.top⟩⟩
      case round =>
        obtain ⟨jx, n, A2, d2, xs, hjx, rfl, rfl, hn, hbk⟩ := hrel
        have BK := Lib.hid hbk
        clear hbk N2
        by_cases hjp : 0 < jx
        · have t2 : (0 : Int) < (jx : Int) := by omega
          go_wp2_with fail
          refine (order_any q _ _ BK.out.rd (by omega)).mono ?_
          rintro e w3 ⟨op, arg, rfl, o3, r3⟩
          have K3 := Lib.hid (BK.out.other (by omega) o3 r3)
          clear o3 r3
          go_wp2_with fail
          refine (spec_ordBytes _ _ _).mono ?_
          rintro e w4 ⟨A4, c4, f4, rfl, hc4, i4, n4, b4⟩
          have K4 := Lib.hid (K3.out.other (by omega) (.of_below b4) (K3.out.rd.keep b4))
          obtain ⟨o1, o2⟩ := ordN_bytes op arg
          have HY := Lib.hid ((bytesB_iff _).2 o2)
          have I4 := Lib.hid i4
          clear i4 n4 b4 o2
          generalize hz : ordN op arg = ys at *
          have HZ := Lib.hid hz
          clear hz
          go_wp2_with (at_builtin; refine wpList_append_ints rfl _ _ rfl W0.heap.size _ n xs rfl K4.out.own _ _ _ ys f4 rfl I4.out (by omega) K4.out.base ?_; intro v' w5 own5 gr5 _)
          obtain ⟨A5, d5, rfl, K5⟩ := K4.out.next (by omega) own5 gr5 rfl HY.out
          have HK5 := Lib.hid K5
          clear own5 gr5 K5
          go_wp2
          go_roundw
          case rel => exact ⟨jx - 1, n + ys.length, A5, d5, xs ++ ys, by omega, int_eq (by omega), rfl, by omega, ⟨HK5.out.own, HK5.out.len, HK5.out.bytes, HK5.out.only, HK5.out.rd.mono (by omega), HK5.out.base, HK5.out.top⟩⟩
          case measure => simp [intOf]; omega
        · obtain rfl : jx = 0 := by omega
          go_wp2_with fail
          refine (pick_any q _ 256 _ BK.out.rd (by omega) (by omega) (by omega)).mono ?_
          rintro e w3 ⟨y, y0, y1, rfl, s3, r3⟩
          have K3 := Lib.hid (BK.out.other (by omega) s3.only r3)
          clear s3 r3
          go_wp2_with fail
          refine (pick_any q _ 3 _ (K3.out.rd.alloc _) (by omega) (by omega) (by omega)).mono ?_
          rintro e w4 ⟨z, z0', z1', rfl, s4, r4⟩
          obtain ⟨u, hu, hub⟩ := three z y z0' z1' y0 y1
          have zq : q < w3.heap.size := K3.out.rd.lt
          have cu : w4.cell? ⟨w3.heap.size, z.toNat, none⟩ = some (.int .i64 u) := by
            rw [World.cell?_of_block (a := ⟨w3.heap.size, z.toNat, none⟩) (w := w3.alloc (.cells #[.int .i64 0, .int .i64 y, .int .i64 15] 3)) (s4.block w3.heap.size (by simp) (by omega)), World.cell?_alloc_new]; exact hu
          have K4 := Lib.hid (K3.out.other (by omega) (((Only.refl _ w3).alloc _).trans s4.only) r4)
          have HU := Lib.hid hub
          clear s4 r4 hu hub
          go_wp2_with fail
          go_loopw [5] (fun v wx => ∃ (n' : Nat) (A6 : Option Addr) (d6 : Nat) (xs' : List Int), n' ≤ 256 ∧ v = .slice A6 n' d6 ∧ Bank q W0.heap.size W0 wx (m + 1 + 200 * i + 1 + 8 * (13 - 0) + 1 + 1) A6 n' d6 xs') (fun v _ => 256 - lenOf v)
          case atStart => exact ⟨n, A2, d2, xs, by omega, rfl, K4.out⟩
          case round =>
            obtain ⟨n', A6, d6, xs', hn', rfl, hbk⟩ := hrel
            have B6 := Lib.hid hbk
            clear hbk K4 K3 BK
            by_cases hfull : n' < 256
            · have I6 : Hid (Ints (wr.alloc (.cells #[.int .i64 u] 3)) (some ⟨wr.heap.size, 0, none⟩) 1 [u] [wr.heap.size]) := one_cell wr u
              have K6 := Lib.hid (B6.out.other (by omega) ((Only.refl _ wr).alloc (.cells #[.int .i64 u] 3)) (B6.out.rd.alloc _))
              go_wp2_with (at_builtin; refine wpList_append_ints rfl _ _ rfl W0.heap.size _ n' xs' rfl K6.out.own _ _ _ [u] _ rfl I6.out (by omega) K6.out.base ?_; intro v' w7 own7 gr7 _)
              obtain ⟨A7, d7, rfl, K7⟩ := K6.out.next (by omega) own7 gr7 rfl (by simp [bytesB, HU.out])
              have HK7 := Lib.hid K7
              clear own7 gr7 K7
              go_wp2
              go_roundw
              case rel => exact ⟨n' + 1, A7, d7, xs' ++ [u], by omega, rfl, HK7.out⟩
              case measure => simp [lenOf]; omega
            · obtain rfl : n' = 256 := by omega
              have G6 := Lib.hid ((HG.out.only B6.out.only (by simp; omega)).more HL.out xs')
              obtain ⟨_, _, fp6, hv6, hc6, _, i6, n6, _⟩ := own_ints B6.out.own
              have I6 := Lib.hid i6
              have N6 := Lib.hid n6
              injection hv6 with hv1 hv2 hv3
              subst hv1 hv3
              have HC6 := Lib.hid hc6
              clear i6 n6 hc6 hv2
              have HX := Lib.hid (show (rs ++ [xs']).getD i [] = xs' by have := getD_snoc rs xs'; rw [HL.out] at this; exact this)
              go_wp2_with (at_builtin; refine wpList_append_lies _ rfl _ _ 24 rfl w.heap.size 23 i0 _ 1 24 Tryd.underlying24 hi0 hz0 hz1 hz2 rfl (by omega) _ i (D.map Row.val) rfl (own_keep G6.out.own (below1 wr _)) ⟨wr.heap.size, 0, none⟩ 1 1 [.slice A6 256 d6] rfl rfl (World.news_of_block (cs := #[.slice A6 256 d6]) (t := 23) (fr := (0, 0)) (heap_alloc_new wr _)) (by simp [Value.oneCell']) (by omega) (by unfold maxLen; omega) (by omega) (by have := B6.out.only.size; simp; omega) _ rfl ?_; intro g cap w7 own7 gr7 hat hlt7)
              have b7 : Below w.heap.size wr w7 := ((Below.refl _ wr).alloc (Nat.le_trans z0 B6.out.only.size) _).grown gr7 (by have := B6.out.only.size; simp; omega) (fun b hb => (own_lt G6.out.own b hb).1)
              have G7 := Lib.hid (G6.out.next_ (N := W0.heap.size) z0 (fun b hb => (HG.out.new.lt b hb).2) (fun g hg => (own_lt HG.out.own g hg).2) (by rw [List.length_append, HL.out]; simp) HC6.out (by rw [HX.out]; exact I6.out) N6.out (below1 wr _) own7 gr7 hat)
              have O7 := Lib.hid ((HO.out.trans B6.out.only).then_below b7)
              have R7 := Lib.hid ((B6.out.rd.stay (b7.mono (by omega))).mono (show _ ≤ m + 1 + 200 * (i + 1) by omega))
              have BB := Lib.hid (banks_snoc HL.out HB.out (show bankB xs' = true by simp [bankB, B6.out.bytes, B6.out.len]))
              clear own7 gr7 hat b7
              go_roundw
              case rel => exact ⟨i + 1, _, _, rs ++ [xs'], _, by omega, int_eq (by omega), rfl, by rw [List.length_append, HL.out]; rfl, G7.out, BB.out, O7.out, R7.out⟩
              case measure => simp [intOf]; omega
    · obtain rfl : i = K + 1 := by omega
      obtain ⟨R', d', fr', hv', hd', gG, nG⟩ := HG.out.grid HL.out
      injection hv' with h1' h2' h3'
      subst h1' h3'
      have G8 := Lib.hid gG
      have N8 := Lib.hid nG
      have t1 : (1 + (K : Int) - ((K + 1 : Nat) : Int)) = 0 := by omega
      rw [t1]
      clear gG nG h2' t1
      go_wp2
      go_ret
      exact ⟨_, _, _, rs, fr', rfl, hd', by omega, by omega, G8.out, N8.out, HB.out, HO.out, HR.out.mono (by omega), D, HG.out⟩
end Go.Proofs.YtcapfafglikcmaaDoor
end

section
/- A drawn address. -/
namespace Go.Proofs.YtcapfafglikcmaaDoor
open Go.ChangeShapes Go.WideShapes Go.ChangeAt Go.RowKit

/-- What drawing an address leaves. -/
def PlaceDrawn (q m : Nat) (w : World) (e : Ending) (w' : World) : Prop := ∃ v : Int, -1 ≤ v ∧ v ≤ 1024 ∧ e = .returned (.int .i64 v) ∧ Only [q] w w' ∧ Rd w' q (m + 7)
theorem fiveB (v x0 x1 x2 x3 x4 lo hi : Int) (d0 : 0 ≤ v) (d1 : v < 5) (a0 : lo ≤ x0 ∧ x0 ≤ hi) (a1 : lo ≤ x1 ∧ x1 ≤ hi) (a2 : lo ≤ x2 ∧ x2 ≤ hi) (a3 : lo ≤ x3 ∧ x3 ≤ hi) (a4 : lo ≤ x4 ∧ x4 ≤ hi) :
    ∃ u : Int, (#[Value.int .i64 x0, .int .i64 x1, .int .i64 x2, .int .i64 x3, .int .i64 x4] : Array Value)[v.toNat]? = some (.int .i64 u) ∧ lo ≤ u ∧ u ≤ hi := by
  have h : v = 0 ∨ v = 1 ∨ v = 2 ∨ v = 3 ∨ v = 4 := by omega
  rcases h with rfl | rfl | rfl | rfl | rfl
  · exact ⟨_, rfl, a0⟩
  · exact ⟨_, rfl, a1⟩
  · exact ⟨_, rfl, a2⟩
  · exact ⟨_, rfl, a3⟩
  · exact ⟨_, rfl, a4⟩
theorem twoB (v x0 x1 lo hi : Int) (d0 : 0 ≤ v) (d1 : v < 2) (a0 : lo ≤ x0 ∧ x0 ≤ hi) (a1 : lo ≤ x1 ∧ x1 ≤ hi) : ∃ u : Int, (#[Value.int .i64 x0, .int .i64 x1] : Array Value)[v.toNat]? = some (.int .i64 u) ∧ lo ≤ u ∧ u ≤ hi := by
  have h : v = 0 ∨ v = 1 := by omega
  rcases h with rfl | rfl
  · exact ⟨_, rfl, a0⟩
  · exact ⟨_, rfl, a1⟩
/-- A cell of a literal that was laid ahead of a pick. -/
theorem lit_at {w w' : World} {q : Nat} {cs : Array Value} {T : TypeId} {i : Nat} {v : Value} (hs : Sole q (w.alloc (.cells cs T)) w') (hq : q < w.heap.size) (hv : cs[i]? = some v) : w'.cell? ⟨w.heap.size, i, none⟩ = some v := by
  rw [World.cell?_of_block (a := ⟨w.heap.size, i, none⟩) (w := w.alloc (.cells cs T)) (hs.block w.heap.size (by simp) (by omega)), World.cell?_alloc_new]; exact hv
theorem place_any (q m : Nat) (n : Int) (w : World) (h : Rd w q m) (hm : m ≤ 1000000) (hn : 1 ≤ n) (hn2 : n ≤ 1000) : Calls Tryd.prog 42 #[.pointer (some ⟨q, 0, none⟩), .int .i64 n] w (PlaceDrawn q m w) := by
  have H := Lib.hid h
  clear h
  go_enter Tryd.func42, Tryd.ntmps42
  go_wp2_with fail
  refine (odd_any q m n _ H.out (by omega) hn (by omega)).mono ?_
  rintro e w1 ⟨b, rfl, s1, r1⟩
  have O1 := Lib.hid s1.only
  have R1 := Lib.hid r1
  have q1 : q < w1.heap.size := r1.lt
  clear s1 r1
  cases b
  · skip
    go_wp2_with fail
    refine (pick_any q (m + 1) 256 _ R1.out (by omega) (by omega) (by omega)).mono ?_
    rintro e w2 ⟨ya, ya0, ya1, rfl, s3, r3⟩
    have O2 := Lib.hid (O1.out.trans s3.only)
    have R2 := Lib.hid r3
    clear s3 r3
    go_wp2_with fail
    refine (pick_any q (m + 2) 16 _ R2.out (by omega) (by omega) (by omega)).mono ?_
    rintro e w3 ⟨yb, yb0, yb1, rfl, s3, r3⟩
    have O3 := Lib.hid (O2.out.trans s3.only)
    have R3 := Lib.hid r3
    clear s3 r3
    go_wp2_with fail
    refine (pick_any q (m + 3) 32 _ R3.out (by omega) (by omega) (by omega)).mono ?_
    rintro e w4 ⟨yc, yc0, yc1, rfl, s3, r3⟩
    have O4 := Lib.hid (O3.out.trans s3.only)
    have R4 := Lib.hid r3
    clear s3 r3
    go_wp2_with fail
    refine (pick_any q (m + 4) 40 _ R4.out (by omega) (by omega) (by omega)).mono ?_
    rintro e w5 ⟨yd, yd0, yd1, rfl, s3, r3⟩
    have O5 := Lib.hid (O4.out.trans s3.only)
    have R5 := Lib.hid r3
    clear s3 r3
    go_wp2_with fail
    refine (pick_any q (m + 5) 20 _ R5.out (by omega) (by omega) (by omega)).mono ?_
    rintro e w6 ⟨ye, ye0, ye1, rfl, s3, r3⟩
    have O6 := Lib.hid (O5.out.trans s3.only)
    have R6 := Lib.hid r3
    clear s3 r3
    have q6 : q < w6.heap.size := R6.out.lt
    go_wp2_with fail
    refine (pick_any q (m + 6) 5 _ (R6.out.alloc _) (by omega) (by omega) (by omega)).mono ?_
    rintro e w7 ⟨z, z0, z1, rfl, s7, r7⟩
    obtain ⟨u, hu, u0, u1⟩ := fiveB z (ya * 4) yb (240 + yc) (500 + yd) (760 + ye) (-1) 1024 z0 z1 (by omega) (by omega) (by omega) (by omega) (by omega)
    have cu := lit_at s7 q6 hu
    have O7 := Lib.hid ((O6.out.alloc _).trans s7.only)
    have R7 := Lib.hid r7
    clear s7 r7 hu
    go_wp2_with fail
    go_ret
    exact ⟨u, u0, u1, rfl, O7.out, R7.out⟩
  · go_wp2_with fail
    refine (pick_any q (m + 1) 2 _ (R1.out.alloc _) (by omega) (by omega) (by omega)).mono ?_
    rintro e w7 ⟨z, z0, z1, rfl, s7, r7⟩
    obtain ⟨u, hu, u0, u1⟩ := twoB z (-1) 1024 (-1) 1024 z0 z1 (by omega) (by omega)
    have cu := lit_at s7 q1 hu
    have O7 := Lib.hid ((O1.out.alloc _).trans s7.only)
    have R7 := Lib.hid (r7.mono (show _ ≤ m + 7 by omega))
    clear s7 r7 hu
    go_wp2_with fail
    go_ret
    exact ⟨u, u0, u1, rfl, O7.out, R7.out⟩
end Go.Proofs.YtcapfafglikcmaaDoor
end

section
/- A drawn memory. -/
namespace Go.Proofs.YtcapfafglikcmaaDoor
open Go.ChangeShapes Go.WideShapes Go.ChangeAt Go.RowKit

/-- What drawing a memory leaves. -/
def MemDrawn (q m : Nat) (w : World) (e : Ending) (w' : World) : Prop :=
  ∃ (A : Option Addr) (n c : Nat) (R : Option Addr) (k d : Nat) (M : Mem) (fa fr : List Nat), e = .returned (.agg #[.slice A n c, .slice R k d, .int .i64 M.bank]) ∧ n ≤ c ∧ k ≤ d ∧ Ints w' A n M.ram fa ∧ Grid w' R k M.rom fr ∧ New w.heap.size w' (fa ++ fr) ∧ Small M 256 ∧ Only [q] w w' ∧ Rd w' q (m + 800)
theorem MemIn.other {w w' : World} {q s : Nat} {A : Option Addr} {n c : Nat} {R : Option Addr} {k d : Nat} {M : Mem} {fa fr : List Nat} {L : Nat} (h : MemIn w q A n c R k d M fa fr L) (o : Only [s] w w') (hs : s < L) (hq : s ≠ q) : MemIn w' q A n c R k d M fa fr L := by
  have dd : ∀ y ∈ fa ++ fr, y ∉ [s] := fun y hy e => by have := (h.new.lt y hy).1; simp at e; omega
  have sm : Same (fa ++ fr) w w' := .of_only o dd
  exact ⟨h.box.only o (by simp; omega), h.ram.keep (sm.sub fun x hx => List.mem_append_left _ hx), h.rom.keep (sm.sub fun x hx => List.mem_append_right _ hx), h.new.keep sm, h.off⟩
/-- The state of a drawn memory in the making: the memory M in block b, the result's block r, the reader asked c times. -/
structure Mk (w wr : World) (q c b : Nat) (A : Option Addr) (d1 : Nat) (R : Option Addr) (k d : Nat) (M : Mem) (fa fr : List Nat) (L : Nat) (rs : List (List Int)) : Prop where
  mem : MemIn wr b A 256 d1 R k d M fa fr L
  ram : M.ram.length = 256
  rom : M.rom = rs
  res : Box wr w.heap.size 26 [.slice none 0 0, .slice none 0 0, .int .i64 0]
  only : Only [q] w wr
  rd : Rd wr q c
  lo : w.heap.size < L ∧ L ≤ b
  q : q < w.heap.size
theorem Mk.other {w wr w' : World} {q c c' b : Nat} {A : Option Addr} {d1 : Nat} {R : Option Addr} {k d : Nat} {M : Mem} {fa fr : List Nat} {L : Nat} {rs : List (List Int)} (h : Mk w wr q c b A d1 R k d M fa fr L rs) (o : Only [q] wr w') (r : Rd w' q c') : Mk w w' q c' b A d1 R k d M fa fr L rs := by
  have hq := h.q
  have lo := h.lo
  exact ⟨h.mem.other o (by omega) (by omega), h.ram, h.rom, h.res.only o (by simp; omega), h.only.trans o, r, h.lo, h.q⟩
theorem Mk.set {w wr : World} {q c b : Nat} {o g d1 : Nat} {R : Option Addr} {k d : Nat} {M : Mem} {fa fr : List Nat} {L : Nat} {rs : List (List Int)} (h : Mk w wr q c b (some ⟨g, o, none⟩) d1 R k d M fa fr L rs) (hg : g ∈ fa) {u : Nat} (hu : u < 256) (x : Int) : Mk w (wr.setCell ⟨g, o + u, none⟩ (.int .i64 x)) q c b (some ⟨g, o, none⟩) d1 R k d { M with ram := M.ram.set u x } fa fr L rs := by
  have hq := h.q
  have lo := h.lo
  have hL := (h.mem.new.lt g (List.mem_append_left _ hg)).1
  exact ⟨(h.mem.setRam hg hu x).1, by simpa using h.ram, h.rom, h.res.far (by omega) _, h.only.setCell (.inr (by omega)) _, h.rd.far (by omega) _, h.lo, h.q⟩
theorem ram_cell' {w : World} {b o : Nat} {xs : List Int} {fp : List Nat} (h : Ints w (some ⟨b, o, none⟩) 256 xs fp) {u : Int} (h0 : 0 ≤ u) (h1 : u ≤ 255) : w.cell? ⟨b, o + u.toNat, none⟩ = some (.int .i64 (xs.getD u.toNat 0)) := by
  obtain ⟨b', o', he, _, _, hc⟩ := h.at_ (by omega)
  injection he with he
  injection he with h1 h2 _
  subst h1 h2
  exact hc u.toNat (by omega)
theorem twoC (v x0 x1 lo hi : Int) (d0 : 0 ≤ v) (d1 : v < 2) (a0 : lo ≤ x0 ∧ x0 ≤ hi) (a1 : lo ≤ x1 ∧ x1 ≤ hi) : ∃ u : Int, (#[Value.int .i64 x0, .int .i64 x1] : Array Value)[v.toNat]? = some (.int .i64 u) ∧ (∀ h : v.toNat < ([Value.int .i64 x0, .int .i64 x1] : List Value).length, ([Value.int .i64 x0, .int .i64 x1] : List Value)[v.toNat]'h = .int .i64 u) ∧ lo ≤ u ∧ u ≤ hi := by
  have h : v = 0 ∨ v = 1 := by omega
  rcases h with rfl | rfl
  · exact ⟨_, rfl, fun _ => rfl, a0⟩
  · exact ⟨_, rfl, fun _ => rfl, a1⟩
theorem new_good {rs : List (List Int)} {k : Nat} (hl : rs.length = k) (h1 : 1 ≤ k) (h3 : k ≤ 3) (hb : ∀ i, i < k → bankB (rs.getD i []) = true) : newM rs = ⟨zeros, rs, 0⟩ := by
  have hv : validB ⟨zeros, rs, 0⟩ = true := by
    apply valid_of
    refine ⟨zeros_len, fun i hi => by rw [zeros_at i hi]; omega, by show 1 ≤ rs.length; omega, by show rs.length ≤ 4; omega, fun i hi => (bankB_yes (hb i (by simp at hi; omega))).1, fun i hi => (bankB_yes (hb i (by simp at hi; omega))).2, by simp, by show (0 : Int) < rs.length; omega⟩
  simp [newM, hv]
end Go.Proofs.YtcapfafglikcmaaDoor
end

section
/- A slice that came in: it stays; its length. -/
namespace Go.Proofs.YtcapfafglikcmaaDoor
open Go.ChangeShapes Go.WideShapes Go.ChangeAt Go.RowKit

theorem isRow_stays {k : IntKind} {w w' : World} {a : Option Addr} {len cap : Nat} {zs : List Int} (h : IsRow k w a len cap zs) (b : Below w.heap.size w w') : IsRow k w' a len cap zs := by
  rcases h with h | ⟨x, rfl, hl, hm, hz, hc, hw⟩
  · exact .inl h
  · exact .inr ⟨x, rfl, hl, hm, hz, fun i hi => (b.cell (World.block_lt_of_cell? _ _ (hc i hi))).trans (hc i hi), hw⟩
theorem isRow_len {k : IntKind} {w : World} {a : Option Addr} {len cap : Nat} {zs : List Int} (h : IsRow k w a len cap zs) : len ≤ 9223372036854775807 := by
  rcases h with ⟨_, h, _⟩ | ⟨x, _, hl, hm, _⟩
  · omega
  · unfold maxLen at hm; omega
end Go.Proofs.YtcapfafglikcmaaDoor
end
