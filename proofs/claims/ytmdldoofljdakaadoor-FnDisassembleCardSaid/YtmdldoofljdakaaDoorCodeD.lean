/- Drawn bytes of instructions, some bent. -/
import Derived.Test.YtmdldoofljdakaaDoorRomD
import Derived.Test.YtmdldoofljdakaaDoorOrderF
namespace Go.Proofs.YtmdldoofljdakaaDoor
open Go.ChangeShapes Go.WideShapes Go.ChangeAt Go.RowKit

/-- A list of numbers in new memory; of what was there at most the reader has changed. -/
def CodeDrawn (q m k : Nat) (w : World) (e : Ending) (w' : World) : Prop :=
  ∃ (A : Option Addr) (n c : Nat) (xs : List Int) (fp : List Nat), e = .returned (.slice A n c) ∧ n ≤ c ∧ n ≤ 100 ∧ Ints w' A n xs fp ∧ New w.heap.size w' fp ∧ Only [q] w w' ∧ Rd w' q (m + k)
theorem ints_pre {w : World} {A : Option Addr} {n : Nat} {xs : List Int} {fp : List Nat} (h : Ints w A n xs fp) {L : Nat} (hw : New L w fp) (k : Nat) (hk : k ≤ n) : ∃ fq, Ints w A k (xs.take k) fq ∧ New L w fq ∧ ∀ b ∈ fq, b ∈ fp := by
  have hl := h.1
  by_cases h0 : k = 0
  · subst h0; exact ⟨[], ⟨by simp, .inl ⟨rfl, rfl⟩⟩, .nil _ _, by simp⟩
  · obtain ⟨b, o, rfl, rfl, hb, hc⟩ := h.at_ (by omega)
    refine ⟨[b], ⟨by simp; omega, .inr ⟨by omega, b, o, rfl, rfl, hb, fun i hi => ?_⟩⟩, hw, by simp⟩
    rw [hc i (by omega)]
    simp only [List.getD_eq_getElem?_getD, List.getElem?_take, if_pos hi]
set_option maxHeartbeats 4000000 in
theorem code_any (q m : Nat) (nn : Int) (w : World) (h : Rd w q m) (hm : m ≤ 100000) (hn : 1 ≤ nn) (hn2 : nn ≤ 1000) : Calls Tryd.prog 58 #[.pointer (some ⟨q, 0, none⟩), .int .i64 nn] w (CodeDrawn q m 100 w) := by
  have hq := h.lt
  have H := Lib.hid (h.alloc (.cells #[] 3))
  clear h
  go_enter Tryd.func58, Tryd.ntmps58
  go_wp2_with fail
  refine (pick_any q m 8 _ H.out (by omega) (by omega) (by omega)).mono ?_
  rintro e w2 ⟨jj, j0, j1, rfl, s2, r2⟩
  obtain ⟨J, rfl⟩ := Int.eq_ofNat_of_zero_le j0
  have N2 : Hid (Bank q w.heap.size w w2 (m + 1) (some ⟨w.heap.size, 0, none⟩) 0 0 []) := ⟨own_only (own_empty w 3 w.heap.size (Nat.le_refl _)) s2.only (fun b hb e => by simp at hb; subst hb; have e' : some w.heap.size = some b := e; injection e'; omega), rfl, rfl, ((Only.refl _ w).alloc _).trans s2.only, r2, by have := s2.size; simp at this; omega, Nat.le_refl _⟩
  clear s2 r2 j0
  go_wp2_with fail
  go_loopw [5, 6] (fun v t wx => ∃ (jx n : Nat) (A2 : Option Addr) (d2 : Nat) (xs : List Int), jx ≤ 7 ∧ t = .int .i64 jx ∧ v = .slice A2 n d2 ∧ n + 3 * jx ≤ 21 ∧ n ≤ d2 ∧ Bank q w.heap.size w wx (m + 1 + 8 * (7 - jx)) A2 n d2 xs) (fun _ t _ => (intOf t).toNat)
  case atStart => exact ⟨J, 0, _, _, [], by omega, rfl, rfl, by omega, by omega, ⟨N2.out.own, N2.out.len, N2.out.bytes, N2.out.only, N2.out.rd.mono (by omega), N2.out.base, N2.out.top⟩⟩
  case round =>
    obtain ⟨jx, n, A2, d2, xs, hjx, rfl, rfl, hn3, hd2, hbk⟩ := hrel
    have BK := Lib.hid hbk
    clear hbk N2
    by_cases hjp : 0 < jx
    · have t2 : (0 : Int) < (jx : Int) := by omega
      go_wp2_with fail
      refine (order_any q _ _ BK.out.rd (by omega)).mono ?_
      rintro e w3 ⟨op, arg, rfl, o3, r3⟩
      have K3 := Lib.hid (BK.out.other (by omega) o3 r3)
      clear o3 r3
      go_wp2_with fail
      refine (spec_ordBytes _ _ _).mono ?_
      rintro e w4 ⟨A4, c4, f4, rfl, hc4, i4, n4, b4⟩
      have K4 := Lib.hid (K3.out.other (by omega) (.of_below b4) (K3.out.rd.keep b4))
      obtain ⟨o1, o2⟩ := ordN_bytes op arg
      have HY := Lib.hid ((bytesB_iff _).2 o2)
      have I4 := Lib.hid i4
      clear i4 n4 b4 o2
      generalize hz : ordN op arg = ys at *
      have HZ := Lib.hid hz
      clear hz
      go_wp2_with (at_builtin; refine wpList_append_ints rfl _ _ rfl w.heap.size _ n xs rfl K4.out.own _ _ _ ys f4 rfl I4.out (by omega) K4.out.base ?_; intro v' w5 own5 gr5 _)
      obtain ⟨A5, d5, rfl, K5⟩ := K4.out.next (by omega) own5 gr5 rfl HY.out
      have HK5 := Lib.hid K5
      have hd5 : n + ys.length ≤ d5 := by
        obtain ⟨_, _, _, e, hle, _⟩ := own_ints own5
        injection e with e1 e2 e3
        omega
      clear own5 gr5 K5
      go_wp2
      go_roundw
      case rel => exact ⟨jx - 1, n + ys.length, A5, d5, xs ++ ys, by omega, int_eq (by omega), rfl, by omega, hd5, ⟨HK5.out.own, HK5.out.len, HK5.out.bytes, HK5.out.only, HK5.out.rd.mono (by omega), HK5.out.base, HK5.out.top⟩⟩
      case measure => simp [intOf]; omega
    · obtain rfl : jx = 0 := by omega
      by_cases h0 : n = 0
      · subst h0
        go_wp2_with fail
        go_ret
        exact ⟨A2, 0, d2, [], [], rfl, by omega, by omega, .nil _ _, .nil _ _, BK.out.only, BK.out.rd.mono (by omega)⟩
      · have hnp : 0 < n := by omega
        have hnq : (0 : Int) < (n : Int) := by omega
        clear h0
        go_wp2_with fail
        refine (odd_any q _ nn _ BK.out.rd (by omega) hn (by omega)).mono ?_
        rintro e w3 ⟨bb, rfl, t3, p3⟩
        have K3 := Lib.hid (BK.out.other (by omega) t3.only p3)
        clear t3 p3
        cases bb
        · obtain ⟨A', c', fp, e', hc', _, hi', hn', _⟩ := own_ints K3.out.own
          injection e' with e1 e2 e3
          subst e1; subst e3
          have I3 := Lib.hid hi'
          have N3 := Lib.hid hn'
          clear hi' hn' e2
          go_wp2_with fail
          go_ret
          exact ⟨A2, n, d2, xs, fp, rfl, hc', by omega, I3.out, N3.out, K3.out.only, K3.out.rd.mono (by omega)⟩
        · go_wp2_with fail
          refine (pick_any q _ 3 _ K3.out.rd (by omega) (by omega) (by omega)).mono ?_
          rintro e w4 ⟨sw, sw0, sw1, rfl, t4, p4⟩
          have K4 := Lib.hid (K3.out.other (by omega) t4.only p4)
          clear t4 p4
          have hsw : sw = 0 ∨ sw = 1 ∨ sw = 2 := by omega
          rcases hsw with rfl | rfl | rfl
          · clear sw0 sw1
            go_wp2_with fail
            refine (pick_any q _ (n : Int) _ K4.out.rd (by omega) (by omega) (by omega)).mono ?_
            rintro e w5 ⟨ii, i0, i1, rfl, t5, p5⟩
            obtain ⟨I, rfl⟩ := Int.eq_ofNat_of_zero_le i0
            have K5 := Lib.hid (K4.out.other (by omega) t5.only p5)
            clear t5 p5 i0
            go_wp2_with fail
            refine (byte_any q _ 3 _ K5.out.rd (by omega) (by omega) (by omega)).mono ?_
            rintro e w6 ⟨v, v0, v1, rfl, t6, p6⟩
            have K6 := Lib.hid (K5.out.other (by omega) t6.only p6)
            clear t6 p6
            obtain ⟨A', c', fp, e', hc', _, hi', hn', hob⟩ := own_ints K6.out.own
            injection e' with e1 e2 e3
            subst e1; subst e3
            have hI : I < n := by omega
            obtain ⟨g, o, rfl, hfp, hg, hcell⟩ := hi'.at_ (by omega)
            have cI := hcell I hI
            have fI := hn'.free g (by rw [hfp]; simp) (o + I)
            have hgL := (hn'.lt g (by rw [hfp]; simp)).1
            have I6 := Lib.hid hi'
            have N6 := Lib.hid hn'
            clear hi' hn' e2 hcell hfp hob
            generalize xs.getD I 0 = old at cI
            go_wp2_with fail
            go_ret
            exact ⟨_, n, d2, xs.set I v, fp, rfl, hc', by omega, I6.out.set hI v, ⟨N6.out.once, fun b hb => by simpa using N6.out.lt b hb, fun b hb o' => by rw [World.frozen?_setCell]; exact N6.out.free b hb o'⟩, K6.out.only.setCell (.inr (by omega)) _, (K6.out.rd.far (by omega) _).mono (by omega)⟩
          · clear sw0 sw1
            obtain ⟨A', c', fp, e', hc', _, hi', hn', _⟩ := own_ints K4.out.own
            injection e' with e1 e2 e3
            subst e1; subst e3
            obtain ⟨fq, hi2, hn2', _⟩ := ints_pre hi' hn' (n - 1) (by omega)
            obtain ⟨g, o, rfl, _⟩ := hi'.at_ (by omega)
            have I4 := Lib.hid hi2
            have N4 := Lib.hid hn2'
            clear hi' hn' hi2 hn2' e2
            go_wp2_with fail
            go_ret
            exact ⟨_, n - 1, d2, xs.take (n - 1), fq, by first | rfl | (congr 2; omega), by omega, by omega, I4.out, N4.out, K4.out.only, K4.out.rd.mono (by omega)⟩
          · clear sw0 sw1
            go_wp2_with fail
            refine (pick_any q _ 20 _ K4.out.rd (by omega) (by omega) (by omega)).mono ?_
            rintro e w5 ⟨u, u0, u1, rfl, t5, p5⟩
            have K5 := Lib.hid (K4.out.other (by omega) t5.only p5)
            clear t5 p5
            have I6 : Hid (Ints (w5.alloc (.cells #[.int .i64 u] 3)) (some ⟨w5.heap.size, 0, none⟩) 1 [u] [w5.heap.size]) := one_cell w5 u
            have K6 := Lib.hid (K5.out.other (by omega) ((Only.refl _ w5).alloc (.cells #[.int .i64 u] 3)) (K5.out.rd.alloc _))
            have HU := Lib.hid (show bytesB [u] = true by simp [bytesB, byteB]; omega)
            go_wp2_with (at_builtin; refine wpList_append_ints rfl _ _ rfl w.heap.size _ n xs rfl K6.out.own _ _ _ [u] _ rfl I6.out (by omega) K6.out.base ?_; intro v' w7 own7 gr7 _)
            obtain ⟨A7, d7, rfl, K7⟩ := K6.out.next (by omega) own7 gr7 rfl HU.out
            obtain ⟨A', c', fp, e', hc', _, hi', hn', _⟩ := own_ints own7
            injection e' with e1 e2 e3
            subst e1; subst e3
            have I7 := Lib.hid hi'
            have N7 := Lib.hid hn'
            have HK7 := Lib.hid K7
            clear hi' hn' e2 own7 gr7 K7
            go_wp2
            go_ret
            exact ⟨A7, n + 1, d7, xs ++ [u], fp, rfl, hc', by omega, I7.out, N7.out, HK7.out.only, HK7.out.rd.mono (by omega)⟩
end Go.Proofs.YtmdldoofljdakaaDoor
