/- A drawn memory: the walk. -/
import Derived.Test.YtcapfafglikcmaaDoorKJ
import Derived.Deep.DeepCutAuto
namespace Go.Proofs.YtcapfafglikcmaaDoor
open Go.ChangeShapes Go.WideShapes Go.ChangeAt Go.RowKit

/-- Each list of a memory is long: none of its blocks is mistaken for a struct's. -/
def Wide (M : Mem) : Prop := 9 ≤ M.ram.length ∧ ∀ r ∈ M.rom, 9 ≤ r.length
/-- What drawing a memory leaves, with its lists' lengths. -/
def MemDrawnW (q m : Nat) (w : World) (e : Ending) (w' : World) : Prop :=
  ∃ (A : Option Addr) (n c : Nat) (R : Option Addr) (k d : Nat) (M : Mem) (fa fr : List Nat), e = .returned (.agg #[.slice A n c, .slice R k d, .int .i64 M.bank]) ∧ n ≤ c ∧ k ≤ d ∧ Ints w' A n M.ram fa ∧ Grid w' R k M.rom fr ∧ New w.heap.size w' (fa ++ fr) ∧ Small M 256 ∧ Only [q] w w' ∧ Rd w' q (m + 800) ∧ Wide M
/-- A drawn memory that is done: in block b, ready to be handed over. -/
structure Done (w w6 : World) (q c b : Nat) (A : Option Addr) (n c1 : Nat) (R : Option Addr) (k d : Nat) (M : Mem) (fa fr : List Nat) (L : Nat) : Prop where
  mem : MemIn w6 b A n c1 R k d M fa fr L
  res : Box w6 w.heap.size 26 [.slice none 0 0, .slice none 0 0, .int .i64 0]
  only : Only [q] w w6
  rd : Rd w6 q c
  lo : w.heap.size < L ∧ L ≤ b
  q : q < w.heap.size
  n : n ≤ c1
  k : k ≤ d
  small : Small M 256
  wide : Wide M
theorem Done.end_ {w w6 : World} {q m c b : Nat} {A : Option Addr} {n c1 : Nat} {R : Option Addr} {k d : Nat} {M : Mem} {fa fr : List Nat} {L : Nat} (h : Done w w6 q c b A n c1 R k d M fa fr L) (hc : c ≤ m + 800) (u v x : Value) :
    MemDrawnW q m w (.returned (.agg #[.slice A n c1, .slice R k d, .int .i64 M.bank])) (((w6.setCell ⟨w.heap.size, 0, none⟩ u).setCell ⟨w.heap.size, 1, none⟩ v).setCell ⟨w.heap.size, 2, none⟩ x) := by
  have lo := h.lo
  have o : Only [w.heap.size] w6 (((w6.setCell ⟨w.heap.size, 0, none⟩ u).setCell ⟨w.heap.size, 1, none⟩ v).setCell ⟨w.heap.size, 2, none⟩ x) := (((Only.refl _ w6).setCell (.inl (by simp)) _).setCell (.inl (by simp)) _).setCell (.inl (by simp)) _
  have dd : ∀ y ∈ fa ++ fr, y ∉ [w.heap.size] := fun y hy e => by have := (h.mem.new.lt y hy).1; simp at e; omega
  have sm : Same (fa ++ fr) w6 _ := .of_only o dd
  refine ⟨A, n, c1, R, k, d, M, fa, fr, rfl, h.n, h.k, h.mem.ram.keep (sm.sub fun x hx => List.mem_append_left _ hx), h.mem.rom.keep (sm.sub fun x hx => List.mem_append_right _ hx), (h.mem.new.keep sm).mono (by omega), h.small, ((h.only.setCell (.inr (Nat.le_refl _)) _).setCell (.inr (Nat.le_refl _)) _).setCell (.inr (Nat.le_refl _)) _, (((h.rd.far h.q _).far h.q _).far h.q _).mono hc, h.wide⟩
theorem Mk.setBank {w wr : World} {q c b : Nat} {A : Option Addr} {d1 : Nat} {R : Option Addr} {k d : Nat} {M : Mem} {fa fr : List Nat} {L : Nat} {rs : List (List Int)} (h : Mk w wr q c b A d1 R k d M fa fr L rs) (x : Int) : Mk w (wr.setCell ⟨b, 2, none⟩ (.int .i64 x)) q c b A d1 R k d { M with bank := x } fa fr L rs := by
  have lo := h.lo
  have hq := h.q
  exact ⟨(h.mem.setBank x).1, h.ram, h.rom, h.res.far (by omega) _, h.only.setCell (.inr (by omega)) _, h.rd.far (by omega) _, h.lo, h.q⟩
theorem Mk.more {w wr : World} {q c c' b : Nat} {A : Option Addr} {d1 : Nat} {R : Option Addr} {k d : Nat} {M : Mem} {fa fr : List Nat} {L : Nat} {rs : List (List Int)} (h : Mk w wr q c b A d1 R k d M fa fr L rs) (hc : c ≤ c') : Mk w wr q c' b A d1 R k d M fa fr L rs := h.other (Only.refl _ _) (h.rd.mono hc)
theorem Mk.done {w wr : World} {q c b : Nat} {A : Option Addr} {d1 : Nat} {R : Option Addr} {k d : Nat} {M : Mem} {fa fr : List Nat} {L : Nat} {rs : List (List Int)} (h : Mk w wr q c b A d1 R k d M fa fr L rs) (hd : 256 ≤ d1) (hk : k ≤ d) (hs : ∀ i, (rs.getD i []).length ≤ 256) (hw : ∀ r ∈ rs, 9 ≤ r.length) (hk3 : k ≤ 256) : Done w wr q c b A 256 d1 R k d M fa fr L :=
  ⟨h.mem, h.res, h.only, h.rd, h.lo, h.q, hd, hk, ⟨by rw [h.ram]; omega, by rw [h.mem.rom.len]; exact hk3, fun i => by rw [h.rom]; exact hs i⟩, ⟨by rw [h.ram]; omega, by rw [h.rom]; exact hw⟩⟩
/-- The working memory without its first byte. -/
theorem Done.cut {w w6 : World} {q c b : Nat} {g o c1 : Nat} {R : Option Addr} {k d : Nat} {M : Mem} {fa fr : List Nat} {L : Nat} (h : Done w w6 q c b (some ⟨g, o, none⟩) 256 c1 R k d M fa fr L) :
    Done w (w6.setCell ⟨b, 0, none⟩ (.slice (some ⟨g, o + 1, none⟩) 255 (c1 - 1))) q c b (some ⟨g, o + 1, none⟩) 255 (c1 - 1) R k d { M with ram := M.ram.drop 1 } fa fr L := by
  have lo := h.lo
  have hq := h.q
  have hn := h.n
  have o1 : Only [b] w6 (w6.setCell ⟨b, 0, none⟩ (.slice (some ⟨g, o + 1, none⟩) 255 (c1 - 1))) := (Only.refl _ w6).setCell (.inl (by simp)) _
  have dd : ∀ y ∈ fa ++ fr, y ∉ [b] := fun y hy hs => by simp at hs; subst hs; exact h.mem.off hy
  have i1 : Ints w6 (some ⟨g, o + 1, none⟩) 255 (M.ram.drop 1) fa := by
    have hl := h.mem.ram.1
    obtain ⟨b', o', he, hf, hb, hc⟩ := h.mem.ram.at_ (by omega)
    injection he with he
    injection he with h1 h2 _
    subst h1; subst h2
    refine ⟨by simp; omega, .inr ⟨by omega, g, o + 1, rfl, hf, hb, fun i hi => ?_⟩⟩
    rw [Nat.add_assoc, hc (1 + i) (by omega)]
    simp [List.getD_eq_getElem?_getD, Nat.add_comm 1 i]
  exact ⟨⟨h.mem.box.set 0 _, i1.keep (.of_only o1 fun x hx => dd x (List.mem_append_left _ hx)), h.mem.rom.keep (.of_only o1 fun x hx => dd x (List.mem_append_right _ hx)), h.mem.new.setCell _ _, h.mem.off⟩, h.res.far (by omega) _, h.only.setCell (.inr (by omega)) _, h.rd.far (by omega) _, h.lo, h.q, by omega, h.k, ⟨by have := h.mem.ram.1; simp; omega, h.small.rom, h.small.row⟩, ⟨by have := h.mem.ram.1; simp; omega, h.wide.2⟩⟩
theorem Done.bank {w w6 : World} {q c b : Nat} {A : Option Addr} {n c1 : Nat} {R : Option Addr} {k d : Nat} {M : Mem} {fa fr : List Nat} {L : Nat} (h : Done w w6 q c b A n c1 R k d M fa fr L) (x : Int) : Done w (w6.setCell ⟨b, 2, none⟩ (.int .i64 x)) q c b A n c1 R k d { M with bank := x } fa fr L := by
  have lo := h.lo
  have hq := h.q
  exact ⟨(h.mem.setBank x).1, h.res.far (by omega) _, h.only.setCell (.inr (by omega)) _, h.rd.far (by omega) _, h.lo, h.q, h.n, h.k, ⟨h.small.ram, h.small.rom, h.small.row⟩, ⟨h.wide.1, h.wide.2⟩⟩
/-- No banks. -/
theorem Done.bare {w w6 : World} {q c b : Nat} {A : Option Addr} {n c1 : Nat} {R : Option Addr} {k d : Nat} {M : Mem} {fa fr : List Nat} {L : Nat} (h : Done w w6 q c b A n c1 R k d M fa fr L) (ob : Obj) (R' : Option Addr) (d' : Nat) : Done w ((w6.setCell ⟨b, 1, none⟩ (.slice R' 0 d')).alloc ob) q c b A n c1 R' 0 d' { M with rom := [] } fa [] L := by
  have lo := h.lo
  have hq := h.q
  have o1 : Only [b] w6 ((w6.setCell ⟨b, 1, none⟩ (.slice R' 0 d')).alloc ob) := ((Only.refl _ w6).setCell (.inl (by simp)) _).alloc _
  have dd : ∀ y ∈ fa ++ fr, y ∉ [b] := fun y hy hs => by simp at hs; subst hs; exact h.mem.off hy
  have nd := List.nodup_append.1 h.mem.new.once
  have nf : New L w6 fa := ⟨nd.1, fun x hx => h.mem.new.lt x (List.mem_append_left _ hx), fun x hx => h.mem.new.free x (List.mem_append_left _ hx)⟩
  have sm : Same fa w6 ((w6.setCell ⟨b, 1, none⟩ (.slice R' 0 d')).alloc ob) := .of_only o1 fun x hx => dd x (List.mem_append_left _ hx)
  have bx : Box ((w6.setCell ⟨b, 1, none⟩ (.slice R' 0 d')).alloc ob) b 26 [.slice A n c1, .slice R' 0 d', .int .i64 M.bank] := (h.mem.box.set 1 (.slice R' 0 d')).alloc ob
  exact ⟨⟨bx, h.mem.ram.keep sm, .nil _ _, by rw [List.append_nil]; exact nf.keep sm, by rw [List.append_nil]; exact fun hx => h.mem.off (List.mem_append_left _ hx)⟩, (h.res.far (by omega) _).alloc _, (h.only.setCell (.inr (by omega)) _).alloc _, (h.rd.far (by omega) _).alloc _, h.lo, h.q, h.n, Nat.zero_le _, ⟨h.small.ram, by simp, by simp⟩, ⟨h.wide.1, by simp⟩⟩
set_option maxRecDepth 100000 in
set_option maxHeartbeats 40000000 in
theorem mem_wide (q m : Nat) (n : Int) (w : World) (h : Rd w q m) (hm : m ≤ 50000) (hn : 1 ≤ n) (hn2 : n ≤ 1000) : Calls Tryd.prog 44 #[.pointer (some ⟨q, 0, none⟩), .int .i64 n] w (MemDrawnW q m w) := by
  have hq := h.lt
  have H := Lib.hid (h.alloc (.cells #[.slice none 0 0, .slice none 0 0, .int .i64 0] 26))
  clear h
  go_enter Tryd.func44, Tryd.ntmps44
  go_wp2_with fail
  refine (rom_any q m _ H.out (by omega)).mono ?_
  rintro e w1 ⟨R0, k, d0, rs, fr0, rfl, hd0, k1, k3, g1, n1, hb1, o1, r1, -⟩
  have NG := Lib.hid (new_good g1.len k1 k3 hb1)
  have SR := Lib.hid (show ∀ i, (rs.getD i []).length ≤ 256 from fun i => by
    by_cases hi : i < k
    · rw [(bankB_yes (hb1 i hi)).1]; omega
    · have := g1.len; simp [List.getD, List.getElem?_eq_none (show rs.length ≤ i by omega)])
  have SW := Lib.hid (show ∀ r ∈ rs, 9 ≤ r.length from fun r hr => by
    obtain ⟨i, hi, rfl⟩ := List.getElem_of_mem hr
    have h1 := (bankB_yes (hb1 i (by have := g1.len; omega))).1
    rw [List.getD_eq_getElem?_getD, List.getElem?_eq_getElem hi] at h1
    simp at h1
    omega)
  have X1 : Hid (Box w1 w.heap.size 26 [.slice none 0 0, .slice none 0 0, .int .i64 0]) := (Box.new w _ _).only o1 (by simp; omega)
  have O1 : Hid (Only [q] w w1) := ((Only.refl _ w).alloc _).trans o1
  have G1 := Lib.hid g1
  have R1 := Lib.hid r1
  have z1 : w.heap.size < w1.heap.size := X1.out.lt
  clear g1 n1 hb1 o1 r1 H
  go_wp2_with fail
  refine (spec_new R0 k d0 rs fr0 _ G1.out (by omega) (fun i => by have := SR.out i; omega)).mono ?_
  rintro e w2 ⟨A, n', c, R, k', d, fa, fr, rfl, hc, hd, i2, g2, n2, b2⟩
  rw [NG.out] at i2 g2 ⊢
  obtain rfl : 256 = n' := by have := i2.1; rw [← this]; exact zeros_len.symm
  obtain rfl : k = k' := by have e : rs.length = k' := g2.len; have := G1.out.len; omega
  have M2 : Hid (Mk w (w2.alloc (.cells #[.slice A 256 c, .slice R k d, .int .i64 0] 26)) q (m + 700) w2.heap.size A c R k d ⟨zeros, rs, 0⟩ fa fr w1.heap.size rs) :=
    ⟨mem_boxed (M := ⟨zeros, rs, 0⟩) i2 g2 n2 rfl, zeros_len, rfl, (X1.out.below b2).alloc _, (O1.out.trans (.of_below b2)).alloc _, (R1.out.keep b2).alloc _, ⟨z1, b2.size⟩, hq⟩
  clear i2 g2 n2 b2 X1 O1 R1 G1
  go_wp2_with fail
  refine (pick_any q (m + 700) 6 _ M2.out.rd (by omega) (by omega) (by omega)).mono ?_
  rintro e w3 ⟨j0, j1, j2, rfl, s3, r3⟩
  obtain ⟨J, rfl⟩ := Int.eq_ofNat_of_zero_le j1
  have M3 := Lib.hid (M2.out.other s3.only r3)
  clear s3 r3 M2 j1
  go_wp2_with fail
  go_loopw [6] (fun t wr => ∃ (j : Nat) (M : Mem), j ≤ 5 ∧ t = .int .i64 j ∧ M.bank = 0 ∧ Mk w wr q (m + 700 + 1 + 4 * (5 - j)) w2.heap.size A c R k d M fa fr w1.heap.size rs) (fun t _ => (intOf t).toNat)
  case atStart => exact ⟨J, _, by omega, rfl, rfl, M3.out.other (Only.refl _ _) (M3.out.rd.mono (by omega))⟩
  case round =>
    obtain ⟨j, M, hj, rfl, hbk, hmk⟩ := hrel
    have HM := Lib.hid hmk
    have HK := Lib.hid hbk
    clear hmk hbk M3
    by_cases hjp : 0 < j
    · have t2 : (0 : Int) < (j : Int) := by omega
      obtain ⟨g, o, rfl, hfa, hbl, hcl⟩ := HM.out.mem.ram.at_ (by omega)
      have HF := Lib.hid (show g ∈ fa by rw [hfa]; simp)
      clear hcl hfa hbl
      have a0 : wr.cell? ⟨w2.heap.size, 0, none⟩ = some (.slice (some ⟨g, o, none⟩) 256 c) := HM.out.mem.box.cell 0
      have zb : w2.heap.size < wr.heap.size := HM.out.mem.box.lt
      go_wp2_with fail
      have MD : Hid (Mk w wr.drew q (m + 700 + 1 + 4 * (5 - j)) w2.heap.size (some ⟨g, o, none⟩) c R k d M fa fr w1.heap.size rs) := HM.out.other (.of_below (Below.refl _ _).drew) (HM.out.rd.stay (Below.refl _ _).drew)
      go_region_with (first
        | (go_at_call 39; (with_reducible refine (pick_any q (m + 700 + 1 + 4 * (5 - j) + 3) 256 _ M_wc.out.rd (by omega) (by omega) (by omega)).mono ?_); rintro e wd ⟨v_wd, l_wd, u_wd, rfl, s_wd, r_wd⟩; have M_wd := Lib.hid (M_wc.out.other s_wd.only r_wd); have k_wd : wd.cell? ⟨w2.heap.size, 0, none⟩ = some (.slice (some ⟨g, o, none⟩) 256 c) := M_wd.out.mem.box.cell 0; have zb_wd : w2.heap.size < wd.heap.size := M_wd.out.mem.box.lt; have fc := ram_cell' M_wd.out.mem.ram u0 u1; have ff := M_wd.out.mem.new.free g (List.mem_append_left _ HF.out) (o + u.toNat); have zg : g < wd.heap.size := (M_wd.out.mem.new.lt g (List.mem_append_left _ HF.out)).2; try (have cu2 := (World.cell?_of_block (a := ⟨wb.heap.size, v_wc.toNat, none⟩) (s_wd.block wb.heap.size (by have := s_wd.size; have := World.block_lt_of_cell? _ _ cu; simpa using this) (by have := M_wb.out.rd.lt; omega))).trans cu); clear s_wd r_wd)
        | (go_at_call 39; (with_reducible refine (pick_any q (m + 700 + 1 + 4 * (5 - j) + 3) 256 _ (M_wc.out.rd.alloc _) (by omega) (by omega) (by omega)).mono ?_); rintro e wd ⟨v_wd, l_wd, u_wd, rfl, s_wd, r_wd⟩; have M_wd := Lib.hid (M_wc.out.other (((Only.refl _ _).alloc _).trans s_wd.only) r_wd); have k_wd : wd.cell? ⟨w2.heap.size, 0, none⟩ = some (.slice (some ⟨g, o, none⟩) 256 c) := M_wd.out.mem.box.cell 0; have zb_wd : w2.heap.size < wd.heap.size := M_wd.out.mem.box.lt; have cu := lit_at s_wd M_wc.out.rd.lt hu; have fc := ram_cell' M_wd.out.mem.ram u0 u1; have ff := M_wd.out.mem.new.free g (List.mem_append_left _ HF.out) (o + u.toNat); have zg : g < wd.heap.size := (M_wd.out.mem.new.lt g (List.mem_append_left _ HF.out)).2; clear s_wd r_wd)
        | (go_at_call 39; (with_reducible refine (pick_any q (m + 700 + 1 + 4 * (5 - j) + 2) 2 _ M_wb.out.rd (by omega) (by omega) (by omega)).mono ?_); rintro e wc ⟨v_wc, l_wc, u_wc, rfl, s_wc, r_wc⟩; have M_wc := Lib.hid (M_wb.out.other s_wc.only r_wc); have k_wc : wc.cell? ⟨w2.heap.size, 0, none⟩ = some (.slice (some ⟨g, o, none⟩) 256 c) := M_wc.out.mem.box.cell 0; have zb_wc : w2.heap.size < wc.heap.size := M_wc.out.mem.box.lt; obtain ⟨u, hu, hu2, u0, u1⟩ := twoC v_wc v_wa (240 + v_wb) 0 255 l_wc u_wc (by omega) (by omega); clear s_wc r_wc)
        | (go_at_call 39; (with_reducible refine (pick_any q (m + 700 + 1 + 4 * (5 - j) + 2) 2 _ (M_wb.out.rd.alloc _) (by omega) (by omega) (by omega)).mono ?_); rintro e wc ⟨v_wc, l_wc, u_wc, rfl, s_wc, r_wc⟩; have M_wc := Lib.hid (M_wb.out.other (((Only.refl _ _).alloc _).trans s_wc.only) r_wc); have k_wc : wc.cell? ⟨w2.heap.size, 0, none⟩ = some (.slice (some ⟨g, o, none⟩) 256 c) := M_wc.out.mem.box.cell 0; have zb_wc : w2.heap.size < wc.heap.size := M_wc.out.mem.box.lt; obtain ⟨u, hu, hu2, u0, u1⟩ := twoC v_wc v_wa (240 + v_wb) 0 255 l_wc u_wc (by omega) (by omega); have cu := lit_at s_wc M_wb.out.rd.lt hu; clear s_wc r_wc)
        | (go_at_call 39; (with_reducible refine (pick_any q (m + 700 + 1 + 4 * (5 - j) + 1) 16 _ M_wa.out.rd (by omega) (by omega) (by omega)).mono ?_); rintro e wb ⟨v_wb, l_wb, u_wb, rfl, s_wb, r_wb⟩; have M_wb := Lib.hid (M_wa.out.other s_wb.only r_wb); have k_wb : wb.cell? ⟨w2.heap.size, 0, none⟩ = some (.slice (some ⟨g, o, none⟩) 256 c) := M_wb.out.mem.box.cell 0; have zb_wb : w2.heap.size < wb.heap.size := M_wb.out.mem.box.lt; have y2 : IntKind.i64.wrap (240 + v_wb) = 240 + v_wb := IntWalk.i64_in _ (by omega); clear s_wb r_wb)
        | (go_at_call 39; (with_reducible refine (pick_any q (m + 700 + 1 + 4 * (5 - j) + 0) 16 _ MD.out.rd (by omega) (by omega) (by omega)).mono ?_); rintro e wa ⟨v_wa, l_wa, u_wa, rfl, s_wa, r_wa⟩; have M_wa := Lib.hid (MD.out.other s_wa.only r_wa); have k_wa : wa.cell? ⟨w2.heap.size, 0, none⟩ = some (.slice (some ⟨g, o, none⟩) 256 c) := M_wa.out.mem.box.cell 0; have zb_wa : w2.heap.size < wa.heap.size := M_wa.out.mem.box.lt; clear s_wa r_wa))
      all_goals
        have hu3 : u.toNat < 256 := by omega
        have MS1 : Hid (Mk w (wd.setCell ⟨g, o + u.toNat, none⟩ (.int .i64 v_wd)) q _ w2.heap.size (some ⟨g, o, none⟩) c R k d _ fa fr w1.heap.size rs) := M_wd.out.set HF.out hu3 v_wd
        have MS2 : Hid (∀ ob : Obj, Mk w ((wd.alloc ob).setCell ⟨g, o + u.toNat, none⟩ (.int .i64 v_wd)) q _ w2.heap.size (some ⟨g, o, none⟩) c R k d _ fa fr w1.heap.size rs) := fun ob => (M_wd.out.other ((Only.refl _ _).alloc ob) (M_wd.out.rd.alloc ob)).set HF.out hu3 v_wd
        have MS3 : Hid (∀ ob : Obj, Mk w ((wd.setCell ⟨g, o + u.toNat, none⟩ (.int .i64 v_wd)).alloc ob) q _ w2.heap.size (some ⟨g, o, none⟩) c R k d _ fa fr w1.heap.size rs) := fun ob => (M_wd.out.set HF.out hu3 v_wd).other ((Only.refl _ _).alloc ob) ((M_wd.out.set HF.out hu3 v_wd).rd.alloc ob)
        go_wp2_with fail
        go_roundw
        case rel => first
          | exact ⟨j - 1, { M with ram := M.ram.set u.toNat v_wd }, by omega, int_eq (by omega), HK.out, MS1.out.more (by omega)⟩
          | exact ⟨j - 1, { M with ram := M.ram.set u.toNat v_wd }, by omega, int_eq (by omega), HK.out, (MS2.out _).more (by omega)⟩
          | exact ⟨j - 1, { M with ram := M.ram.set u.toNat v_wd }, by omega, int_eq (by omega), HK.out, (MS3.out _).more (by omega)⟩
        case measure => simp [intOf]; omega
    · obtain rfl : j = 0 := by omega
      obtain ⟨g, o, rfl, hfa, hbl, hcl⟩ := HM.out.mem.ram.at_ (by omega)
      have HF := Lib.hid (show g ∈ fa by rw [hfa]; simp)
      clear hcl hfa hbl
      have a1 : wr.cell? ⟨w2.heap.size, 1, none⟩ = some (.slice R k d) := HM.out.mem.box.cell 1
      go_wp2_with fail
      refine (pick_any q _ (k : Int) _ HM.out.rd (by omega) (by omega) (by omega)).mono ?_
      rintro e w4 ⟨bk, bk0, bk1, rfl, s4, r4⟩
      have M4 := Lib.hid (HM.out.other s4.only r4)
      have a2 : w4.cell? ⟨w2.heap.size, 2, none⟩ = some (.int .i64 M.bank) := M4.out.mem.box.cell 2
      have a3 := M4.out.mem.box.frozen 2
      have M5 := Lib.hid (M4.out.setBank bk)
      clear s4 r4 a1
      go_wp2_with fail
      obtain ⟨W5, hW5⟩ : ∃ W5, W5 = w4.setCell ⟨w2.heap.size, 2, none⟩ (.int .i64 bk) := ⟨_, rfl⟩
      rw [← hW5] at M5 ⊢
      clear hW5 a2 a3 M4 HM
      refine (odd_any q _ n _ M5.out.rd (by omega) hn (by omega)).mono ?_
      rintro e w5 ⟨bb, rfl, s5, r5⟩
      have M6 := Lib.hid (M5.out.other s5.only r5)
      clear s5 r5 M5
      generalize hM' : ({ M with bank := bk } : Mem) = M' at M6
      have HM' := Lib.hid (show M'.bank = bk by rw [← hM'])
      clear hM'
      have D6 := Lib.hid (M6.out.done hc hd SR.out SW.out (by omega))
      cases bb
      · rw [← HM'.out] at *
        have b0 : w5.cell? ⟨w2.heap.size, 0, none⟩ = some (.slice (some ⟨g, o, none⟩) 256 c) := D6.out.mem.box.cell 0
        have b1 : w5.cell? ⟨w2.heap.size, 1, none⟩ = some (.slice R k (d)) := D6.out.mem.box.cell 1
        have b2 : w5.cell? ⟨w2.heap.size, 2, none⟩ = some (.int .i64 M'.bank) := D6.out.mem.box.cell 2
        have e0 : w5.cell? ⟨w.heap.size, 0, none⟩ = some (.slice none 0 0) := D6.out.res.cell 0
        have e1 : w5.cell? ⟨w.heap.size, 1, none⟩ = some (.slice none 0 0) := D6.out.res.cell 1
        have e2 : w5.cell? ⟨w.heap.size, 2, none⟩ = some (.int .i64 0) := D6.out.res.cell 2
        have g0 := D6.out.res.frozen 0
        have g1 := D6.out.res.frozen 1
        have g2 := D6.out.res.frozen 2
        go_wp2_with fail
        refine bodyPost_ret (v := .agg #[.slice (some ⟨g, o, none⟩) 256 c, .slice R k (d), .int .i64 M'.bank]) (by simp [results, Tryd.results44, go_sem, e0, e1, e2]) rfl ?_
        exact D6.out.end_ (by omega) _ _ _
      · go_wp2_with fail
        refine (pick_any q _ 4 _ M6.out.rd (by omega) (by omega) (by omega)).mono ?_
        rintro e w6 ⟨sw, sw0, sw1, rfl, s6, r6⟩
        have M7 := Lib.hid (M6.out.other s6.only r6)
        have D7 := Lib.hid (M7.out.done hc hd SR.out SW.out (by omega))
        clear s6 r6 M6 D6
        have hsw : sw = 0 ∨ sw = 1 ∨ sw = 2 ∨ sw = 3 := by omega
        rcases hsw with rfl | rfl | rfl | rfl
        · clear sw0 sw1
          have a0 : w6.cell? ⟨w2.heap.size, 0, none⟩ = some (.slice (some ⟨g, o, none⟩) 256 c) := M7.out.mem.box.cell 0
          have zb : w2.heap.size < w6.heap.size := M7.out.mem.box.lt
          generalize hC : m + 700 + 1 + 4 * (5 - 0) + 1 + 1 + 1 = C7 at M7 D7
          have hC7 : C7 = m + 724 := by omega
          have HC7 := Lib.hid hC7
          clear hC hC7
          go_wp2_with fail
          have MD : Hid (Mk w w6.drew q C7 w2.heap.size (some ⟨g, o, none⟩) c R k d M' fa fr w1.heap.size rs) := M7.out.other (.of_below (Below.refl _ _).drew) (M7.out.rd.stay (Below.refl _ _).drew)
          have ML : Hid (Mk w (w6.alloc (.cells #[.int .i64 (-1), .int .i64 256] 3)).drew q C7 w2.heap.size (some ⟨g, o, none⟩) c R k d M' fa fr w1.heap.size rs) := M7.out.other (.of_below ((below1 w6 _).drew)) ((M7.out.rd.alloc _).stay (Below.refl _ _).drew)
          go_region_with (first
            | (go_at_call 39; (with_reducible refine (pick_any q (C7 + 1) 2 _ M_wa.out.rd (by have := HC7.out; omega) (by omega) (by omega)).mono ?_); rintro e wb ⟨z, z0, z1', rfl, s_wb, r_wb⟩; have M_wb := Lib.hid (M_wa.out.other s_wb.only r_wb); obtain ⟨u, hu, hu2, u0, u1⟩ := twoC z (-1) 256 (-1) 256 z0 z1' (by omega) (by omega); have k_wb : wb.cell? ⟨w2.heap.size, 0, none⟩ = some (.slice (some ⟨g, o, none⟩) 256 c) := M_wb.out.mem.box.cell 0; have zb_wb : w2.heap.size < wb.heap.size := M_wb.out.mem.box.lt; have fc := ram_cell' M_wb.out.mem.ram l_wa (by omega); have ff := M_wb.out.mem.new.free g (List.mem_append_left _ HF.out) (o + v_wa.toNat); have zg : g < wb.heap.size := (M_wb.out.mem.new.lt g (List.mem_append_left _ HF.out)).2; try (have cu := (World.cell?_of_block (a := ⟨w6.heap.size, z.toNat, none⟩) (s_wb.block w6.heap.size (World.block_lt_of_cell? _ _ (CL.out _ _ hu)) (by have := M7.out.rd.lt; omega))).trans (CL.out _ _ hu)); clear s_wb r_wb)
            | (go_at_call 39; (with_reducible refine (pick_any q (C7 + 1) 2 _ (M_wa.out.rd.alloc _) (by have := HC7.out; omega) (by omega) (by omega)).mono ?_); rintro e wb ⟨z, z0, z1', rfl, s_wb, r_wb⟩; have M_wb := Lib.hid (M_wa.out.other (((Only.refl _ _).alloc _).trans s_wb.only) r_wb); obtain ⟨u, hu, hu2, u0, u1⟩ := twoC z (-1) 256 (-1) 256 z0 z1' (by omega) (by omega); have k_wb : wb.cell? ⟨w2.heap.size, 0, none⟩ = some (.slice (some ⟨g, o, none⟩) 256 c) := M_wb.out.mem.box.cell 0; have zb_wb : w2.heap.size < wb.heap.size := M_wb.out.mem.box.lt; have cu := lit_at s_wb M_wa.out.rd.lt hu; have fc := ram_cell' M_wb.out.mem.ram l_wa (by omega); have ff := M_wb.out.mem.new.free g (List.mem_append_left _ HF.out) (o + v_wa.toNat); have zg : g < wb.heap.size := (M_wb.out.mem.new.lt g (List.mem_append_left _ HF.out)).2; clear s_wb r_wb)
            | (go_at_call 39; (with_reducible refine (pick_any q C7 256 _ MD.out.rd (by have := HC7.out; omega) (by omega) (by omega)).mono ?_); rintro e wa ⟨v_wa, l_wa, u_wa, rfl, s_wa, r_wa⟩; have M_wa := Lib.hid (MD.out.other s_wa.only r_wa); have k_wa : wa.cell? ⟨w2.heap.size, 0, none⟩ = some (.slice (some ⟨g, o, none⟩) 256 c) := M_wa.out.mem.box.cell 0; have zb_wa : w2.heap.size < wa.heap.size := M_wa.out.mem.box.lt; clear s_wa r_wa)
            | (go_at_call 39; (with_reducible refine (pick_any q C7 256 _ ML.out.rd (by have := HC7.out; omega) (by omega) (by omega)).mono ?_); rintro e wa ⟨v_wa, l_wa, u_wa, rfl, s_wa, r_wa⟩; have M_wa := Lib.hid (ML.out.other s_wa.only r_wa); have CL : Hid (∀ i y, (#[Value.int .i64 (-1), .int .i64 256] : Array Value)[i]? = some y → wa.cell? ⟨w6.heap.size, i, none⟩ = some y) := fun i y hy => lit_at (w := w6) (cs := #[.int .i64 (-1), .int .i64 256]) (T := 3) ⟨s_wa.os, s_wa.tape, s_wa.output, s_wa.size, s_wa.block⟩ M7.out.rd.lt hy; have k_wa : wa.cell? ⟨w2.heap.size, 0, none⟩ = some (.slice (some ⟨g, o, none⟩) 256 c) := M_wa.out.mem.box.cell 0; have zb_wa : w2.heap.size < wa.heap.size := M_wa.out.mem.box.lt; clear s_wa r_wa))
          all_goals
            have hu3 : v_wa.toNat < 256 := by omega
            have h8 : C7 + 1 + 1 ≤ m + 800 := by have := HC7.out; omega
            go_upto_region 16 with (fail)
            first
              | (obtain ⟨W8, hW8⟩ : ∃ W8, W8 = wb.setCell ⟨g, o + v_wa.toNat, none⟩ (.int .i64 u) := ⟨_, rfl⟩
                 have D8 := Lib.hid ((M_wb.out.set HF.out hu3 u).done hc hd SR.out SW.out (by omega))
                 rw [← hW8] at D8 ⊢
                 clear hW8
                 have b0 : W8.cell? ⟨w2.heap.size, 0, none⟩ = some (.slice (some ⟨g, o, none⟩) 256 c) := D8.out.mem.box.cell 0
                 have b1 : W8.cell? ⟨w2.heap.size, 1, none⟩ = some (.slice R k (d)) := D8.out.mem.box.cell 1
                 have b2 : W8.cell? ⟨w2.heap.size, 2, none⟩ = some (.int .i64 M'.bank) := D8.out.mem.box.cell 2
                 have e0 : W8.cell? ⟨w.heap.size, 0, none⟩ = some (.slice none 0 0) := D8.out.res.cell 0
                 have e1 : W8.cell? ⟨w.heap.size, 1, none⟩ = some (.slice none 0 0) := D8.out.res.cell 1
                 have e2 : W8.cell? ⟨w.heap.size, 2, none⟩ = some (.int .i64 0) := D8.out.res.cell 2
                 have g0 := D8.out.res.frozen 0
                 have g1 := D8.out.res.frozen 1
                 have g2 := D8.out.res.frozen 2
                 go_wp2_with fail
                 refine bodyPost_ret (v := .agg #[.slice (some ⟨g, o, none⟩) 256 c, .slice R k (d), .int .i64 M'.bank]) (by simp [results, Tryd.results44, go_sem, e0, e1, e2]) rfl ?_
                 exact D8.out.end_ (by omega) _ _ _)
              | (obtain ⟨W8, hW8⟩ : ∃ W8, W8 = (wb.setCell ⟨g, o + v_wa.toNat, none⟩ (.int .i64 u)).alloc (.cells #[.int .i64 (-1), .int .i64 256] 3) := ⟨_, rfl⟩
                 have D8 := Lib.hid (((M_wb.out.set HF.out hu3 u).other ((Only.refl _ _).alloc (.cells #[.int .i64 (-1), .int .i64 256] 3)) ((M_wb.out.set HF.out hu3 u).rd.alloc (.cells #[.int .i64 (-1), .int .i64 256] 3))).done hc hd SR.out SW.out (by omega))
                 rw [← hW8] at D8 ⊢
                 clear hW8
                 have b0 : W8.cell? ⟨w2.heap.size, 0, none⟩ = some (.slice (some ⟨g, o, none⟩) 256 c) := D8.out.mem.box.cell 0
                 have b1 : W8.cell? ⟨w2.heap.size, 1, none⟩ = some (.slice R k (d)) := D8.out.mem.box.cell 1
                 have b2 : W8.cell? ⟨w2.heap.size, 2, none⟩ = some (.int .i64 M'.bank) := D8.out.mem.box.cell 2
                 have e0 : W8.cell? ⟨w.heap.size, 0, none⟩ = some (.slice none 0 0) := D8.out.res.cell 0
                 have e1 : W8.cell? ⟨w.heap.size, 1, none⟩ = some (.slice none 0 0) := D8.out.res.cell 1
                 have e2 : W8.cell? ⟨w.heap.size, 2, none⟩ = some (.int .i64 0) := D8.out.res.cell 2
                 have g0 := D8.out.res.frozen 0
                 have g1 := D8.out.res.frozen 1
                 have g2 := D8.out.res.frozen 2
                 go_wp2_with fail
                 refine bodyPost_ret (v := .agg #[.slice (some ⟨g, o, none⟩) 256 c, .slice R k (d), .int .i64 M'.bank]) (by simp [results, Tryd.results44, go_sem, e0, e1, e2]) rfl ?_
                 exact D8.out.end_ (by omega) _ _ _)
        · clear sw0 sw1
          have a0 : w6.cell? ⟨w2.heap.size, 0, none⟩ = some (.slice (some ⟨g, o, none⟩) 256 c) := D7.out.mem.box.cell 0
          have a3 := D7.out.mem.box.frozen 0
          have hc2 : 1 < c := by omega
          have D8 := Lib.hid D7.out.cut
          go_upto_region 16 with (fail)
          obtain ⟨W8, hW8⟩ : ∃ W8, W8 = w6.setCell ⟨w2.heap.size, 0, none⟩ (.slice (some ⟨g, o + 1, none⟩) 255 (c - 1)) := ⟨_, rfl⟩
          rw [← hW8] at D8 ⊢
          clear hW8 a0 a3
          have b0 : W8.cell? ⟨w2.heap.size, 0, none⟩ = some (.slice (some ⟨g, o + 1, none⟩) 255 (c - 1)) := D8.out.mem.box.cell 0
          have b1 : W8.cell? ⟨w2.heap.size, 1, none⟩ = some (.slice R k (d)) := D8.out.mem.box.cell 1
          have b2 : W8.cell? ⟨w2.heap.size, 2, none⟩ = some (.int .i64 M'.bank) := D8.out.mem.box.cell 2
          have e0 : W8.cell? ⟨w.heap.size, 0, none⟩ = some (.slice none 0 0) := D8.out.res.cell 0
          have e1 : W8.cell? ⟨w.heap.size, 1, none⟩ = some (.slice none 0 0) := D8.out.res.cell 1
          have e2 : W8.cell? ⟨w.heap.size, 2, none⟩ = some (.int .i64 0) := D8.out.res.cell 2
          have g0 := D8.out.res.frozen 0
          have g1 := D8.out.res.frozen 1
          have g2 := D8.out.res.frozen 2
          go_wp2_with fail
          refine bodyPost_ret (v := .agg #[.slice (some ⟨g, o + 1, none⟩) 255 (c - 1), .slice R k (d), .int .i64 M'.bank]) (by simp [results, Tryd.results44, go_sem, e0, e1, e2]) rfl ?_
          exact D8.out.end_ (by omega) _ _ _
        · clear sw0 sw1
          have a0 : w6.cell? ⟨w2.heap.size, 1, none⟩ = some (.slice R k d) := D7.out.mem.box.cell 1
          have a2 : w6.cell? ⟨w2.heap.size, 2, none⟩ = some (.int .i64 M'.bank) := D7.out.mem.box.cell 2
          have a3 := D7.out.mem.box.frozen 2
          have D8 := Lib.hid (D7.out.bank (k : Int))
          go_upto_region 16 with (fail)
          obtain ⟨W8, hW8⟩ : ∃ W8, W8 = w6.setCell ⟨w2.heap.size, 2, none⟩ (.int .i64 (k : Int)) := ⟨_, rfl⟩
          rw [← hW8] at D8 ⊢
          clear hW8 a0 a2 a3
          have b0 : W8.cell? ⟨w2.heap.size, 0, none⟩ = some (.slice (some ⟨g, o, none⟩) 256 c) := D8.out.mem.box.cell 0
          have b1 : W8.cell? ⟨w2.heap.size, 1, none⟩ = some (.slice R k (d)) := D8.out.mem.box.cell 1
          have b2 : W8.cell? ⟨w2.heap.size, 2, none⟩ = some (.int .i64 (k : Int)) := D8.out.mem.box.cell 2
          have e0 : W8.cell? ⟨w.heap.size, 0, none⟩ = some (.slice none 0 0) := D8.out.res.cell 0
          have e1 : W8.cell? ⟨w.heap.size, 1, none⟩ = some (.slice none 0 0) := D8.out.res.cell 1
          have e2 : W8.cell? ⟨w.heap.size, 2, none⟩ = some (.int .i64 0) := D8.out.res.cell 2
          have g0 := D8.out.res.frozen 0
          have g1 := D8.out.res.frozen 1
          have g2 := D8.out.res.frozen 2
          go_wp2_with fail
          refine bodyPost_ret (v := .agg #[.slice (some ⟨g, o, none⟩) 256 c, .slice R k (d), .int .i64 (k : Int)]) (by simp [results, Tryd.results44, go_sem, e0, e1, e2]) rfl ?_
          exact D8.out.end_ (by omega) _ _ _
        · clear sw0 sw1
          have a0 : w6.cell? ⟨w2.heap.size, 1, none⟩ = some (.slice R k d) := D7.out.mem.box.cell 1
          have a3 := D7.out.mem.box.frozen 1
          have zb : w2.heap.size < w6.heap.size := D7.out.mem.box.lt
          have D8 := Lib.hid (D7.out.bare (.cells #[] 23) (some ⟨w6.heap.size, 0, none⟩) 0)
          go_upto_region 16 with (fail)
          obtain ⟨W8, hW8⟩ : ∃ W8, W8 = (w6.setCell ⟨w2.heap.size, 1, none⟩ (.slice (some ⟨w6.heap.size, 0, none⟩) 0 0)).alloc (.cells #[] 23) := ⟨_, rfl⟩
          rw [← hW8] at D8 ⊢
          clear hW8 a0 a3
          have b0 : W8.cell? ⟨w2.heap.size, 0, none⟩ = some (.slice (some ⟨g, o, none⟩) 256 c) := D8.out.mem.box.cell 0
          have b1 : W8.cell? ⟨w2.heap.size, 1, none⟩ = some (.slice (some ⟨w6.heap.size, 0, none⟩) 0 (0)) := D8.out.mem.box.cell 1
          have b2 : W8.cell? ⟨w2.heap.size, 2, none⟩ = some (.int .i64 M'.bank) := D8.out.mem.box.cell 2
          have e0 : W8.cell? ⟨w.heap.size, 0, none⟩ = some (.slice none 0 0) := D8.out.res.cell 0
          have e1 : W8.cell? ⟨w.heap.size, 1, none⟩ = some (.slice none 0 0) := D8.out.res.cell 1
          have e2 : W8.cell? ⟨w.heap.size, 2, none⟩ = some (.int .i64 0) := D8.out.res.cell 2
          have g0 := D8.out.res.frozen 0
          have g1 := D8.out.res.frozen 1
          have g2 := D8.out.res.frozen 2
          go_wp2_with fail
          refine bodyPost_ret (v := .agg #[.slice (some ⟨g, o, none⟩) 256 c, .slice (some ⟨w6.heap.size, 0, none⟩) 0 (0), .int .i64 M'.bank]) (by simp [results, Tryd.results44, go_sem, e0, e1, e2]) rfl ?_
          exact D8.out.end_ (by omega) _ _ _
theorem mem_any (q m : Nat) (n : Int) (w : World) (h : Rd w q m) (hm : m ≤ 50000) (hn : 1 ≤ n) (hn2 : n ≤ 1000) : Calls Tryd.prog 44 #[.pointer (some ⟨q, 0, none⟩), .int .i64 n] w (MemDrawn q m w) :=
  (mem_wide q m n w h hm hn hn2).mono fun _ _ ⟨A, n', c, R, k, d, M, fa, fr, h1, h2, h3, h4, h5, h6, h7, h8, h9, _⟩ => ⟨A, n', c, R, k, d, M, fa, fr, h1, h2, h3, h4, h5, h6, h7, h8, h9⟩
end Go.Proofs.YtcapfafglikcmaaDoor
