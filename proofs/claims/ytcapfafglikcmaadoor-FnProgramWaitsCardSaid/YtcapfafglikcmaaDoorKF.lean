import Derived.Test.YtcapfafglikcmaaDoorMemS
import Derived.Deep.RegionLaw
import Derived.Test.YtcapfafglikcmaaDoorKG

section
/- Contracts of the program's functions on memory (chapter 2): a byte written in place. -/
namespace Go.Proofs.YtcapfafglikcmaaDoor
open Go.ChangeShapes Go.WideShapes Go.ChangeAt Go.RowKit

/-- The memory M lies behind block q, in memory of the call's own. -/
structure MemIn (w : World) (q : Nat) (A : Option Addr) (n c : Nat) (R : Option Addr) (k d : Nat) (M : Mem) (fa fr : List Nat) (L : Nat) : Prop where
  box : Box w q 26 [.slice A n c, .slice R k d, .int .i64 M.bank]
  ram : Ints w A n M.ram fa
  rom : Grid w R k M.rom fr
  new : New L w (fa ++ fr)
  off : q ∉ fa ++ fr
/-- What writing leaves. -/
def Put (q : Nat) (A : Option Addr) (n c : Nat) (R : Option Addr) (k d : Nat) (M : Mem) (fa fr : List Nat) (L : Nat) (w : World) (e : Ending) (w' : World) : Prop :=
  e = .returned (.tuple #[]) ∧ MemIn w' q A n c R k d M fa fr L ∧ Only (q :: (fa ++ fr)) w w'
theorem New.setCell {L : Nat} {w : World} {fp : List Nat} (h : New L w fp) (a : Addr) (v : Value) : New L (w.setCell a v) fp :=
  ⟨h.once, fun b hb => by simpa using h.lt b hb, fun b hb o => by rw [World.frozen?_setCell]; exact h.free b hb o⟩
theorem MemIn.below {w w' : World} {q : Nat} {A : Option Addr} {n c : Nat} {R : Option Addr} {k d : Nat} {M : Mem} {fa fr : List Nat} {L : Nat} (h : MemIn w q A n c R k d M fa fr L) (b : Below w.heap.size w w') : MemIn w' q A n c R k d M fa fr L :=
  ⟨h.box.below b, h.ram.below b, h.rom.below b, h.new.keep (.of_below b), h.off⟩
theorem MemIn.setRam {w : World} {q : Nat} {b o n c : Nat} {R : Option Addr} {k d : Nat} {M : Mem} {fa fr : List Nat} {L : Nat} (h : MemIn w q (some ⟨b, o, none⟩) n c R k d M fa fr L) (hb : b ∈ fa) {p : Nat} (hp : p < n) (v : Int) :
    MemIn (w.setCell ⟨b, o + p, none⟩ (.int .i64 v)) q (some ⟨b, o, none⟩) n c R k d { M with ram := M.ram.set p v } fa fr L ∧ Only (q :: (fa ++ fr)) w (w.setCell ⟨b, o + p, none⟩ (.int .i64 v)) := by
  have o1 : Only fa w (w.setCell ⟨b, o + p, none⟩ (.int .i64 v)) := (Only.refl _ w).setCell (.inl hb) _
  have nd := List.nodup_append.1 h.new.once
  have hq : q ≠ b := fun e => h.off (List.mem_append_left _ (e ▸ hb))
  exact ⟨⟨h.box.far hq _, h.ram.set hp v, h.rom.keep (.of_only o1 fun x hx hy => nd.2.2 x hy x hx rfl), h.new.setCell _ _, h.off⟩, o1.mono fun x hx => List.mem_cons_of_mem _ (List.mem_append_left _ hx)⟩
theorem MemIn.setBank {w : World} {q : Nat} {A : Option Addr} {n c : Nat} {R : Option Addr} {k d : Nat} {M : Mem} {fa fr : List Nat} {L : Nat} (h : MemIn w q A n c R k d M fa fr L) (v : Int) :
    MemIn (w.setCell ⟨q, 2, none⟩ (.int .i64 v)) q A n c R k d { M with bank := v } fa fr L ∧ Only (q :: (fa ++ fr)) w (w.setCell ⟨q, 2, none⟩ (.int .i64 v)) := by
  have o1 : Only [q] w (w.setCell ⟨q, 2, none⟩ (.int .i64 v)) := (Only.refl _ w).setCell (.inl (by simp)) _
  have dd : ∀ y ∈ fa ++ fr, y ∉ [q] := fun y hy hs => by simp at hs; subst hs; exact h.off hy
  exact ⟨⟨h.box.set 2 _, h.ram.keep (.of_only o1 fun x hx => dd x (List.mem_append_left _ hx)), h.rom.keep (.of_only o1 fun x hx => dd x (List.mem_append_right _ hx)), h.new.setCell _ _, h.off⟩, o1.mono fun x hx => by simp at hx; simp [hx]⟩
theorem writeRam_any (q : Nat) (A : Option Addr) (n c : Nat) (R : Option Addr) (k d : Nat) (M : Mem) (fa fr : List Nat) (L p : Nat) (v : Int) (w : World) (h : MemIn w q A n c R k d M fa fr L) (hp : p < n) (hn : n ≤ 1000000000) :
    Calls Tryd.prog 73 #[.pointer (some ⟨q, 0, none⟩), .int .i64 p, .int .i64 v] w (Put q A n c R k d { M with ram := M.ram.set p v } fa fr L w) := by
  have H := Lib.hid h
  obtain ⟨b, o, rfl, hfa, hb, hc⟩ := h.ram.at_ (by omega)
  have HF := Lib.hid (show b ∈ fa by rw [hfa]; simp)
  have c1 := hc p hp
  have c2 := h.new.free b (List.mem_append_left _ HF.out) (o + p)
  have c3 : w.cell? ⟨q, 0, none⟩ = some (.slice (some ⟨b, o, none⟩) n c) := h.box.cell 0
  clear hc h hfa
  generalize M.ram.getD p 0 = x at c1
  go_enter Tryd.func73, Tryd.ntmps73
  go_wp2
  go_end0
  exact ⟨rfl, H.out.setRam HF.out hp v⟩
theorem writeNothing_any (q : Nat) (A : Option Addr) (n c : Nat) (R : Option Addr) (k d : Nat) (M : Mem) (fa fr : List Nat) (L : Nat) (p v : Int) (w : World) (h : MemIn w q A n c R k d M fa fr L) :
    Calls Tryd.prog 75 #[.pointer (some ⟨q, 0, none⟩), .int .i64 p, .int .i64 v] w (Put q A n c R k d M fa fr L w) := by
  have H := Lib.hid h
  clear h
  go_enter Tryd.func75, Tryd.ntmps75
  go_wp2
  go_end0
  exact ⟨rfl, H.out, Only.refl _ _⟩
theorem switchBank_any (q : Nat) (A : Option Addr) (n c : Nat) (R : Option Addr) (k d : Nat) (M : Mem) (fa fr : List Nat) (L : Nat) (p v : Int) (w : World) (h : MemIn w q A n c R k d M fa fr L) (hk : 1 ≤ k) (hk2 : k ≤ 1000000000) (v0 : 0 ≤ v) (v1 : v ≤ 255) :
    Calls Tryd.prog 77 #[.pointer (some ⟨q, 0, none⟩), .int .i64 p, .int .i64 v] w (Put q A n c R k d { M with bank := v % k } fa fr L w) := by
  have H := Lib.hid h
  have c1 : w.cell? ⟨q, 1, none⟩ = some (.slice R k d) := h.box.cell 1
  have c2 : w.cell? ⟨q, 2, none⟩ = some (.int .i64 M.bank) := h.box.cell 2
  have c3 := h.box.frozen 2
  have hz : ¬ k = 0 := by omega
  have hz2 : ((k : Int) == 0) = false := by simp; omega
  clear h
  go_enter Tryd.func77, Tryd.ntmps77
  go_wp2
  go_end0
  exact ⟨rfl, H.out.setBank _⟩
theorem writeAt_any (q : Nat) (A : Option Addr) (n c : Nat) (R : Option Addr) (k d : Nat) (M : Mem) (fa fr : List Nat) (L p : Nat) (v : Int) (w : World) (h : MemIn w q A n c R k d M fa fr L) (gd : Good M) (hp : p < 1024) (v0 : 0 ≤ v) (v1 : v ≤ 255) :
    Calls Tryd.prog 102 #[.pointer (some ⟨q, 0, none⟩), .int .i64 p, .int .i64 v] w (Put q A n c R k d (writeN M p v) fa fr L w) := by
  have H := Lib.hid h
  have hn : n = 256 := by have := h.ram.1; have := gd.ram; omega
  have HK := Lib.hid (show k = M.rom.length from h.rom.len.symm)
  have k1 : 1 ≤ k := by have := gd.one; have := HK.out; omega
  have k4 : k ≤ 4 := by have := gd.four; have := HK.out; omega
  subst hn
  have p0 : (0 : Int) ≤ p := by omega
  have p1 : (p : Int) < 1024 := by omega
  have hf1 := field_writeRam
  have hf2 := field_writeNothing
  have hf3 := field_switchBank
  clear h gd
  go_enter Tryd.func102, Tryd.ntmps102
  go_wp2_with fail
  by_cases a2 : p < 512
  · have HE := Lib.hid (show writeN M p v = { M with ram := M.ram.set (p % 256) v } by unfold writeN; rw [if_pos a2])
    refine (show Calls _ _ _ w (Found _ _ w) from (by
      by_cases a1 : p < 256
      · exact region_0 _ _ (by omega) (by omega)
      · exact region_1 _ _ (by omega) (by omega))).mono ?_
    rintro e w1 ⟨rfl, b1⟩
    have H1 := Lib.hid (H.out.below b1)
    have B1 := Lib.hid b1
    clear b1
    go_wp2_with fail
    rw [show ((p : Int) % 256) = ((p % 256 : Nat) : Int) by omega]
    refine (writeRam_any q A 256 c R k d M fa fr L (p % 256) v _ H1.out (by omega) (by omega)).mono ?_
    rintro e w2 ⟨rfl, m2, o2⟩
    have M2 := Lib.hid m2
    have O2 := Lib.hid o2
    clear m2 o2 hf1 hf2 hf3
    go_wp2_with fail
    go_end0
    exact ⟨rfl, by rw [HE.out]; exact M2.out, (Only.of_below B1.out).trans O2.out⟩
  · by_cases a3 : p < 768
    · have HE := Lib.hid (show writeN M p v = M by unfold writeN; rw [if_neg a2, if_pos a3])
      refine (region_2 _ _ (by omega) (by omega)).mono ?_
      rintro e w1 ⟨rfl, b1⟩
      have H1 := Lib.hid (H.out.below b1)
      have B1 := Lib.hid b1
      clear b1
      go_wp2_with fail
      refine (writeNothing_any q A 256 c R k d M fa fr L _ v _ H1.out).mono ?_
      rintro e w2 ⟨rfl, m2, o2⟩
      have M2 := Lib.hid m2
      have O2 := Lib.hid o2
      clear m2 o2 hf1 hf2 hf3
      go_wp2_with fail
      go_end0
      exact ⟨rfl, by rw [HE.out]; exact M2.out, (Only.of_below B1.out).trans O2.out⟩
    · have HE := Lib.hid (show writeN M p v = { M with bank := v % k } by unfold writeN; rw [if_neg a2, if_neg a3, HK.out])
      refine (region_3 _ _ (by omega) (by omega)).mono ?_
      rintro e w1 ⟨rfl, b1⟩
      have H1 := Lib.hid (H.out.below b1)
      have B1 := Lib.hid b1
      clear b1
      go_wp2_with fail
      refine (switchBank_any q A 256 c R k d M fa fr L _ v _ H1.out k1 (by omega) v0 v1).mono ?_
      rintro e w2 ⟨rfl, m2, o2⟩
      have M2 := Lib.hid m2
      have O2 := Lib.hid o2
      clear m2 o2 hf1 hf2 hf3
      go_wp2_with fail
      go_end0
      exact ⟨rfl, by rw [HE.out]; exact M2.out, (Only.of_below B1.out).trans O2.out⟩
end Go.Proofs.YtcapfafglikcmaaDoor
end

section
/- Contracts of the program's functions on memory (chapter 2): ReadMemory and WriteMemory. -/
namespace Go.Proofs.YtcapfafglikcmaaDoor
open Go.ChangeShapes Go.WideShapes Go.ChangeAt Go.RowKit

theorem impl_read (A : Option Addr) (n c : Nat) (R : Option Addr) (k d : Nat) (M : Mem) (fa fr : List Nat) (a : Int) (w : World) (hi : Ints w A n M.ram fa) (hg : Grid w R k M.rom fr) (hn : n ≤ 1000000000) (hk : k ≤ 1000000000) (hs : ∀ i, (M.rom.getD i []).length ≤ 1000000000) :
    Calls Tryd.prog 15 #[.agg #[.slice A n c, .slice R k d, .int .i64 M.bank], .int .i64 a] w (Got (readM M a) w) := by
  have HI := Lib.hid (hi.below (below1 w (.cells #[.slice A n c, .slice R k d, .int .i64 M.bank] 26)))
  have HG := Lib.hid (hg.below (below1 w (.cells #[.slice A n c, .slice R k d, .int .i64 M.bank] 26)))
  have HS := Lib.hid hs
  clear hi hg hs
  go_enter Tryd.func15, Tryd.ntmps15
  go_wp2_with fail
  refine (isAddress_any _ _).mono ?_; rintro e w' ⟨rfl, rfl⟩
  by_cases ha : addrB a = true
  · have HA := Lib.hid ha
    obtain ⟨a0, a1⟩ := addrB_yes ha
    clear ha
    rw [HA.out]
    go_wp2_with fail
    refine (impl_valid _ _ _ _ _ _ _ _ _ _ HI.out HG.out hn hk HS.out).mono ?_
    rintro e w1 ⟨rfl, b1⟩
    have X0 : Hid (Box w1 w.heap.size _ [.slice A n c, .slice R k d, .int .i64 M.bank]) := (Box.new w _ _).below b1
    have I1 := Lib.hid (HI.out.below b1)
    have G1 := Lib.hid (HG.out.below b1)
    have B1 : Hid (Below w.heap.size w w1) := (below1 w _).trans (b1.mono (by simp))
    clear b1
    by_cases hv : validB M = true
    · have HV := Lib.hid hv
      have HE := Lib.hid (show readM M a = readN M a.toNat by simp [readM, HA.out, hv])
      clear hv
      rw [HV.out]
      have c0 : w1.cell? ⟨w.heap.size, 0, none⟩ = some (.slice A n c) := X0.out.cell 0
      have c1 : w1.cell? ⟨w.heap.size, 1, none⟩ = some (.slice R k d) := X0.out.cell 1
      have c2 : w1.cell? ⟨w.heap.size, 2, none⟩ = some (.int .i64 M.bank) := X0.out.cell 2
      go_wp2_with fail
      obtain ⟨p, rfl⟩ := Int.eq_ofNat_of_zero_le a0
      refine (readAt_any A n c R k d M fa fr p _ I1.out G1.out (good_of HV.out) (by omega)).mono ?_
      rintro e w2 ⟨rfl, b2⟩
      have B2 := Lib.hid (B1.out.trans (b2.mono B1.out.size))
      clear b2
      go_wp2_with fail
      go_ret
      exact ⟨ret_int (by rw [HE.out]; rfl), B2.out⟩
    · have HV := Lib.hid (show validB M = false by simpa using hv)
      have HE := Lib.hid (show readM M a = 0 by simp [readM, hv])
      clear hv
      rw [HV.out]
      go_wp2_with fail
      go_ret
      exact ⟨ret_int HE.out.symm, B1.out⟩
  · have HA := Lib.hid (show addrB a = false by simpa using ha)
    have HE := Lib.hid (show readM M a = 0 by simp [readM, ha])
    clear ha
    rw [HA.out]
    go_wp2_with fail
    go_ret
    exact ⟨ret_int HE.out.symm, below1 w _⟩
/-- A memory in new memory, laid behind a new block. -/
theorem mem_boxed {w1 w2 : World} {M : Mem} {A : Option Addr} {n c : Nat} {R : Option Addr} {k d : Nat} {fa fr : List Nat} {L : Nat} (i : Ints w2 A n M.ram fa) (g : Grid w2 R k M.rom fr) (nw : New L w2 (fa ++ fr)) (hw : w1 = w2.alloc (.cells #[.slice A n c, .slice R k d, .int .i64 M.bank] 26)) :
    MemIn w1 w2.heap.size A n c R k d M fa fr L := by
  subst hw
  exact ⟨Box.new w2 _ _, i.below (below1 w2 _), g.below (below1 w2 _), nw.keep (.of_below (below1 w2 _)), fun h => by have := (nw.lt _ h).2; omega⟩
end Go.Proofs.YtcapfafglikcmaaDoor
end

section
/- Contracts of the program's functions on memory (chapter 2): CopyMemory. -/
namespace Go.Proofs.YtcapfafglikcmaaDoor
open Go.ChangeShapes Go.WideShapes Go.ChangeAt Go.RowKit

theorem wrap_sum (f j : Nat) (hf : f ≤ 100000) (hj : j ≤ 100000) (w : World) :
    Calls Tryd.prog 58 #[.int .i64 ((f : Int) + (j : Int))] w fun e w' => e = .returned (.int .i64 (((f + j) % 1024 : Nat) : Int)) ∧ w = w' := by
  have e : (((f : Int) + (j : Int)) % 1024) = (((f + j) % 1024 : Nat) : Int) := by omega
  rw [← e]
  clear e
  go_enter Tryd.func58, Tryd.ntmps58
  go_wp2
  go_ret
  exact ⟨rfl, rfl⟩
end Go.Proofs.YtcapfafglikcmaaDoor
end

section
/- Contracts of the model's functions on memory (chapter 2): a new memory. -/
namespace Go.Proofs.YtcapfafglikcmaaDoor
open Go.ChangeShapes Go.WideShapes Go.ChangeAt Go.RowKit

theorem new_round {w wr w2 : World} {k j : Nat} {rs : List (List Int)} {v v' : Value} {D' : List Row} (hj : j < k) (gn : Grow w2 (w.heap.size + 3) rs (j + 1) v' D') (hz : wr.rowIs (w.heap.size + 1) 3 256 (fun _ => .int .i64 0)) (hb : Below w.heap.size w wr)
    (x0 : Box wr w.heap.size 26 [.slice none 0 0, .slice none 0 0, .int .i64 0]) (x2 : Box wr (w.heap.size + 1 + 1) 26 [.slice (some ⟨w.heap.size + 1, 0, none⟩) 256 256, v, .int .i64 0]) (b2 : Below (w.heap.size + 3) wr w2) :
    ∃ (i : Nat) (u : Value) (D : List Row), i ≤ k ∧ Value.int .i64 ((j : Int) + 1) = .int .i64 i ∧ Grow (w2.setCell ⟨w.heap.size + 1 + 1, 1, none⟩ v') (w.heap.size + 3) rs i u D ∧ (w2.setCell ⟨w.heap.size + 1 + 1, 1, none⟩ v').rowIs (w.heap.size + 1) 3 256 (fun _ => .int .i64 0) ∧ Below w.heap.size w (w2.setCell ⟨w.heap.size + 1 + 1, 1, none⟩ v') ∧
      Box (w2.setCell ⟨w.heap.size + 1 + 1, 1, none⟩ v') w.heap.size 26 [.slice none 0 0, .slice none 0 0, .int .i64 0] ∧ Box (w2.setCell ⟨w.heap.size + 1 + 1, 1, none⟩ v') (w.heap.size + 1 + 1) 26 [.slice (some ⟨w.heap.size + 1, 0, none⟩) 256 256, u, .int .i64 0] := by
  have o : Only [w.heap.size + 1 + 1] w2 (w2.setCell ⟨w.heap.size + 1 + 1, 1, none⟩ v') := (Only.refl _ w2).setCell (.inl (by simp)) _
  refine ⟨j + 1, v', D', by omega, by go_num, gn.only o (by simp), ?_, ?_, (x0.keep b2 (by omega)).far (by omega) _, (x2.keep b2 (by omega)).set 1 _⟩
  · exact (hz.of_block (b2.block _ (by omega))).setOther (show w.heap.size + 1 ≠ w.heap.size + 1 + 1 by omega) _
  · exact (hb.trans (b2.mono (by omega))).setCell (by simp; omega) _
theorem spec_new (R : Option Addr) (k d : Nat) (rs : List (List Int)) (fr : List Nat) (w : World) (hg : Grid w R k rs fr) (hk : k ≤ 1000000000) (hs : ∀ i, (rs.getD i []).length ≤ 1000000000) :
    Calls Tryd.prog 60 #[.slice R k d] w (MemNew (newM rs) w) := by
  have HG := Lib.hid hg
  have HS := Lib.hid hs
  have HL := Lib.hid hg.len
  clear hg hs
  have hmk := make256
  obtain ⟨i0, hi0, hz0, hz1, hz2⟩ := info_parts infoInts
  go_enter Tryd.func60, Tryd.ntmps60
  go_wp2_with fail
  go_loopw [4] (fun i wr => ∃ (j : Nat) (v : Value) (D : List Row), j ≤ k ∧ i = .int .i64 j ∧ Grow wr (w.heap.size + 3) rs j v D ∧ wr.rowIs (w.heap.size + 1) 3 256 (fun _ => .int .i64 0) ∧ Below w.heap.size w wr ∧ Box wr w.heap.size 26 [.slice none 0 0, .slice none 0 0, .int .i64 0] ∧ Box wr (w.heap.size + 1 + 1) 26 [.slice (some ⟨w.heap.size + 1, 0, none⟩) 256 256, v, .int .i64 0]) (fun i _ => k - (intOf i).toNat)
  case atStart =>
    refine ⟨0, .slice none 0 0, [], Nat.zero_le _, rfl, Grow.none_ _ _ _, ?_, below3 w _ _ _, ((Box.new w _ _).alloc _).alloc _, Box.new_at ((w.alloc _).alloc _) _ _ _ (by simp)⟩
    have := (World.rowIs_made (w.alloc (.cells #[.slice none 0 0, .slice none 0 0, .int .i64 0] 26)) (.int .i64 0) 256 3).alloc (.cells #[.slice (some ⟨w.heap.size + 1, 0, none⟩) 256 256, .slice none 0 0, .int .i64 0] 26)
    rwa [show (w.alloc (.cells #[.slice none 0 0, .slice none 0 0, .int .i64 0] 26)).heap.size = w.heap.size + 1 from by simp] at this
  case round =>
    obtain ⟨j, v, D, hj, rfl, hw, hz, hb, hx0, hx2⟩ := hrel
    have HW := Lib.hid hw
    have HZ := Lib.hid hz
    have HB := Lib.hid hb
    have X0 := Lib.hid hx0
    have X2 := Lib.hid hx2
    have z2 : w.heap.size + 1 + 1 < wr.heap.size := hx2.lt
    clear hw hz hb hx0 hx2 hmk
    by_cases hlt : j < k
    · obtain ⟨p, o, a, m, e, fr', rfl, hp, c1', _, i1', _⟩ := HG.out.row hlt
      have c1 := (HB.out.cell (p := ⟨p, o + j, none⟩) hp).trans c1'
      have i1 := i1'.keep (w' := wr) ⟨HB.out.size, fun b _ hl => HB.out.block b hl⟩
      have I1 := Lib.hid i1
      clear c1' i1'
      have zL : w.heap.size + 3 ≤ wr.heap.size := by omega
      have hp2 : p < wr.heap.size := by omega
      have hm : m ≤ 1000000000 := by have := i1.1; have := HS.out j; omega
      have a1 : wr.cell? ⟨w.heap.size + 1 + 1, 1, none⟩ = some v := X2.out.cell 1
      have a2 := X2.out.frozen 1
      have l1 : (j : Int) < (k : Int) := by omega
      have l0 : (0 : Int) ≤ (j : Int) := by omega
      clear i1
      go_wp2_with fail
      have E1 : Hid ((wr.alloc (.cells #[] 3)).drew.ownsRow wr.heap.size 3 1 (.slice (some ⟨wr.heap.size, 0, none⟩) 0 0) 0 (iv [])) := (own_empty wr 3 wr.heap.size (Nat.le_refl _)).drew
      have J1 : Hid (Ints (wr.alloc (.cells #[] 3)).drew a m (rs.getD j []) fr') := I1.out.below (below1 wr _).drew
      have BR : Hid (Below wr.heap.size wr (wr.alloc (.cells #[] 3)).drew) := (below1 wr _).drew
      have zr : wr.heap.size ≤ (wr.alloc (.cells #[] 3)).drew.heap.size := BR.out.size
      go_region_law (first
          | (refine step_append_ints (by rfl) (.tmp 15) (.tmp 19) (by rfl) wr.heap.size _ 0 [] (by rfl) E1.out a m e (rs.getD j []) fr' (by rfl) J1.out (by omega) zr ?_; intro v1 w1 own1 gr1 _; have b1 : Below wr.heap.size wr w1 := below_grown BR.out gr1 zr (fun b hb => by have h : some wr.heap.size = some b := hb; injection h; omega); have own1' : w1.ownsRow wr.heap.size 3 1 v1 m (iv (rs.getD j [])) := by { simp only [Nat.zero_add, List.nil_append] at own1; exact own1 }; obtain ⟨A1, d1, fp1, rfl, hc1, _, hi1, hn1, _⟩ := own_ints own1'; have t1 : w1.cell? ⟨w.heap.size + 1 + 1, 1, none⟩ = some v := (X2.out.below b1).cell 1; have t2 : w.heap.size + 1 + 1 < w1.heap.size := (X2.out.below b1).lt; have HC1 := Lib.hid hc1; have HI1 := Lib.hid hi1; have HN1 := Lib.hid hn1; have HB1 := Lib.hid b1; clear own1 gr1 own1' hc1 hi1 hn1 b1)
          | (refine step_append_lies _ (by rfl) (.tmp 14) (.tmp 21) 24 (by rfl) (w.heap.size + 3) 23 i0 _ 1 24 Tryd.underlying24 hi0 hz0 hz1 hz2 rfl (by omega) v j (D.map Row.val) (by rfl) (by exact own_keep (HW.out.below HB1.out).own (below1 w1 _)) ⟨w1.heap.size, 0, none⟩ 1 1 [.slice A1 m d1] (by rfl) (by rfl) (World.news_of_block (cs := #[.slice A1 m d1]) (t := 23) (fr := (0, 0)) (heap_alloc_new w1 _)) (by simp [Value.oneCell']) (by omega) (by unfold maxLen; omega) (by omega) (by have := HB1.out.size; simp; omega) _ rfl ?_; intro g cap w2 own2 gr2 hat hlt2; have b2 : Below (w.heap.size + 3) wr w2 := ((HB1.out.mono zL).alloc (Nat.le_trans zL HB1.out.size) _).grown gr2 (by have := HB1.out.size; simp; omega) (fun b hb => (own_lt HW.out.own b hb).1); have s1 : w2.cell? ⟨w.heap.size + 1 + 1, 1, none⟩ = some v := (Box.keep X2.out b2 (by omega)).cell 1; have s2 := (Box.keep X2.out b2 (by omega)).frozen 1; have GN := Lib.hid (HW.out.next zL (by have := HL.out; omega) HB1.out HC1.out HI1.out HN1.out (below1 w1 _) own2 gr2 hat); have B2 := Lib.hid b2; clear own2 gr2 hat b2))
      all_goals go_wp2
      all_goals
        go_roundw
        case rel => exact new_round hlt GN.out HZ.out HB.out X0.out X2.out B2.out
        case measure => simp [intOf]; omega
    · obtain rfl : j = k := by omega
      obtain ⟨R', d', fr', rfl, hd', gG, nG⟩ := HW.out.grid HL.out
      have G1 := Lib.hid gG
      have N1 := Lib.hid nG
      clear gG nG
      have a0 : wr.cell? ⟨w.heap.size + 1 + 1, 0, none⟩ = some (.slice (some ⟨w.heap.size + 1, 0, none⟩) 256 256) := X2.out.cell 0
      have a1 : wr.cell? ⟨w.heap.size + 1 + 1, 1, none⟩ = some (.slice R' j d') := X2.out.cell 1
      have a2 : wr.cell? ⟨w.heap.size + 1 + 1, 2, none⟩ = some (.int .i64 0) := X2.out.cell 2
      go_wp2_with fail
      refine (spec_valid _ 256 256 R' j d' ⟨zeros, rs, 0⟩ _ fr' _ (zeros_ints HZ.out) G1.out (by omega) hk HS.out).mono ?_
      rintro e w1 ⟨rfl, b1⟩
      have Y0 := Lib.hid (X0.out.below b1)
      have Y2 := Lib.hid (X2.out.below b1)
      have I2 := Lib.hid ((zeros_ints HZ.out).below b1)
      have G2 := Lib.hid (G1.out.below b1)
      have B2 := Lib.hid (HB.out.trans (b1.mono HB.out.size))
      have N2 : Hid (New (w.heap.size + 1) w1 ([w.heap.size + 1] ++ fr')) := ((New.one (Nat.le_refl _) HZ.out.lt HZ.out.frozen).keep (.of_below b1)).append ((N1.out.mono (by omega)).keep (.of_below b1)) (fun x hx hy => by have := (N1.out.lt x hy).1; simp at hx; omega)
      clear b1 a0 a1 a2
      have e0 : w1.cell? ⟨w.heap.size, 0, none⟩ = some (.slice none 0 0) := Y0.out.cell 0
      have e1 : w1.cell? ⟨w.heap.size, 1, none⟩ = some (.slice none 0 0) := Y0.out.cell 1
      have e2 : w1.cell? ⟨w.heap.size, 2, none⟩ = some (.int .i64 0) := Y0.out.cell 2
      have e3 := Y0.out.frozen 0
      have e4 := Y0.out.frozen 1
      have e5 := Y0.out.frozen 2
      by_cases hv : validB ⟨zeros, rs, 0⟩ = true
      · have HV := Lib.hid hv
        have HN := Lib.hid (show newM rs = ⟨zeros, rs, 0⟩ by simp [newM, hv])
        clear hv
        rw [HV.out]
        have a0 : w1.cell? ⟨w.heap.size + 1 + 1, 0, none⟩ = some (.slice (some ⟨w.heap.size + 1, 0, none⟩) 256 256) := Y2.out.cell 0
        have a1 : w1.cell? ⟨w.heap.size + 1 + 1, 1, none⟩ = some (.slice R' j d') := Y2.out.cell 1
        have a2 : w1.cell? ⟨w.heap.size + 1 + 1, 2, none⟩ = some (.int .i64 0) := Y2.out.cell 2
        go_wp2_with fail
        refine bodyPost_ret (v := .agg #[.slice (some ⟨w.heap.size + 1, 0, none⟩) 256 256, .slice R' j d', .int .i64 0]) (by simp [results, Tryd.results60, go_sem, e0, e1, e2]) rfl ?_
        rw [HN.out]
        exact mem_handed (M := ⟨zeros, rs, 0⟩) I2.out G2.out N2.out (by omega) hd' B2.out (by omega)
      · have HV := Lib.hid (show validB ⟨zeros, rs, 0⟩ = false by simpa using hv)
        have HN := Lib.hid (show newM rs = memZ by simp [newM, hv])
        clear hv
        rw [HV.out]
        go_wp2_with fail
        refine bodyPost_ret (v := .agg #[.slice none 0 0, .slice none 0 0, .int .i64 0]) (by simp [results, Tryd.results60, go_sem, e0, e1, e2]) rfl ?_
        rw [HN.out]
        exact memZ_new (((B2.out.setCell (by simp) _).setCell (by simp) _).setCell (by simp) _)
end Go.Proofs.YtcapfafglikcmaaDoor
end
