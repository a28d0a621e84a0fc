/- Contracts of the program's functions on memory (chapter 2): a byte written in place. -/
import Derived.Test.YtbcibgfjdenheaaMemS
namespace Go.Proofs.Ytbcibgfjdenheaa
open Go.ChangeShapes Go.WideShapes Go.ChangeAt Go.RowKit

/-- The memory M lies behind block q, in memory of the call's own. -/
structure MemIn (w : World) (q : Nat) (A : Option Addr) (n c : Nat) (R : Option Addr) (k d : Nat) (M : Mem) (fa fr : List Nat) (L : Nat) : Prop where
  box : Box w q 26 [.slice A n c, .slice R k d, .int .i64 M.bank]
  ram : Ints w A n M.ram fa
  rom : Grid w R k M.rom fr
  new : New L w (fa ++ fr)
  off : q ∉ fa ++ fr
/-- What writing leaves. -/
def Put (q : Nat) (A : Option Addr) (n c : Nat) (R : Option Addr) (k d : Nat) (M : Mem) (fa fr : List Nat) (L : Nat) (w : World) (e : Ending) (w' : World) : Prop :=
  e = .returned (.tuple #[]) ∧ MemIn w' q A n c R k d M fa fr L ∧ Only (q :: (fa ++ fr)) w w'
theorem New.setCell {L : Nat} {w : World} {fp : List Nat} (h : New L w fp) (a : Addr) (v : Value) : New L (w.setCell a v) fp :=
  ⟨h.once, fun b hb => by simpa using h.lt b hb, fun b hb o => by rw [World.frozen?_setCell]; exact h.free b hb o⟩
theorem MemIn.below {w w' : World} {q : Nat} {A : Option Addr} {n c : Nat} {R : Option Addr} {k d : Nat} {M : Mem} {fa fr : List Nat} {L : Nat} (h : MemIn w q A n c R k d M fa fr L) (b : Below w.heap.size w w') : MemIn w' q A n c R k d M fa fr L :=
  ⟨h.box.below b, h.ram.below b, h.rom.below b, h.new.keep (.of_below b), h.off⟩
theorem MemIn.setRam {w : World} {q : Nat} {b o n c : Nat} {R : Option Addr} {k d : Nat} {M : Mem} {fa fr : List Nat} {L : Nat} (h : MemIn w q (some ⟨b, o, none⟩) n c R k d M fa fr L) (hb : b ∈ fa) {p : Nat} (hp : p < n) (v : Int) :
    MemIn (w.setCell ⟨b, o + p, none⟩ (.int .i64 v)) q (some ⟨b, o, none⟩) n c R k d { M with ram := M.ram.set p v } fa fr L ∧ Only (q :: (fa ++ fr)) w (w.setCell ⟨b, o + p, none⟩ (.int .i64 v)) := by
  have o1 : Only fa w (w.setCell ⟨b, o + p, none⟩ (.int .i64 v)) := (Only.refl _ w).setCell (.inl hb) _
  have nd := List.nodup_append.1 h.new.once
  have hq : q ≠ b := fun e => h.off (List.mem_append_left _ (e ▸ hb))
  exact ⟨⟨h.box.far hq _, h.ram.set hp v, h.rom.keep (.of_only o1 fun x hx hy => nd.2.2 x hy x hx rfl), h.new.setCell _ _, h.off⟩, o1.mono fun x hx => List.mem_cons_of_mem _ (List.mem_append_left _ hx)⟩
theorem MemIn.setBank {w : World} {q : Nat} {A : Option Addr} {n c : Nat} {R : Option Addr} {k d : Nat} {M : Mem} {fa fr : List Nat} {L : Nat} (h : MemIn w q A n c R k d M fa fr L) (v : Int) :
    MemIn (w.setCell ⟨q, 2, none⟩ (.int .i64 v)) q A n c R k d { M with bank := v } fa fr L ∧ Only (q :: (fa ++ fr)) w (w.setCell ⟨q, 2, none⟩ (.int .i64 v)) := by
  have o1 : Only [q] w (w.setCell ⟨q, 2, none⟩ (.int .i64 v)) := (Only.refl _ w).setCell (.inl (by simp)) _
  have dd : ∀ y ∈ fa ++ fr, y ∉ [q] := fun y hy hs => by simp at hs; subst hs; exact h.off hy
  exact ⟨⟨h.box.set 2 _, h.ram.keep (.of_only o1 fun x hx => dd x (List.mem_append_left _ hx)), h.rom.keep (.of_only o1 fun x hx => dd x (List.mem_append_right _ hx)), h.new.setCell _ _, h.off⟩, o1.mono fun x hx => by simp at hx; simp [hx]⟩
theorem writeRam_any (q : Nat) (A : Option Addr) (n c : Nat) (R : Option Addr) (k d : Nat) (M : Mem) (fa fr : List Nat) (L p : Nat) (v : Int) (w : World) (h : MemIn w q A n c R k d M fa fr L) (hp : p < n) (hn : n ≤ 1000000000) :
    Calls Try.prog 65 #[.pointer (some ⟨q, 0, none⟩), .int .i64 p, .int .i64 v] w (Put q A n c R k d { M with ram := M.ram.set p v } fa fr L w) := by
  have H := Lib.hid h
  obtain ⟨b, o, rfl, hfa, hb, hc⟩ := h.ram.at_ (by omega)
  have HF := Lib.hid (show b ∈ fa by rw [hfa]; simp)
  have c1 := hc p hp
  have c2 := h.new.free b (List.mem_append_left _ HF.out) (o + p)
  have c3 : w.cell? ⟨q, 0, none⟩ = some (.slice (some ⟨b, o, none⟩) n c) := h.box.cell 0
  clear hc h hfa
  generalize M.ram.getD p 0 = x at c1
  go_enter Try.func65, Try.ntmps65
  go_wp2
  go_end0
  exact ⟨rfl, H.out.setRam HF.out hp v⟩
theorem writeNothing_any (q : Nat) (A : Option Addr) (n c : Nat) (R : Option Addr) (k d : Nat) (M : Mem) (fa fr : List Nat) (L : Nat) (p v : Int) (w : World) (h : MemIn w q A n c R k d M fa fr L) :
    Calls Try.prog 67 #[.pointer (some ⟨q, 0, none⟩), .int .i64 p, .int .i64 v] w (Put q A n c R k d M fa fr L w) := by
  have H := Lib.hid h
  clear h
  go_enter Try.func67, Try.ntmps67
  go_wp2
  go_end0
  exact ⟨rfl, H.out, Only.refl _ _⟩
theorem switchBank_any (q : Nat) (A : Option Addr) (n c : Nat) (R : Option Addr) (k d : Nat) (M : Mem) (fa fr : List Nat) (L : Nat) (p v : Int) (w : World) (h : MemIn w q A n c R k d M fa fr L) (hk : 1 ≤ k) (hk2 : k ≤ 1000000000) (v0 : 0 ≤ v) (v1 : v ≤ 255) :
    Calls Try.prog 69 #[.pointer (some ⟨q, 0, none⟩), .int .i64 p, .int .i64 v] w (Put q A n c R k d { M with bank := v % k } fa fr L w) := by
  have H := Lib.hid h
  have c1 : w.cell? ⟨q, 1, none⟩ = some (.slice R k d) := h.box.cell 1
  have c2 : w.cell? ⟨q, 2, none⟩ = some (.int .i64 M.bank) := h.box.cell 2
  have c3 := h.box.frozen 2
  have hz : ¬ k = 0 := by omega
  have hz2 : ((k : Int) == 0) = false := by simp; omega
  clear h
  go_enter Try.func69, Try.ntmps69
  go_wp2
  go_end0
  exact ⟨rfl, H.out.setBank _⟩
theorem writeAt_any (q : Nat) (A : Option Addr) (n c : Nat) (R : Option Addr) (k d : Nat) (M : Mem) (fa fr : List Nat) (L p : Nat) (v : Int) (w : World) (h : MemIn w q A n c R k d M fa fr L) (gd : Good M) (hp : p < 1024) (v0 : 0 ≤ v) (v1 : v ≤ 255) :
    Calls Try.prog 31 #[.pointer (some ⟨q, 0, none⟩), .int .i64 p, .int .i64 v] w (Put q A n c R k d (writeN M p v) fa fr L w) := by
  have H := Lib.hid h
  have hn : n = 256 := by have := h.ram.1; have := gd.ram; omega
  have HK := Lib.hid (show k = M.rom.length from h.rom.len.symm)
  have k1 : 1 ≤ k := by have := gd.one; have := HK.out; omega
  have k4 : k ≤ 4 := by have := gd.four; have := HK.out; omega
  subst hn
  have p0 : (0 : Int) ≤ p := by omega
  have p1 : (p : Int) < 1024 := by omega
  have hf1 := field_writeRam
  have hf2 := field_writeNothing
  have hf3 := field_switchBank
  clear h gd
  go_enter Try.func31, Try.ntmps31
  go_wp2_with fail
  by_cases a2 : p < 512
  · have HE := Lib.hid (show writeN M p v = { M with ram := M.ram.set (p % 256) v } by unfold writeN; rw [if_pos a2])
    refine (show Calls _ _ _ w (Found _ _ w) from (by
      by_cases a1 : p < 256
      · exact region_0 _ _ (by omega) (by omega)
      · exact region_1 _ _ (by omega) (by omega))).mono ?_
    rintro e w1 ⟨rfl, b1⟩
    have H1 := Lib.hid (H.out.below b1)
    have B1 := Lib.hid b1
    clear b1
    go_wp2_with fail
    rw [show ((p : Int) % 256) = ((p % 256 : Nat) : Int) by omega]
    refine (writeRam_any q A 256 c R k d M fa fr L (p % 256) v _ H1.out (by omega) (by omega)).mono ?_
    rintro e w2 ⟨rfl, m2, o2⟩
    have M2 := Lib.hid m2
    have O2 := Lib.hid o2
    clear m2 o2 hf1 hf2 hf3
    go_wp2_with fail
    go_end0
    exact ⟨rfl, by rw [HE.out]; exact M2.out, (Only.of_below B1.out).trans O2.out⟩
  · by_cases a3 : p < 768
    · have HE := Lib.hid (show writeN M p v = M by unfold writeN; rw [if_neg a2, if_pos a3])
      refine (region_2 _ _ (by omega) (by omega)).mono ?_
      rintro e w1 ⟨rfl, b1⟩
      have H1 := Lib.hid (H.out.below b1)
      have B1 := Lib.hid b1
      clear b1
      go_wp2_with fail
      refine (writeNothing_any q A 256 c R k d M fa fr L _ v _ H1.out).mono ?_
      rintro e w2 ⟨rfl, m2, o2⟩
      have M2 := Lib.hid m2
      have O2 := Lib.hid o2
      clear m2 o2 hf1 hf2 hf3
      go_wp2_with fail
      go_end0
      exact ⟨rfl, by rw [HE.out]; exact M2.out, (Only.of_below B1.out).trans O2.out⟩
    · have HE := Lib.hid (show writeN M p v = { M with bank := v % k } by unfold writeN; rw [if_neg a2, if_neg a3, HK.out])
      refine (region_3 _ _ (by omega) (by omega)).mono ?_
      rintro e w1 ⟨rfl, b1⟩
      have H1 := Lib.hid (H.out.below b1)
      have B1 := Lib.hid b1
      clear b1
      go_wp2_with fail
      refine (switchBank_any q A 256 c R k d M fa fr L _ v _ H1.out k1 (by omega) v0 v1).mono ?_
      rintro e w2 ⟨rfl, m2, o2⟩
      have M2 := Lib.hid m2
      have O2 := Lib.hid o2
      clear m2 o2 hf1 hf2 hf3
      go_wp2_with fail
      go_end0
      exact ⟨rfl, by rw [HE.out]; exact M2.out, (Only.of_below B1.out).trans O2.out⟩
end Go.Proofs.Ytbcibgfjdenheaa
