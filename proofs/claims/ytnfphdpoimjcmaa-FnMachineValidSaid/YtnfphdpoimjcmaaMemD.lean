/- A drawn memory. -/
import Derived.Test.YtnfphdpoimjcmaaPlaceD
import Derived.Test.YtnfphdpoimjcmaaMemT
import Derived.Deep.RegionWith
namespace Go.Proofs.Ytnfphdpoimjcmaa
open Go.ChangeShapes Go.WideShapes Go.ChangeAt Go.RowKit

/-- What drawing a memory leaves. -/
def MemDrawn (q m : Nat) (w : World) (e : Ending) (w' : World) : Prop :=
  ∃ (A : Option Addr) (n c : Nat) (R : Option Addr) (k d : Nat) (M : Mem) (fa fr : List Nat), e = .returned (.agg #[.slice A n c, .slice R k d, .int .i64 M.bank]) ∧ n ≤ c ∧ k ≤ d ∧ Ints w' A n M.ram fa ∧ Grid w' R k M.rom fr ∧ New w.heap.size w' (fa ++ fr) ∧ Small M 256 ∧ Only [q] w w' ∧ Rd w' q (m + 800)
theorem MemIn.other {w w' : World} {q s : Nat} {A : Option Addr} {n c : Nat} {R : Option Addr} {k d : Nat} {M : Mem} {fa fr : List Nat} {L : Nat} (h : MemIn w q A n c R k d M fa fr L) (o : Only [s] w w') (hs : s < L) (hq : s ≠ q) : MemIn w' q A n c R k d M fa fr L := by
  have dd : ∀ y ∈ fa ++ fr, y ∉ [s] := fun y hy e => by have := (h.new.lt y hy).1; simp at e; omega
  have sm : Same (fa ++ fr) w w' := .of_only o dd
  exact ⟨h.box.only o (by simp; omega), h.ram.keep (sm.sub fun x hx => List.mem_append_left _ hx), h.rom.keep (sm.sub fun x hx => List.mem_append_right _ hx), h.new.keep sm, h.off⟩
/-- The state of a drawn memory in the making: the memory M in block b, the result's block r, the reader asked c times. -/
structure Mk (w wr : World) (q c b : Nat) (A : Option Addr) (d1 : Nat) (R : Option Addr) (k d : Nat) (M : Mem) (fa fr : List Nat) (L : Nat) (rs : List (List Int)) : Prop where
  mem : MemIn wr b A 256 d1 R k d M fa fr L
  ram : M.ram.length = 256
  rom : M.rom = rs
  res : Box wr w.heap.size 26 [.slice none 0 0, .slice none 0 0, .int .i64 0]
  only : Only [q] w wr
  rd : Rd wr q c
  lo : w.heap.size < L ∧ L ≤ b
  q : q < w.heap.size
theorem Mk.other {w wr w' : World} {q c c' b : Nat} {A : Option Addr} {d1 : Nat} {R : Option Addr} {k d : Nat} {M : Mem} {fa fr : List Nat} {L : Nat} {rs : List (List Int)} (h : Mk w wr q c b A d1 R k d M fa fr L rs) (o : Only [q] wr w') (r : Rd w' q c') : Mk w w' q c' b A d1 R k d M fa fr L rs := by
  have hq := h.q
  have lo := h.lo
  exact ⟨h.mem.other o (by omega) (by omega), h.ram, h.rom, h.res.only o (by simp; omega), h.only.trans o, r, h.lo, h.q⟩
theorem Mk.set {w wr : World} {q c b : Nat} {o g d1 : Nat} {R : Option Addr} {k d : Nat} {M : Mem} {fa fr : List Nat} {L : Nat} {rs : List (List Int)} (h : Mk w wr q c b (some ⟨g, o, none⟩) d1 R k d M fa fr L rs) (hg : g ∈ fa) {u : Nat} (hu : u < 256) (x : Int) : Mk w (wr.setCell ⟨g, o + u, none⟩ (.int .i64 x)) q c b (some ⟨g, o, none⟩) d1 R k d { M with ram := M.ram.set u x } fa fr L rs := by
  have hq := h.q
  have lo := h.lo
  have hL := (h.mem.new.lt g (List.mem_append_left _ hg)).1
  exact ⟨(h.mem.setRam hg hu x).1, by simpa using h.ram, h.rom, h.res.far (by omega) _, h.only.setCell (.inr (by omega)) _, h.rd.far (by omega) _, h.lo, h.q⟩
theorem ram_cell' {w : World} {b o : Nat} {xs : List Int} {fp : List Nat} (h : Ints w (some ⟨b, o, none⟩) 256 xs fp) {u : Int} (h0 : 0 ≤ u) (h1 : u ≤ 255) : w.cell? ⟨b, o + u.toNat, none⟩ = some (.int .i64 (xs.getD u.toNat 0)) := by
  obtain ⟨b', o', he, _, _, hc⟩ := h.at_ (by omega)
  injection he with he
  injection he with h1 h2 _
  subst h1 h2
  exact hc u.toNat (by omega)
theorem twoC (v x0 x1 lo hi : Int) (d0 : 0 ≤ v) (d1 : v < 2) (a0 : lo ≤ x0 ∧ x0 ≤ hi) (a1 : lo ≤ x1 ∧ x1 ≤ hi) : ∃ u : Int, (#[Value.int .i64 x0, .int .i64 x1] : Array Value)[v.toNat]? = some (.int .i64 u) ∧ (∀ h : v.toNat < ([Value.int .i64 x0, .int .i64 x1] : List Value).length, ([Value.int .i64 x0, .int .i64 x1] : List Value)[v.toNat]'h = .int .i64 u) ∧ lo ≤ u ∧ u ≤ hi := by
  have h : v = 0 ∨ v = 1 := by omega
  rcases h with rfl | rfl
  · exact ⟨_, rfl, fun _ => rfl, a0⟩
  · exact ⟨_, rfl, fun _ => rfl, a1⟩
theorem new_good {rs : List (List Int)} {k : Nat} (hl : rs.length = k) (h1 : 1 ≤ k) (h3 : k ≤ 3) (hb : ∀ i, i < k → bankB (rs.getD i []) = true) : newM rs = ⟨zeros, rs, 0⟩ := by
  have hv : validB ⟨zeros, rs, 0⟩ = true := by
    apply valid_of
    refine ⟨zeros_len, fun i hi => by rw [zeros_at i hi]; omega, by show 1 ≤ rs.length; omega, by show rs.length ≤ 4; omega, fun i hi => (bankB_yes (hb i (by simp at hi; omega))).1, fun i hi => (bankB_yes (hb i (by simp at hi; omega))).2, by simp, by show (0 : Int) < rs.length; omega⟩
  simp [newM, hv]
end Go.Proofs.Ytnfphdpoimjcmaa
