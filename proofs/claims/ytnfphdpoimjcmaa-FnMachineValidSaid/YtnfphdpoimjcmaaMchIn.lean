/- A machine that lies in memory of the call's own, to be changed in place: what storing into it leaves. -/
import Derived.Test.YtnfphdpoimjcmaaMchE
import Derived.Test.YtnfphdpoimjcmaaCelW
import Derived.Test.YtnfphdpoimjcmaaGrow
namespace Go.Proofs.Ytnfphdpoimjcmaa
open Go.ChangeShapes Go.WideShapes Go.ChangeAt Go.RowKit

structure MachIn (w : World) (q : Nat) (A : Option Addr) (c : Nat) (R : Option Addr) (d : Nat) (B : Option Addr) (g : Nat) (n k m : Nat) (X : Mach) (fa fr fb : List Nat) (L : Nat) : Prop where
  box : Box w q 28 [.slice A n c, .slice R k d, .int .i64 X.mem.bank, .int .i64 X.a, .int .i64 X.at_, .bool X.carry, .slice B m g, .bool X.stop, .int .i64 X.cyc]
  has : MHas w A n R k B m X fa fr fb
  new : New L w (fa ++ fr ++ fb)
  own : w.ownsRow L 3 1 (.slice B m g) m (iv X.back)
  sole : ∀ b, (Value.slice B m g).ownBlock = some b → b ≠ q ∧ b ∉ fa ++ fr
  off : q ∉ fa ++ fr ++ fb
  lo : L ≤ q
  cap : n ≤ c ∧ k ≤ d ∧ m ≤ g
/-- Some machine that is X lies in block q. -/
def MachHere (w : World) (q : Nat) (X : Mach) (L : Nat) : Prop :=
  ∃ (A : Option Addr) (c : Nat) (R : Option Addr) (d : Nat) (B : Option Addr) (g n k m : Nat) (fa fr fb : List Nat), MachIn w q A c R d B g n k m X fa fr fb L
/-- What a change in place leaves. -/
def Did (q : Nat) (X : Mach) (L : Nat) (w : World) (e : Ending) (w' : World) : Prop := e = .returned (.tuple #[]) ∧ MachHere w' q X L ∧ Below L w w'
theorem MachIn.here {w : World} {q : Nat} {A : Option Addr} {c : Nat} {R : Option Addr} {d : Nat} {B : Option Addr} {g n k m : Nat} {X : Mach} {fa fr fb : List Nat} {L : Nat} (h : MachIn w q A c R d B g n k m X fa fr fb L) : MachHere w q X L :=
  ⟨_, _, _, _, _, _, _, _, _, _, _, _, h⟩
theorem MachIn.lt {w : World} {q : Nat} {A : Option Addr} {c : Nat} {R : Option Addr} {d : Nat} {B : Option Addr} {g n k m : Nat} {X : Mach} {fa fr fb : List Nat} {L : Nat} (h : MachIn w q A c R d B g n k m X fa fr fb L) : L ≤ w.heap.size := by
  have := h.lo; have := h.box.lt; omega
theorem MachIn.below {w w' : World} {q : Nat} {A : Option Addr} {c : Nat} {R : Option Addr} {d : Nat} {B : Option Addr} {g n k m : Nat} {X : Mach} {fa fr fb : List Nat} {L : Nat} (h : MachIn w q A c R d B g n k m X fa fr fb L) (b : Below w.heap.size w w') : MachIn w' q A c R d B g n k m X fa fr fb L :=
  ⟨h.box.below b, h.has.below b, h.new.keep (.of_below b), own_keep h.own b, h.sole, h.off, h.lo, h.cap⟩
theorem MachHere.below {w w' : World} {q : Nat} {X : Mach} {L : Nat} (h : MachHere w q X L) (b : Below w.heap.size w w') : MachHere w' q X L := by
  obtain ⟨_, _, _, _, _, _, _, _, _, _, _, _, h⟩ := h
  exact (h.below b).here
/-- A cell of the struct itself, stored: no slice. -/
theorem MachIn.store {w : World} {q : Nat} {A : Option Addr} {c : Nat} {R : Option Addr} {d : Nat} {B : Option Addr} {g n k m : Nat} {X : Mach} {fa fr fb : List Nat} {L : Nat} (h : MachIn w q A c R d B g n k m X fa fr fb L) (i : Nat) (v : Value) (Y : Mach)
    (hc : ([.slice A n c, .slice R k d, .int .i64 X.mem.bank, .int .i64 X.a, .int .i64 X.at_, .bool X.carry, .slice B m g, .bool X.stop, .int .i64 X.cyc] : List Value).set i v = [.slice A n c, .slice R k d, .int .i64 Y.mem.bank, .int .i64 Y.a, .int .i64 Y.at_, .bool Y.carry, .slice B m g, .bool Y.stop, .int .i64 Y.cyc]) (h1 : Y.mem.ram = X.mem.ram) (h2 : Y.mem.rom = X.mem.rom) (h3 : Y.back = X.back) : MachIn (w.setCell ⟨q, i, none⟩ v) q A c R d B g n k m Y fa fr fb L := by
  have o1 : Only [q] w (w.setCell ⟨q, i, none⟩ v) := (Only.refl _ w).setCell (.inl (by simp)) _
  have dd : ∀ y ∈ fa ++ fr ++ fb, y ∉ [q] := fun y hy hs => by simp at hs; subst hs; exact h.off hy
  have hk := h.has.keep (.of_only o1 dd)
  refine ⟨by have := h.box.set i v; rw [hc] at this; exact this, ⟨by rw [h1]; exact hk.ram, by rw [h2]; exact hk.rom, by rw [h3]; exact hk.back⟩, h.new.cellSet _ _, ?_, h.sole, h.off, h.lo, h.cap⟩
  rw [h3]
  exact own_only h.own o1 fun b hb e => by simp at hb; exact (h.sole b e).1 hb
theorem MachIn.stored {w : World} {q : Nat} {A : Option Addr} {c : Nat} {R : Option Addr} {d : Nat} {B : Option Addr} {g n k m : Nat} {X : Mach} {fa fr fb : List Nat} {L : Nat} (h : MachIn w q A c R d B g n k m X fa fr fb L) (i : Nat) (v : Value) : Below L w (w.setCell ⟨q, i, none⟩ v) :=
  (Below.refl L w).setCell h.lo v
/-- The memory at its head, by itself. -/
theorem MachIn.cel {w : World} {q : Nat} {A : Option Addr} {c : Nat} {R : Option Addr} {d : Nat} {B : Option Addr} {g n k m : Nat} {X : Mach} {fa fr fb : List Nat} {L : Nat} (h : MachIn w q A c R d B g n k m X fa fr fb L) :
    CelIn w q 28 [.int .i64 X.a, .int .i64 X.at_, .bool X.carry, .slice B m g, .bool X.stop, .int .i64 X.cyc] A n c R k d X.mem fa fr L :=
  ⟨h.box, h.has.ram, h.has.rom, ⟨(List.nodup_append.1 h.new.once).1, fun b hb => h.new.lt b (List.mem_append_left _ hb), fun b hb => h.new.free b (List.mem_append_left _ hb)⟩, fun hq => h.off (List.mem_append_left _ hq)⟩
/-- The memory at its head, changed. -/
theorem MachIn.put {w w' : World} {q : Nat} {A : Option Addr} {c : Nat} {R : Option Addr} {d : Nat} {B : Option Addr} {g n k m : Nat} {X : Mach} {fa fr fb : List Nat} {L : Nat} (h : MachIn w q A c R d B g n k m X fa fr fb L) {M : Mem}
    (hm : CelIn w' q 28 [.int .i64 X.a, .int .i64 X.at_, .bool X.carry, .slice B m g, .bool X.stop, .int .i64 X.cyc] A n c R k d M fa fr L) (o : Only (q :: (fa ++ fr)) w w') :
    MachIn w' q A c R d B g n k m { X with mem := M } fa fr fb L ∧ Below L w w' := by
  have nd := List.nodup_append.1 h.new.once
  have db : ∀ x ∈ fb, x ∉ q :: (fa ++ fr) := fun x hx hy => by
    rcases List.mem_cons.1 hy with rfl | hy
    · exact h.off (List.mem_append_right _ hx)
    · exact nd.2.2 x hy x hx rfl
  have sb : Same fb w w' := .of_only o db
  refine ⟨⟨hm.box, ⟨hm.ram, hm.rom, h.has.back.keep sb⟩, hm.new.append ⟨nd.2.1, fun b hb => ⟨(h.new.lt b (List.mem_append_right _ hb)).1, Nat.lt_of_lt_of_le (h.new.lt b (List.mem_append_right _ hb)).2 o.size⟩, fun b hb i => (World.frozen?_of_block (a := ⟨b, i, none⟩) (sb.2 b hb (h.new.lt b (List.mem_append_right _ hb)).2)).trans (h.new.free b (List.mem_append_right _ hb) i)⟩ (fun x hx hy => nd.2.2 x hx x hy rfl), ?_, h.sole, h.off, h.lo, h.cap⟩, ?_⟩
  · refine own_only h.own o fun b hb e => ?_
    have := h.sole b e
    rcases List.mem_cons.1 hb with rfl | hb
    · exact this.1 rfl
    · exact this.2 hb
  · refine o.below (fun b hb => ?_) h.lt
    rcases List.mem_cons.1 hb with rfl | hb
    · exact h.lo
    · exact (hm.new.lt b hb).1
/-- The return addresses replaced: another row of the call's own. -/
theorem MachIn.rest {w w' : World} {q : Nat} {A : Option Addr} {c : Nat} {R : Option Addr} {d : Nat} {B : Option Addr} {g n k m : Nat} {X : Mach} {fa fr fb : List Nat} {L : Nat} (h : MachIn w q A c R d B g n k m X fa fr fb L) {B' : Option Addr} {g' m' : Nat} {xs : List Int} {S : List Nat}
    (ho : w'.ownsRow L 3 1 (.slice B' m' g') m' (iv xs)) (o : Only S w w') (hS : ∀ b ∈ S, (Value.slice B m g).ownBlock = some b) (hat : ∀ b, (Value.slice B' m' g').ownBlock = some b → (Value.slice B m g).ownBlock = some b ∨ w.heap.size ≤ b) :
    MachHere (w'.setCell ⟨q, 6, none⟩ (.slice B' m' g')) q { X with back := xs } L ∧ Below L w (w'.setCell ⟨q, 6, none⟩ (.slice B' m' g')) := by
  obtain ⟨B2, g2, fp, ev, hc, _, hi, hn, hown⟩ := own_ints ho
  injection ev with e1 e2 e3
  subst e1; subst e3
  have o2 : Only [q] w' (w'.setCell ⟨q, 6, none⟩ (.slice B' m' g')) := (Only.refl _ w').setCell (.inl (by simp)) _
  have hq := h.box.lt
  have s1 : ∀ x ∈ fa ++ fr, x ∉ S := fun x hx hs => (h.sole x (hS x hs)).2 hx
  have qS : q ∉ S := fun hs => (h.sole q (hS q hs)).1 rfl
  have s2 : ∀ x ∈ fa ++ fr, x ∉ [q] := fun x hx hs => by simp at hs; subst hs; exact h.off (List.mem_append_left _ hx)
  have pq : ∀ x ∈ fp, x ≠ q := fun x hx e => by
    rcases hat x (hown x hx) with hb | hb
    · exact (h.sole x hb).1 e
    · omega
  have s3 : ∀ x ∈ fp, x ∉ [q] := fun x hx hs => by simp at hs; exact pq x hx hs
  have k1 : Same (fa ++ fr) w (w'.setCell ⟨q, 6, none⟩ (.slice B' m' g')) := by
    refine .of_only ((o.mono (T := S ++ [q]) fun x hx => List.mem_append_left _ hx).trans (o2.mono fun x hx => List.mem_append_right _ hx)) fun x hx hs => ?_
    rcases List.mem_append.1 hs with hs | hs
    · exact s1 x hx hs
    · exact s2 x hx hs
  have dis : ∀ x ∈ fa ++ fr, x ∉ fp := fun x hx hy => by
    rcases hat x (hown x hy) with hb | hb
    · exact (h.sole x hb).2 hx
    · have := (h.new.lt x (List.mem_append_left _ hx)).2; omega
  have nw : New L w (fa ++ fr) := ⟨(List.nodup_append.1 h.new.once).1, fun b hb => h.new.lt b (List.mem_append_left _ hb), fun b hb => h.new.free b (List.mem_append_left _ hb)⟩
  refine ⟨⟨A, c, R, d, B', g', n, k, m', fa, fr, fp, (h.box.only o qS).set 6 _, ⟨h.has.ram.keep (k1.sub fun x hx => List.mem_append_left _ hx), h.has.rom.keep (k1.sub fun x hx => List.mem_append_right _ hx), hi.keep (.of_only o2 s3)⟩, (nw.keep k1).append (hn.keep (.of_only o2 s3)) dis, own_only ho o2 (fun b hb e => ?_), fun b hb => ?_, fun hx => ?_, h.lo, h.cap.1, h.cap.2.1, hc⟩, ?_⟩
  · simp at hb
    subst hb
    rcases hat _ e with hb | hb
    · exact (h.sole _ hb).1 rfl
    · omega
  · rcases hat b hb with hb' | hb'
    · exact h.sole b hb'
    · exact ⟨by omega, fun hx => by have := (h.new.lt b (List.mem_append_left _ hx)).2; omega⟩
  · rcases List.mem_append.1 hx with hx | hx
    · exact h.off (List.mem_append_left _ hx)
    · exact pq _ hx rfl
  · exact (o.below (fun b hb => (own_lt h.own b (hS b hb)).1) h.lt).setCell h.lo _
theorem ints_one {w : World} {b : Nat} {t : TypeId} {x : Int} (h : Box w b t [.int .i64 x]) : Ints w (some ⟨b, 0, none⟩) 1 [x] [b] :=
  ⟨rfl, .inr ⟨by omega, b, 0, rfl, rfl, h.lt, fun i hi => by obtain rfl : i = 0 := (by omega); exact h.cell 0⟩⟩
/-- The first of the own row's cells, as a shorter row. -/
theorem own_take {w : World} {L m g : Nat} {B : Option Addr} {xs : List Int} (h : w.ownsRow L 3 1 (.slice B m g) m (iv xs)) (k : Nat) (hk : k ≤ m) : w.ownsRow L 3 1 (.slice B k g) k (iv (xs.take k)) := by
  obtain ⟨hl, ⟨e, e2⟩ | ⟨b, cap, cur, e, hb, hc, h1, h2, h3, h4⟩⟩ := h
  · injection e with e3 e4 e5
    subst e3; subst e4; subst e5
    obtain rfl : k = 0 := by omega
    exact ⟨by simp [iv], .inl ⟨rfl, rfl⟩⟩
  · injection e with e3 e4 e5
    subst e3; subst e5
    refine ⟨by simp [iv] at hl ⊢; omega, .inr ⟨b, g, cur, rfl, hb, hc, by omega, h2, h3, ?_⟩⟩
    simp only [Nat.mul_one] at h4 ⊢
    have e6 : iv (xs.take k) = (iv xs).take k := by simp [iv]
    rw [e6, ← h4, List.take_take, Nat.min_eq_left hk]
end Go.Proofs.Ytnfphdpoimjcmaa
