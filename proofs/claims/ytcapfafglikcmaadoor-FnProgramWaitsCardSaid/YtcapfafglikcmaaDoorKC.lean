import Derived.Test.YtcapfafglikcmaaDoorKA
import Derived.Test.YtcapfafglikcmaaDoorKB
import Derived.Deep.RegionHeld3

section
/- Instructions as the draws make them: their bytes are bytes, at most three. -/
namespace Go.Proofs.YtcapfafglikcmaaDoor
open Go.ChangeShapes Go.WideShapes Go.ChangeAt Go.RowKit

/-- The length of an operation's instruction. -/
def lenN (op : Int) : Int := if betB op 0 15 = true then (#[1, 2, 3, 3, 3, 3, 3, 3, 1, 1, 3, 3, 3, 3, 1, 1] : Array Int).getD op.toNat 0 else 0
theorem lenN_bd (op : Int) : 0 ≤ lenN op ∧ lenN op ≤ 3 := by
  unfold lenN
  split
  · rename_i h
    obtain ⟨h0, h1⟩ := betB_yes h
    have hc : op = 0 ∨ op = 1 ∨ op = 2 ∨ op = 3 ∨ op = 4 ∨ op = 5 ∨ op = 6 ∨ op = 7 ∨ op = 8 ∨ op = 9 ∨ op = 10 ∨ op = 11 ∨ op = 12 ∨ op = 13 ∨ op = 14 ∨ op = 15 := by omega
    rcases hc with rfl | rfl | rfl | rfl | rfl | rfl | rfl | rfl | rfl | rfl | rfl | rfl | rfl | rfl | rfl | rfl <;> decide
  · omega
theorem len_lit (op : Int) (h0 : 0 ≤ op) (h1 : op ≤ 15) : (#[Value.int .i64 1, .int .i64 2, .int .i64 3, .int .i64 3, .int .i64 3, .int .i64 3, .int .i64 3, .int .i64 3, .int .i64 1, .int .i64 1, .int .i64 3, .int .i64 3, .int .i64 3, .int .i64 3, .int .i64 1, .int .i64 1] : Array Value)[op.toNat]? = some (.int .i64 (lenN op)) := by
  have hc : op = 0 ∨ op = 1 ∨ op = 2 ∨ op = 3 ∨ op = 4 ∨ op = 5 ∨ op = 6 ∨ op = 7 ∨ op = 8 ∨ op = 9 ∨ op = 10 ∨ op = 11 ∨ op = 12 ∨ op = 13 ∨ op = 14 ∨ op = 15 := by omega
  rcases hc with rfl | rfl | rfl | rfl | rfl | rfl | rfl | rfl | rfl | rfl | rfl | rfl | rfl | rfl | rfl | rfl <;> rfl
theorem spec_len (op : Int) (w : World) : Calls Tryd.prog 63 #[.int .i64 op] w fun e w' => e = .returned (.int .i64 (lenN op)) ∧ Below w.heap.size w w' := by
  by_cases h : betB op 0 15 = true
  · have HB := Lib.hid h
    obtain ⟨h0, h1⟩ := betB_yes h
    clear h
    have c1 := World.cell?_alloc_new w (#[Value.int .i64 1, .int .i64 2, .int .i64 3, .int .i64 3, .int .i64 3, .int .i64 3, .int .i64 3, .int .i64 3, .int .i64 1, .int .i64 1, .int .i64 3, .int .i64 3, .int .i64 3, .int .i64 3, .int .i64 1, .int .i64 1]) 3 op.toNat
    rw [len_lit op h0 h1] at c1
    go_enter Tryd.func63, Tryd.ntmps63
    go_wp2_with fail
    refine (l1In_any _ _ _ _).mono ?_; rintro e w' ⟨rfl, rfl⟩
    rw [HB.out]
    go_wp2_with fail
    go_ret
    exact ⟨rfl, below1 w _⟩
  · have HB := Lib.hid (show betB op 0 15 = false by simpa using h)
    have HE := Lib.hid (show lenN op = 0 by simp [lenN, h])
    clear h
    go_enter Tryd.func63, Tryd.ntmps63
    go_wp2_with fail
    refine (l1In_any _ _ _ _).mono ?_; rintro e w' ⟨rfl, rfl⟩
    rw [HB.out]
    go_wp2_with fail
    go_ret
    exact ⟨ret_int HE.out.symm, Below.refl _ _⟩
def ordB (op arg : Int) : Bool := if lenN op = 1 then decide (arg = 0) else if lenN op = 2 then byteB arg else if lenN op = 3 then addrB arg else false
theorem spec_ordValid (op arg : Int) (w : World) : Calls Tryd.prog 99 #[.agg #[.int .i64 op, .int .i64 arg]] w fun e w' => e = .returned (.bool (ordB op arg)) ∧ Below w.heap.size w w' := by
  obtain ⟨l0, l1⟩ := lenN_bd op
  have HO := Lib.hid (show ordB op arg = if lenN op = 1 then decide (arg = 0) else if lenN op = 2 then byteB arg else if lenN op = 3 then addrB arg else false from rfl)
  generalize hL : lenN op = L at l0 l1 HO
  have HL := Lib.hid hL
  clear hL
  go_enter Tryd.func99, Tryd.ntmps99
  go_wp2_with fail
  refine (spec_len _ _).mono ?_; rintro e w1 ⟨rfl, b1⟩
  rw [HL.out]
  have X1 : Hid (Box w1 w.heap.size _ [.int .i64 op, .int .i64 arg]) := (Box.new w _ _).below b1
  have B1 : Hid (Below w.heap.size w w1) := (below1 w _).trans (b1.mono (by simp))
  clear b1
  have c1 : w1.cell? ⟨w.heap.size, 1, none⟩ = some (.int .i64 arg) := X1.out.cell 1
  have hc : L = 0 ∨ L = 1 ∨ L = 2 ∨ L = 3 := by omega
  rcases hc with rfl | rfl | rfl | rfl
  · have HE := Lib.hid (show ordB op arg = false by rw [HO.out]; rfl)
    clear l0 l1 HO
    go_wp2_with fail
    go_ret
    exact ⟨ret_bool HE.out.symm, B1.out⟩
  · by_cases ha : arg = 0
    · subst ha
      have HE := Lib.hid (show ordB op 0 = true by rw [HO.out]; rfl)
      clear l0 l1 HO
      go_wp2_with fail
      go_ret
      exact ⟨ret_bool HE.out.symm, B1.out⟩
    · have HE := Lib.hid (show ordB op arg = false by rw [HO.out, if_pos rfl]; simp [ha])
      have hq : (arg == 0) = false := by simpa using ha
      clear l0 l1 HO ha
      go_wp2_with fail
      go_ret
      exact ⟨ret_bool HE.out.symm, B1.out⟩
  · have HE := Lib.hid (show ordB op arg = byteB arg by rw [HO.out]; rfl)
    clear l0 l1 HO
    go_wp2_with fail
    refine (l1Byte_any _ _).mono ?_; rintro e w' ⟨rfl, rfl⟩
    by_cases hb : byteB arg = true
    · have HB := Lib.hid hb
      clear hb
      rw [HB.out]
      go_wp2_with fail
      go_ret
      exact ⟨ret_bool (by rw [HE.out, HB.out]), B1.out⟩
    · have HB := Lib.hid (show byteB arg = false by simpa using hb)
      clear hb
      rw [HB.out]
      go_wp2_with fail
      go_ret
      exact ⟨ret_bool (by rw [HE.out, HB.out]), B1.out⟩
  · have HE := Lib.hid (show ordB op arg = addrB arg by rw [HO.out]; rfl)
    clear l0 l1 HO
    go_wp2_with fail
    refine (l1In_any _ _ _ _).mono ?_; rintro e w' ⟨rfl, rfl⟩
    go_wp2_with fail
    go_ret
    exact ⟨ret_bool HE.out.symm, B1.out⟩
/-- The bytes of an instruction. -/
def ordN (op arg : Int) : List Int := if ordB op arg = true then ([op, arg % 256, arg / 256] : List Int).take (lenN op).toNat else []
theorem ordB_len {op arg : Int} (h : ordB op arg = true) : 1 ≤ lenN op ∧ 0 ≤ op ∧ op ≤ 15 ∧ 0 ≤ arg ∧ arg ≤ 1023 := by
  have hb : betB op 0 15 = true := by
    by_cases hb : betB op 0 15 = true
    · exact hb
    · have : lenN op = 0 := by simp [lenN, hb]
      simp [ordB, this] at h
  obtain ⟨h0, h1⟩ := betB_yes hb
  unfold ordB at h
  split at h
  · rename_i hl; simp at h; subst h; omega
  · split at h
    · rename_i hl; have := byteB_yes h; omega
    · split at h
      · rename_i hl; have := addrB_yes h; omega
      · cases h
theorem ordN_bytes (op arg : Int) : (ordN op arg).length ≤ 3 ∧ ∀ i, i < (ordN op arg).length → byteB ((ordN op arg).getD i 0) = true := by
  unfold ordN
  split
  · rename_i h
    obtain ⟨h1, h2, h3, h4, h5⟩ := ordB_len h
    have hl := lenN_bd op
    refine ⟨by simp; omega, fun i hi => ?_⟩
    have hi3 : i < 3 ∧ i < (lenN op).toNat := by simp at hi; omega
    have e : (([op, arg % 256, arg / 256] : List Int).take (lenN op).toNat).getD i 0 = ([op, arg % 256, arg / 256] : List Int).getD i 0 := by
      simp only [List.getD_eq_getElem?_getD, List.getElem?_take, if_pos hi3.2]
    rw [e]
    have hc : i = 0 ∨ i = 1 ∨ i = 2 := by omega
    rcases hc with rfl | rfl | rfl
    · exact byteB_mk (by simp; omega) (by simp; omega)
    · exact byteB_mk (by simp; omega) (by simp; omega)
    · exact byteB_mk (by simp; omega) (by simp; omega)
  · exact ⟨by simp, by simp⟩
theorem cell_new {w1 : World} {b i : Nat} {y : Value} {o : Obj} (h : w1.cell? ⟨b, i, none⟩ = some y) : (w1.alloc o).drew.cell? ⟨b, i, none⟩ = some y := by
  show (w1.alloc o).cell? _ = _
  rw [World.cell?_alloc_lt _ _ _ (World.block_lt_of_cell? _ _ h)]; exact h
/-- A literal of three numbers, cut. -/
theorem copied_lit {w w2 : World} {g L : Nat} {t : TypeId} {x0 x1 x2 : Int} (h : Box w2 g t [.int .i64 x0, .int .i64 x1, .int .i64 x2]) (hg : w.heap.size ≤ g) (h1 : 1 ≤ L) (h3 : L ≤ 3) (b : Below w.heap.size w w2) :
    Copied (([x0, x1, x2] : List Int).take L) L w (.returned (.slice (some ⟨g, 0, none⟩) L 3)) w2 := by
  refine ⟨_, 3, [g], rfl, h3, ⟨by simp; omega, .inr ⟨by omega, g, 0, rfl, rfl, h.lt, fun i hi => ?_⟩⟩, .one hg h.lt h.frozen, b⟩
  have e : (([x0, x1, x2] : List Int).take L).getD i 0 = ([x0, x1, x2] : List Int).getD i 0 := by
    simp only [List.getD_eq_getElem?_getD, List.getElem?_take, if_pos hi]
  rw [e, Nat.zero_add, h.cell i]
  have hc : i = 0 ∨ i = 1 ∨ i = 2 := by omega
  rcases hc with rfl | rfl | rfl <;> rfl
theorem spec_ordBytes (op arg : Int) (w : World) : Calls Tryd.prog 97 #[.agg #[.int .i64 op, .int .i64 arg]] w (Copied (ordN op arg) (ordN op arg).length w) := by
  go_enter Tryd.func97, Tryd.ntmps97
  go_wp2_with fail
  refine (spec_ordValid _ _ _).mono ?_; rintro e w1 ⟨rfl, b1⟩
  have X1 : Hid (Box w1 w.heap.size 61 [.int .i64 op, .int .i64 arg]) := (Box.new w _ _).below b1
  have B1 : Hid (Below w.heap.size w w1) := (below1 w _).trans (b1.mono (by simp))
  clear b1
  by_cases hv : ordB op arg = true
  · have HV := Lib.hid hv
    obtain ⟨v1, v2, v3, v4, v5⟩ := ordB_len hv
    obtain ⟨v6, v7⟩ := lenN_bd op
    have HN := Lib.hid (show ordN op arg = ([op, arg % 256, arg / 256] : List Int).take (lenN op).toNat by simp [ordN, hv])
    clear hv
    rw [HV.out]
    have c0 : w1.cell? ⟨w.heap.size, 0, none⟩ = some (.int .i64 op) := X1.out.cell 0
    have c1 : w1.cell? ⟨w.heap.size, 1, none⟩ = some (.int .i64 arg) := X1.out.cell 1
    go_wp2_with fail
    generalize hL : lenN op = L at v1 v6 v7 HN
    have HL := Lib.hid hL
    clear hL
    have X1d : Hid (Box w1.drew w.heap.size 61 [.int .i64 op, .int .i64 arg]) := X1.out
    have K1 : Hid (w1.drew.cell? ⟨w.heap.size, 0, none⟩ = some (.int .i64 op) ∧ w1.drew.cell? ⟨w.heap.size, 1, none⟩ = some (.int .i64 arg)) := ⟨c0, c1⟩
    have z1 : w.heap.size < w1.heap.size := X1.out.lt
    have y1 : arg.tmod 256 = arg % 256 := Int.tmod_eq_emod_of_nonneg v4
    have y2 : IntKind.i64.wrap (arg.tdiv 256) = arg / 256 := by rw [Int.tdiv_eq_ediv_of_nonneg v4]; exact IntWalk.i64_in _ (by omega)
    go_region_held3 (fun w' => w'.cell? ⟨w.heap.size, 0, none⟩ = some (.int .i64 op) ∧ w'.cell? ⟨w.heap.size, 1, none⟩ = some (.int .i64 arg))
      (first
        | (with_reducible exact K1.out)
        | (with_reducible exact K2.out)
        | go_keep)
      (first
        | (go_at_call 63; refine (spec_len _ _).mono ?_; rintro e w2 ⟨rfl, b2⟩; rw [HL.out]; have K2 : Hid (w2.cell? ⟨w.heap.size, 0, none⟩ = some (.int .i64 op) ∧ w2.cell? ⟨w.heap.size, 1, none⟩ = some (.int .i64 arg)) := ⟨(b2.cell (by simp; omega)).trans (by first | exact c0 | exact cell_new c0), (b2.cell (by simp; omega)).trans (by first | exact c1 | exact cell_new c1)⟩; have HB2 := Lib.hid b2; clear b2))
    · have E2 : Hid (Box w2 w1.heap.size 3 [.int .i64 op, .int .i64 (arg % 256), .int .i64 (arg / 256)]) := (show Box (w1.alloc (.cells #[.int .i64 op, .int .i64 (arg % 256), .int .i64 (arg / 256)] 3)).drew w1.heap.size 3 [.int .i64 op, .int .i64 (arg % 256), .int .i64 (arg / 256)] from Box.new w1 _ _).below HB2.out
      have B2 : Hid (Below w.heap.size w w2) := (B1.out.alloc B1.out.size _).drew.trans (HB2.out.mono (by have := B1.out.size; simp; omega))
      clear y1 y2 c0 c1
      go_wp2
      go_ret
      rw [HN.out, show (([op, arg % 256, arg / 256] : List Int).take L.toNat).length = L.toNat by simp; omega]
      exact copied_lit E2.out B1.out.size (by omega) (by omega) B2.out
    · have B2 : Hid (Below w.heap.size w w2) := B1.out.drew.trans (HB2.out.mono B1.out.size)
      clear y1 y2 c0 c1
      go_wp2
      go_ret
      rw [HN.out, show (([op, arg % 256, arg / 256] : List Int).take L.toNat).length = L.toNat by simp; omega]
      exact copied_lit (Box.new w2 _ _) B2.out.size (by omega) (by omega) (B2.out.alloc B2.out.size _)
  · have HV := Lib.hid (show ordB op arg = false by simpa using hv)
    have HN := Lib.hid (show ordN op arg = [] by simp [ordN, hv])
    clear hv
    rw [HV.out]
    go_wp2_with fail
    go_ret
    rw [HN.out]
    exact ⟨_, 0, [], rfl, Nat.le_refl _, .nil _ _, .nil _ _, B1.out.alloc B1.out.size _⟩
end Go.Proofs.YtcapfafglikcmaaDoor
end

section
/- A drawn instruction. -/
namespace Go.Proofs.YtcapfafglikcmaaDoor
open Go.ChangeShapes Go.WideShapes Go.ChangeAt Go.RowKit

theorem Sole.only {q : Nat} {w w' : World} (h : Sole q w w') : Only [q] w w' := ⟨h.os, h.tape, h.output, h.size, fun k hk hn => h.block k hk (by simpa using hn)⟩
theorem Only.sole {q : Nat} {w w' : World} (h : Only [q] w w') : Sole q w w' := ⟨h.os, h.tape, h.output, h.size, fun k hk hn => h.block k hk (by simpa using hn)⟩
theorem Rd.stay {w w' : World} {q m : Nat} (h : Rd w q m) (k : Below (q + 1) w w') : Rd w' q m := by
  obtain ⟨p, a, len, cap, h1, h2, h3, h4, h5, h6, h7, h8⟩ := h
  refine ⟨p, a, len, cap, Nat.lt_of_lt_of_le h1 k.size, h2, (k.cell (by simp)).trans h3, (k.cell (by simp)).trans h4, (k.frozen (by simp)).trans h5, h6, h7, ?_⟩
  rcases h8 with h8 | ⟨b, off, rfl, hb, hc⟩
  · exact .inl h8
  · exact .inr ⟨b, off, rfl, hb, fun i hi => by obtain ⟨z, z0, z1, hz⟩ := hc i hi; exact ⟨z, z0, z1, (k.cell (by show b < _; omega)).trans hz⟩⟩
theorem Rd.far {w : World} {q m : Nat} (h : Rd w q m) {b i : Nat} (hb : q < b) (v : Value) : Rd (w.setCell ⟨b, i, none⟩ v) q m := h.stay ((Below.refl _ _).setCell (show q + 1 ≤ b by omega) v)
theorem Rd.alloc {w : World} {q m : Nat} (h : Rd w q m) (o : Obj) : Rd (w.alloc o) q m := h.keep (below1 w o)
theorem odd_zero (q : Nat) (w : World) : Calls Tryd.prog 45 #[.pointer (some ⟨q, 0, none⟩), .int .i64 0] w fun e w' => e = .returned (.bool false) ∧ w = w' := by
  go_enter Tryd.func45, Tryd.ntmps45
  go_wp2_with fail
  go_ret
  exact ⟨rfl, rfl⟩
/-- What drawing an instruction leaves. -/
def OrdDrawn (q m : Nat) (w : World) (e : Ending) (w' : World) : Prop := ∃ op arg : Int, e = .returned (.agg #[.int .i64 op, .int .i64 arg]) ∧ Only [q] w w' ∧ Rd w' q (m + 8)
theorem five (v x0 x1 x2 x3 x4 : Int) (d0 : 0 ≤ v) (d1 : v < 5) : ∃ u : Int, (#[Value.int .i64 x0, .int .i64 x1, .int .i64 x2, .int .i64 x3, .int .i64 x4] : Array Value)[v.toNat]? = some (.int .i64 u) := by
  have h : v = 0 ∨ v = 1 ∨ v = 2 ∨ v = 3 ∨ v = 4 := by omega
  rcases h with rfl | rfl | rfl | rfl | rfl <;> exact ⟨_, rfl⟩
theorem order_any (q m : Nat) (w : World) (h : Rd w q m) (hm : m ≤ 1000000) : Calls Tryd.prog 98 #[.pointer (some ⟨q, 0, none⟩), .int .i64 0] w (OrdDrawn q m w) := by
  have hq := h.lt
  have H := Lib.hid (h.alloc (.cells #[.int .i64 0, .int .i64 0] 61))
  clear h
  go_enter Tryd.func98, Tryd.ntmps98
  go_wp2_with fail
  refine (pick_any q m 16 _ H.out (by omega) (by omega) (by omega)).mono ?_
  rintro e w1 ⟨op, p0, p1, rfl, s1, r1⟩
  have X1 : Hid (Box w1 w.heap.size 61 [.int .i64 0, .int .i64 0]) := (Box.new w _ _).only s1.only (by simp; omega)
  have O1 : Hid (Only [q] w w1) := ((Only.refl _ w).alloc _).trans s1.only
  have R1 := Lib.hid r1
  have z1 : w.heap.size < w1.heap.size := X1.out.lt
  clear s1 r1
  go_wp2_with fail
  refine (spec_len _ _).mono ?_; rintro e w2 ⟨rfl, b2⟩
  have X2 := Lib.hid ((X1.out.alloc _).below b2)
  have Y2 : Hid (Box w2 w1.heap.size 61 [.int .i64 op, .int .i64 0]) := (Box.new w1 _ _).below b2
  have O2 : Hid (Only [q] w w2) := (O1.out.alloc _).trans (.of_below b2)
  have R2 := Lib.hid ((R1.out.alloc (.cells #[.int .i64 op, .int .i64 0] 61)).keep b2)
  clear b2
  obtain ⟨l0, l1⟩ := lenN_bd op
  generalize lenN op = L at l0 l1
  have hc : L = 2 ∨ L = 3 ∨ (L = 0 ∨ L = 1) := by omega
  have fin : ∀ (w3 : World) (arg : Int) (k : Nat), Only [q] w w3 → Rd w3 q (m + k) → k ≤ 8 → Box w3 w.heap.size 61 [.int .i64 0, .int .i64 0] → Box w3 w1.heap.size 61 [.int .i64 op, .int .i64 arg] →
      OrdDrawn q m w (.returned (.agg #[.int .i64 op, .int .i64 arg])) ((w3.setCell ⟨w.heap.size, 0, none⟩ (.int .i64 op)).setCell ⟨w.heap.size, 1, none⟩ (.int .i64 arg)) := fun w3 arg k o3 r3 hk _ _ =>
    ⟨op, arg, rfl, (o3.setCell (.inr (Nat.le_refl _)) _).setCell (.inr (Nat.le_refl _)) _, ((r3.far hq _).far hq _).mono (by omega)⟩
  have FIN := Lib.hid fin
  clear fin
  rcases hc with rfl | rfl | hc
  · clear l0 l1
    go_wp2_with fail
    refine (pick_any q (m + 1) 256 _ R2.out (by omega) (by omega) (by omega)).mono ?_
    rintro e w3 ⟨x, x0, x1, rfl, s3, r3⟩
    have X3 := Lib.hid (X2.out.only s3.only (by simp; omega))
    have Y3 := Lib.hid (Y2.out.only s3.only (by simp; omega))
    have O3 := Lib.hid (O2.out.trans s3.only)
    have R3 := Lib.hid r3
    clear s3 r3
    have b0 : w3.cell? ⟨w1.heap.size, 1, none⟩ = some (.int .i64 0) := Y3.out.cell 1
    have b1 := Y3.out.frozen 1
    go_wp2_with fail
    refine (odd_zero q _).mono ?_; rintro e w' ⟨rfl, rfl⟩
    have X4 := Lib.hid (X3.out.far (b' := w1.heap.size) (i := 1) (by omega) (.int .i64 x))
    have Y4 : Hid (Box (w3.setCell ⟨w1.heap.size, 1, none⟩ (.int .i64 x)) w1.heap.size 61 [.int .i64 op, .int .i64 x]) := Y3.out.set 1 _
    have O4 := Lib.hid (O3.out.setCell (q := w1.heap.size) (j := 1) (.inr (by omega)) (.int .i64 x))
    have R4 := Lib.hid (R3.out.far (b := w1.heap.size) (i := 1) (by omega) (.int .i64 x))
    clear b0 b1
    generalize w3.setCell ⟨w1.heap.size, 1, none⟩ (.int .i64 x) = w4 at X4 Y4 O4 R4
    have a0 : w4.cell? ⟨w1.heap.size, 0, none⟩ = some (.int .i64 op) := Y4.out.cell 0
    have a1 : w4.cell? ⟨w1.heap.size, 1, none⟩ = some (.int .i64 x) := Y4.out.cell 1
    have e0 : w4.cell? ⟨w.heap.size, 0, none⟩ = some (.int .i64 0) := X4.out.cell 0
    have e1 : w4.cell? ⟨w.heap.size, 1, none⟩ = some (.int .i64 0) := X4.out.cell 1
    have e2 := X4.out.frozen 0
    have e3 := X4.out.frozen 1
    go_wp2_with fail
    refine bodyPost_ret (v := .agg #[.int .i64 op, .int .i64 x]) (by simp [results, Tryd.results98, go_sem, e0, e1]) rfl ?_
    exact FIN.out w4 x 2 O4.out R4.out (by omega) X4.out Y4.out
  · clear l0 l1
    go_wp2_with fail
    refine (pick_any q (m + 1) 16 _ R2.out (by omega) (by omega) (by omega)).mono ?_
    rintro e w3 ⟨ya, ya0, ya1, rfl, s3, r3⟩
    have X3 := Lib.hid (X2.out.only s3.only (by simp; omega))
    have Y3 := Lib.hid (Y2.out.only s3.only (by simp; omega))
    have O3 := Lib.hid (O2.out.trans s3.only)
    have R3 := Lib.hid r3
    clear s3 r3
    go_wp2_with fail
    refine (pick_any q (m + 2) 16 _ R3.out (by omega) (by omega) (by omega)).mono ?_
    rintro e w4 ⟨yb, yb0, yb1, rfl, s3, r3⟩
    have X4 := Lib.hid (X3.out.only s3.only (by simp; omega))
    have Y4 := Lib.hid (Y3.out.only s3.only (by simp; omega))
    have O4 := Lib.hid (O3.out.trans s3.only)
    have R4 := Lib.hid r3
    clear s3 r3
    go_wp2_with fail
    refine (pick_any q (m + 3) 40 _ R4.out (by omega) (by omega) (by omega)).mono ?_
    rintro e w5 ⟨yc, yc0, yc1, rfl, s3, r3⟩
    have X5 := Lib.hid (X4.out.only s3.only (by simp; omega))
    have Y5 := Lib.hid (Y4.out.only s3.only (by simp; omega))
    have O5 := Lib.hid (O4.out.trans s3.only)
    have R5 := Lib.hid r3
    clear s3 r3
    go_wp2_with fail
    refine (pick_any q (m + 4) 8 _ R5.out (by omega) (by omega) (by omega)).mono ?_
    rintro e w6 ⟨yd, yd0, yd1, rfl, s3, r3⟩
    have X6 := Lib.hid (X5.out.only s3.only (by simp; omega))
    have Y6 := Lib.hid (Y5.out.only s3.only (by simp; omega))
    have O6 := Lib.hid (O5.out.trans s3.only)
    have R6 := Lib.hid r3
    clear s3 r3
    go_wp2_with fail
    refine (pick_any q (m + 5) 256 _ R6.out (by omega) (by omega) (by omega)).mono ?_
    rintro e w7 ⟨yf, yf0, yf1, rfl, s3, r3⟩
    have X7 := Lib.hid (X6.out.only s3.only (by simp; omega))
    have Y7 := Lib.hid (Y6.out.only s3.only (by simp; omega))
    have O7 := Lib.hid (O6.out.trans s3.only)
    have R7 := Lib.hid r3
    clear s3 r3
    have zq : q < w7.heap.size := R7.out.lt
    go_wp2_with fail
    refine (pick_any q (m + 6) 5 _ (R7.out.alloc _) (by omega) (by omega) (by omega)).mono ?_
    rintro e w8 ⟨z, z0, z1', rfl, s3, r3⟩
    obtain ⟨u, hu⟩ := five z ya (240 + yb) (512 + yc) (768 + yd) (yf * 4) z0 z1'
    have cu : w8.cell? ⟨w7.heap.size, z.toNat, none⟩ = some (.int .i64 u) := by
      rw [World.cell?_of_block (a := ⟨w7.heap.size, z.toNat, none⟩) (w := w7.alloc (.cells #[.int .i64 ya, .int .i64 (240 + yb), .int .i64 (512 + yc), .int .i64 (768 + yd), .int .i64 (yf * 4)] 3)) (s3.block w7.heap.size (by simp) (by omega)), World.cell?_alloc_new]; exact hu
    have X8 := Lib.hid ((X7.out.alloc (.cells #[.int .i64 ya, .int .i64 (240 + yb), .int .i64 (512 + yc), .int .i64 (768 + yd), .int .i64 (yf * 4)] 3)).only s3.only (by simp; omega))
    have Y8 := Lib.hid ((Y7.out.alloc (.cells #[.int .i64 ya, .int .i64 (240 + yb), .int .i64 (512 + yc), .int .i64 (768 + yd), .int .i64 (yf * 4)] 3)).only s3.only (by simp; omega))
    have O8 := Lib.hid ((O7.out.alloc (.cells #[.int .i64 ya, .int .i64 (240 + yb), .int .i64 (512 + yc), .int .i64 (768 + yd), .int .i64 (yf * 4)] 3)).trans s3.only)
    have R8 := Lib.hid r3
    clear s3 r3 hu
    have b0 : w8.cell? ⟨w1.heap.size, 1, none⟩ = some (.int .i64 0) := Y8.out.cell 1
    have b1 := Y8.out.frozen 1
    go_wp2_with fail
    refine (odd_zero q _).mono ?_; rintro e w' ⟨rfl, rfl⟩
    have X9 := Lib.hid (X8.out.far (b' := w1.heap.size) (i := 1) (by omega) (.int .i64 u))
    have Y9 : Hid (Box (w8.setCell ⟨w1.heap.size, 1, none⟩ (.int .i64 u)) w1.heap.size 61 [.int .i64 op, .int .i64 u]) := Y8.out.set 1 _
    have O9 := Lib.hid (O8.out.setCell (q := w1.heap.size) (j := 1) (.inr (by omega)) (.int .i64 u))
    have R9 := Lib.hid (R8.out.far (b := w1.heap.size) (i := 1) (by omega) (.int .i64 u))
    clear b0 b1 cu
    generalize w8.setCell ⟨w1.heap.size, 1, none⟩ (.int .i64 u) = w9 at X9 Y9 O9 R9
    have a0 : w9.cell? ⟨w1.heap.size, 0, none⟩ = some (.int .i64 op) := Y9.out.cell 0
    have a1 : w9.cell? ⟨w1.heap.size, 1, none⟩ = some (.int .i64 u) := Y9.out.cell 1
    have e0 : w9.cell? ⟨w.heap.size, 0, none⟩ = some (.int .i64 0) := X9.out.cell 0
    have e1 : w9.cell? ⟨w.heap.size, 1, none⟩ = some (.int .i64 0) := X9.out.cell 1
    have e2 := X9.out.frozen 0
    have e3 := X9.out.frozen 1
    go_wp2_with fail
    refine bodyPost_ret (v := .agg #[.int .i64 op, .int .i64 u]) (by simp [results, Tryd.results98, go_sem, e0, e1]) rfl ?_
    exact FIN.out w9 u 7 O9.out R9.out (by omega) X9.out Y9.out
  · have h2 : (L == 2) = false := by simp; omega
    have h3 : (L == 3) = false := by simp; omega
    clear hc
    go_wp2_with fail
    refine (odd_zero q _).mono ?_; rintro e w' ⟨rfl, rfl⟩
    have a0 : w2.cell? ⟨w1.heap.size, 0, none⟩ = some (.int .i64 op) := Y2.out.cell 0
    have a1 : w2.cell? ⟨w1.heap.size, 1, none⟩ = some (.int .i64 0) := Y2.out.cell 1
    have e0 : w2.cell? ⟨w.heap.size, 0, none⟩ = some (.int .i64 0) := X2.out.cell 0
    have e1 : w2.cell? ⟨w.heap.size, 1, none⟩ = some (.int .i64 0) := X2.out.cell 1
    have e2 := X2.out.frozen 0
    have e3 := X2.out.frozen 1
    go_wp2_with fail
    refine bodyPost_ret (v := .agg #[.int .i64 op, .int .i64 0]) (by simp [results, Tryd.results98, go_sem, e0, e1]) rfl ?_
    exact FIN.out w2 0 1 O2.out R2.out (by omega) X2.out Y2.out
end Go.Proofs.YtcapfafglikcmaaDoor
end
