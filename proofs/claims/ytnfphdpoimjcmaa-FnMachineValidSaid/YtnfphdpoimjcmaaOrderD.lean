/- Instructions as the draws make them: their bytes are bytes, at most three. -/
import Derived.Test.YtnfphdpoimjcmaaOwn
import Derived.Test.YtnfphdpoimjcmaaIn
import Derived.Test.YtnfphdpoimjcmaaDrawB
import Derived.Deep.RegionHeld3
namespace Go.Proofs.Ytnfphdpoimjcmaa
open Go.ChangeShapes Go.WideShapes Go.ChangeAt Go.RowKit

/-- The length of an operation's instruction. -/
def lenN (op : Int) : Int := if betB op 0 15 = true then (#[1, 2, 3, 3, 3, 3, 3, 3, 1, 1, 3, 3, 3, 3, 1, 1] : Array Int).getD op.toNat 0 else 0
theorem lenN_bd (op : Int) : 0 ≤ lenN op ∧ lenN op ≤ 3 := by
  unfold lenN
  split
  · rename_i h
    obtain ⟨h0, h1⟩ := betB_yes h
    have hc : op = 0 ∨ op = 1 ∨ op = 2 ∨ op = 3 ∨ op = 4 ∨ op = 5 ∨ op = 6 ∨ op = 7 ∨ op = 8 ∨ op = 9 ∨ op = 10 ∨ op = 11 ∨ op = 12 ∨ op = 13 ∨ op = 14 ∨ op = 15 := by omega
    rcases hc with rfl | rfl | rfl | rfl | rfl | rfl | rfl | rfl | rfl | rfl | rfl | rfl | rfl | rfl | rfl | rfl <;> decide
  · omega
theorem len_lit (op : Int) (h0 : 0 ≤ op) (h1 : op ≤ 15) : (#[Value.int .i64 1, .int .i64 2, .int .i64 3, .int .i64 3, .int .i64 3, .int .i64 3, .int .i64 3, .int .i64 3, .int .i64 1, .int .i64 1, .int .i64 3, .int .i64 3, .int .i64 3, .int .i64 3, .int .i64 1, .int .i64 1] : Array Value)[op.toNat]? = some (.int .i64 (lenN op)) := by
  have hc : op = 0 ∨ op = 1 ∨ op = 2 ∨ op = 3 ∨ op = 4 ∨ op = 5 ∨ op = 6 ∨ op = 7 ∨ op = 8 ∨ op = 9 ∨ op = 10 ∨ op = 11 ∨ op = 12 ∨ op = 13 ∨ op = 14 ∨ op = 15 := by omega
  rcases hc with rfl | rfl | rfl | rfl | rfl | rfl | rfl | rfl | rfl | rfl | rfl | rfl | rfl | rfl | rfl | rfl <;> rfl
theorem spec_len (op : Int) (w : World) : Calls Try.prog 31 #[.int .i64 op] w fun e w' => e = .returned (.int .i64 (lenN op)) ∧ Below w.heap.size w w' := by
  by_cases h : betB op 0 15 = true
  · have HB := Lib.hid h
    obtain ⟨h0, h1⟩ := betB_yes h
    clear h
    have c1 := World.cell?_alloc_new w (#[Value.int .i64 1, .int .i64 2, .int .i64 3, .int .i64 3, .int .i64 3, .int .i64 3, .int .i64 3, .int .i64 3, .int .i64 1, .int .i64 1, .int .i64 3, .int .i64 3, .int .i64 3, .int .i64 3, .int .i64 1, .int .i64 1]) 3 op.toNat
    rw [len_lit op h0 h1] at c1
    go_enter Try.func31, Try.ntmps31
    go_wp2_with fail
    refine (l1In_any _ _ _ _).mono ?_; rintro e w' ⟨rfl, rfl⟩
    rw [HB.out]
    go_wp2_with fail
    go_ret
    exact ⟨rfl, below1 w _⟩
  · have HB := Lib.hid (show betB op 0 15 = false by simpa using h)
    have HE := Lib.hid (show lenN op = 0 by simp [lenN, h])
    clear h
    go_enter Try.func31, Try.ntmps31
    go_wp2_with fail
    refine (l1In_any _ _ _ _).mono ?_; rintro e w' ⟨rfl, rfl⟩
    rw [HB.out]
    go_wp2_with fail
    go_ret
    exact ⟨ret_int HE.out.symm, Below.refl _ _⟩
def ordB (op arg : Int) : Bool := if lenN op = 1 then decide (arg = 0) else if lenN op = 2 then byteB arg else if lenN op = 3 then addrB arg else false
theorem spec_ordValid (op arg : Int) (w : World) : Calls Try.prog 30 #[.agg #[.int .i64 op, .int .i64 arg]] w fun e w' => e = .returned (.bool (ordB op arg)) ∧ Below w.heap.size w w' := by
  obtain ⟨l0, l1⟩ := lenN_bd op
  have HO := Lib.hid (show ordB op arg = if lenN op = 1 then decide (arg = 0) else if lenN op = 2 then byteB arg else if lenN op = 3 then addrB arg else false from rfl)
  generalize hL : lenN op = L at l0 l1 HO
  have HL := Lib.hid hL
  clear hL
  go_enter Try.func30, Try.ntmps30
  go_wp2_with fail
  refine (spec_len _ _).mono ?_; rintro e w1 ⟨rfl, b1⟩
  rw [HL.out]
  have X1 : Hid (Box w1 w.heap.size _ [.int .i64 op, .int .i64 arg]) := (Box.new w _ _).below b1
  have B1 : Hid (Below w.heap.size w w1) := (below1 w _).trans (b1.mono (by simp))
  clear b1
  have c1 : w1.cell? ⟨w.heap.size, 1, none⟩ = some (.int .i64 arg) := X1.out.cell 1
  have hc : L = 0 ∨ L = 1 ∨ L = 2 ∨ L = 3 := by omega
  rcases hc with rfl | rfl | rfl | rfl
  · have HE := Lib.hid (show ordB op arg = false by rw [HO.out]; rfl)
    clear l0 l1 HO
    go_wp2_with fail
    go_ret
    exact ⟨ret_bool HE.out.symm, B1.out⟩
  · by_cases ha : arg = 0
    · subst ha
      have HE := Lib.hid (show ordB op 0 = true by rw [HO.out]; rfl)
      clear l0 l1 HO
      go_wp2_with fail
      go_ret
      exact ⟨ret_bool HE.out.symm, B1.out⟩
    · have HE := Lib.hid (show ordB op arg = false by rw [HO.out, if_pos rfl]; simp [ha])
      have hq : (arg == 0) = false := by simpa using ha
      clear l0 l1 HO ha
      go_wp2_with fail
      go_ret
      exact ⟨ret_bool HE.out.symm, B1.out⟩
  · have HE := Lib.hid (show ordB op arg = byteB arg by rw [HO.out]; rfl)
    clear l0 l1 HO
    go_wp2_with fail
    refine (l1Byte_any _ _).mono ?_; rintro e w' ⟨rfl, rfl⟩
    by_cases hb : byteB arg = true
    · have HB := Lib.hid hb
      clear hb
      rw [HB.out]
      go_wp2_with fail
      go_ret
      exact ⟨ret_bool (by rw [HE.out, HB.out]), B1.out⟩
    · have HB := Lib.hid (show byteB arg = false by simpa using hb)
      clear hb
      rw [HB.out]
      go_wp2_with fail
      go_ret
      exact ⟨ret_bool (by rw [HE.out, HB.out]), B1.out⟩
  · have HE := Lib.hid (show ordB op arg = addrB arg by rw [HO.out]; rfl)
    clear l0 l1 HO
    go_wp2_with fail
    refine (l1In_any _ _ _ _).mono ?_; rintro e w' ⟨rfl, rfl⟩
    go_wp2_with fail
    go_ret
    exact ⟨ret_bool HE.out.symm, B1.out⟩
/-- The bytes of an instruction. -/
def ordN (op arg : Int) : List Int := if ordB op arg = true then ([op, arg % 256, arg / 256] : List Int).take (lenN op).toNat else []
theorem ordB_len {op arg : Int} (h : ordB op arg = true) : 1 ≤ lenN op ∧ 0 ≤ op ∧ op ≤ 15 ∧ 0 ≤ arg ∧ arg ≤ 1023 := by
  have hb : betB op 0 15 = true := by
    by_cases hb : betB op 0 15 = true
    · exact hb
    · have : lenN op = 0 := by simp [lenN, hb]
      simp [ordB, this] at h
  obtain ⟨h0, h1⟩ := betB_yes hb
  unfold ordB at h
  split at h
  · rename_i hl; simp at h; subst h; omega
  · split at h
    · rename_i hl; have := byteB_yes h; omega
    · split at h
      · rename_i hl; have := addrB_yes h; omega
      · cases h
theorem ordN_bytes (op arg : Int) : (ordN op arg).length ≤ 3 ∧ ∀ i, i < (ordN op arg).length → byteB ((ordN op arg).getD i 0) = true := by
  unfold ordN
  split
  · rename_i h
    obtain ⟨h1, h2, h3, h4, h5⟩ := ordB_len h
    have hl := lenN_bd op
    refine ⟨by simp; omega, fun i hi => ?_⟩
    have hi3 : i < 3 ∧ i < (lenN op).toNat := by simp at hi; omega
    have e : (([op, arg % 256, arg / 256] : List Int).take (lenN op).toNat).getD i 0 = ([op, arg % 256, arg / 256] : List Int).getD i 0 := by
      simp only [List.getD_eq_getElem?_getD, List.getElem?_take, if_pos hi3.2]
    rw [e]
    have hc : i = 0 ∨ i = 1 ∨ i = 2 := by omega
    rcases hc with rfl | rfl | rfl
    · exact byteB_mk (by simp; omega) (by simp; omega)
    · exact byteB_mk (by simp; omega) (by simp; omega)
    · exact byteB_mk (by simp; omega) (by simp; omega)
  · exact ⟨by simp, by simp⟩
theorem cell_new {w1 : World} {b i : Nat} {y : Value} {o : Obj} (h : w1.cell? ⟨b, i, none⟩ = some y) : (w1.alloc o).drew.cell? ⟨b, i, none⟩ = some y := by
  show (w1.alloc o).cell? _ = _
  rw [World.cell?_alloc_lt _ _ _ (World.block_lt_of_cell? _ _ h)]; exact h
/-- A literal of three numbers, cut. -/
theorem copied_lit {w w2 : World} {g L : Nat} {t : TypeId} {x0 x1 x2 : Int} (h : Box w2 g t [.int .i64 x0, .int .i64 x1, .int .i64 x2]) (hg : w.heap.size ≤ g) (h1 : 1 ≤ L) (h3 : L ≤ 3) (b : Below w.heap.size w w2) :
    Copied (([x0, x1, x2] : List Int).take L) L w (.returned (.slice (some ⟨g, 0, none⟩) L 3)) w2 := by
  refine ⟨_, 3, [g], rfl, h3, ⟨by simp; omega, .inr ⟨by omega, g, 0, rfl, rfl, h.lt, fun i hi => ?_⟩⟩, .one hg h.lt h.frozen, b⟩
  have e : (([x0, x1, x2] : List Int).take L).getD i 0 = ([x0, x1, x2] : List Int).getD i 0 := by
    simp only [List.getD_eq_getElem?_getD, List.getElem?_take, if_pos hi]
  rw [e, Nat.zero_add, h.cell i]
  have hc : i = 0 ∨ i = 1 ∨ i = 2 := by omega
  rcases hc with rfl | rfl | rfl <;> rfl
theorem spec_ordBytes (op arg : Int) (w : World) : Calls Try.prog 28 #[.agg #[.int .i64 op, .int .i64 arg]] w (Copied (ordN op arg) (ordN op arg).length w) := by
  go_enter Try.func28, Try.ntmps28
  go_wp2_with fail
  refine (spec_ordValid _ _ _).mono ?_; rintro e w1 ⟨rfl, b1⟩
  have X1 : Hid (Box w1 w.heap.size 54 [.int .i64 op, .int .i64 arg]) := (Box.new w _ _).below b1
  have B1 : Hid (Below w.heap.size w w1) := (below1 w _).trans (b1.mono (by simp))
  clear b1
  by_cases hv : ordB op arg = true
  · have HV := Lib.hid hv
    obtain ⟨v1, v2, v3, v4, v5⟩ := ordB_len hv
    obtain ⟨v6, v7⟩ := lenN_bd op
    have HN := Lib.hid (show ordN op arg = ([op, arg % 256, arg / 256] : List Int).take (lenN op).toNat by simp [ordN, hv])
    clear hv
    rw [HV.out]
    have c0 : w1.cell? ⟨w.heap.size, 0, none⟩ = some (.int .i64 op) := X1.out.cell 0
    have c1 : w1.cell? ⟨w.heap.size, 1, none⟩ = some (.int .i64 arg) := X1.out.cell 1
    go_wp2_with fail
    generalize hL : lenN op = L at v1 v6 v7 HN
    have HL := Lib.hid hL
    clear hL
    have X1d : Hid (Box w1.drew w.heap.size 54 [.int .i64 op, .int .i64 arg]) := X1.out
    have K1 : Hid (w1.drew.cell? ⟨w.heap.size, 0, none⟩ = some (.int .i64 op) ∧ w1.drew.cell? ⟨w.heap.size, 1, none⟩ = some (.int .i64 arg)) := ⟨c0, c1⟩
    have z1 : w.heap.size < w1.heap.size := X1.out.lt
    have y1 : arg.tmod 256 = arg % 256 := Int.tmod_eq_emod_of_nonneg v4
    have y2 : IntKind.i64.wrap (arg.tdiv 256) = arg / 256 := by rw [Int.tdiv_eq_ediv_of_nonneg v4]; exact IntWalk.i64_in _ (by omega)
    go_region_held3 (fun w' => w'.cell? ⟨w.heap.size, 0, none⟩ = some (.int .i64 op) ∧ w'.cell? ⟨w.heap.size, 1, none⟩ = some (.int .i64 arg))
      (first
        | (with_reducible exact K1.out)
        | (with_reducible exact K2.out)
        | go_keep)
      (first
        | (go_at_call 31; refine (spec_len _ _).mono ?_; rintro e w2 ⟨rfl, b2⟩; rw [HL.out]; have K2 : Hid (w2.cell? ⟨w.heap.size, 0, none⟩ = some (.int .i64 op) ∧ w2.cell? ⟨w.heap.size, 1, none⟩ = some (.int .i64 arg)) := ⟨(b2.cell (by simp; omega)).trans (by first | exact c0 | exact cell_new c0), (b2.cell (by simp; omega)).trans (by first | exact c1 | exact cell_new c1)⟩; have HB2 := Lib.hid b2; clear b2))
    · have E2 : Hid (Box w2 w1.heap.size 3 [.int .i64 op, .int .i64 (arg % 256), .int .i64 (arg / 256)]) := (show Box (w1.alloc (.cells #[.int .i64 op, .int .i64 (arg % 256), .int .i64 (arg / 256)] 3)).drew w1.heap.size 3 [.int .i64 op, .int .i64 (arg % 256), .int .i64 (arg / 256)] from Box.new w1 _ _).below HB2.out
      have B2 : Hid (Below w.heap.size w w2) := (B1.out.alloc B1.out.size _).drew.trans (HB2.out.mono (by have := B1.out.size; simp; omega))
      clear y1 y2 c0 c1
      go_wp2
      go_ret
      rw [HN.out, show (([op, arg % 256, arg / 256] : List Int).take L.toNat).length = L.toNat by simp; omega]
      exact copied_lit E2.out B1.out.size (by omega) (by omega) B2.out
    · have B2 : Hid (Below w.heap.size w w2) := B1.out.drew.trans (HB2.out.mono B1.out.size)
      clear y1 y2 c0 c1
      go_wp2
      go_ret
      rw [HN.out, show (([op, arg % 256, arg / 256] : List Int).take L.toNat).length = L.toNat by simp; omega]
      exact copied_lit (Box.new w2 _ _) B2.out.size (by omega) (by omega) (B2.out.alloc B2.out.size _)
  · have HV := Lib.hid (show ordB op arg = false by simpa using hv)
    have HN := Lib.hid (show ordN op arg = [] by simp [ordN, hv])
    clear hv
    rw [HV.out]
    go_wp2_with fail
    go_ret
    rw [HN.out]
    exact ⟨_, 0, [], rfl, Nat.le_refl _, .nil _ _, .nil _ _, B1.out.alloc B1.out.size _⟩
end Go.Proofs.Ytnfphdpoimjcmaa
