/- Instructions as the program has them: its table of operations, lengths, valid instructions, their bytes. -/
import Derived.Test.YtcapfafglikcmaaDoorKC
namespace Go.Proofs.YtcapfafglikcmaaDoor
open Go.ChangeShapes Go.WideShapes Go.ChangeAt Go.RowKit

/-- The names of the operations, as bytes. -/
def opNames : List (List UInt8) := [[119, 97, 105, 116], [115, 101, 116], [108, 111, 97, 100], [115, 116, 111, 114, 101], [97, 100, 100], [115, 117, 98], [97, 110, 100], [120, 111, 114], [108, 101, 102, 116], [114, 105, 103, 104, 116], [106, 117, 109, 112], [122, 101, 114, 111], [99, 97, 114, 114, 121], [99, 97, 108, 108], [114, 101, 116, 117, 114, 110], [115, 116, 111, 112]]
/-- The name of an operation; no letters for an unknown one. -/
def nameN (op : Int) : List UInt8 := if betB op 0 15 = true then opNames.getD op.toNat [] else []
/-- The cells of the program's table of operations. -/
def opsCells : List Value := [.string ⟨#[119, 97, 105, 116]⟩, .int .i64 1, .int .i64 0, .string ⟨#[115, 101, 116]⟩, .int .i64 2, .int .i64 255, .string ⟨#[108, 111, 97, 100]⟩, .int .i64 3, .int .i64 1023, .string ⟨#[115, 116, 111, 114, 101]⟩, .int .i64 3, .int .i64 1023, .string ⟨#[97, 100, 100]⟩, .int .i64 3, .int .i64 1023, .string ⟨#[115, 117, 98]⟩, .int .i64 3, .int .i64 1023, .string ⟨#[97, 110, 100]⟩, .int .i64 3, .int .i64 1023, .string ⟨#[120, 111, 114]⟩, .int .i64 3, .int .i64 1023, .string ⟨#[108, 101, 102, 116]⟩, .int .i64 1, .int .i64 0, .string ⟨#[114, 105, 103, 104, 116]⟩, .int .i64 1, .int .i64 0, .string ⟨#[106, 117, 109, 112]⟩, .int .i64 3, .int .i64 1023, .string ⟨#[122, 101, 114, 111]⟩, .int .i64 3, .int .i64 1023, .string ⟨#[99, 97, 114, 114, 121]⟩, .int .i64 3, .int .i64 1023, .string ⟨#[99, 97, 108, 108]⟩, .int .i64 3, .int .i64 1023, .string ⟨#[114, 101, 116, 117, 114, 110]⟩, .int .i64 1, .int .i64 0, .string ⟨#[115, 116, 111, 112]⟩, .int .i64 1, .int .i64 0]
/-- The table lies in memory as the program lays it. -/
def Ops (w : World) : Prop := ∀ i : Nat, i < 48 → w.cell? ⟨0, i, none⟩ = opsCells[i]?
theorem Ops.lt {w : World} (h : Ops w) : 0 < w.heap.size := World.block_lt_of_cell? _ _ (h 0 (by omega))
theorem Ops.below {w w' : World} (h : Ops w) (k : Below w.heap.size w w') : Ops w' := fun i hi => (k.cell h.lt).trans (h i hi)
theorem Ops.only {S : List Nat} {w w' : World} (h : Ops w) (k : Only S w w') (hn : 0 ∉ S) : Ops w' := fun i hi => (World.cell?_of_block (a := ⟨0, i, none⟩) (k.block _ h.lt hn)).trans (h i hi)
/-- The largest argument of an operation. -/
def topN (op : Int) : Int := if lenN op = 2 then 255 else if lenN op = 3 then 1023 else 0
theorem sixteen {k : Nat} (h : k < 16) : k = 0 ∨ k = 1 ∨ k = 2 ∨ k = 3 ∨ k = 4 ∨ k = 5 ∨ k = 6 ∨ k = 7 ∨ k = 8 ∨ k = 9 ∨ k = 10 ∨ k = 11 ∨ k = 12 ∨ k = 13 ∨ k = 14 ∨ k = 15 := by omega
theorem Ops.at_ {w : World} (h : Ops w) (k : Nat) (hk : k < 16) : w.cell? ⟨0, k * 3, none⟩ = some (.string ⟨(nameN k).toArray⟩) ∧ w.cell? ⟨0, k * 3 + 1, none⟩ = some (.int .i64 (lenN k)) ∧ w.cell? ⟨0, k * 3 + 2, none⟩ = some (.int .i64 (topN k)) := by
  refine ⟨(h (k * 3) (by omega)).trans ?_, (h (k * 3 + 1) (by omega)).trans ?_, (h (k * 3 + 2) (by omega)).trans ?_⟩
  all_goals rcases sixteen hk with rfl | rfl | rfl | rfl | rfl | rfl | rfl | rfl | rfl | rfl | rfl | rfl | rfl | rfl | rfl | rfl <;> rfl
theorem lenN_no {op : Int} (h : betB op 0 15 = false) : lenN op = 0 := by simp [lenN, h]
theorem betB_no {a l h : Int} (e : betB a l h = false) : a < l ∨ h < a := by
  by_cases h0 : l ≤ a
  · by_cases h1 : a ≤ h
    · simp [betB, h0, h1] at e
    · exact .inr (by omega)
  · exact .inl (by omega)

theorem impl_opOf (op : Int) (w : World) (h : Ops w) : Calls Tryd.prog 78 #[.int .i64 op] w fun e w' => e = .returned (.tuple #[.agg #[.string ⟨(nameN op).toArray⟩, .int .i64 (lenN op), .int .i64 (topN op)], .bool (betB op 0 15)]) ∧ Below w.heap.size w w' := by
  have hz := h.lt
  by_cases hb : betB op 0 15 = true
  · obtain ⟨h0, h1⟩ := betB_yes hb
    obtain ⟨k, rfl⟩ : ∃ k : Nat, op = k := ⟨op.toNat, by omega⟩
    obtain ⟨c0, c1, c2⟩ := h.at_ k (by omega)
    rw [hb]
    clear hb h
    have hk : k < 16 := by omega
    generalize nameN k = N at c0
    generalize lenN k = L at c1
    generalize topN k = T at c2
    go_enter Tryd.func78, Tryd.ntmps78
    go_wp2
    refine bodyPost_ret (v := .tuple #[.agg #[.string ⟨N.toArray⟩, .int .i64 L, .int .i64 T], .bool true]) (by simp [results, Tryd.results78, go_sem]) rfl ⟨rfl, ?_⟩
    exact below1 w _
  · have hb' : betB op 0 15 = false := by simpa using hb
    have HE := Lib.hid (show topN op = 0 by simp [topN, lenN_no hb'])
    have HL := Lib.hid (lenN_no hb')
    have HN := Lib.hid (show nameN op = [] by simp [nameN, hb'])
    rw [hb', HE.out, HL.out, HN.out]
    have ho := betB_no hb'
    clear hb hb' HE HL HN
    rcases ho with ho | ho
    all_goals
      go_enter Tryd.func78, Tryd.ntmps78
      go_wp2
      refine bodyPost_ret (v := .tuple #[.agg #[.string ⟨#[]⟩, .int .i64 0, .int .i64 0], .bool false]) (by simp [results, Tryd.results78, go_sem]) rfl ⟨rfl, ?_⟩
      exact below1 w _
theorem ordB_top (op arg : Int) : ordB op arg = (betB op 0 15 && decide (0 ≤ arg) && decide (arg ≤ topN op)) := by
  by_cases hb : betB op 0 15 = true
  · rw [hb]
    obtain ⟨h0, h1⟩ := betB_yes hb
    have hc : op = 0 ∨ op = 1 ∨ op = 2 ∨ op = 3 ∨ op = 4 ∨ op = 5 ∨ op = 6 ∨ op = 7 ∨ op = 8 ∨ op = 9 ∨ op = 10 ∨ op = 11 ∨ op = 12 ∨ op = 13 ∨ op = 14 ∨ op = 15 := by omega
    rw [Bool.eq_iff_iff]
    rcases hc with rfl | rfl | rfl | rfl | rfl | rfl | rfl | rfl | rfl | rfl | rfl | rfl | rfl | rfl | rfl | rfl
    all_goals simp [ordB, topN, show lenN 0 = 1 from rfl, show lenN 1 = 2 from rfl, show lenN 2 = 3 from rfl, show lenN 3 = 3 from rfl, show lenN 4 = 3 from rfl, show lenN 5 = 3 from rfl, show lenN 6 = 3 from rfl, show lenN 7 = 3 from rfl, show lenN 8 = 1 from rfl, show lenN 9 = 1 from rfl, show lenN 10 = 3 from rfl, show lenN 11 = 3 from rfl, show lenN 12 = 3 from rfl, show lenN 13 = 3 from rfl, show lenN 14 = 1 from rfl, show lenN 15 = 1 from rfl, byteB, addrB]
    all_goals omega
  · have hb' : betB op 0 15 = false := by simpa using hb
    simp [ordB, lenN_no hb', hb']
theorem impl_ordValid (op arg : Int) (w : World) (h : Ops w) : Calls Tryd.prog 80 #[.agg #[.int .i64 op, .int .i64 arg]] w fun e w' => e = .returned (.bool (ordB op arg)) ∧ Below w.heap.size w w' := by
  have H := Lib.hid (h.below (below1 w (.cells #[.int .i64 op, .int .i64 arg] 61)))
  have HO := Lib.hid (ordB_top op arg)
  clear h
  go_enter Tryd.func80, Tryd.ntmps80
  go_wp2_with fail
  refine (impl_opOf _ _ H.out).mono ?_; rintro e w1 ⟨rfl, b1⟩
  have X1 : Hid (Box w1 w.heap.size _ [.int .i64 op, .int .i64 arg]) := (Box.new w _ _).below b1
  have B1 : Hid (Below w.heap.size w w1) := (below1 w _).trans (b1.mono (by simp))
  clear b1
  have z1 : w.heap.size < w1.heap.size := X1.out.lt
  have c1 : w1.cell? ⟨w.heap.size, 1, none⟩ = some (.int .i64 arg) := X1.out.cell 1
  generalize lenN op = L
  generalize nameN op = N
  generalize topN op = T at HO
  generalize betB op 0 15 = B at HO
  have FIN : Hid (∀ o : Obj, Below w.heap.size w (w1.alloc o)) := fun o => B1.out.alloc B1.out.size o
  cases B
  · go_wp2_with fail
    go_ret
    exact ⟨ret_bool (by rw [HO.out]; rfl), FIN.out _⟩
  · by_cases ha : 0 ≤ arg
    · by_cases hT : arg ≤ T
      · go_wp2_with fail
        go_ret
        exact ⟨ret_bool (by rw [HO.out]; simp [ha, hT]), FIN.out _⟩
      · have he : decide (arg ≤ T) = false := by simpa using hT
        clear hT
        go_wp2_with fail
        go_ret
        exact ⟨ret_bool (by rw [HO.out, he]; simp), FIN.out _⟩
    · have hd : decide (0 ≤ arg) = false := by simpa using ha
      clear ha
      go_wp2_with fail
      go_ret
      exact ⟨ret_bool (by rw [HO.out, hd]; simp), FIN.out _⟩
end Go.Proofs.YtcapfafglikcmaaDoor
