/- A line that is drawn, some bent. -/
import Derived.Test.YtehiplkoofdkeaaDoorOrderE
import Derived.Test.YtehiplkoofdkeaaDoorSFmt
import Derived.Laws.Small
import Derived.Laws.Strings3
import Derived.Laws.Concat
namespace Go.Proofs.YtehiplkoofdkeaaDoor
open Go.ChangeShapes Go.WideShapes Go.ChangeAt Go.RowKit

def LineDrawn (q m : Nat) (w : World) (e : Ending) (w' : World) : Prop := ∃ l : List UInt8, e = .returned (.string ⟨l.toArray⟩) ∧ l.length ≤ 30 ∧ Only [q] w w' ∧ Rd w' q (m + 12)
def bendCells : List Value := [.string ⟨#[]⟩, .string ⟨#[32]⟩, .string ⟨#[48]⟩, .string ⟨#[120]⟩, .string ⟨#[49]⟩, .string ⟨#[45]⟩]
theorem bend_at (v : Int) (d0 : 0 ≤ v) (d1 : v < 6) : ∃ l : List UInt8, l.length ≤ 1 ∧ bendCells[v.toNat]? = some (.string ⟨l.toArray⟩) := by
  have h : v = 0 ∨ v = 1 ∨ v = 2 ∨ v = 3 ∨ v = 4 ∨ v = 5 := by omega
  rcases h with rfl | rfl | rfl | rfl | rfl | rfl
  · exact ⟨[], by simp, rfl⟩
  · exact ⟨[32], by simp, rfl⟩
  · exact ⟨[48], by simp, rfl⟩
  · exact ⟨[120], by simp, rfl⟩
  · exact ⟨[49], by simp, rfl⟩
  · exact ⟨[45], by simp, rfl⟩
theorem bend_new (w : World) (i : Nat) {x : Value} (h : bendCells[i]? = some x) : (w.alloc (.cells #[.string ⟨#[]⟩, .string ⟨#[32]⟩, .string ⟨#[48]⟩, .string ⟨#[120]⟩, .string ⟨#[49]⟩, .string ⟨#[45]⟩] 9)).cell? ⟨w.heap.size, i, none⟩ = some x := by
  rw [World.cell?_alloc_new, ← h]
  show bendCells.toArray[i]? = bendCells[i]?
  simp
theorem only_drew {S : List Nat} {a b : World} (h : Only S a b) : Only S a b.drew := ⟨h.os, h.tape, h.output, h.size, h.block⟩
theorem str_pre (s : List UInt8) (k : Int) (h0 : 0 ≤ k) (h1 : k ≤ s.length) (w : World) : (Instr.slice 9 (.string ⟨s.toArray⟩) none (some (.int .i64 k)) none).run Tryd.prog w = .ok (.string ⟨(s.take k.toNat).toArray⟩) w := by
  rw [run_slice_string_to_if w 9 _ .i64 k Tryd.underlying9, if_pos ⟨h0, by simpa [ByteArray.size] using h1⟩]
  congr 2
  apply bytes_inj
  simp
theorem str_suf (s : List UInt8) (k : Int) (h0 : 0 ≤ k) (h1 : k ≤ s.length) (w : World) : (Instr.slice 9 (.string ⟨s.toArray⟩) (some (.int .i64 k)) none none).run Tryd.prog w = .ok (.string ⟨(s.drop k.toNat).toArray⟩) w := by
  rw [run_slice_string_from_if w 9 _ .i64 k Tryd.underlying9, if_pos ⟨h0, by simpa [ByteArray.size] using h1⟩]
  congr 2
  apply bytes_inj
  simp [ByteArray.size]
  rw [List.take_of_length_le (by simp)]
theorem wrap_small {x : Int} (h0 : 0 ≤ x) (h1 : x ≤ 1000000) : IntKind.i64.wrap x = x := by
  exact IntWalk.i64_in x (by omega)
set_option maxRecDepth 100000 in
set_option maxHeartbeats 2000000 in
theorem line_any (q m : Nat) (n : Int) (w : World) (h : Rd w q m) (hm : m ≤ 100000) (hn : 1 ≤ n) (hn2 : n ≤ 1000) : Calls Tryd.prog 22 #[.pointer (some ⟨q, 0, none⟩), .int .i64 n] w (LineDrawn q m w) := by
  have hq := h.lt
  have H := Lib.hid h
  clear h
  go_enter Tryd.func22, Tryd.ntmps22
  go_wp2_with fail
  refine (order_any q m _ H.out (by omega)).mono ?_; rintro e w1 ⟨op, arg, rfl, o1, r1⟩
  have O1 := Lib.hid o1
  have R1 := Lib.hid r1
  clear o1 r1
  go_wp2_with fail
  refine (spec_fmt _ _ _).mono ?_; rintro e w2 ⟨rfl, b2⟩
  have O2 : Hid (Only [q] w w2) := O1.out.trans (.of_below b2)
  have R2 := Lib.hid (R1.out.keep b2)
  clear b2
  have hl := fmt_len op arg
  generalize fmtN op arg = l at hl
  obtain ⟨SS, hSS⟩ : ∃ SS : ByteArray, SS = ⟨l.toArray⟩ := ⟨_, rfl⟩
  have hsz : SS.size = l.length := by rw [hSS]; simp [ByteArray.size]
  rw [← hSS]
  have HSS := Lib.hid hSS
  clear hSS
  go_wp2_with fail
  refine (odd_any q (m + 8) n _ R2.out (by omega) (by omega) (by omega)).mono ?_; rintro e w3 ⟨b, rfl, s3, r3⟩
  have O3 := Lib.hid (O2.out.trans s3.only)
  have R3 := Lib.hid r3
  clear s3 r3
  cases b
  · go_wp2_with fail
    go_ret
    exact ⟨l, ret_sb HSS.out, by omega, O3.out, R3.out.mono (by omega)⟩
  · go_wp2_with fail
    refine (pick_any q (m + 9) ((l.length : Int) + 1) _ R3.out (by omega) (by omega) (by omega)).mono ?_
    rintro e w4 ⟨k, k0, k1, rfl, s4, r4⟩
    have O4 := Lib.hid (O3.out.trans s4.only)
    have R4 := Lib.hid r4
    clear s4 r4
    obtain ⟨S1, hS1⟩ : ∃ S1 : ByteArray, S1 = ⟨(l.take k.toNat).toArray⟩ := ⟨_, rfl⟩
    have hsl1 : ∀ w', (Instr.slice 9 (.string SS) none (some (.int .i64 k)) none).run Tryd.prog w' = .ok (.string S1) w' := fun w' => by rw [HSS.out, hS1]; exact str_pre l k k0 (by omega) w'
    have HS1 := Lib.hid hS1
    clear hS1
    have hk12 : k ≤ 12 := by omega
    go_upto_region 4 with (fail)
    have z4 : q < w4.heap.size := R4.out.lt
    have KP0 : Hid (Rd w4.drew q (m + 9 + 1)) := R4.out
    have KP1 : Hid (Rd (w4.alloc (.cells #[.string ⟨#[]⟩, .string ⟨#[32]⟩, .string ⟨#[48]⟩, .string ⟨#[120]⟩, .string ⟨#[49]⟩, .string ⟨#[45]⟩] 9)).drew q (m + 9 + 1)) := R4.out.alloc _
    have OP1 := Lib.hid (show (Only [q] w (w4.alloc (.cells #[.string ⟨#[]⟩, .string ⟨#[32]⟩, .string ⟨#[48]⟩, .string ⟨#[120]⟩, .string ⟨#[49]⟩, .string ⟨#[45]⟩] 9)).drew) from only_drew (O4.out.alloc _))
    have OP0 := Lib.hid (only_drew O4.out)
    go_region_with (first
      | (go_at_call 21; (with_reducible refine (pick_any q (m + 9 + 1) 6 _ KP1.out (by omega) (by omega) (by omega)).mono ?_); rintro e w5 ⟨v, v0, v1, rfl, s5, r5⟩; obtain ⟨t, ht, hu⟩ := bend_at v v0 v1; have cu : w5.cell? ⟨w4.heap.size, v.toNat, none⟩ = some (.string ⟨t.toArray⟩) := s5.cell (by show w4.heap.size ≠ q; omega) (bend_new w4 v.toNat hu); obtain ⟨U1, hU1⟩ : ∃ U1 : ByteArray, U1 = ⟨(l.take k.toNat ++ t).toArray⟩ := ⟨_, rfl⟩; have hadd1 : ∀ w', (Op.stringOp .add S1 ⟨t.toArray⟩).run Tryd.prog w' = .ok (.string U1) w' := (fun w' => by rw [HS1.out, hU1]; exact run_string_add_lists w' _ _ (by simp; omega) (by omega)); have HU1 := Lib.hid hU1; clear hU1; have R5 := Lib.hid r5; have O5 := Lib.hid (OP1.out.trans s5.only); clear s5 r5 hu)
      | (go_at_call 21; (with_reducible refine (pick_any q (m + 9 + 1) 6 _ KP0.out (by omega) (by omega) (by omega)).mono ?_); rintro e w5 ⟨v, v0, v1, rfl, s5, r5⟩; obtain ⟨t, ht, hu⟩ := bend_at v v0 v1; have cu0 : (w5.alloc (.cells #[.string ⟨#[]⟩, .string ⟨#[32]⟩, .string ⟨#[48]⟩, .string ⟨#[120]⟩, .string ⟨#[49]⟩, .string ⟨#[45]⟩] 9)).cell? ⟨w5.heap.size, v.toNat, none⟩ = some (.string ⟨t.toArray⟩) := bend_new w5 v.toNat hu; have RA : Hid (Rd (w5.alloc (.cells #[.string ⟨#[]⟩, .string ⟨#[32]⟩, .string ⟨#[48]⟩, .string ⟨#[120]⟩, .string ⟨#[49]⟩, .string ⟨#[45]⟩] 9)) q (m + 9 + 1 + 1)) := r5.alloc _; have OA := Lib.hid (show Only [q] w (w5.alloc (.cells #[.string ⟨#[]⟩, .string ⟨#[32]⟩, .string ⟨#[48]⟩, .string ⟨#[120]⟩, .string ⟨#[49]⟩, .string ⟨#[45]⟩] 9)) from (OP0.out.trans s5.only).alloc _); have z5 : q < w5.heap.size := r5.lt; have HU := Lib.hid hu; obtain ⟨U1, hU1⟩ : ∃ U1 : ByteArray, U1 = ⟨(l.take k.toNat ++ t).toArray⟩ := ⟨_, rfl⟩; have hadd1 : ∀ w', (Op.stringOp .add S1 ⟨t.toArray⟩).run Tryd.prog w' = .ok (.string U1) w' := (fun w' => by rw [HS1.out, hU1]; exact run_string_add_lists w' _ _ (by simp; omega) (by omega)); have HU1 := Lib.hid hU1; clear hU1; have R5 := Lib.hid r5; have O5 := Lib.hid (OP0.out.trans s5.only); clear s5 r5 hu)
      | (go_at_call 21; (with_reducible refine (pick_any q (m + 9 + 1 + 1) 2 _ R5.out (by omega) (by omega) (by omega)).mono ?_); rintro e w6 ⟨v2, u0, u1, rfl, s6, r6⟩; have cu' : w6.cell? ⟨w4.heap.size, v.toNat, none⟩ = some (.string ⟨t.toArray⟩) := s6.cell (by show w4.heap.size ≠ q; omega) cu; obtain ⟨j, hj⟩ : ∃ j : Int, j = min (l.length : Int) (k + v2) := ⟨_, rfl⟩; have hwr : IntKind.i64.wrap (k + v2) = k + v2 := wrap_small (by omega) (by omega); have hif : (if k + v2 < (l.length : Int) then k + v2 else (l.length : Int)) = j := (by rw [hj]; split <;> omega); have hj0 : 0 ≤ j := (by omega); have hj1 : j ≤ l.length := (by omega); clear hj; obtain ⟨S2, hS2⟩ : ∃ S2 : ByteArray, S2 = ⟨(l.drop j.toNat).toArray⟩ := ⟨_, rfl⟩; have hsl2 : ∀ w', (Instr.slice 9 (.string SS) (some (.int .i64 j)) none none).run Tryd.prog w' = .ok (.string S2) w' := (fun w' => by rw [HSS.out, hS2]; exact str_suf l j hj0 hj1 w'); obtain ⟨U2, hU2⟩ : ∃ U2 : ByteArray, U2 = ⟨(l.take k.toNat ++ t ++ l.drop j.toNat).toArray⟩ := ⟨_, rfl⟩; have hadd2 : ∀ w', (Op.stringOp .add U1 S2).run Tryd.prog w' = .ok (.string U2) w' := (fun w' => by rw [HU1.out, hS2, hU2]; exact run_string_add_lists w' _ _ (by simp; omega) (by simp; omega)); have HU2 := Lib.hid hU2; clear hU2 hS2; have R6 := Lib.hid r6; have O6 := Lib.hid (O5.out.trans s6.only); clear s6 r6)
      | (go_at_call 21; (with_reducible refine (pick_any q (m + 9 + 1 + 1) 2 _ RA.out (by omega) (by omega) (by omega)).mono ?_); rintro e w6 ⟨v2, u0, u1, rfl, s6, r6⟩; have cu' : w6.cell? ⟨w5.heap.size, v.toNat, none⟩ = some (.string ⟨t.toArray⟩) := s6.cell (by show w5.heap.size ≠ q; omega) cu0; obtain ⟨j, hj⟩ : ∃ j : Int, j = min (l.length : Int) (k + v2) := ⟨_, rfl⟩; have hwr : IntKind.i64.wrap (k + v2) = k + v2 := wrap_small (by omega) (by omega); have hif : (if k + v2 < (l.length : Int) then k + v2 else (l.length : Int)) = j := (by rw [hj]; split <;> omega); have hj0 : 0 ≤ j := (by omega); have hj1 : j ≤ l.length := (by omega); clear hj; obtain ⟨S2, hS2⟩ : ∃ S2 : ByteArray, S2 = ⟨(l.drop j.toNat).toArray⟩ := ⟨_, rfl⟩; have hsl2 : ∀ w', (Instr.slice 9 (.string SS) (some (.int .i64 j)) none none).run Tryd.prog w' = .ok (.string S2) w' := (fun w' => by rw [HSS.out, hS2]; exact str_suf l j hj0 hj1 w'); obtain ⟨U2, hU2⟩ : ∃ U2 : ByteArray, U2 = ⟨(l.take k.toNat ++ t ++ l.drop j.toNat).toArray⟩ := ⟨_, rfl⟩; have hadd2 : ∀ w', (Op.stringOp .add U1 S2).run Tryd.prog w' = .ok (.string U2) w' := (fun w' => by rw [HU1.out, hS2, hU2]; exact run_string_add_lists w' _ _ (by simp; omega) (by simp; omega)); have HU2 := Lib.hid hU2; clear hU2 hS2; have R6 := Lib.hid r6; have O6 := Lib.hid (OA.out.trans s6.only); clear s6 r6)
      | (go_at_call 21; (with_reducible refine (pick_any q (m + 9 + 1 + 1) 2 _ R5.out (by omega) (by omega) (by omega)).mono ?_); rintro e w6 ⟨v2, u0, u1, rfl, s6, r6⟩; have cu' : (w6.alloc (.cells #[.string ⟨#[]⟩, .string ⟨#[32]⟩, .string ⟨#[48]⟩, .string ⟨#[120]⟩, .string ⟨#[49]⟩, .string ⟨#[45]⟩] 9)).cell? ⟨w6.heap.size, v.toNat, none⟩ = some (.string ⟨t.toArray⟩) := bend_new w6 v.toNat HU.out; obtain ⟨j, hj⟩ : ∃ j : Int, j = min (l.length : Int) (k + v2) := ⟨_, rfl⟩; have hwr : IntKind.i64.wrap (k + v2) = k + v2 := wrap_small (by omega) (by omega); have hif : (if k + v2 < (l.length : Int) then k + v2 else (l.length : Int)) = j := (by rw [hj]; split <;> omega); have hj0 : 0 ≤ j := (by omega); have hj1 : j ≤ l.length := (by omega); clear hj; obtain ⟨S2, hS2⟩ : ∃ S2 : ByteArray, S2 = ⟨(l.drop j.toNat).toArray⟩ := ⟨_, rfl⟩; have hsl2 : ∀ w', (Instr.slice 9 (.string SS) (some (.int .i64 j)) none none).run Tryd.prog w' = .ok (.string S2) w' := (fun w' => by rw [HSS.out, hS2]; exact str_suf l j hj0 hj1 w'); obtain ⟨U2, hU2⟩ : ∃ U2 : ByteArray, U2 = ⟨(l.take k.toNat ++ t ++ l.drop j.toNat).toArray⟩ := ⟨_, rfl⟩; have hadd2 : ∀ w', (Op.stringOp .add U1 S2).run Tryd.prog w' = .ok (.string U2) w' := (fun w' => by rw [HU1.out, hS2, hU2]; exact run_string_add_lists w' _ _ (by simp; omega) (by simp; omega)); have HU2 := Lib.hid hU2; clear hU2 hS2; have R6 := Lib.hid r6; have O6 := Lib.hid (O5.out.trans s6.only); clear s6 r6))
    all_goals
      go_wp2_with fail
      go_ret
      exact ⟨_, ret_sb HU2.out, by simp; omega, (by first | exact O6.out | exact O6.out.alloc _), (by first | exact R6.out.mono (by omega) | exact (R6.out.alloc _).mono (by omega))⟩
end Go.Proofs.YtehiplkoofdkeaaDoor
