/- The model's names of the operations, and its digits of a number. -/
import Derived.Test.YtehiplkoofdkeaaDoorOps
import Derived.Great.BuildSlice
import Derived.Laws.BytesArg
import Derived.Lib.ItoaNum
import Derived.Deep.DeepCutAuto
namespace Go.Proofs.YtehiplkoofdkeaaDoor
open Go.ChangeShapes Go.WideShapes Go.ChangeAt Go.RowKit

/-- A slice literal of constants that fill a cell each. -/
theorem wpList_buildVals {P : Program} {ops : Array Oper} {rest : List Oper} {o : Oper} {a : Act} {w : World} {Q : Exit → Act → World → Prop} (hg : o.guard = none) (t e : TypeId) (len : Nat) (parts : Array (Nat × Operand)) (ho : o.op = .buildSlice t len parts)
    (vs : List Value)
    (hu : P.underlying t = some (.slice e)) (hsz : (P.info? e).map (·.size) = some 1) (hz : ((P.info? e).bind (·.zero)).isSome = true)
    (hlen : len = vs.length) (hpos : 0 < len) (hsmall : len ≤ 2 ^ 24) (h1 : ∀ v ∈ vs, v.cells = #[v])
    (hparts : parts.toList = (vs.zipIdx 0).map fun x => (x.2, Operand.const x.1))
    (h : wpList P ops Q rest (a.put o.dst (.slice (some ⟨w.heap.size, 0, none⟩) len len)) (w.alloc (.cells vs.toArray e))) : wpList P ops Q (o :: rest) a w := by
  cases hie : P.info? e with
  | none => simp [hie] at hsz
  | some ie =>
    simp only [hie, Option.map_some, Option.some.injEq, Option.bind_some] at hsz hz
    obtain ⟨z, hzz⟩ := Option.isSome_iff_exists.1 hz
    refine wpList_buildSlice hg t e len parts ho _ ie z hu hie hzz (by rw [hsz]; omega) (by rw [hsz]; omega) ?_ h
    rw [Array.toList_map, hparts, List.map_map, hsz]
    exact Great.fill_flat _ _ h1 (by simp [hlen])
def nameCells : List Value := opNames.map fun l => Value.string ⟨l.toArray⟩
theorem nameCells_one : ∀ v ∈ nameCells, v.cells = #[v] := by
  intro v hv
  obtain ⟨l, _, rfl⟩ := List.mem_map.1 hv
  rfl
set_option maxRecDepth 1000000 in
/-- A slice literal of the names. -/
theorem spec_names (w : World) : Calls Tryd.prog 42 #[] w fun e w' => e = .returned (.slice (some ⟨w.heap.size, 0, none⟩) 16 16) ∧ w' = w.alloc (.cells nameCells.toArray 9) := by
  go_enter Tryd.func42, Tryd.ntmps42
  go_upto_region 1 with (fail)
  apply wp_region_lit
  refine wpList_buildVals rfl 23 9 16 _ rfl nameCells (by kernel_rfl) (by kernel_rfl) (by kernel_rfl) (by kernel_rfl) (by decide) (by decide) nameCells_one (by kernel_rfl) ?_
  go_wp2
  go_ret
  exact ⟨rfl, rfl⟩
theorem dec_step (n : Nat) : Lib.decDigits n = (if n < 10 then [] else Lib.decDigits (n / 10)) ++ [UInt8.ofNat (48 + n % 10)] := by
  by_cases h : n < 10
  · rw [Lib.decDigits_one h, if_pos h, Nat.mod_eq_of_lt h]; rfl
  · rw [Lib.decDigits, dif_neg h, if_neg h]
theorem dig_cons (x : Nat) (l : List UInt8) : Value.string ((⟨#[48 + UInt8.ofNat x]⟩ : ByteArray) ++ ⟨l.toArray⟩) = .string ⟨(UInt8.ofNat (48 + x) :: l).toArray⟩ := by
  congr 1
  apply ByteArray.ext
  simp
theorem conv_one (w : World) (x : Int) : (convert 22 9 (.slice (some ⟨w.heap.size, 0, none⟩) 1 1)).run Tryd.prog (w.alloc (.cells #[.int .u8 x] 5)) = .ok (.string ⟨#[UInt8.ofNat x.toNat]⟩) (w.alloc (.cells #[.int .u8 x] 5)) := by
  rw [run_convert_bytes_arg (P := Tryd.prog) _ 22 5 (by kernel_rfl) (by kernel_rfl) w.heap.size 0 1 1 [x] rfl (fun i hi => by
    obtain rfl : i = 0 := by omega
    simp) 9 (by kernel_rfl)]
  rfl
set_option maxHeartbeats 1000000 in
theorem spec_digits (n : Nat) (hn : n ≤ 1023) (w : World) : Calls Tryd.prog 43 #[.int .i64 n] w fun e w' => e = .returned (.string ⟨(Lib.decDigits n).toArray⟩) ∧ Below w.heap.size w w' := by
  have hcv := conv_one
  go_enter Tryd.func43, Tryd.ntmps43
  go_wp2
  go_loopw [0, 3] (fun t s wr => ∃ (m : Nat) (l : List UInt8), m ≤ 1023 ∧ l.length + m ≤ 2000 ∧ t = .int .i64 m ∧ s = .string ⟨l.toArray⟩ ∧ Lib.decDigits n = (if m < 10 then [] else Lib.decDigits (m / 10)) ++ l ∧ Below w.heap.size w wr) (fun t _ _ => (intOf t).toNat)
  case atStart => exact ⟨n, [UInt8.ofNat (48 + n % 10)], hn, by simp; omega, rfl, rfl, dec_step n, below1 w _⟩
  case round =>
    obtain ⟨m, l, hm, hl, rfl, rfl, he, hb⟩ := hrel
    have HE := Lib.hid he
    have HB := Lib.hid hb
    clear he hb
    by_cases h9 : 9 < m
    · have hadd : ∀ w' : World, (Op.stringOp .add ⟨#[UInt8.ofNat (48 + m / 10 % 10)]⟩ ⟨l.toArray⟩).run Tryd.prog w' = .ok (.string ⟨(UInt8.ofNat (48 + m / 10 % 10) :: l).toArray⟩) w' := fun w' => run_string_add_lists w' [UInt8.ofNat (48 + m / 10 % 10)] l (by simp) (by omega)
      go_wp2
      go_roundw
      case rel =>
        refine ⟨m / 10, UInt8.ofNat (48 + m / 10 % 10) :: l, by omega, by simp; omega, by go_num, dig_cons _ _, ?_, HB.out.alloc HB.out.size _⟩
        rw [HE.out, if_neg (by omega), dec_step (m / 10)]
        simp
      case measure => simp [intOf]; omega
    · have HL := Lib.hid (show Lib.decDigits n = l by rw [HE.out, if_pos (by omega)]; rfl)
      rw [HL.out]
      go_wp2
      go_ret
      exact ⟨by rw [HL.out]; rfl, HB.out⟩
end Go.Proofs.YtehiplkoofdkeaaDoor
