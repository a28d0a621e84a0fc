/- What ParseOrder calls of the library: strconv.Atoi at every text, strings.Cut at a blank. -/
import Derived.Test.YtmdldoofljdakaaDoorFmt
import Derived.Test.YtmdldoofljdakaaDoorOpm
import Derived.Lib.AtoiErrMem
namespace Go.Proofs.YtmdldoofljdakaaDoor
open Go.ChangeShapes Go.WideShapes Go.ChangeAt Go.RowKit

theorem ba_ne {a b : ByteArray} (h : ¬ a = b) : (a.toList == b.toList) = false := by
  rw [ByteArray.toList_eq, ByteArray.toList_eq]
  cases hq : (a.data.toList == b.data.toList) with
  | false => rfl
  | true => exact absurd (bytes_inj (by simpa using hq)) h
theorem gSyn : Tryd.prog.globalNamed "strconv.ErrSyntax" = some 3 := by kernel_rfl
theorem gRng : Tryd.prog.globalNamed "strconv.ErrRange" = some 4 := by kernel_rfl
/-- What ParseOrder reads beside its argument: FormatOrder's tables, a number of the library's search, the library's two errors. -/
def NumEnv (w : World) : Prop := Env w ∧ (∃ m, w.cell? ⟨2, 0, none⟩ = some (.int .i64 m)) ∧ (∃ tp p, w.var? Tryd.prog "strconv.ErrSyntax" = some #[.iface tp p]) ∧ (∃ tp p, w.var? Tryd.prog "strconv.ErrRange" = some #[.iface tp p])
theorem NumEnv.below {w w' : World} (h : NumEnv w) (k : Below w.heap.size w w') : NumEnv w' := by
  obtain ⟨he, ⟨m, hm⟩, ⟨t1, p1, h1⟩, ⟨t2, p2, h2⟩⟩ := h
  exact ⟨he.below k, ⟨m, (k.cell (World.block_lt_of_cell? _ _ hm)).trans hm⟩, ⟨t1, p1, var_same gSyn h1 (k.block _ (var_block gSyn h1))⟩, ⟨t2, p2, var_same gRng h2 (k.block _ (var_block gRng h2))⟩⟩
/-- The number that strconv.Atoi returns, whether there is an error or not. -/
def atoiV (l : List UInt8) : Int := match Lib.atoiAll l with
  | .ok v => v
  | .range => Lib.atoiSat l
  | _ => 0
theorem below_bytes {w : World} {t : TypeId} {l : ByteArray} : Below w.heap.size w (Lib.bytesWorld w t l) := Lib.bytesWorld_below w t l
theorem atoi_any (l : List UInt8) (hl : l.length ≤ 281474976710656) (w : World) (h : NumEnv w) : Calls Tryd.prog 65 #[.string ⟨l.toArray⟩] w fun e w' => ∃ ev, e = .returned (.tuple #[.int .i64 (atoiV l), ev]) ∧ Below w.heap.size w w' := by
  obtain ⟨_, _, ⟨t1, p1, h1⟩, ⟨t2, p2, h2⟩⟩ := h
  cases hr : Lib.atoiAll l
  · rename_i v
    refine (Tryd.strconv_Atoi_ok ⟨l.toArray⟩ (by simp [ByteArray.size]; omega) v (by simpa using hr) w).mono ?_
    rintro e w' ⟨rfl, hw⟩
    refine ⟨.nilIface, by rw [atoiV, hr], ?_⟩
    rcases hw with rfl | ⟨t, rfl⟩
    · exact Below.refl _ _
    · exact below_bytes
  · refine (Any.strconv_Atoi_syntax_var Tryd.laysC172 ⟨l.toArray⟩ (by simp [ByteArray.size]; omega) (by simpa using hr) t1 p1 w h1).mono ?_
    rintro e w' ⟨N, rfl, _, _, hb⟩
    exact ⟨_, by rw [atoiV, hr], hb⟩
  · refine (Tryd.strconv_Atoi_range_var ⟨l.toArray⟩ (by simp [ByteArray.size]; omega) (by simpa using hr) t2 p2 w h2).mono ?_
    rintro e w' ⟨N, rfl, _, _, hb⟩
    exact ⟨_, by rw [atoiV, hr], hb⟩
/-- What stands before the first blank, and what behind it. -/
def cutA (l : List UInt8) : List UInt8 := (Lib.cut l [32]).1
def cutB (l : List UInt8) : List UInt8 := (Lib.cut l [32]).2.1
theorem cutB_len (l : List UInt8) : (cutB l).length ≤ l.length := by
  unfold cutB Lib.cut
  split <;> simp
theorem cutA_len (l : List UInt8) : (cutA l).length ≤ l.length := by
  unfold cutA Lib.cut
  split <;> simp <;> omega
theorem cut_any (l : List UInt8) (hl : l.length < 4294967281) (w : World) (h : NumEnv w) : Calls Tryd.prog 64 #[.string ⟨l.toArray⟩, .string ⟨#[32]⟩] w fun e w' => (∃ x, e = .returned (.tuple #[.string ⟨(cutA l).toArray⟩, .string ⟨(cutB l).toArray⟩, .bool x])) ∧ Below w.heap.size w w' := by
  obtain ⟨_, ⟨m, hm⟩, _, _⟩ := h
  refine (Tryd.strings_Cut ⟨l.toArray⟩ ⟨#[32]⟩ m w (by simp [ByteArray.size]; omega) hm).mono ?_
  rintro e w' ⟨rfl, n, rfl⟩
  exact ⟨⟨_, rfl⟩, below_drewN (Below.refl _ _) n⟩
/-- The instruction that the program reads in a text, if its name is that of operation k. -/
theorem par_yes (s : List UInt8) (k : Nat) (hk : k < 16) (hn : cutA s = nameN k) (hf : fmtN k (atoiV (cutB s)) = s) : parN s = some ((k : Int), atoiV (cutB s)) := by
  have hne : s ≠ [] := by
    rintro rfl
    obtain ⟨_, _, h⟩ := name_plain k hk
    exact h (hn.symm.trans rfl)
  have hv := fmt_valid (op := (k : Int)) (arg := atoiV (cutB s)) (by rw [hf]; exact hne)
  have := par_fmt hv
  rwa [hf] at this
theorem par_no (s : List UInt8) (h : ∀ k : Nat, k < 16 → cutA s = nameN k → fmtN k (atoiV (cutB s)) ≠ s) : parN s = none := by
  apply par_none
  intro op arg hv e
  obtain ⟨k, hk, rfl, h0, h1, _⟩ := fmt_ne hv
  obtain ⟨c1, c2⟩ := cut_fmt hv
  rw [e] at c1 c2
  have ha : atoiV (cutB s) = arg := by
    unfold cutB
    rcases c2 with ⟨c2, rfl⟩ | c2
    · rw [c2]; rfl
    · rw [c2]
      obtain ⟨_, _, hd⟩ := dec_plain arg.toNat (by omega)
      unfold atoiV
      rw [hd]
      show ((arg.toNat : Nat) : Int) = arg
      omega
  exact h k hk c1 (by rw [ha]; exact e)
end Go.Proofs.YtmdldoofljdakaaDoor
