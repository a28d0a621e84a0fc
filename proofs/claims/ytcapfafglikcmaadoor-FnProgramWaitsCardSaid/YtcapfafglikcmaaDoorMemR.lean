/- Contracts of the program's functions on memory (chapter 2): the four ranges of addresses, read and written. -/
import Derived.Test.YtcapfafglikcmaaDoorKE
import Derived.Laws.Entries
namespace Go.Proofs.YtcapfafglikcmaaDoor
open Go.ChangeShapes Go.WideShapes Go.ChangeAt Go.RowKit

theorem run_store_func (w : World) (a : Addr) (m : Mode) (fn : Fn) (x y : Array Value) : (store a (.func fn x y) m).run Tryd.prog w = stored Tryd.prog w a (.func fn x y) m := run_store Tryd.prog w a _ m rfl
/-- What finding a range leaves. -/
def Found (f g : FuncId) (w : World) (e : Ending) (w' : World) : Prop := e = .returned (.agg #[.func (.func f) #[] #[], .func (.func g) #[] #[]]) ∧ Below w.heap.size w w'
theorem region_0 (a : Int) (w : World) (h0 : 0 ≤ a) (h1 : a < 256) : Calls Tryd.prog 53 #[.int .i64 a] w (Found 72 73 w) := by
  have hst := run_store_func
  have hq : a / 256 = 0 := by omega
  go_enter Tryd.func53, Tryd.ntmps53
  go_wp2_with fail
  exact bodyPost_ret (v := .agg #[.func (.func 72) #[] #[], .func (.func 73) #[] #[]]) (by simp [results, Tryd.results53, go_sem]) rfl ⟨rfl, below2 w _ _⟩
theorem region_1 (a : Int) (w : World) (h0 : 256 ≤ a) (h1 : a < 512) : Calls Tryd.prog 53 #[.int .i64 a] w (Found 72 73 w) := by
  have hst := run_store_func
  have hq : a / 256 = 1 := by omega
  go_enter Tryd.func53, Tryd.ntmps53
  go_wp2_with fail
  exact bodyPost_ret (v := .agg #[.func (.func 72) #[] #[], .func (.func 73) #[] #[]]) (by simp [results, Tryd.results53, go_sem]) rfl ⟨rfl, below2 w _ _⟩
theorem region_2 (a : Int) (w : World) (h0 : 512 ≤ a) (h1 : a < 768) : Calls Tryd.prog 53 #[.int .i64 a] w (Found 74 75 w) := by
  have hst := run_store_func
  have hq : a / 256 = 2 := by omega
  go_enter Tryd.func53, Tryd.ntmps53
  go_wp2_with fail
  exact bodyPost_ret (v := .agg #[.func (.func 74) #[] #[], .func (.func 75) #[] #[]]) (by simp [results, Tryd.results53, go_sem]) rfl ⟨rfl, below2 w _ _⟩
theorem region_3 (a : Int) (w : World) (h0 : 768 ≤ a) (h1 : a < 1024) : Calls Tryd.prog 53 #[.int .i64 a] w (Found 76 77 w) := by
  have hst := run_store_func
  have hq : a / 256 = 3 := by omega
  go_enter Tryd.func53, Tryd.ntmps53
  go_wp2_with fail
  exact bodyPost_ret (v := .agg #[.func (.func 76) #[] #[], .func (.func 77) #[] #[]]) (by simp [results, Tryd.results53, go_sem]) rfl ⟨rfl, below2 w _ _⟩
theorem readRam_any (A : Option Addr) (n c : Nat) (R : Option Addr) (k d : Nat) (M : Mem) (fa : List Nat) (p : Nat) (w : World) (hi : Ints w A n M.ram fa) (hp : p < n) (hn : n ≤ 1000000000) :
    Calls Tryd.prog 72 #[.agg #[.slice A n c, .slice R k d, .int .i64 M.bank], .int .i64 p] w fun e w' => e = .returned (.int .i64 (M.ram.getD p 0)) ∧ Below w.heap.size w w' := by
  obtain ⟨b, o, rfl, _, hb, hc⟩ := (hi.below (below1 w (.cells #[.slice A n c, .slice R k d, .int .i64 M.bank] 26))).at_ (by omega)
  have c1 := hc p hp
  clear hc hi
  generalize M.ram.getD p 0 = x at c1
  go_enter Tryd.func72, Tryd.ntmps72
  go_wp2
  go_ret
  exact ⟨rfl, below1 w _⟩
theorem readFirst_any (A : Option Addr) (n c : Nat) (R : Option Addr) (k d : Nat) (M : Mem) (fr : List Nat) (p : Nat) (w : World) (hg : Grid w R k M.rom fr) (hk : 0 < k) (hp : p < (M.rom.getD 0 []).length) (hn : (M.rom.getD 0 []).length ≤ 1000000000) :
    Calls Tryd.prog 74 #[.agg #[.slice A n c, .slice R k d, .int .i64 M.bank], .int .i64 p] w fun e w' => e = .returned (.int .i64 ((M.rom.getD 0 []).getD p 0)) ∧ Below w.heap.size w w' := by
  obtain ⟨b, o, a, m, e, f', rfl, hb, c1, _, i1, _⟩ := (hg.below (below1 w (.cells #[.slice A n c, .slice R k d, .int .i64 M.bank] 26))).row hk
  have hl := i1.1
  obtain ⟨b', o', rfl, _, hb', hc⟩ := i1.at_ (by omega)
  have c2 := hc p (by omega)
  have hpm : p < m := by omega
  have hmm : m ≤ 1000000000 := by omega
  clear hc i1 hg hl hp hn
  rw [Nat.add_zero] at c1
  generalize (M.rom.getD 0 []).getD p 0 = x at c2
  go_enter Tryd.func74, Tryd.ntmps74
  go_wp2
  go_ret
  exact ⟨rfl, below1 w _⟩
theorem readSwitched_any (A : Option Addr) (n c : Nat) (R : Option Addr) (k d : Nat) (M : Mem) (fr : List Nat) (p : Nat) (w : World) (hg : Grid w R k M.rom fr) (h0 : 0 ≤ M.bank) (h1 : M.bank < k) (hk2 : k ≤ 1000000000) (hp : p < (M.rom.getD M.bank.toNat []).length) (hn : (M.rom.getD M.bank.toNat []).length ≤ 1000000000) :
    Calls Tryd.prog 76 #[.agg #[.slice A n c, .slice R k d, .int .i64 M.bank], .int .i64 p] w fun e w' => e = .returned (.int .i64 ((M.rom.getD M.bank.toNat []).getD p 0)) ∧ Below w.heap.size w w' := by
  obtain ⟨b, o, a, m, e, f', rfl, hb, c1, _, i1, _⟩ := (hg.below (below1 w (.cells #[.slice A n c, .slice R k d, .int .i64 M.bank] 26))).row (i := M.bank.toNat) (by omega)
  have hl := i1.1
  obtain ⟨b', o', rfl, _, hb', hc⟩ := i1.at_ (by omega)
  have c2 := hc p (by omega)
  have hpm : p < m := by omega
  have hmm : m ≤ 1000000000 := by omega
  clear hc i1 hg hl hp hn
  generalize (M.rom.getD M.bank.toNat []).getD p 0 = x at c2
  go_enter Tryd.func76, Tryd.ntmps76
  go_wp2
  go_ret
  exact ⟨rfl, below1 w _⟩
end Go.Proofs.YtcapfafglikcmaaDoor
