/- The reader's other functions: 'odd', a new reader over a slice of bytes, and a drawn byte. -/
import Derived.Test.YtlppmcflgbeolaaDraw
namespace Go.Proofs.Ytlppmcflgbeolaa
open Go.ChangeShapes Go.WideShapes Go.ChangeAt Go.RowKit

/-- What 'odd' leaves: some answer. -/
def Odded (q m : Nat) (w : World) (e : Ending) (w' : World) : Prop :=
  ∃ b : Bool, e = .returned (.bool b) ∧ Sole q w w' ∧ Rd w' q (m + 1)
/-- What a draw of a number leaves: one between lo and hi; the reader has been asked up to k times more. -/
def Drawn (q m k : Nat) (lo hi : Int) (w : World) (e : Ending) (w' : World) : Prop :=
  ∃ v : Int, lo ≤ v ∧ v ≤ hi ∧ e = .returned (.int .i64 v) ∧ Sole q w w' ∧ Rd w' q (m + k)
theorem odd_any (q m : Nat) (n : Int) (w : World) (h : Rd w q m) (hm : m ≤ 1000000000) (hn : 1 ≤ n) (hn2 : n ≤ 1000000000) :
    Calls Try.prog 64 #[.pointer (some ⟨q, 0, none⟩), .int .i64 n] w (Odded q m w) := by
  have H := Lib.hid h
  clear h
  go_enter Try.func64, Try.ntmps64
  go_wp2_with fail
  refine (pick_any q m n _ H.out hm hn hn2).mono ?_
  rintro e w1 ⟨v, v0, v1, rfl, hs, hr⟩
  go_wp2_with fail
  go_ret
  exact ⟨_, rfl, hs, hr⟩
theorem Rd.lt {w : World} {q m : Nat} (h : Rd w q m) : q < w.heap.size := by
  obtain ⟨p, a, len, cap, h1, _⟩ := h
  exact h1
theorem lit_cell {w w' : World} {q : Nat} {cs : Array Value} {T : TypeId} (lo hi : Int) (hs : Sole q (w.alloc (.cells cs T)) w') (hq : q < w.heap.size) (v : Int) (_h0 : 0 ≤ v) (hv : ∃ u : Int, cs[v.toNat]? = some (.int .i64 u) ∧ lo ≤ u ∧ u ≤ hi) :
    ∃ u : Int, w'.cell? ⟨w.heap.size, v.toNat, none⟩ = some (.int .i64 u) ∧ lo ≤ u ∧ u ≤ hi := by
  obtain ⟨u, hu, u0, u1⟩ := hv
  refine ⟨u, hs.cell (show w.heap.size ≠ q by omega) ?_, u0, u1⟩
  rw [World.cell?_alloc_new]; exact hu
theorem eight (v v5 v6 v7 : Int) (d0 : 0 ≤ v) (d1 : v < 8) (a0 : 0 ≤ v5) (a1 : v5 < 256) (b0 : 0 ≤ v6) (b1 : v6 < 256) (c0 : 0 ≤ v7) (c1 : v7 < 256) :
    ∃ u : Int, (#[Value.int .i64 0, .int .i64 1, .int .i64 127, .int .i64 128, .int .i64 255, .int .i64 v5, .int .i64 v6, .int .i64 v7] : Array Value)[v.toNat]? = some (.int .i64 u) ∧ -1 ≤ u ∧ u ≤ 256 := by
  have h : v = 0 ∨ v = 1 ∨ v = 2 ∨ v = 3 ∨ v = 4 ∨ v = 5 ∨ v = 6 ∨ v = 7 := by omega
  rcases h with rfl | rfl | rfl | rfl | rfl | rfl | rfl | rfl <;> exact ⟨_, rfl, by omega, by omega⟩
theorem two (v : Int) (d0 : 0 ≤ v) (d1 : v < 2) : ∃ u : Int, (#[Value.int .i64 (-1), .int .i64 256] : Array Value)[v.toNat]? = some (.int .i64 u) ∧ -1 ≤ u ∧ u ≤ 256 := by
  have h : v = 0 ∨ v = 1 := by omega
  rcases h with rfl | rfl <;> exact ⟨_, rfl, by omega, by omega⟩
/-- A new reader over a slice that came in. -/
def Opened (w : World) (e : Ending) (w' : World) : Prop :=
  e = .returned (.pointer (some ⟨w.heap.size, 0, none⟩)) ∧ Below w.heap.size w w' ∧ Rd w' w.heap.size 0
theorem getD_mem (zs : List Int) (i : Nat) (h : i < zs.length) : zs.getD i 0 ∈ zs := by simp [List.getD, List.getElem?_eq_getElem h]
theorem feed_of (w : World) (a : Option Addr) (len cap : Nat) (zs : List Int) (h : IsRow .u8 w a len cap zs) (o : Obj) : Feed (w.alloc o) w.heap.size a len := by
  rcases h with ⟨_, h, _⟩ | ⟨x, rfl, hl, hm, hz, hc, hw⟩
  · exact .inl h
  · by_cases h0 : len = 0
    · exact .inl h0
    · obtain ⟨b, off, rfl, hc2⟩ := ints_at hc (by omega)
      have hb : b < w.heap.size := World.block_lt_of_cell? _ _ (hc2 0 (by omega))
      refine .inr ⟨b, off, rfl, hb, fun i hi => ⟨zs.getD i 0, ?_, ?_, ?_⟩⟩
      · have hi' : i < zs.length := by omega
        have := bounds_u8 (hw (zs.getD i 0) (getD_mem zs i hi'))
        omega
      · have hi' : i < zs.length := by omega
        have := bounds_u8 (hw (zs.getD i 0) (getD_mem zs i hi'))
        omega
      · rw [World.cell?_alloc_lt _ _ _ hb]; exact hc2 i (by omega)
theorem feed_less {w : World} {q : Nat} {a : Option Addr} {len len' : Nat} (h : Feed w q a len) (k : len' ≤ len) : Feed w q a len' := by
  rcases h with h | ⟨b, off, rfl, hb, hc⟩
  · exact .inl (by omega)
  · exact .inr ⟨b, off, rfl, hb, fun i hi => hc i (by omega)⟩
theorem rd_new (w : World) (a : Option Addr) (len cap T : Nat) (h6 : len ≤ 2000) (h7 : len ≤ cap) (h8 : Feed (w.alloc (.cells #[.slice a len cap, .int .i64 0] T)) w.heap.size a len) : Rd (w.alloc (.cells #[.slice a len cap, .int .i64 0] T)) w.heap.size 0 :=
  ⟨0, a, len, cap, by simp, Nat.le_refl _, by simp, by simp, by simp, h6, h7, h8⟩
theorem open_any (a : Option Addr) (len cap : Nat) (zs : List Int) (w : World) (h : IsRow .u8 w a len cap zs) :
    Calls Try.prog 36 #[.slice a len cap] w (Opened w) := by
  have hl : len ≤ cap := by rcases h with ⟨_, h1, h2, _⟩ | ⟨x, _, hl, _⟩ <;> omega
  have hm : cap ≤ maxLen := by rcases h with ⟨_, h1, h2, _⟩ | ⟨x, _, _, hm, _⟩ <;> simp_all
  have HF := Lib.hid (fun o => feed_of w a len cap zs h o)
  unfold maxLen at hm
  by_cases h2 : len ≤ 2000
  · clear h
    go_enter Try.func36, Try.ntmps36
    go_wp2
    go_ret
    exact ⟨rfl, (Below.refl _ _).alloc (Nat.le_refl _) _, rd_new w a len cap _ h2 hl (HF.out _)⟩
  · rcases h with ⟨_, h1, _⟩ | ⟨x, rfl, _⟩
    · omega
    · go_enter Try.func36, Try.ntmps36
      go_wp2
      go_ret
      exact ⟨rfl, (Below.refl _ _).alloc (Nat.le_refl _) _, rd_new w _ 2000 cap _ (by omega) (by omega) (feed_less (HF.out _) (by omega))⟩
end Go.Proofs.Ytlppmcflgbeolaa
