/- The model's drawn backgrounds: what lies in memory while one is drawn. -/
import Derived.Test.YtfbpnneegenhgaaFldO
import Derived.Test.YtfbpnneegenhgaaTilG
import Derived.Great.BuildSlice
namespace Go.Proofs.Ytfbpnneegenhgaa
open Go.ChangeShapes Go.WideShapes Go.ChangeAt Go.RowKit
set_option linter.unusedVariables false

theorem own_only_any {S : List Nat} {w w' : World} {base : Nat} {e : TypeId} {s : Nat} {v : Value} {n : Nat} {xs : List Value} (h : w.ownsRow base e s v n xs) (k : Only S w w') (hS : ∀ b ∈ S, b < base) : w'.ownsRow base e s v n xs := by
  rcases h with ⟨hl, h | ⟨g, cap, cur, rfl, hb, hh, hr⟩⟩
  · exact ⟨hl, .inl h⟩
  · have hg : g < w.heap.size := by
      by_cases hl : g < w.heap.size
      · exact hl
      · rw [Array.getElem?_eq_none (by omega)] at hh; cases hh
    exact ⟨hl, .inr ⟨g, cap, cur, rfl, hb, (k.block g hg (fun hs => by have := hS g hs; omega)).trans hh, hr⟩⟩
theorem own_block {w : World} {base : Nat} {e : TypeId} {s : Nat} {v : Value} {n : Nat} {xs : List Value} (h : w.ownsRow base e s v n xs) : ∀ g, v.ownBlock = some g → base ≤ g ∧ g < w.heap.size ∧ ∃ cur, w.heap[g]? = some (.cells cur e (0, 0)) := by
  intro g hg
  rcases h.2 with ⟨rfl, _⟩ | ⟨g', cap, cur, rfl, hb, hh, _⟩
  · simp [Value.ownBlock] at hg
  · have e : some g' = some g := hg
    injection e with e
    subst e
    refine ⟨hb, ?_, cur, hh⟩
    by_cases hl : g' < w.heap.size
    · exact hl
    · rw [Array.getElem?_eq_none (by omega)] at hh; cases hh
/-- A row of the call's own stays when a row of another type grows. -/
theorem own_beside {w w' : World} {base : Nat} {e e' : TypeId} {s s' : Nat} {v u : Value} {n n' : Nat} {xs ys : List Value} (h : w.ownsRow base e s v n xs) (k : w.ownsRow base e' s' u n' ys) (hne : e ≠ e') (g : w.grownBy w' u.ownBlock) : w'.ownsRow base e s v n xs := by
  have hb := own_block k
  have ho := own_block h
  rcases h with ⟨hl, h | ⟨g0, cap, cur, rfl, hb0, hh, hr⟩⟩
  · exact ⟨hl, .inl h⟩
  · obtain ⟨_, hlt, _⟩ := ho g0 rfl
    refine ⟨hl, .inr ⟨g0, cap, cur, rfl, hb0, (g.block g0 hlt fun hs => ?_).trans hh, hr⟩⟩
    obtain ⟨_, _, cur', hc⟩ := hb g0 hs.symm
    rw [hh] at hc
    simp only [Option.some.injEq, Obj.cells.injEq] at hc
    exact hne hc.2.1
theorem only_grown {S : List Nat} {a w w' : World} {row : Option Nat} (h : Only S a w) (g : w.grownBy w' row) (hr : ∀ k, row = some k → a.heap.size ≤ k) : Only S a w' :=
  ⟨g.os.trans h.os, g.tape.trans h.tape, g.output.trans h.output, Nat.le_trans h.size g.size, fun k hk hn => (g.block k (Nat.lt_of_lt_of_le hk h.size) (fun e => by have := hr k e.symm; omega)).trans (h.block k hk hn)⟩
theorem box_grown {w w' : World} {row : Option Nat} {b : Nat} {t : TypeId} {cs : List Value} (h : Box w b t cs) (g : w.grownBy w' row) (hr : ∀ k, row = some k → b ≠ k) : Box w' b t cs := (g.block b h.lt (fun e => hr b e.symm rfl)).trans h
theorem rd_grown {w w' : World} {row : Option Nat} {q m : Nat} (h : Rd w q m) (g : w.grownBy w' row) (hr : ∀ k, row = some k → q < k) : Rd w' q m :=
  h.stay ⟨g.os, g.tape, g.output, g.size, fun k hk => g.block k (by have := h.lt; omega) (fun e => by have := hr k e.symm; omega)⟩
section
variable {w0 : World} {q r b m : Nat} {W sx sy : Int} {n nt : Nat} {xs zs : List Int} {mv tv : Value} {w : World}
end
section
variable {w0 : World} {q r b m : Nat} {W sx sy : Int} {A : Option Addr} {n c : Nat} {T : Option Addr} {nt d : Nat} {xs zs : List Int} {fa ft : List Nat} {w : World}
end
theorem only_setCells {S : List Nat} {a : World} (b : Nat) : ∀ (vs : List Value) (o : Nat) (w : World), Only S a w → (b ∈ S ∨ a.heap.size ≤ b) → Only S a (w.setCells b o vs)
  | [], _, _, h, _ => h
  | v :: r, o, w, h, hb => by
    rw [World.setCells]
    exact only_setCells b r (o + 1) _ (h.setCell hb v) hb
theorem rd_setCells {q m : Nat} (b : Nat) (hq : q < b) : ∀ (vs : List Value) (o : Nat) (w : World), Rd w q m → Rd (w.setCells b o vs) q m
  | [], _, _, h => h
  | v :: r, o, w, h => by
    rw [World.setCells]
    exact rd_setCells b hq r (o + 1) _ (h.far hq v)
/-- What drawing a background leaves. -/
def FldDrawn (q m : Nat) (w : World) (e : Ending) (w' : World) : Prop := ∃ (F : Fld) (A : Option Addr) (c : Nat) (T : Option Addr) (d : Nat) (fa ft : List Nat), e = .returned (fv F A c T d) ∧ F.xs.length ≤ 1000 ∧ F.nt ≤ 1000 ∧ F.xs.length ≤ c ∧ F.nt ≤ d ∧ FHas w' A T F fa ft ∧ New w.heap.size w' (fa ++ ft) ∧ Only [q] w w' ∧ Rd w' q (m + 1000)
theorem New.left {L : Nat} {w : World} {fp fq : List Nat} (h : New L w (fp ++ fq)) : New L w (fp ++ []) := by
  rw [List.append_nil]
  exact ⟨(List.nodup_append.1 h.once).1, fun b hb => h.lt b (List.mem_append_left _ hb), fun b hb => h.free b (List.mem_append_left _ hb)⟩
theorem New.right {L : Nat} {w : World} {fp fq : List Nat} (h : New L w (fp ++ fq)) : New L w ([] ++ fq) :=
  ⟨(List.nodup_append.1 h.once).2.1, fun b hb => h.lt b (List.mem_append_right _ hb), fun b hb => h.free b (List.mem_append_right _ hb)⟩
theorem New.part {L : Nat} {w : World} {fp fp' fq : List Nat} (h : New L w (fp ++ fq)) (k : fp' = [] ∨ fp' = fp) : New L w (fp' ++ fq) := by
  rcases k with rfl | rfl
  · exact h.right
  · exact h
/-- A slice without its first number. -/
theorem ints_tail {w : World} {p o n : Nat} {xs : List Int} {fp : List Nat} (h : Ints w (some ⟨p, o, none⟩) n xs fp) (hn : 1 ≤ n) : ∃ fp', Ints w (some ⟨p, o + 1, none⟩) (n - 1) (xs.drop 1) fp' ∧ (fp' = [] ∨ fp' = fp) := by
  have hl := h.1
  obtain ⟨p', o', he, hf, hp, hc⟩ := h.at_ (by omega)
  injection he with he
  injection he with e1 e2 _
  subst e1 e2
  by_cases h1 : n = 1
  · refine ⟨[], ⟨by rw [List.length_drop]; omega, .inl ⟨by omega, rfl⟩⟩, .inl rfl⟩
  · refine ⟨fp, ⟨by rw [List.length_drop]; omega, .inr ⟨by omega, p, o + 1, rfl, hf, hp, fun i hi => ?_⟩⟩, .inr rfl⟩
    have := hc (i + 1) (by omega)
    rw [show o + 1 + i = o + (i + 1) by omega, this, List.getD_eq_getElem?_getD, List.getD_eq_getElem?_getD, List.getElem?_drop, Nat.add_comm 1 i]
/-- A slice of one tile. -/
theorem fill_tile (px : List Int) (hp : px.length = 64) (cells : Array Value) (hc : cells.size = 64) : Instr.fill (fun i => some (i * 64, 64)) cells [(0, tilV px)] = some (iv px).toArray := by
  have hs : (tilV px).cells.size = 64 := by show (iv px).toArray.size = 64; simp [hp]
  obtain ⟨r, h1, h2, h3⟩ := Great.fill_dense (s := 64) (by omega) [tilV px] 0 cells (by intro v hv; simp at hv; subst hv; exact hs) (by simp [hc])
  have e : (([tilV px].zipIdx 0).map fun x => (x.2, x.1)) = [(0, tilV px)] := rfl
  rw [e] at h1
  rw [h1]
  congr 1
  apply Array.ext_getElem?
  intro k
  rw [h3 k]
  by_cases hk : k < 64
  · rw [if_pos ⟨by omega, by simpa using hk⟩, show k / 64 - 0 = 0 by omega, show k % 64 = k by omega]
    rfl
  · rw [if_neg (by simp; omega)]
    rw [Array.getElem?_eq_none (by omega), Array.getElem?_eq_none (by simp [hp]; omega)]
/-- The same as the walk leaves it. -/
theorem fold_tile (px : List Int) (hp : px.length = 64) (Z : Array Value) (hZ : Z.size = 64) : List.foldl (fun cs (x : Value × Nat) => cs.setIfInBounds x.snd x.fst) Z ((iv px).zipIdx) = (iv px).toArray := by
  obtain ⟨h1, h2⟩ := Great.foldl_set 0 (iv px) 0 Z
  simp only [Nat.zero_add] at h1 h2
  apply Array.ext_getElem?
  intro k
  rw [h2 k]
  by_cases hk : k < 64
  · rw [if_pos ⟨Nat.zero_le _, by simp [hp]; exact hk, by omega⟩]
    simp
  · rw [if_neg (by omega), Array.getElem?_eq_none (by omega), Array.getElem?_eq_none (by simp [hp]; omega)]
theorem lone_num (w : World) (u : Int) : Ints (w.alloc (.cells #[.int .i64 u] 3)) (some ⟨w.heap.size, 0, none⟩) 1 [u] [w.heap.size] := by
  refine ⟨rfl, .inr ⟨by omega, w.heap.size, 0, rfl, rfl, by simp, fun i hi => ?_⟩⟩
  obtain rfl : i = 0 := by omega
  rw [World.cell?_alloc_new]
  rfl
section
variable {ops : Array Oper} {Q : Exit → Act → World → Prop} {T : Nat → Value → World → Prop} {a0 : Act} {S : List Nat} {q m : Nat} {w0 : World} {J D : World → Prop} {i : Nat} {o : Oper}
/-- A pick of one of so many as an operation has yielded. -/
theorem ob_pickv (hg : o.guard = none) (x y : Operand) (n : Int) (ty : Array TypeId) (hop : o.op = .call { callee := .value (.func 45), args := #[x, y], argTypes := ty }) (hq : q ∈ S) (hJ : Kept q J) (hD : Kept q D) (hm : m + ops.size ≤ 1000000000) (hn : 1 ≤ n) (hn2 : n ≤ 1000000000)
    (hx : ∀ (ρ : Operand → Value) w, PreR ops T ρ w o.after.toList → ρ x = .pointer (some ⟨q, 0, none⟩) ∧ ρ y = .int .i64 n) (hT : ∀ v w, TI 0 (n - 1) v w → T i (dstV o v) w) :
    Ob Try.prog ops Q (Cls S q m w0 J) (Rel S D) T a0 i o :=
  ob_only hg hq hJ hD fun ρ k w hk hI hc hf _ hp => by
    have e : (execOp ρ o).run Try.prog w = .ok (.enter 45 #[.pointer (some ⟨q, 0, none⟩), .int .i64 n]) w := by
      obtain ⟨h1, h2⟩ := hx ρ w hp
      have h3 := hf 45
      unfold execOp; rw [hop]
      simp [go_sem, h1, h2, h3]
    rw [e, UponT_enter]
    refine (pick_any q (m + k) n w hI.rd (by omega) hn hn2).mono ?_
    rintro e w' ⟨z, z0, z1, rfl, hs, hr⟩
    exact ⟨_, rfl, hs.only, hr, hT _ _ ⟨z, rfl, z0, by omega⟩⟩
end
/-- A place of the table. -/
def TAt (p o n : Nat) : Value → World → Prop := fun v _ => ∃ i : Nat, i < n ∧ v = .pointer (some ⟨p, o + i, none⟩)
theorem stab_tat {S : List Nat} {D : World → Prop} (p o n : Nat) : Stab (Rel S D) (TAt p o n) := fun _ _ _ _ h => h
end Go.Proofs.Ytfbpnneegenhgaa
