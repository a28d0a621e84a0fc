/- Drawn scenes. -/
import Derived.Test.YtacebhncecninaaScnA
import Derived.Test.YtacebhncecninaaFldU
import Derived.Test.YtacebhncecninaaSprU
namespace Go.Proofs.Ytacebhncecninaa
open Go.ChangeShapes Go.WideShapes Go.ChangeAt Go.RowKit
set_option linter.unusedVariables false

section
variable {ops : Array Oper} {rest : List Oper} {o : Oper} {a : Act} {w : World} {Q : Exit → Act → World → Prop} {W : Int} {A : Option Addr} {n c : Nat} {T : Option Addr} {m d : Nat} {sx sy : Int} {O : Option Addr} {k e : Nat}
theorem sc_store {t : TypeId} (hw : Region.wanted o (yielded ops a.tmps) = true) (x y : Operand) (ho : o.op = .store 41 x y) (b : Nat) (hx : a.eval x = .pointer (some ⟨b, 0, none⟩)) (hy : a.eval y = scV W A n c T m d sx sy O k e) (cs : List Value) (hb : Box w b t cs) (hc : cs.length = 6)
    (h : wpList Try.prog ops Q rest (a.put o.dst undef) (w.setRow b (ccs W A n c T m d sx sy O k e).toArray)) : wpList Try.prog ops Q (o :: rest) a w :=
  wpList_step fun K hK => by
    rw [if_pos hw]
    exact wp_store_row _ x y ho b (ccs W A n c T m d sx sy O k e).toArray hx hy t cs.toArray hb sc_info (by simpa using hc) (by simp [Value.oneCell']) (hK _ _ h)
end
section
variable {fn : Func} {p u v : Tmp} {tmps : Array Value} {w : World} {b : Nat} {t : TypeId} {W : Int} {A : Option Addr} {n c : Nat} {T : Option Addr} {m d : Nat} {sx sy : Int} {O : Option Addr} {k e : Nat}
theorem scn_ret (hr : fn.results = #[.cell p 41]) (hp : tmps.getD p undef = .pointer (some ⟨b, 0, none⟩)) (hb : Box w b t (ccs W A n c T m d sx sy O k e)) : (results fn tmps).run Try.prog w = .ok (scV W A n c T m d sx sy O k e) w :=
  results_cell_row hr tmps w b t (ccs W A n c T m d sx sy O k e).toArray (0, 0) _ hp hb Try.underlying41 rfl sc_info
theorem scn_ret2 (hr : fn.results = #[.cell p 41, .tmp u]) (hp : tmps.getD p undef = .pointer (some ⟨b, 0, none⟩)) (hb : Box w b t (ccs W A n c T m d sx sy O k e)) (x : Value) (hx : tmps.getD u undef = x) : (results fn tmps).run Try.prog w = .ok (.tuple #[scV W A n c T m d sx sy O k e, x]) w := by
  subst hx
  have hp' : tmps[p]?.getD undef = .pointer (some ⟨b, 0, none⟩) := by simpa using hp
  have h1 := run_loadVar_row (P := Try.prog) w b t 41 (ccs W A n c T m d sx sy O k e).toArray (0, 0) _ hb Try.underlying41 rfl sc_info
  simp only [results, hr]
  simp [hp', asAddr, h1, Result.andThen]
theorem scn_ret3 (hr : fn.results = #[.cell p 41, .tmp u, .tmp v]) (hp : tmps.getD p undef = .pointer (some ⟨b, 0, none⟩)) (hb : Box w b t (ccs W A n c T m d sx sy O k e)) (x y : Value) (hx : tmps.getD u undef = x) (hy : tmps.getD v undef = y) : (results fn tmps).run Try.prog w = .ok (.tuple #[scV W A n c T m d sx sy O k e, x, y]) w := by
  subst hx hy
  have hp' : tmps[p]?.getD undef = .pointer (some ⟨b, 0, none⟩) := by simpa using hp
  have h1 := run_loadVar_row (P := Try.prog) w b t 41 (ccs W A n c T m d sx sy O k e).toArray (0, 0) _ hb Try.underlying41 rfl sc_info
  simp only [results, hr]
  simp [hp', asAddr, h1, Result.andThen]
end
/-- A scene stays where only other blocks change. -/
theorem SHas.stay {w w' : World} {A T O : Option Addr} {F : Fld} {S : List Spr} {fa ft fo : List Nat} {B : List Nat} (h : SHas w A T O F S fa ft fo) (o : Only B w w') (hB : ∀ b, b ∈ fa ++ ft ++ fo → b ∉ B) : SHas w' A T O F S fa ft fo := by
  have s : Same (fa ++ ft ++ fo) w w' := .of_only o fun x hx hs => hB x hx hs
  exact ⟨⟨h.1.1.keep (s.sub fun x hx => by simp [hx]), h.1.2.keep (s.sub fun x hx => by simp [hx])⟩, h.2.keep (s.sub fun x hx => by simp [hx])⟩
/-- What drawing a scene leaves. -/
def ScnDrawn (q m : Nat) (w : World) (e : Ending) (w' : World) : Prop :=
  ∃ (F : Fld) (S : List Spr) (A : Option Addr) (c : Nat) (T : Option Addr) (d : Nat) (O : Option Addr) (e0 : Nat) (fa ft fo : List Nat), e = .returned (sv F A c T d S O e0) ∧ F.xs.length ≤ 1000 ∧ F.nt ≤ 1000 ∧ S.length ≤ 100 ∧ F.xs.length ≤ c ∧ F.nt ≤ d ∧ S.length ≤ e0 ∧ SHas w' A T O F S fa ft fo ∧ (∀ b ∈ fa ++ ft ++ fo, w.heap.size ≤ b) ∧ Only [q] w w' ∧ Rd w' q (m + 1200)
set_option maxRecDepth 100000 in
set_option maxHeartbeats 4000000 in
theorem scene_any (q m : Nat) (n : Int) (w : World) (h : Rd w q m) (hm : m ≤ 50000) (hn : 1 ≤ n) (hn2 : n ≤ 1000) : Calls Try.prog 71 #[.pointer (some ⟨q, 0, none⟩), .int .i64 n] w (ScnDrawn q m w) := by
  have hq := h.lt
  have X1 : Hid (Box (w.alloc (.cells #[.int .i64 0, .slice none 0 0, .slice none 0 0, .int .i64 0, .int .i64 0, .slice none 0 0] 41)) w.heap.size 41 (ccs 0 none 0 0 none 0 0 0 0 none 0 0)) := Lib.hid (Box.new w _ _)
  have O1 : Hid (Only [q] w (w.alloc (.cells #[.int .i64 0, .slice none 0 0, .slice none 0 0, .int .i64 0, .int .i64 0, .slice none 0 0] 41))) := Lib.hid ((Only.refl _ _).alloc _)
  have R1 := Lib.hid (h.alloc (.cells #[.int .i64 0, .slice none 0 0, .slice none 0 0, .int .i64 0, .int .i64 0, .slice none 0 0] 41))
  clear h
  go_enter Try.func71, Try.ntmps71
  go_upto_region 1 with (fail)
  generalize w.alloc (.cells #[.int .i64 0, .slice none 0 0, .slice none 0 0, .int .i64 0, .int .i64 0, .slice none 0 0] 41) = w1 at X1 O1 R1 ⊢
  obtain ⟨b4, hb4⟩ : ∃ b, w.heap.size = b := ⟨_, rfl⟩
  rw [hb4] at X1 ⊢
  have HB4 := Lib.hid hb4
  have hq4 : q < b4 := by omega
  have h41 : b4 < w1.heap.size := X1.out.lt
  clear hb4 hq
  go_wp2_with fail
  refine (field_any q m n _ R1.out (by omega) hn hn2).mono ?_
  rintro e w2 ⟨F, A, c, T, d, fa, ft, rfl, hx, ht, hxc, htd, hf, hnew, o2, r2⟩
  have X2 := Lib.hid (X1.out.only o2 (by simp; omega))
  have O2 := Lib.hid (O1.out.trans o2)
  have hN : Hid (∀ b ∈ fa ++ ft, w1.heap.size ≤ b ∧ b < w2.heap.size) := Lib.hid fun b hb => hnew.lt b hb
  have R2 := Lib.hid r2
  have F2 := Lib.hid hf
  have h12 : w1.heap.size ≤ w2.heap.size := o2.size
  clear o2 r2 hf hnew X1 O1 R1
  go_upto_region 2 with (first | (refine sc_store (by rfl) _ _ rfl w2.heap.size rfl (W := F.w) (A := A) (n := F.xs.length) (c := c) (T := T) (m := F.nt) (d := d) (sx := F.sx) (sy := F.sy) (O := none) (k := 0) (e := 0) rfl _ (Box.new w2 _ _) rfl ?_))
  obtain ⟨w3, hw3⟩ : ∃ w3, w3 = (w2.alloc (.cells #[.int .i64 0, .slice none 0 0, .slice none 0 0, .int .i64 0, .int .i64 0, .slice none 0 0] 41)).setRow w2.heap.size (ccs F.w A F.xs.length c T F.nt d F.sx F.sy none 0 0).toArray := ⟨_, rfl⟩
  have bl : Below w2.heap.size w2 w3 := by rw [hw3]; exact below_row (below1 w2 _) (Nat.le_refl _) _
  obtain ⟨b5, hb5⟩ : ∃ b, b = w2.heap.size := ⟨_, rfl⟩
  have Y3 : Hid (Box w3 b5 41 (ccs F.w A F.xs.length c T F.nt d F.sx F.sy none 0 0)) := Lib.hid (by rw [hw3, hb5]; exact Box.row (Box.new w2 _ _))
  have X3 := Lib.hid (X2.out.below bl)
  have O3 := Lib.hid (O2.out.trans (.of_below bl))
  have R3 := Lib.hid (R2.out.keep bl)
  have F3 := Lib.hid (F2.out.below bl)
  have h25 : w2.heap.size ≤ b5 := by omega
  have h35 : b5 < w3.heap.size := Y3.out.lt
  rw [← hw3, ← hb5]
  clear hw3 hb5 bl X2 O2 R2 F2
  have k2 := Y3.out.cell 2
  go_wp2_with fail
  clear k2
  refine (sprites_any q (m + 1000) F.nt n _ R3.out (by omega) (by omega) (by omega) hn hn2).mono ?_
  rintro e w4 ⟨O, ns, e0, S, fo, rfl, n1, hnc, hs, hns, o4, r4⟩
  obtain rfl : S.length = ns := hs.1
  have X4 := Lib.hid (X3.out.only o4 (by simp; omega))
  have Y4 := Lib.hid (Y3.out.only o4 (by simp; omega))
  have O4 := Lib.hid (O3.out.trans o4)
  have R4 := Lib.hid r4
  have hN4 : Hid (∀ b ∈ fo, w3.heap.size ≤ b) := Lib.hid fun b hb => (hns.lt b hb).1
  have F4 : Hid (FHas w4 A T F fa ft) := Lib.hid ⟨F3.out.1.keep (.of_only o4 fun b hb hx => by have := hN.out b (List.mem_append_left _ hb); simp at hx; omega), F3.out.2.keep (.of_only o4 fun b hb hx => by have := hN.out b (List.mem_append_right _ hb); simp at hx; omega)⟩
  have S4 := Lib.hid hs
  clear o4 r4 hs hns X3 Y3 O3 R3 F3
  have k5 := Y4.out.cell 5
  have fz := Y4.out.frozen
  go_upto_region 3 with (fail)
  obtain ⟨w5, hw5⟩ : ∃ w5, w5 = w4.setCell ⟨b5, 5, none⟩ (.slice O S.length e0) := ⟨_, rfl⟩
  have o5 : Only [b5] w4 w5 := by rw [hw5]; exact (Only.refl _ _).setCell (.inl (by simp)) _
  have X5 : Hid (Box w5 b4 41 (ccs 0 none 0 0 none 0 0 0 0 none 0 0)) := Lib.hid (by rw [hw5]; exact X4.out.far (by omega) _)
  have Y5 : Hid (Box w5 b5 41 (ccs F.w A F.xs.length c T F.nt d F.sx F.sy O S.length e0)) := Lib.hid (by rw [hw5]; exact Y4.out.set 5 _)
  have O5 : Hid (Only [q] w w5) := Lib.hid (by rw [hw5]; exact O4.out.setCell (.inr (by have := HB4.out; omega)) _)
  have R5 : Hid (Rd w5 q (m + 1200)) := Lib.hid (by rw [hw5]; exact R4.out.far (by omega) _)
  have H5 : Hid (SHas w5 A T O F S fa ft fo) := Lib.hid (SHas.stay ⟨F4.out, S4.out⟩ o5 fun b hb hx => by
    simp at hx
    rcases List.mem_append.1 hb with h | h
    · have := hN.out b h; omega
    · have := hN4.out b h; omega)
  rw [← hw5]
  clear hw5 o5 k5 fz X4 Y4 O4 R4 F4 S4
  go_wp2_with (first | (refine sc_load (by rfl) _ rfl b5 rfl Y5.out ?_) | (refine sc_store (by rfl) _ _ rfl b4 rfl rfl _ X5.out rfl ?_))
  have o6 : Only [b4] w5 (w5.setRow b4 (ccs F.w A F.xs.length c T F.nt d F.sx F.sy O S.length e0).toArray) := (Only.refl _ _).row (.inl (by simp)) _
  have RF : Hid (Box (w5.setRow b4 (ccs F.w A F.xs.length c T F.nt d F.sx F.sy O S.length e0).toArray) b4 41 (ccs F.w A F.xs.length c T F.nt d F.sx F.sy O S.length e0)) := Lib.hid (Box.row X5.out)
  refine bodyPost_ret (scn_ret rfl rfl RF.out) rfl ⟨F, S, A, c, T, d, O, e0, fa, ft, fo, rfl, hx, ht, n1, hxc, htd, hnc, H5.out.stay o6 fun b hb hx => ?_, fun b hb => ?_, O5.out.row (.inr (by have := HB4.out; omega)) _, R5.out.stay (below_row (Below.refl _ _) (by omega) _)⟩
  · simp at hx
    rcases List.mem_append.1 hb with h | h
    · have := hN.out b h; omega
    · have := hN4.out b h; omega
  · have := HB4.out
    rcases List.mem_append.1 hb with h | h
    · have := hN.out b h; omega
    · have := hN4.out b h; omega
end Go.Proofs.Ytacebhncecninaa
