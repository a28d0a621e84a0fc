/- What a walk is told of an argument that is a machine. -/
import Derived.Test.YtgciaafapbaliaaOpenM
import Derived.Test.YtgciaafapbaliaaMchE
namespace Go.Proofs.Ytgciaafapbaliaa
open Go.ChangeShapes Go.WideShapes Go.ChangeAt Go.RowKit

/-- A machine that came in. -/
def InMach (w : World) (A : Option Addr) (n : Nat) (R : Option Addr) (k : Nat) (B : Option Addr) (m : Nat) (X : Mach) : Prop := Fits X 9223372036854775807 ∧ ∃ fa fr fb, MHas w A n R k B m X fa fr fb
theorem nine {α : Type} (l : List α) (h : l.length = 9) : ∃ c0 c1 c2 c3 c4 c5 c6 c7 c8, l = [c0, c1, c2, c3, c4, c5, c6, c7, c8] := by
  match l, h with
  | [c0, c1, c2, c3, c4, c5, c6, c7, c8], _ => exact ⟨c0, c1, c2, c3, c4, c5, c6, c7, c8, rfl⟩
section
variable {H : Type} {enc : TypeId × Value → H} {w : World} {base : Nat} {held : Bool}
theorem slice_of {fuel : Nat} {v : Value} {x : DataW H × List MemPlace} (t0 : DataW.trod enc Try.prog w base (fun _ => true) held fuel 23 [v] = some x) : ∃ A n c, v = .slice A n c := by
  rcases open_ints Try.underlying23 Try.underlying3 (by kernel_rfl) t0 with ⟨hcs, _⟩ | ⟨a, len, cap, zs, hcs, _⟩
  · exact ⟨_, _, _, by simpa using hcs⟩
  · exact ⟨_, _, _, by simpa using hcs⟩
theorem rows_of {fuel : Nat} {v : Value} {x : DataW H × List MemPlace} (t1 : DataW.trod enc Try.prog w base (fun _ => true) held fuel 24 [v] = some x) : ∃ R k d, v = .slice R k d := by
  rcases Go.Deep.open_int_rows Try.underlying24 Try.underlying23 Try.underlying3 (by kernel_rfl) (by kernel_rfl) t1 with ⟨hcs, _⟩ | ⟨a, len, cap, _, _, _, _, hcs, _⟩
  · exact ⟨_, _, _, by simpa using hcs⟩
  · exact ⟨_, _, _, by simpa using hcs⟩
theorem mach_in {r : Reach} {b0 : Nat} {v : Value} {dd : DataW H} {p : List MemPlace} (hv : Value.okWide Try.prog w r b0 40 v) (h : DataW.Trod enc Try.prog w base (fun _ => true) held 40 v dd p) :
    ∃ A c R d B g n k m X, v = .agg #[.slice A n c, .slice R k d, .int .i64 X.mem.bank, .int .i64 X.a, .int .i64 X.at_, .bool X.carry, .slice B m g, .bool X.stop, .int .i64 X.cyc] ∧ InMach w A n R k B m X := by
  obtain ⟨cs, rfl, hsz⟩ := okWide_struct Try.underlying40 hv
  have hC : Try.prog.cellsOf 40 = 9 := by kernel_rfl
  have kM : Try.prog.cellsOf 38 = 3 := by kernel_rfl
  have kI : Try.prog.cellsOf 3 = 1 := by kernel_rfl
  have kB : Try.prog.cellsOf 4 = 1 := by kernel_rfl
  have kS : Try.prog.cellsOf 23 = 1 := by kernel_rfl
  have kSS : Try.prog.cellsOf 24 = 1 := by kernel_rfl
  obtain ⟨l⟩ := cs
  obtain ⟨c0, c1, c2, c3, c4, c5, c6, c7, c8, rfl⟩ := nine l (by rw [hC] at hsz; simpa using hsz)
  obtain ⟨fuel, hf⟩ := h
  obtain ⟨xs, n0, _, _, _, hlen, hff⟩ := DataW.trod_struct Try.underlying40 hf
  obtain ⟨y0, y1, y2, y3, y4, y5, y6, rfl⟩ : ∃ y0 y1 y2 y3 y4 y5 y6, xs = [y0, y1, y2, y3, y4, y5, y6] := by
    match xs, hlen with
    | [y0, y1, y2, y3, y4, y5, y6], _ => exact ⟨y0, y1, y2, y3, y4, y5, y6, rfl⟩
  have t0 : DataW.trod enc Try.prog w base (fun _ => true) held n0 38 [c0, c1, c2] = some y0 := by simpa [Value.cells, kM] using hff 0 _ rfl
  have t1 : DataW.trod enc Try.prog w base (fun _ => true) held n0 3 [c3] = some y1 := by simpa [Value.cells, kI] using hff 1 _ rfl
  have t2 : DataW.trod enc Try.prog w base (fun _ => true) held n0 3 [c4] = some y2 := by simpa [Value.cells, kI] using hff 2 _ rfl
  have t3 : DataW.trod enc Try.prog w base (fun _ => true) held n0 4 [c5] = some y3 := by simpa [Value.cells, kB] using hff 3 _ rfl
  have t4 : DataW.trod enc Try.prog w base (fun _ => true) held n0 23 [c6] = some y4 := by simpa [Value.cells, kS] using hff 4 _ rfl
  have t5 : DataW.trod enc Try.prog w base (fun _ => true) held n0 4 [c7] = some y5 := by simpa [Value.cells, kB] using hff 5 _ rfl
  have t6 : DataW.trod enc Try.prog w base (fun _ => true) held n0 3 [c8] = some y6 := by simpa [Value.cells, kI] using hff 6 _ rfl
  obtain ⟨xs2, n1, _, _, _, hlen2, hff2⟩ := DataW.trod_struct Try.underlying38 t0
  obtain ⟨z0, z1, z2, rfl⟩ : ∃ z0 z1 z2, xs2 = [z0, z1, z2] := by
    match xs2, hlen2 with
    | [z0, z1, z2], _ => exact ⟨z0, z1, z2, rfl⟩
  have u0 : DataW.trod enc Try.prog w base (fun _ => true) held n1 23 [c0] = some z0 := by simpa [kS] using hff2 0 _ rfl
  have u1 : DataW.trod enc Try.prog w base (fun _ => true) held n1 24 [c1] = some z1 := by simpa [kSS] using hff2 1 _ rfl
  have u2 : DataW.trod enc Try.prog w base (fun _ => true) held n1 3 [c2] = some z2 := by simpa [kI] using hff2 2 _ rfl
  obtain ⟨A, n, c, rfl⟩ := slice_of u0
  obtain ⟨R, k, d, rfl⟩ := rows_of u1
  obtain ⟨B, m, g, rfl⟩ := slice_of t4
  obtain ⟨bank, hz2, _⟩ := DataW.trod_int Try.underlying3 u2
  obtain rfl : c2 = .int .i64 bank := by simpa using hz2
  obtain ⟨a, hz3, _⟩ := DataW.trod_int Try.underlying3 t1
  obtain rfl : c3 = .int .i64 a := by simpa using hz3
  obtain ⟨t, hz4, _⟩ := DataW.trod_int Try.underlying3 t2
  obtain rfl : c4 = .int .i64 t := by simpa using hz4
  obtain ⟨cyc, hz8, _⟩ := DataW.trod_int Try.underlying3 t6
  obtain rfl : c8 = .int .i64 cyc := by simpa using hz8
  obtain ⟨carry, hz5, _⟩ := DataW.trod_bool Try.underlying4 t3
  obtain rfl : c5 = .bool carry := by simpa using hz5
  obtain ⟨stop, hz7, _⟩ := DataW.trod_bool Try.underlying4 t5
  obtain rfl : c7 = .bool stop := by simpa using hz7
  obtain ⟨hn, xs, fa, hi⟩ := ints_came u0
  obtain ⟨rs, hk, hr, fr, hg⟩ := rows_in u1
  obtain ⟨hm, bs, fb, hb⟩ := ints_came t4
  refine ⟨A, c, R, d, B, g, n, k, m, ⟨⟨xs, rs, bank⟩, a, t, carry, bs, stop, cyc⟩, rfl, ⟨?_, ?_, hr, ?_⟩, fa, fr, fb, hi, hg, hb⟩
  · show xs.length ≤ _; rw [hi.1]; exact hn
  · show rs.length ≤ _; rw [hg.len]; exact hk
  · show bs.length ≤ _; rw [hb.1]; exact hm
end
end Go.Proofs.Ytgciaafapbaliaa
