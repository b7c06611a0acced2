/- A record, and a place, among the arguments of a statement: what their values are. -/
import Derived.Test.YtgpcfdkblkkpeaaMem
import Derived.Lib.SmallJoins
namespace Go.Proofs.Ytgpcfdkblkkpeaa
open Go.ChangeShapes Go.WideShapes Go.ChangeAt Go.RowKit Go.Lib Go.Joins Go.Deep
set_option linter.unusedVariables false

theorem array7 {α : Type} {cs : Array α} (h : cs.size = 7) : ∃ c0 c1 c2 c3 c4 c5 c6, cs = #[c0, c1, c2, c3, c4, c5, c6] := by
  obtain ⟨l⟩ := cs
  match l, h with
  | [c0, c1, c2, c3, c4, c5, c6], _ => exact ⟨c0, c1, c2, c3, c4, c5, c6, rfl⟩

section
variable {H : Type} {enc : TypeId × Value → H} {P : Program} {w : World} {base : Nat} {spare : Nat → Bool} {held : Bool}
theorem trod_struct7 {t : TypeId} {f0 f1 f2 f3 f4 f5 f6 : Field} {fuel : Nat} {cs : List Value} {x : DataW H × List MemPlace} (ht : P.underlying t = some (.struct #[f0, f1, f2, f3, f4, f5, f6])) (h : DataW.trod enc P w base spare held fuel t cs = some x) :
    ∃ y0 y1 y2 y3 y4 y5 y6 n, DataW.trod enc P w base spare held n f0.type ((cs.drop f0.offset).take (P.cellsOf f0.type)) = some y0 ∧
      DataW.trod enc P w base spare held n f1.type ((cs.drop f1.offset).take (P.cellsOf f1.type)) = some y1 ∧ DataW.trod enc P w base spare held n f2.type ((cs.drop f2.offset).take (P.cellsOf f2.type)) = some y2 ∧
      DataW.trod enc P w base spare held n f3.type ((cs.drop f3.offset).take (P.cellsOf f3.type)) = some y3 ∧ DataW.trod enc P w base spare held n f4.type ((cs.drop f4.offset).take (P.cellsOf f4.type)) = some y4 ∧
      DataW.trod enc P w base spare held n f5.type ((cs.drop f5.offset).take (P.cellsOf f5.type)) = some y5 ∧ DataW.trod enc P w base spare held n f6.type ((cs.drop f6.offset).take (P.cellsOf f6.type)) = some y6 := by
  obtain ⟨xs, n, _, rfl, hl, hlen, hf⟩ := DataW.trod_struct ht h
  match xs, hlen with
  | [y0, y1, y2, y3, y4, y5, y6], _ => exact ⟨y0, y1, y2, y3, y4, y5, y6, n, by simpa using hf 0 f0 rfl, by simpa using hf 1 f1 rfl, by simpa using hf 2 f2 rfl, by simpa using hf 3 f3 rfl, by simpa using hf 4 f4 rfl, by simpa using hf 5 f5 rfl, by simpa using hf 6 f6 rfl⟩
end

theorem u64_of {n : Int} (h : (Lit.int .u64 n).wf = true) : 0 ≤ n ∧ n < 18446744073709551616 := by
  simp [Lit.wf] at h
  have h2 : n ≤ 18446744073709551615 := h.2
  exact ⟨h.1, by omega⟩
theorem u32_of {n : Int} (h : (Lit.int .u32 n).wf = true) : 0 ≤ n ∧ n < 4294967296 := by
  simp [Lit.wf] at h
  have h2 : n ≤ 4294967295 := h.2
  exact ⟨h.1, by omega⟩

/-- A record that is an argument. -/
theorem open_rec {H : Type} {enc : TypeId × Value → H} {W : World} {base b0 : Nat} {sp : Nat → Bool} {held : Bool} {r : Reach} {x : Value} {y : DataW H} {p : List MemPlace}
    (hv : Value.okWide Try.prog W r b0 25 x) (h : DataW.Trod enc Try.prog W base sp held 25 x y p) :
    ∃ (l e k v d : Int) (i a : ByteArray), x = .agg #[.int .u64 l, .int .u32 e, .int .i64 k, .int .u64 v, .int .u64 d, .string i, .string a] ∧ (0 ≤ l ∧ l < 18446744073709551616) ∧ (0 ≤ e ∧ e < 4294967296) ∧ (-9223372036854775808 ≤ k ∧ k ≤ 9223372036854775807) ∧ (0 ≤ v ∧ v < 18446744073709551616) ∧ (0 ≤ d ∧ d < 18446744073709551616) ∧ i.size ≤ maxLen ∧ a.size ≤ maxLen := by
  obtain ⟨cs, rfl, hsz⟩ := okWide_struct Try.underlying25 hv
  obtain ⟨c0, c1, c2, c3, c4, c5, c6, rfl⟩ := array7 (hsz.trans (by kernel_rfl))
  obtain ⟨fuel, hf⟩ := h
  obtain ⟨y0, y1, y2, y3, y4, y5, y6, n, h0, h1, h2, h3, h4, h5, h6⟩ := trod_struct7 Try.underlying25 hf
  obtain ⟨l, e0, _, w0⟩ := DataW.trod_int Try.underlying22 h0
  obtain ⟨e, e1, _, w1⟩ := DataW.trod_int Try.underlying23 h1
  obtain ⟨k, e2, _, w2⟩ := DataW.trod_int Try.underlying3 h2
  obtain ⟨v, e3, _, w3⟩ := DataW.trod_int Try.underlying22 h3
  obtain ⟨d, e4, _, w4⟩ := DataW.trod_int Try.underlying22 h4
  obtain ⟨i, e5, _, w5⟩ := DataW.trod_string Try.underlying9 h5
  obtain ⟨a, e6, _, w6⟩ := DataW.trod_string Try.underlying9 h6
  have k1 : Try.prog.cellsOf 22 = 1 := by kernel_rfl
  have k2 : Try.prog.cellsOf 23 = 1 := by kernel_rfl
  have k3 : Try.prog.cellsOf 3 = 1 := by kernel_rfl
  have k4 : Try.prog.cellsOf 9 = 1 := by kernel_rfl
  simp [Value.cells, k1, k2, k3, k4] at e0 e1 e2 e3 e4 e5 e6
  subst e0 e1 e2 e3 e4 e5 e6
  exact ⟨l, e, k, v, d, i, a, rfl, u64_of w0, u32_of w1, i64_of w2, u64_of w3, u64_of w4, w5, w6⟩

/-- A place that is an argument. -/
theorem open_place {H : Type} {enc : TypeId × Value → H} {W : World} {base b0 : Nat} {sp : Nat → Bool} {held : Bool} {r : Reach} {x : Value} {y : DataW H} {p : List MemPlace}
    (hv : Value.okWide Try.prog W r b0 27 x) (h : DataW.Trod enc Try.prog W base sp held 27 x y p) :
    ∃ (l e : Int), x = .agg #[.int .u64 l, .int .u32 e] ∧ (0 ≤ l ∧ l < 18446744073709551616) ∧ (0 ≤ e ∧ e < 4294967296) := by
  obtain ⟨c0, c1, y0, y1, m, rfl, _, _, h0, h1⟩ := open_agg2 Try.underlying27 (by kernel_rfl) (by kernel_rfl) hv h
  obtain ⟨l, e0, _, w0⟩ := DataW.trod_int Try.underlying22 h0
  obtain ⟨e, e1, _, w1⟩ := DataW.trod_int Try.underlying23 h1
  simp at e0 e1
  subst e0 e1
  exact ⟨l, e, rfl, u64_of w0, u32_of w1⟩
end Go.Proofs.Ytgpcfdkblkkpeaa
