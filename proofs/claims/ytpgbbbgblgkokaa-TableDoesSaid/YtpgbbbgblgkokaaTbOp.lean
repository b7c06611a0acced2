/- One call, and a record's place, among the arguments of a statement: what their values are. -/
import Derived.Test.YtpgbbbgblgkokaaTbO
namespace Go.Proofs.Ytpgbbbgblgkokaa
open Go.ChangeShapes Go.WideShapes Go.ChangeAt Go.RowKit Go.Lib Go.Joins Go.Deep
set_option linter.unusedVariables false

section
variable {H : Type} {enc : TypeId × Value → H} {W : World}
/-- One call that is an argument. -/
theorem open_op {b0 : Nat} {r' : Reach} {x : Value} {y : DataW H} {ps : List MemPlace}
    (hv : Value.okWide Try.prog W r' b0 42 x) (h : DataW.Trod enc Try.prog W 0 (fun _ => true) true 42 x y ps) :
    ∃ K G F : Int, x = .agg #[.int .i64 K, .int .i64 G, .int .u64 F] ∧ True := by
  obtain ⟨cs, rfl, hsz⟩ := okWide_struct Try.underlying42 hv
  obtain ⟨c0, c1, c2, rfl⟩ := array3 (hsz.trans (by kernel_rfl))
  obtain ⟨fuel, hf⟩ := h
  obtain ⟨xs, n, _, _, _, hlen, hff⟩ := DataW.trod_struct Try.underlying42 (by simpa [Value.cells] using hf)
  match xs, hlen with
  | [y0, y1, y2], _ =>
    have k1 : Try.prog.cellsOf 3 = 1 := by kernel_rfl
    have k2 : Try.prog.cellsOf 23 = 1 := by kernel_rfl
    have g0 := hff 0 _ rfl
    have g1 := hff 1 _ rfl
    have g2 := hff 2 _ rfl
    simp [k1, k2] at g0 g1 g2
    obtain ⟨K, e0, _, w0⟩ := DataW.trod_int Try.underlying3 g0
    obtain ⟨G, e1, _, w1⟩ := DataW.trod_int Try.underlying3 g1
    obtain ⟨F, e2, _, w2⟩ := DataW.trod_int Try.underlying23 g2
    simp at e0 e1 e2
    subst e0 e1 e2
    exact ⟨K, G, F, rfl, trivial⟩
/-- A record's place that is an argument. -/
theorem open_at {b0 : Nat} {r' : Reach} {x : Value} {y : DataW H} {ps : List MemPlace}
    (hv : Value.okWide Try.prog W r' b0 55 x) (h : DataW.Trod enc Try.prog W 0 (fun _ => true) true 55 x y ps) :
    ∃ N G J : Int, x = .agg #[.int .i64 N, .int .i64 G, .int .i64 J] ∧ True := by
  obtain ⟨cs, rfl, hsz⟩ := okWide_struct Try.underlying55 hv
  obtain ⟨c0, c1, c2, rfl⟩ := array3 (hsz.trans (by kernel_rfl))
  obtain ⟨fuel, hf⟩ := h
  obtain ⟨xs, n, _, _, _, hlen, hff⟩ := DataW.trod_struct Try.underlying55 (by simpa [Value.cells] using hf)
  match xs, hlen with
  | [y0, y1], _ =>
    have k1 : Try.prog.cellsOf 3 = 1 := by kernel_rfl
    have k2 : Try.prog.cellsOf 53 = 2 := by kernel_rfl
    have g0 := hff 0 _ rfl
    have g1 := hff 1 _ rfl
    simp [k1, k2] at g0 g1
    obtain ⟨N, e0, _, w0⟩ := DataW.trod_int Try.underlying3 g0
    obtain ⟨zs, n', _, _, _, hlen', hgg⟩ := DataW.trod_struct Try.underlying53 g1
    match zs, hlen' with
    | [z0, z1], _ =>
      have f0 := hgg 0 _ rfl
      have f1 := hgg 1 _ rfl
      simp [k1] at f0 f1
      obtain ⟨G, e1, _, w1⟩ := DataW.trod_int Try.underlying3 f0
      obtain ⟨J, e2, _, w2⟩ := DataW.trod_int Try.underlying3 f1
      simp at e0 e1 e2
      subst e0 e1 e2
      exact ⟨N, G, J, rfl, trivial⟩
end
end Go.Proofs.Ytpgbbbgblgkokaa
