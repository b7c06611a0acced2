/- A part of the proofs of the statements about logs. -/
import Derived.Test.YtdpmjlbkojhooaaGreatPLgR
import Derived.Test.YtdpmjlbkojhooaaGreatPLhN
import Derived.Test.YtdpmjlbkojhooaaGreatPLhP
import Derived.ProofKit
import Derived.OpenShut
namespace Go.Proofs.YtdpmjlbkojhooaaGreat.Lg
open Go.ChangeShapes Go.WideShapes Go.ChangeAt Go.RowKit Go.Lib Go.Joins Go.Deep
open Tb (Tab TIn Sl okP csT lastN nth Fresh)
open Dk (St Only Grew)
set_option linter.unusedVariables false
set_option maxRecDepth 100000
theorem trod_float {H : Type} {enc : TypeId × Value → H} {P : Program} {w : World} {base : Nat} {spare : Nat → Bool} {held : Bool} {fuel : Nat} {t : TypeId} {cs : List Value} {x : DataW H × List MemPlace} {k : FloatKind}
    (ht : P.underlying t = some (.float k)) (h : DataW.trod enc P w base spare held fuel t cs = some x) : ∃ n, cs = [.float k n] ∧ x = (.lit (.float k n), []) ∧ (Lit.float k n).wf = true := by
  cases fuel with
  | zero => simp [DataW.trod] at h
  | succ n =>
    unfold DataW.trod at h
    rw [ht] at h
    split at h <;> simp_all
theorem f64_of {n : Nat} (h : (Lit.float .f64 n).wf = true) : n < 18446744073709551616 := by
  simpa [Lit.wf] using h
theorem i64_of {n : Int} (h : (Lit.int .i64 n).wf = true) : -9223372036854775808 ≤ n ∧ n ≤ 9223372036854775807 := by
  simp [Lit.wf] at h
  exact ⟨h.1, h.2⟩
section
variable {H : Type} {enc : TypeId × Value → H} {W : World}
theorem array4 {α : Type} {cs : Array α} (h : cs.size = 4) : ∃ c0 c1 c2 c3, cs = #[c0, c1, c2, c3] := by
  obtain ⟨l⟩ := cs
  match l, h with
  | [c0, c1, c2, c3], _ => exact ⟨c0, c1, c2, c3, rfl⟩
theorem open_conf {b0 : Nat} {r' : Reach} {v : Value} {y : DataW H} {ps : List MemPlace}
    (hv : Value.okWide Tryz.prog W r' b0 24 v) (h : DataW.Trod enc Tryz.prog W 0 (fun _ => true) true 24 v y ps) :
    ∃ (sg sl : Int) (x : Nat) (rt : Int), v = .agg #[.int .i64 sg, .int .i64 sl, .float .f64 x, .int .i64 rt] ∧ x < 18446744073709551616 := by
  obtain ⟨cs, rfl, hsz⟩ := okWide_struct Tryz.underlying24 hv
  obtain ⟨c0, c1, c2, c3, rfl⟩ := array4 (hsz.trans (by kernel_rfl))
  obtain ⟨fuel, hf⟩ := h
  obtain ⟨xs, n, _, _, _, hlen, hff⟩ := DataW.trod_struct Tryz.underlying24 (by simpa [Value.cells] using hf)
  match xs, hlen with
  | [y0, y1, y2, y3], _ =>
    have k1 : Tryz.prog.cellsOf 3 = 1 := by kernel_rfl
    have k2 : Tryz.prog.cellsOf 22 = 1 := by kernel_rfl
    have g0 := hff 0 _ rfl
    have g1 := hff 1 _ rfl
    have g2 := hff 2 _ rfl
    have g3 := hff 3 _ rfl
    simp [k1, k2] at g0 g1 g2 g3
    obtain ⟨K, e0, _, w0⟩ := DataW.trod_int Tryz.underlying3 g0
    obtain ⟨G, e1, _, w1⟩ := DataW.trod_int Tryz.underlying3 g1
    obtain ⟨F, e2, _, w2⟩ := trod_float Tryz.underlying22 g2
    obtain ⟨R, e3, _, w3⟩ := DataW.trod_int Tryz.underlying3 g3
    simp at e0 e1 e2 e3
    subst e0 e1 e2 e3
    exact ⟨K, G, F, R, rfl, f64_of w2⟩
end
end Go.Proofs.YtdpmjlbkojhooaaGreat.Lg
