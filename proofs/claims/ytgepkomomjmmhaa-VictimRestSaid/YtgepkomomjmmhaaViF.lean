/- A region that draws its order, with guards and calls that make memory: each slot's condition is a value, a row of candidates, or a row of numbers. A candidate, and two numbers, as arguments. -/
import Derived.Test.YtgepkomomjmmhaaViE
import Derived.Test.YtgepkomomjmmhaaFreeG
namespace Go.Proofs.Ytgepkomomjmmhaa.Vi
open Go.ChangeShapes Go.WideShapes Go.ChangeAt Go.RowKit Go.Lib Go.Joins Go.Deep
open Sp
set_option linter.unusedVariables false
set_option maxRecDepth 100000

/-- What a slot is known to hold. -/
inductive Cnd where
  | any
  | is (v : Value)
  | crs (L : List Cd)
  | ivs (l : List Int)
def Cnd.p : Cnd → World → Value → Prop
  | .any => fun _ _ => True
  | .is v => fun _ u => u = v
  | .crs L => fun W u => ∃ A p, u = .slice A L.length p ∧ CR W A L.length L
  | .ivs l => fun W u => ∃ A p, u = .slice A l.length p ∧ VR W A l.length (iv l)
theorem Cnd.later (c : Cnd) {W W' : World} {u : Value} (hb : Below W.heap.size W W') (h : c.p W u) : c.p W' u := by
  cases c with
  | any => exact trivial
  | is v => exact h
  | crs L =>
    obtain ⟨A, p, e, s⟩ := h
    exact ⟨A, p, e, s.later hb⟩
  | ivs l =>
    obtain ⟨A, p, e, s⟩ := h
    exact ⟨A, p, e, s.later hb⟩
theorem slot_is {xs : Array Value} {n : Nat} {v : Value} (h : xs.getD n undef = v) : xs[n]?.getD undef = v := by simpa using h
theorem slot_crs {xs : Array Value} {n : Nat} {W : World} {L : List Cd} (h : ∃ A p, xs.getD n undef = .slice A L.length p ∧ CR W A L.length L) : ∃ A p, xs[n]?.getD undef = .slice A L.length p ∧ CR W A L.length L := by simpa using h
theorem slot_ivs {xs : Array Value} {n : Nat} {W : World} {l : List Int} (h : ∃ A p, xs.getD n undef = .slice A l.length p ∧ VR W A l.length (iv l)) : ∃ A p, xs[n]?.getD undef = .slice A l.length p ∧ VR W A l.length (iv l) := by simpa using h
theorem wp_its {P : Program} {id : Nat} {Q : Exit → Act → World → Prop} {w0 w : World} {ops : List Oper} {a0 : Act} (cs : List Cnd)
    (hm : P.follows .mixedOrders = true) (hB : FreeG.okB ops.toArray a0.tmps.size = true) (hI : Below w0.heap.size w0 w)
    (hS : FreeG.Steps P ops.toArray (cs.map Cnd.p) (Below w0.heap.size w0) (fun W W' => Below W.heap.size W W') a0 Q 0 ops)
    (fin : ∀ a w, Free.At ops.toArray (cs.map Cnd.p) (Below w0.heap.size w0) a0 (Array.replicate ops.length true) a w → Q .normal a w) : (Code.region id ops.toArray true).wp P Q a0 w := by
  refine FreeG.wp_freeG _ _ _ hm hB hI.drew (fun _ _ h hb => h.trans (hb.mono h.size)) ?_ hS fin
  intro p hp W W' v hb hv
  obtain ⟨c, _, rfl⟩ := List.mem_map.1 hp
  exact c.later hb hv

section
variable {H : Type} {enc : TypeId × Value → H} {W : World} {b0 : Nat} {r' : Reach} {v : Value} {y : DataW H} {ps : List MemPlace}
theorem array5 {α : Type} {cs : Array α} (h : cs.size = 5) : ∃ c0 c1 c2 c3 c4, cs = #[c0, c1, c2, c3, c4] := by
  obtain ⟨l⟩ := cs
  match l, h with
  | [c0, c1, c2, c3, c4], _ => exact ⟨c0, c1, c2, c3, c4, rfl⟩
theorem array2 {α : Type} {cs : Array α} (h : cs.size = 2) : ∃ c0 c1, cs = #[c0, c1] := by
  obtain ⟨l⟩ := cs
  match l, h with
  | [c0, c1], _ => exact ⟨c0, c1, rfl⟩
/-- A candidate by value. -/
theorem open_cand (hv : Value.okWide Try.prog W r' b0 25 v) (h : DataW.Trod enc Try.prog W 0 (fun _ => true) true 25 v y ps) :
    ∃ c : Cd, v = .agg (cdA5 c) ∧ CIn c := by
  obtain ⟨cs, rfl, hsz⟩ := okWide_struct Try.underlying25 hv
  obtain ⟨c0, c1, c2, c3, c4, rfl⟩ := array5 (hsz.trans (by kernel_rfl))
  obtain ⟨fuel, hf⟩ := h
  obtain ⟨c, hc, e⟩ := cand_cells (v1 := c0) (v2 := c1) (v3 := c2) (v4 := c3) (v5 := c4) (by simpa [Value.cells] using hf)
  refine ⟨c, ?_, hc⟩
  simp only [cdC, List.cons.injEq, and_true] at e
  obtain ⟨rfl, rfl, rfl, rfl, rfl⟩ := e
  rfl
/-- Two numbers by value. -/
theorem open_two (hv : Value.okWide Try.prog W r' b0 46 v) (h : DataW.Trod enc Try.prog W 0 (fun _ => true) true 46 v y ps) :
    ∃ a b : Int, v = .agg #[.int .i64 a, .int .i64 b] ∧ (-9223372036854775808 ≤ a ∧ a ≤ 9223372036854775807) ∧ (-9223372036854775808 ≤ b ∧ b ≤ 9223372036854775807) := by
  simp only [Value.okWide, Try.underlying46] at hv
  obtain ⟨cs, rfl, hsz, _⟩ := hv
  obtain ⟨c0, c1, rfl⟩ := array2 (hsz.trans (by kernel_rfl))
  obtain ⟨fuel, hf⟩ := h
  obtain ⟨xs, n, _, _, _, hlen, hff⟩ := DataW.trod_array Try.underlying46 (by simpa [Value.cells] using hf)
  match xs, hlen with
  | [y0, y1], _ =>
    have k1 : Try.prog.cellsOf 3 = 1 := by kernel_rfl
    have g0 := hff 0 (by decide)
    have g1 := hff 1 (by decide)
    simp [k1] at g0 g1
    obtain ⟨a, e0, _, w0⟩ := DataW.trod_int Try.underlying3 g0
    obtain ⟨b, e1, _, w1⟩ := DataW.trod_int Try.underlying3 g1
    simp at e0 e1
    subst e0 e1
    exact ⟨a, b, rfl, i64_of w0, i64_of w1⟩
end
/-- The list that is cut to 16. -/
structure Cut16 (w : World) (A : Option Addr) (n c m : Nat) (M : List Cd) : Prop where
  e : (m : Int) = min (n : Int) 16
  r : CR w A m M
  le : m ≤ 16
  cap : m ≤ c
  ok : ∀ x ∈ M, CIn x
theorem cut16 {w : World} {A : Option Addr} {n c : Nat} {L : List Cd} (hL : CR w A n L) (hp : n ≤ c) (ho : ∀ x ∈ L, CIn x) : ∃ m M, Cut16 w A n c m M :=
  ⟨min n 16, L.take (min n 16), by omega, hL.cut _ (Nat.min_le_left _ _), Nat.min_le_right _ _, by omega, fun x hx => ho x (List.mem_of_mem_take hx)⟩
end Go.Proofs.Ytgepkomomjmmhaa.Vi
