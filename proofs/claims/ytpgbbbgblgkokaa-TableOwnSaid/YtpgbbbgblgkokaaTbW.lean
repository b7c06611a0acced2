/- A region that draws its order, with guards, over blocks and lists that stay: each slot's condition is a value, a list, or none. A frame of 176 slots. -/
import Derived.Test.YtpgbbbgblgkokaaTbC
import Derived.Test.YtpgbbbgblgkokaaFreeG
namespace Go.Proofs.Ytpgbbbgblgkokaa
open Go.RowKit Go.Lib
set_option linter.unusedVariables false

/-- What a slot is known to hold. -/
inductive Cnd where
  | any
  | is (v : Value)
  | lst (l : List Int)
def Cnd.p : Cnd → World → Value → Prop
  | .any => fun _ _ => True
  | .is v => fun _ u => u = v
  | .lst l => fun W u => ∃ A m p, u = .slice A m p ∧ Sl .i64 W A m l
theorem Cnd.later (c : Cnd) {W W' : World} {u : Value} (hb : Below W.heap.size W W') (h : c.p W u) : c.p W' u := by
  cases c with
  | any => exact trivial
  | is v => exact h
  | lst l =>
    obtain ⟨A, m, p, e, s⟩ := h
    exact ⟨A, m, p, e, s.later hb⟩
theorem slot_is {xs : Array Value} {n : Nat} {v : Value} (h : xs.getD n undef = v) : xs[n]?.getD undef = v := by simpa using h

theorem slot_lst {xs : Array Value} {n : Nat} {W : World} {l : List Int} (h : ∃ A m p, xs.getD n undef = .slice A m p ∧ Sl .i64 W A m l) : ∃ A m p, xs[n]?.getD undef = .slice A m p ∧ Sl .i64 W A m l := by simpa using h

theorem wp_its {P : Program} {id : Nat} {Q : Exit → Act → World → Prop} {w0 w : World} {ops : List Oper} {a0 : Act} (cs : List Cnd) (L : List (Nat × TypeId × Array Value)) (M : List (IntKind × Option Addr × Nat × List Int))
    (hm : P.follows .mixedOrders = true) (hB : FreeG.okB ops.toArray a0.tmps.size = true) (hI : Its w0 L M w)
    (hS : FreeG.Steps P ops.toArray (cs.map Cnd.p) (Its w0 L M) (fun W W' => Below W.heap.size W W') a0 Q 0 ops)
    (fin : ∀ a w, Free.At ops.toArray (cs.map Cnd.p) (Its w0 L M) a0 (Array.replicate ops.length true) a w → Q .normal a w) : (Code.region id ops.toArray true).wp P Q a0 w := by
  refine FreeG.wp_freeG _ _ _ hm hB hI.drawn (fun _ _ h hb => h.later hb) ?_ hS fin
  intro p hp W W' v hb hv
  obtain ⟨c, _, rfl⟩ := List.mem_map.1 hp
  exact c.later hb hv

theorem arrF176 {cs : Array Value} (h : cs.size = 176) : ∃ y : Nat → Value, (∀ i, cs.getD i undef = y i) ∧ cs = #[y 0, y 1, y 2, y 3, y 4, y 5, y 6, y 7, y 8, y 9, y 10, y 11, y 12, y 13, y 14, y 15, y 16, y 17, y 18, y 19, y 20, y 21, y 22, y 23, y 24, y 25, y 26, y 27, y 28, y 29, y 30, y 31, y 32, y 33, y 34, y 35, y 36, y 37, y 38, y 39, y 40, y 41, y 42, y 43, y 44, y 45, y 46, y 47, y 48, y 49, y 50, y 51, y 52, y 53, y 54, y 55, y 56, y 57, y 58, y 59, y 60, y 61, y 62, y 63, y 64, y 65, y 66, y 67, y 68, y 69, y 70, y 71, y 72, y 73, y 74, y 75, y 76, y 77, y 78, y 79, y 80, y 81, y 82, y 83, y 84, y 85, y 86, y 87, y 88, y 89, y 90, y 91, y 92, y 93, y 94, y 95, y 96, y 97, y 98, y 99, y 100, y 101, y 102, y 103, y 104, y 105, y 106, y 107, y 108, y 109, y 110, y 111, y 112, y 113, y 114, y 115, y 116, y 117, y 118, y 119, y 120, y 121, y 122, y 123, y 124, y 125, y 126, y 127, y 128, y 129, y 130, y 131, y 132, y 133, y 134, y 135, y 136, y 137, y 138, y 139, y 140, y 141, y 142, y 143, y 144, y 145, y 146, y 147, y 148, y 149, y 150, y 151, y 152, y 153, y 154, y 155, y 156, y 157, y 158, y 159, y 160, y 161, y 162, y 163, y 164, y 165, y 166, y 167, y 168, y 169, y 170, y 171, y 172, y 173, y 174, y 175] := by
  refine ⟨fun i => cs.getD i undef, fun _ => rfl, ?_⟩
  have e : cs = ((List.range 176).map fun i => cs.getD i undef).toArray := by
    apply Array.ext
    · simp [h]
    · intro i h1 h2
      simp [h1]
  exact e.trans rfl
end Go.Proofs.Ytpgbbbgblgkokaa
