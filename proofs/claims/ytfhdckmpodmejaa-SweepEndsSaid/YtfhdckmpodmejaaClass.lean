/- A region that draws its order, whose operations read known cells and whose calls leave a world of one class: one walk in the text's order serves every order. The class is any condition on worlds that a draw keeps. -/
import Derived.WalkKit
import Derived.Deep.QuietTactic
import Derived.BigQuiet
namespace Go.Proofs.Ytfhdckmpodmejaa
open Go.RowKit

/-- A world of the class. -/
structure In (C : World → Prop) where
  W : World
  h : C W

theorem region_class {P : Program} (C : World → Prop) {id : Nat} {Q : Exit → Act → World → Prop} {a : Act} {w : World} {l : List Oper} (hm : P.follows .mixedOrders = true) (hB : Region.lexB .any l.toArray = true)
    (hC : C { w with drawn := w.drawn + 1 })
    (h : wpQuiet P l.toArray (fun w' => ∃ i : In C, w' = i.W) (fun a' => ∀ w', (∃ i : In C, w' = i.W) → Q .normal a' w') l a) : (Code.region id l.toArray true).wp P Q a w :=
  wp_region_quiet (C := fun w' => ∃ i : In C, w' = i.W) hm hB ⟨⟨_, hC⟩, rfl⟩ (by simpa using h)

/-- A callee's contract, met inside such a region. -/
theorem class_call {P : Program} {C : World → Prop} {f : FuncId} {args : Array Value} {v : Value} (i : In C)
    (h : C i.W → Calls P f args i.W fun e w' => e = .returned v ∧ C w') : Calls P f args i.W fun e w' => e = .returned v ∧ ∃ j : In C, w' = j.W :=
  (h i.h).mono fun _ w' ⟨he, hw⟩ => ⟨he, ⟨w', hw⟩, rfl⟩

end Go.Proofs.Ytfhdckmpodmejaa
