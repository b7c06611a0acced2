/-
  No cell of these rows narrows 'for every input' (looked for: loops, veiled, ifaces, maps, wideKeys, modest, calm, conditions, laid).
  DERIVED. THE GIVEN ROWS OF THIS SEAT. 5 by the template 'for every input the law returns true; each argument reads behind the call as it read before'; 0 by the template 'total and deterministic' (their statements: YtfhdckmpodmejaaTotals.lean).
  GIVEN WITH THE SEED: the statements are not yours to turn. If you find one false, say at which input.
  Laid BY PROGRAM, IN A SANDBOX (cutbox-rows.mjs): the forced cells as the released guide's own fill.sh prints them over the translation 85b623caa77cb39a… (all of the seat's roots in one cut). By AI agents, Wed Nov 11 2026. No macro, syntax, notation, axiom, sorry.
-/
import Derived.Test.YtfhdckmpodmejaaChecked
import GoSem.Claim
import GoSem.ClaimJoined
import GoSem.ClaimMapViews
import Derived.JoinedTies
import Derived.KernelRfl
namespace Go.Proofs.Ytfhdckmpodmejaa
/- THE CELL 'sum', in the pinned program and in every row, IS THE sha256 OF THE DUMP (.gsa) THAT YtfhdckmpodmejaaProg.lean LOADS. Nothing in Lean hashes anything: it is a label: what it is worth is what the hold of that sum in a sandbox is worth. -/
noncomputable def Try.pinned : Pinned := { name := "ytfhdckmpodmejaa", sum := "85b623caa77cb39a7f68f2e2d01ce93224526cb97b6e8261c4a9a8bce132f445", checked := Try.checked }
namespace Rows
def none {H : Type} : Left H := { results := [], args := [] }

/-- 'lodgerlaw15.SweepDoes': WHATEVER THE INPUT: true; the input reads as it did. -/
def sweepDoesSpec : ChangeSpec := { name := "sweepDoes", fn := fun _ => fun
  | [d1, d2] => { results := [.lit (.bool true)], args := [d1, d2] }
  | _ => none }
def sweepDoesRow : OpenClaim := { program := "ytfhdckmpodmejaa", sum := "85b623caa77cb39a7f68f2e2d01ce93224526cb97b6e8261c4a9a8bce132f445", func := "lodger/lodgerlaw15.SweepDoes", spec := "sweepDoes", apart := false }
def SweepDoesSaid : Prop := sweepDoesRow.holds Try.pinned (OpenSpec.ofChange sweepDoesSpec)

/-- ITS FALSE NEIGHBOUR: 'it returns false'. Refute it at one input. -/
def sweepDoesWrong : ChangeSpec := { name := "sweepDoes", fn := fun _ => fun
  | [d1, d2] => { results := [.lit (.bool false)], args := [d1, d2] }
  | _ => none }
def SweepDoesWrongFalsely : Prop := sweepDoesRow.holds Try.pinned (OpenSpec.ofChange sweepDoesWrong)

/-- 'lodgerlaw15.SweepOnce': WHATEVER THE INPUT: true; the input reads as it did. -/
def sweepOnceSpec : ChangeSpec := { name := "sweepOnce", fn := fun _ => fun
  | [d1, d2, d3] => { results := [.lit (.bool true)], args := [d1, d2, d3] }
  | _ => none }
def sweepOnceRow : OpenClaim := { program := "ytfhdckmpodmejaa", sum := "85b623caa77cb39a7f68f2e2d01ce93224526cb97b6e8261c4a9a8bce132f445", func := "lodger/lodgerlaw15.SweepOnce", spec := "sweepOnce", apart := false }
def SweepOnceSaid : Prop := sweepOnceRow.holds Try.pinned (OpenSpec.ofChange sweepOnceSpec)

/-- ITS FALSE NEIGHBOUR: 'it returns false'. Refute it at one input. -/
def sweepOnceWrong : ChangeSpec := { name := "sweepOnce", fn := fun _ => fun
  | [d1, d2, d3] => { results := [.lit (.bool false)], args := [d1, d2, d3] }
  | _ => none }
def SweepOnceWrongFalsely : Prop := sweepOnceRow.holds Try.pinned (OpenSpec.ofChange sweepOnceWrong)

/-- 'lodgerlaw15.SweepEnds': WHATEVER THE INPUT: true; the input reads as it did. -/
def sweepEndsSpec : ChangeSpec := { name := "sweepEnds", fn := fun _ => fun
  | [d1, d2, d3] => { results := [.lit (.bool true)], args := [d1, d2, d3] }
  | _ => none }
def sweepEndsRow : OpenClaim := { program := "ytfhdckmpodmejaa", sum := "85b623caa77cb39a7f68f2e2d01ce93224526cb97b6e8261c4a9a8bce132f445", func := "lodger/lodgerlaw15.SweepEnds", spec := "sweepEnds", apart := false }
def SweepEndsSaid : Prop := sweepEndsRow.holds Try.pinned (OpenSpec.ofChange sweepEndsSpec)

/-- ITS FALSE NEIGHBOUR: 'it returns false'. Refute it at one input. -/
def sweepEndsWrong : ChangeSpec := { name := "sweepEnds", fn := fun _ => fun
  | [d1, d2, d3] => { results := [.lit (.bool false)], args := [d1, d2, d3] }
  | _ => none }
def SweepEndsWrongFalsely : Prop := sweepEndsRow.holds Try.pinned (OpenSpec.ofChange sweepEndsWrong)

/-- 'lodgerlaw15.SweepOwn': WHATEVER THE INPUT: true; the input reads as it did. -/
def sweepOwnSpec : ChangeSpec := { name := "sweepOwn", fn := fun _ => fun
  | [d1, d2, d3] => { results := [.lit (.bool true)], args := [d1, d2, d3] }
  | _ => none }
def sweepOwnRow : OpenClaim := { program := "ytfhdckmpodmejaa", sum := "85b623caa77cb39a7f68f2e2d01ce93224526cb97b6e8261c4a9a8bce132f445", func := "lodger/lodgerlaw15.SweepOwn", spec := "sweepOwn", apart := false }
def SweepOwnSaid : Prop := sweepOwnRow.holds Try.pinned (OpenSpec.ofChange sweepOwnSpec)

/-- ITS FALSE NEIGHBOUR: 'it returns false'. Refute it at one input. -/
def sweepOwnWrong : ChangeSpec := { name := "sweepOwn", fn := fun _ => fun
  | [d1, d2, d3] => { results := [.lit (.bool false)], args := [d1, d2, d3] }
  | _ => none }
def SweepOwnWrongFalsely : Prop := sweepOwnRow.holds Try.pinned (OpenSpec.ofChange sweepOwnWrong)

/-- 'lodgerlaw15.SweepTakes': WHATEVER THE INPUT: true; the input reads as it did. -/
def sweepTakesSpec : ChangeSpec := { name := "sweepTakes", fn := fun _ => fun
  | [d1, d2, d3] => { results := [.lit (.bool true)], args := [d1, d2, d3] }
  | _ => none }
def sweepTakesRow : OpenClaim := { program := "ytfhdckmpodmejaa", sum := "85b623caa77cb39a7f68f2e2d01ce93224526cb97b6e8261c4a9a8bce132f445", func := "lodger/lodgerlaw15.SweepTakes", spec := "sweepTakes", apart := false }
def SweepTakesSaid : Prop := sweepTakesRow.holds Try.pinned (OpenSpec.ofChange sweepTakesSpec)

/-- ITS FALSE NEIGHBOUR: 'it returns false'. Refute it at one input. -/
def sweepTakesWrong : ChangeSpec := { name := "sweepTakes", fn := fun _ => fun
  | [d1, d2, d3] => { results := [.lit (.bool false)], args := [d1, d2, d3] }
  | _ => none }
def SweepTakesWrongFalsely : Prop := sweepTakesRow.holds Try.pinned (OpenSpec.ofChange sweepTakesWrong)

/- THE SECOND FORM. 'bulk': how many values and letters a reading holds, each counted each time it is reached (what is shared counts as often as it is met; a slice's spare places count too). A statement '..UptoSaid' is the law's where the arguments, and the package variables that the reading takes, are together of bulk at most 1048576: NARROWER than '..Said'. Prove '..Said' where nothing that the law and all that it calls make is longer than what came in: it says more and counts as full. Else prove '..UptoSaid'. A law counts once. -/
mutual
def uptoBulk {H : Type} : DataW H → Nat
  | .lit (.string bytes) => bytes.length + 1
  | .lit _ => 1
  | .nil => 1
  | .ptr d => uptoBulk d + 1
  | .slice elems spare => uptoBulkAll elems + uptoBulkAll spare + 1
  | .agg parts => uptoBulkAll parts + 1
  | .iface _ d => uptoBulk d + 1
  | .map entries => uptoBulkEntries entries + 1
  | .held _ => 1
def uptoBulkAll {H : Type} : List (DataW H) → Nat
  | [] => 0
  | d :: r => uptoBulk d + uptoBulkAll r
def uptoBulkEntries {H : Type} : List (Lit × DataW H) → Nat
  | [] => 0
  | x :: r => uptoBulkEntry x + uptoBulkEntries r
def uptoBulkEntry {H : Type} : Lit × DataW H → Nat
  | (.string bytes, d) => bytes.length + uptoBulk d + 1
  | (_, d) => uptoBulk d + 1
 end
def uptoSmall : (H : Type) → List (DataW H) → Bool := fun _ ds => decide (uptoBulkAll ds ≤ 1048576)
def OpenSpec.upto (s : _root_.Go.ChangeSpec) : _root_.Go.OpenSpec := { _root_.Go.OpenSpec.ofChange s with cond := some uptoSmall }

/-- 'lodgerlaw15.SweepDoes', WHERE WHAT IT READS IS OF BULK AT MOST 1048576: true; the input reads as it did. -/
def sweepDoesUptoRow : OpenClaim := { program := "ytfhdckmpodmejaa", sum := "85b623caa77cb39a7f68f2e2d01ce93224526cb97b6e8261c4a9a8bce132f445", func := "lodger/lodgerlaw15.SweepDoes", spec := "sweepDoes", apart := false, narrowed := true }
def SweepDoesUptoSaid : Prop := sweepDoesUptoRow.holds Try.pinned (OpenSpec.upto sweepDoesSpec)

/-- 'lodgerlaw15.SweepOnce', WHERE WHAT IT READS IS OF BULK AT MOST 1048576: true; the input reads as it did. -/
def sweepOnceUptoRow : OpenClaim := { program := "ytfhdckmpodmejaa", sum := "85b623caa77cb39a7f68f2e2d01ce93224526cb97b6e8261c4a9a8bce132f445", func := "lodger/lodgerlaw15.SweepOnce", spec := "sweepOnce", apart := false, narrowed := true }
def SweepOnceUptoSaid : Prop := sweepOnceUptoRow.holds Try.pinned (OpenSpec.upto sweepOnceSpec)

/-- 'lodgerlaw15.SweepEnds', WHERE WHAT IT READS IS OF BULK AT MOST 1048576: true; the input reads as it did. -/
def sweepEndsUptoRow : OpenClaim := { program := "ytfhdckmpodmejaa", sum := "85b623caa77cb39a7f68f2e2d01ce93224526cb97b6e8261c4a9a8bce132f445", func := "lodger/lodgerlaw15.SweepEnds", spec := "sweepEnds", apart := false, narrowed := true }
def SweepEndsUptoSaid : Prop := sweepEndsUptoRow.holds Try.pinned (OpenSpec.upto sweepEndsSpec)

/-- 'lodgerlaw15.SweepOwn', WHERE WHAT IT READS IS OF BULK AT MOST 1048576: true; the input reads as it did. -/
def sweepOwnUptoRow : OpenClaim := { program := "ytfhdckmpodmejaa", sum := "85b623caa77cb39a7f68f2e2d01ce93224526cb97b6e8261c4a9a8bce132f445", func := "lodger/lodgerlaw15.SweepOwn", spec := "sweepOwn", apart := false, narrowed := true }
def SweepOwnUptoSaid : Prop := sweepOwnUptoRow.holds Try.pinned (OpenSpec.upto sweepOwnSpec)

/-- 'lodgerlaw15.SweepTakes', WHERE WHAT IT READS IS OF BULK AT MOST 1048576: true; the input reads as it did. -/
def sweepTakesUptoRow : OpenClaim := { program := "ytfhdckmpodmejaa", sum := "85b623caa77cb39a7f68f2e2d01ce93224526cb97b6e8261c4a9a8bce132f445", func := "lodger/lodgerlaw15.SweepTakes", spec := "sweepTakes", apart := false, narrowed := true }
def SweepTakesUptoSaid : Prop := sweepTakesUptoRow.holds Try.pinned (OpenSpec.upto sweepTakesSpec)

end Rows
end Go.Proofs.Ytfhdckmpodmejaa
