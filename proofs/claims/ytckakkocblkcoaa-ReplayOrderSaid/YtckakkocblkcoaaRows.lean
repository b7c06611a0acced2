/-
  No cell of these rows narrows 'for every input' (looked for: loops, veiled, ifaces, maps, wideKeys, modest, calm, conditions, laid).
  DERIVED. THE GIVEN ROWS OF THIS SEAT. 6 by the template 'for every input the law returns true; each argument reads behind the call as it read before'; 0 by the template 'total and deterministic' (their statements: YtckakkocblkcoaaTotals.lean).
  GIVEN WITH THE SEED: the statements are not yours to turn. If you find one false, say at which input.
  Laid BY PROGRAM, IN A SANDBOX (cutbox-rows.mjs): the forced cells as the released guide's own fill.sh prints them over the translation 7ab54c51bb7209c8… (all of the seat's roots in one cut). By AI agents, Wed Nov 11 2026. No macro, syntax, notation, axiom, sorry.
-/
import Derived.Test.YtckakkocblkcoaaChecked
import GoSem.Claim
import GoSem.ClaimJoined
import GoSem.ClaimMapViews
import Derived.JoinedTies
import Derived.KernelRfl
namespace Go.Proofs.Ytckakkocblkcoaa
/- THE CELL 'sum', in the pinned program and in every row, IS THE sha256 OF THE DUMP (.gsa) THAT YtckakkocblkcoaaProg.lean LOADS. Nothing in Lean hashes anything: it is a label: what it is worth is what the hold of that sum in a sandbox is worth. -/
noncomputable def Try.pinned : Pinned := { name := "ytckakkocblkcoaa", sum := "7ab54c51bb7209c87cbdbf356399350cb3e70b1666304a33d98d4deed602dd9f", checked := Try.checked }
namespace Rows
def none {H : Type} : Left H := { results := [], args := [] }

/-- 'lodgerlaw11.ReplayTells': WHATEVER THE INPUT: true; the input reads as it did. -/
def replayTellsSpec : ChangeSpec := { name := "replayTells", fn := fun _ => fun
  | [d1, d2, d3] => { results := [.lit (.bool true)], args := [d1, d2, d3] }
  | _ => none }
def replayTellsRow : OpenClaim := { program := "ytckakkocblkcoaa", sum := "7ab54c51bb7209c87cbdbf356399350cb3e70b1666304a33d98d4deed602dd9f", func := "lodger/lodgerlaw11.ReplayTells", spec := "replayTells", inPlace := ["internal/bytealg.abigen_runtime_cmpstring"], unfollowed := true, recurses := true, apart := false }
def ReplayTellsSaid : Prop := replayTellsRow.holds Try.pinned (OpenSpec.ofChange replayTellsSpec)

/-- ITS FALSE NEIGHBOUR: 'it returns false'. Refute it at one input. -/
def replayTellsWrong : ChangeSpec := { name := "replayTells", fn := fun _ => fun
  | [d1, d2, d3] => { results := [.lit (.bool false)], args := [d1, d2, d3] }
  | _ => none }
def ReplayTellsWrongFalsely : Prop := replayTellsRow.holds Try.pinned (OpenSpec.ofChange replayTellsWrong)

/-- 'lodgerlaw11.ReplayOrder': WHATEVER THE INPUT: true; the input reads as it did. -/
def replayOrderSpec : ChangeSpec := { name := "replayOrder", fn := fun _ => fun
  | [d1, d2] => { results := [.lit (.bool true)], args := [d1, d2] }
  | _ => none }
def replayOrderRow : OpenClaim := { program := "ytckakkocblkcoaa", sum := "7ab54c51bb7209c87cbdbf356399350cb3e70b1666304a33d98d4deed602dd9f", func := "lodger/lodgerlaw11.ReplayOrder", spec := "replayOrder", inPlace := ["internal/bytealg.abigen_runtime_cmpstring"], unfollowed := true, recurses := true, apart := false }
def ReplayOrderSaid : Prop := replayOrderRow.holds Try.pinned (OpenSpec.ofChange replayOrderSpec)

/-- ITS FALSE NEIGHBOUR: 'it returns false'. Refute it at one input. -/
def replayOrderWrong : ChangeSpec := { name := "replayOrder", fn := fun _ => fun
  | [d1, d2] => { results := [.lit (.bool false)], args := [d1, d2] }
  | _ => none }
def ReplayOrderWrongFalsely : Prop := replayOrderRow.holds Try.pinned (OpenSpec.ofChange replayOrderWrong)

/-- 'lodgerlaw11.ReplayLess': WHATEVER THE INPUT: true; the input reads as it did. -/
def replayLessSpec : ChangeSpec := { name := "replayLess", fn := fun _ => fun
  | [d1, d2, d3] => { results := [.lit (.bool true)], args := [d1, d2, d3] }
  | _ => none }
def replayLessRow : OpenClaim := { program := "ytckakkocblkcoaa", sum := "7ab54c51bb7209c87cbdbf356399350cb3e70b1666304a33d98d4deed602dd9f", func := "lodger/lodgerlaw11.ReplayLess", spec := "replayLess", inPlace := ["internal/bytealg.abigen_runtime_cmpstring"], unfollowed := true, recurses := true, apart := false }
def ReplayLessSaid : Prop := replayLessRow.holds Try.pinned (OpenSpec.ofChange replayLessSpec)

/-- ITS FALSE NEIGHBOUR: 'it returns false'. Refute it at one input. -/
def replayLessWrong : ChangeSpec := { name := "replayLess", fn := fun _ => fun
  | [d1, d2, d3] => { results := [.lit (.bool false)], args := [d1, d2, d3] }
  | _ => none }
def ReplayLessWrongFalsely : Prop := replayLessRow.holds Try.pinned (OpenSpec.ofChange replayLessWrong)

/-- 'lodgerlaw11.ReplayLater': WHATEVER THE INPUT: true; the input reads as it did. -/
def replayLaterSpec : ChangeSpec := { name := "replayLater", fn := fun _ => fun
  | [d1, d2, d3] => { results := [.lit (.bool true)], args := [d1, d2, d3] }
  | _ => none }
def replayLaterRow : OpenClaim := { program := "ytckakkocblkcoaa", sum := "7ab54c51bb7209c87cbdbf356399350cb3e70b1666304a33d98d4deed602dd9f", func := "lodger/lodgerlaw11.ReplayLater", spec := "replayLater", inPlace := ["internal/bytealg.abigen_runtime_cmpstring"], unfollowed := true, recurses := true, apart := false }
def ReplayLaterSaid : Prop := replayLaterRow.holds Try.pinned (OpenSpec.ofChange replayLaterSpec)

/-- ITS FALSE NEIGHBOUR: 'it returns false'. Refute it at one input. -/
def replayLaterWrong : ChangeSpec := { name := "replayLater", fn := fun _ => fun
  | [d1, d2, d3] => { results := [.lit (.bool false)], args := [d1, d2, d3] }
  | _ => none }
def ReplayLaterWrongFalsely : Prop := replayLaterRow.holds Try.pinned (OpenSpec.ofChange replayLaterWrong)

/-- 'lodgerlaw11.ReplayJoins': WHATEVER THE INPUT: true; the input reads as it did. -/
def replayJoinsSpec : ChangeSpec := { name := "replayJoins", fn := fun _ => fun
  | [d1, d2] => { results := [.lit (.bool true)], args := [d1, d2] }
  | _ => none }
def replayJoinsRow : OpenClaim := { program := "ytckakkocblkcoaa", sum := "7ab54c51bb7209c87cbdbf356399350cb3e70b1666304a33d98d4deed602dd9f", func := "lodger/lodgerlaw11.ReplayJoins", spec := "replayJoins", inPlace := ["internal/bytealg.abigen_runtime_cmpstring"], unfollowed := true, recurses := true, apart := false }
def ReplayJoinsSaid : Prop := replayJoinsRow.holds Try.pinned (OpenSpec.ofChange replayJoinsSpec)

/-- ITS FALSE NEIGHBOUR: 'it returns false'. Refute it at one input. -/
def replayJoinsWrong : ChangeSpec := { name := "replayJoins", fn := fun _ => fun
  | [d1, d2] => { results := [.lit (.bool false)], args := [d1, d2] }
  | _ => none }
def ReplayJoinsWrongFalsely : Prop := replayJoinsRow.holds Try.pinned (OpenSpec.ofChange replayJoinsWrong)

/-- 'lodgerlaw11.ReplayTomb': WHATEVER THE INPUT: true; the input reads as it did. -/
def replayTombSpec : ChangeSpec := { name := "replayTomb", fn := fun _ => fun
  | [d1, d2, d3] => { results := [.lit (.bool true)], args := [d1, d2, d3] }
  | _ => none }
def replayTombRow : OpenClaim := { program := "ytckakkocblkcoaa", sum := "7ab54c51bb7209c87cbdbf356399350cb3e70b1666304a33d98d4deed602dd9f", func := "lodger/lodgerlaw11.ReplayTomb", spec := "replayTomb", inPlace := ["internal/bytealg.abigen_runtime_cmpstring"], unfollowed := true, recurses := true, apart := false }
def ReplayTombSaid : Prop := replayTombRow.holds Try.pinned (OpenSpec.ofChange replayTombSpec)

/-- ITS FALSE NEIGHBOUR: 'it returns false'. Refute it at one input. -/
def replayTombWrong : ChangeSpec := { name := "replayTomb", fn := fun _ => fun
  | [d1, d2, d3] => { results := [.lit (.bool false)], args := [d1, d2, d3] }
  | _ => none }
def ReplayTombWrongFalsely : Prop := replayTombRow.holds Try.pinned (OpenSpec.ofChange replayTombWrong)

/- THE SECOND FORM. 'bulk': how many values and letters a reading holds, each counted each time it is reached (what is shared counts as often as it is met; a slice's spare places count too). A statement '..UptoSaid' is the law's where the arguments, and the package variables that the reading takes, are together of bulk at most 1048576: NARROWER than '..Said'. Prove '..Said' where nothing that the law and all that it calls make is longer than what came in: it says more and counts as full. Else prove '..UptoSaid'. A law counts once. -/
mutual
def uptoBulk {H : Type} : DataW H → Nat
  | .lit (.string bytes) => bytes.length + 1
  | .lit _ => 1
  | .nil => 1
  | .ptr d => uptoBulk d + 1
  | .slice elems spare => uptoBulkAll elems + uptoBulkAll spare + 1
  | .agg parts => uptoBulkAll parts + 1
  | .iface _ d => uptoBulk d + 1
  | .map entries => uptoBulkEntries entries + 1
  | .held _ => 1
def uptoBulkAll {H : Type} : List (DataW H) → Nat
  | [] => 0
  | d :: r => uptoBulk d + uptoBulkAll r
def uptoBulkEntries {H : Type} : List (Lit × DataW H) → Nat
  | [] => 0
  | x :: r => uptoBulkEntry x + uptoBulkEntries r
def uptoBulkEntry {H : Type} : Lit × DataW H → Nat
  | (.string bytes, d) => bytes.length + uptoBulk d + 1
  | (_, d) => uptoBulk d + 1
 end
def uptoSmall : (H : Type) → List (DataW H) → Bool := fun _ ds => decide (uptoBulkAll ds ≤ 1048576)
def OpenSpec.upto (s : _root_.Go.ChangeSpec) : _root_.Go.OpenSpec := { _root_.Go.OpenSpec.ofChange s with cond := some uptoSmall }

/-- 'lodgerlaw11.ReplayTells', WHERE WHAT IT READS IS OF BULK AT MOST 1048576: true; the input reads as it did. -/
def replayTellsUptoRow : OpenClaim := { program := "ytckakkocblkcoaa", sum := "7ab54c51bb7209c87cbdbf356399350cb3e70b1666304a33d98d4deed602dd9f", func := "lodger/lodgerlaw11.ReplayTells", spec := "replayTells", inPlace := ["internal/bytealg.abigen_runtime_cmpstring"], unfollowed := true, recurses := true, apart := false, narrowed := true }
def ReplayTellsUptoSaid : Prop := replayTellsUptoRow.holds Try.pinned (OpenSpec.upto replayTellsSpec)

/-- 'lodgerlaw11.ReplayOrder', WHERE WHAT IT READS IS OF BULK AT MOST 1048576: true; the input reads as it did. -/
def replayOrderUptoRow : OpenClaim := { program := "ytckakkocblkcoaa", sum := "7ab54c51bb7209c87cbdbf356399350cb3e70b1666304a33d98d4deed602dd9f", func := "lodger/lodgerlaw11.ReplayOrder", spec := "replayOrder", inPlace := ["internal/bytealg.abigen_runtime_cmpstring"], unfollowed := true, recurses := true, apart := false, narrowed := true }
def ReplayOrderUptoSaid : Prop := replayOrderUptoRow.holds Try.pinned (OpenSpec.upto replayOrderSpec)

/-- 'lodgerlaw11.ReplayLess', WHERE WHAT IT READS IS OF BULK AT MOST 1048576: true; the input reads as it did. -/
def replayLessUptoRow : OpenClaim := { program := "ytckakkocblkcoaa", sum := "7ab54c51bb7209c87cbdbf356399350cb3e70b1666304a33d98d4deed602dd9f", func := "lodger/lodgerlaw11.ReplayLess", spec := "replayLess", inPlace := ["internal/bytealg.abigen_runtime_cmpstring"], unfollowed := true, recurses := true, apart := false, narrowed := true }
def ReplayLessUptoSaid : Prop := replayLessUptoRow.holds Try.pinned (OpenSpec.upto replayLessSpec)

/-- 'lodgerlaw11.ReplayLater', WHERE WHAT IT READS IS OF BULK AT MOST 1048576: true; the input reads as it did. -/
def replayLaterUptoRow : OpenClaim := { program := "ytckakkocblkcoaa", sum := "7ab54c51bb7209c87cbdbf356399350cb3e70b1666304a33d98d4deed602dd9f", func := "lodger/lodgerlaw11.ReplayLater", spec := "replayLater", inPlace := ["internal/bytealg.abigen_runtime_cmpstring"], unfollowed := true, recurses := true, apart := false, narrowed := true }
def ReplayLaterUptoSaid : Prop := replayLaterUptoRow.holds Try.pinned (OpenSpec.upto replayLaterSpec)

/-- 'lodgerlaw11.ReplayJoins', WHERE WHAT IT READS IS OF BULK AT MOST 1048576: true; the input reads as it did. -/
def replayJoinsUptoRow : OpenClaim := { program := "ytckakkocblkcoaa", sum := "7ab54c51bb7209c87cbdbf356399350cb3e70b1666304a33d98d4deed602dd9f", func := "lodger/lodgerlaw11.ReplayJoins", spec := "replayJoins", inPlace := ["internal/bytealg.abigen_runtime_cmpstring"], unfollowed := true, recurses := true, apart := false, narrowed := true }
def ReplayJoinsUptoSaid : Prop := replayJoinsUptoRow.holds Try.pinned (OpenSpec.upto replayJoinsSpec)

/-- 'lodgerlaw11.ReplayTomb', WHERE WHAT IT READS IS OF BULK AT MOST 1048576: true; the input reads as it did. -/
def replayTombUptoRow : OpenClaim := { program := "ytckakkocblkcoaa", sum := "7ab54c51bb7209c87cbdbf356399350cb3e70b1666304a33d98d4deed602dd9f", func := "lodger/lodgerlaw11.ReplayTomb", spec := "replayTomb", inPlace := ["internal/bytealg.abigen_runtime_cmpstring"], unfollowed := true, recurses := true, apart := false, narrowed := true }
def ReplayTombUptoSaid : Prop := replayTombUptoRow.holds Try.pinned (OpenSpec.upto replayTombSpec)

end Rows
end Go.Proofs.Ytckakkocblkcoaa
