/-
  No cell of these rows narrows 'for every input' (looked for: loops, veiled, ifaces, maps, wideKeys, modest, calm, conditions, laid).
  DERIVED. THE GIVEN ROWS OF THIS SEAT. 6 by the template 'for every input the law returns true; each argument reads behind the call as it read before'; 0 by the template 'total and deterministic' (their statements: YtpgbbbgblgkokaaTotals.lean).
  GIVEN WITH THE SEED: the statements are not yours to turn. If you find one false, say at which input.
  Laid BY PROGRAM, IN A SANDBOX (cutbox-rows.mjs): the forced cells as the released guide's own fill.sh prints them over the translation 2b7136d26625f36d… (all of the seat's roots in one cut). By AI agents, Wed Nov 11 2026. No macro, syntax, notation, axiom, sorry.
-/
import Derived.Test.YtpgbbbgblgkokaaChecked
import GoSem.Claim
import GoSem.ClaimJoined
import GoSem.ClaimMapViews
import Derived.JoinedTies
import Derived.KernelRfl
namespace Go.Proofs.Ytpgbbbgblgkokaa
/- THE CELL 'sum', in the pinned program and in every row, IS THE sha256 OF THE DUMP (.gsa) THAT YtpgbbbgblgkokaaProg.lean LOADS. Nothing in Lean hashes anything: it is a label: what it is worth is what the hold of that sum in a sandbox is worth. -/
noncomputable def Try.pinned : Pinned := { name := "ytpgbbbgblgkokaa", sum := "2b7136d26625f36db49fe6b565157cd3ad35f93fad2512f04cac1f61b98eb9e5", checked := Try.checked }
namespace Rows
def none {H : Type} : Left H := { results := [], args := [] }

/-- 'lodgerlaw08.TableDoes': WHATEVER THE INPUT: true; the input reads as it did. -/
def tableDoesSpec : ChangeSpec := { name := "tableDoes", fn := fun _ => fun
  | [d1, d2, d3] => { results := [.lit (.bool true)], args := [d1, d2, d3] }
  | _ => none }
def tableDoesRow : OpenClaim := { program := "ytpgbbbgblgkokaa", sum := "2b7136d26625f36db49fe6b565157cd3ad35f93fad2512f04cac1f61b98eb9e5", func := "lodger/lodgerlaw08.TableDoes", spec := "tableDoes", unfollowed := true, recurses := true, apart := false }
def TableDoesSaid : Prop := tableDoesRow.holds Try.pinned (OpenSpec.ofChange tableDoesSpec)

/-- ITS FALSE NEIGHBOUR: 'it returns false'. Refute it at one input. -/
def tableDoesWrong : ChangeSpec := { name := "tableDoes", fn := fun _ => fun
  | [d1, d2, d3] => { results := [.lit (.bool false)], args := [d1, d2, d3] }
  | _ => none }
def TableDoesWrongFalsely : Prop := tableDoesRow.holds Try.pinned (OpenSpec.ofChange tableDoesWrong)

/-- 'lodgerlaw08.TableOnce': WHATEVER THE INPUT: true; the input reads as it did. -/
def tableOnceSpec : ChangeSpec := { name := "tableOnce", fn := fun _ => fun
  | [d1, d2, d3] => { results := [.lit (.bool true)], args := [d1, d2, d3] }
  | _ => none }
def tableOnceRow : OpenClaim := { program := "ytpgbbbgblgkokaa", sum := "2b7136d26625f36db49fe6b565157cd3ad35f93fad2512f04cac1f61b98eb9e5", func := "lodger/lodgerlaw08.TableOnce", spec := "tableOnce", unfollowed := true, recurses := true, apart := false }
def TableOnceSaid : Prop := tableOnceRow.holds Try.pinned (OpenSpec.ofChange tableOnceSpec)

/-- ITS FALSE NEIGHBOUR: 'it returns false'. Refute it at one input. -/
def tableOnceWrong : ChangeSpec := { name := "tableOnce", fn := fun _ => fun
  | [d1, d2, d3] => { results := [.lit (.bool false)], args := [d1, d2, d3] }
  | _ => none }
def TableOnceWrongFalsely : Prop := tableOnceRow.holds Try.pinned (OpenSpec.ofChange tableOnceWrong)

/-- 'lodgerlaw08.TableRoom': WHATEVER THE INPUT: true; the input reads as it did. -/
def tableRoomSpec : ChangeSpec := { name := "tableRoom", fn := fun _ => fun
  | [d1, d2, d3] => { results := [.lit (.bool true)], args := [d1, d2, d3] }
  | _ => none }
def tableRoomRow : OpenClaim := { program := "ytpgbbbgblgkokaa", sum := "2b7136d26625f36db49fe6b565157cd3ad35f93fad2512f04cac1f61b98eb9e5", func := "lodger/lodgerlaw08.TableRoom", spec := "tableRoom", unfollowed := true, recurses := true, apart := false }
def TableRoomSaid : Prop := tableRoomRow.holds Try.pinned (OpenSpec.ofChange tableRoomSpec)

/-- ITS FALSE NEIGHBOUR: 'it returns false'. Refute it at one input. -/
def tableRoomWrong : ChangeSpec := { name := "tableRoom", fn := fun _ => fun
  | [d1, d2, d3] => { results := [.lit (.bool false)], args := [d1, d2, d3] }
  | _ => none }
def TableRoomWrongFalsely : Prop := tableRoomRow.holds Try.pinned (OpenSpec.ofChange tableRoomWrong)

/-- 'lodgerlaw08.TableOwn': WHATEVER THE INPUT: true; the input reads as it did. -/
def tableOwnSpec : ChangeSpec := { name := "tableOwn", fn := fun _ => fun
  | [d1, d2] => { results := [.lit (.bool true)], args := [d1, d2] }
  | _ => none }
def tableOwnRow : OpenClaim := { program := "ytpgbbbgblgkokaa", sum := "2b7136d26625f36db49fe6b565157cd3ad35f93fad2512f04cac1f61b98eb9e5", func := "lodger/lodgerlaw08.TableOwn", spec := "tableOwn", unfollowed := true, recurses := true, apart := false }
def TableOwnSaid : Prop := tableOwnRow.holds Try.pinned (OpenSpec.ofChange tableOwnSpec)

/-- ITS FALSE NEIGHBOUR: 'it returns false'. Refute it at one input. -/
def tableOwnWrong : ChangeSpec := { name := "tableOwn", fn := fun _ => fun
  | [d1, d2] => { results := [.lit (.bool false)], args := [d1, d2] }
  | _ => none }
def TableOwnWrongFalsely : Prop := tableOwnRow.holds Try.pinned (OpenSpec.ofChange tableOwnWrong)

/-- 'lodgerlaw08.TableSectors': WHATEVER THE INPUT: true; the input reads as it did. -/
def tableSectorsSpec : ChangeSpec := { name := "tableSectors", fn := fun _ => fun
  | [d1, d2, d3] => { results := [.lit (.bool true)], args := [d1, d2, d3] }
  | _ => none }
def tableSectorsRow : OpenClaim := { program := "ytpgbbbgblgkokaa", sum := "2b7136d26625f36db49fe6b565157cd3ad35f93fad2512f04cac1f61b98eb9e5", func := "lodger/lodgerlaw08.TableSectors", spec := "tableSectors", unfollowed := true, recurses := true, apart := false }
def TableSectorsSaid : Prop := tableSectorsRow.holds Try.pinned (OpenSpec.ofChange tableSectorsSpec)

/-- ITS FALSE NEIGHBOUR: 'it returns false'. Refute it at one input. -/
def tableSectorsWrong : ChangeSpec := { name := "tableSectors", fn := fun _ => fun
  | [d1, d2, d3] => { results := [.lit (.bool false)], args := [d1, d2, d3] }
  | _ => none }
def TableSectorsWrongFalsely : Prop := tableSectorsRow.holds Try.pinned (OpenSpec.ofChange tableSectorsWrong)

/-- 'lodgerlaw08.TableCycle': WHATEVER THE INPUT: true; the input reads as it did. -/
def tableCycleSpec : ChangeSpec := { name := "tableCycle", fn := fun _ => fun
  | [d1, d2, d3] => { results := [.lit (.bool true)], args := [d1, d2, d3] }
  | _ => none }
def tableCycleRow : OpenClaim := { program := "ytpgbbbgblgkokaa", sum := "2b7136d26625f36db49fe6b565157cd3ad35f93fad2512f04cac1f61b98eb9e5", func := "lodger/lodgerlaw08.TableCycle", spec := "tableCycle", unfollowed := true, recurses := true, apart := false }
def TableCycleSaid : Prop := tableCycleRow.holds Try.pinned (OpenSpec.ofChange tableCycleSpec)

/-- ITS FALSE NEIGHBOUR: 'it returns false'. Refute it at one input. -/
def tableCycleWrong : ChangeSpec := { name := "tableCycle", fn := fun _ => fun
  | [d1, d2, d3] => { results := [.lit (.bool false)], args := [d1, d2, d3] }
  | _ => none }
def TableCycleWrongFalsely : Prop := tableCycleRow.holds Try.pinned (OpenSpec.ofChange tableCycleWrong)

/- THE SECOND FORM. 'bulk': how many values and letters a reading holds, each counted each time it is reached (what is shared counts as often as it is met; a slice's spare places count too). A statement '..UptoSaid' is the law's where the arguments, and the package variables that the reading takes, are together of bulk at most 1048576: NARROWER than '..Said'. Prove '..Said' where nothing that the law and all that it calls make is longer than what came in: it says more and counts as full. Else prove '..UptoSaid'. A law counts once. -/
mutual
def uptoBulk {H : Type} : DataW H → Nat
  | .lit (.string bytes) => bytes.length + 1
  | .lit _ => 1
  | .nil => 1
  | .ptr d => uptoBulk d + 1
  | .slice elems spare => uptoBulkAll elems + uptoBulkAll spare + 1
  | .agg parts => uptoBulkAll parts + 1
  | .iface _ d => uptoBulk d + 1
  | .map entries => uptoBulkEntries entries + 1
  | .held _ => 1
def uptoBulkAll {H : Type} : List (DataW H) → Nat
  | [] => 0
  | d :: r => uptoBulk d + uptoBulkAll r
def uptoBulkEntries {H : Type} : List (Lit × DataW H) → Nat
  | [] => 0
  | x :: r => uptoBulkEntry x + uptoBulkEntries r
def uptoBulkEntry {H : Type} : Lit × DataW H → Nat
  | (.string bytes, d) => bytes.length + uptoBulk d + 1
  | (_, d) => uptoBulk d + 1
 end
def uptoSmall : (H : Type) → List (DataW H) → Bool := fun _ ds => decide (uptoBulkAll ds ≤ 1048576)
def OpenSpec.upto (s : _root_.Go.ChangeSpec) : _root_.Go.OpenSpec := { _root_.Go.OpenSpec.ofChange s with cond := some uptoSmall }

/-- 'lodgerlaw08.TableDoes', WHERE WHAT IT READS IS OF BULK AT MOST 1048576: true; the input reads as it did. -/
def tableDoesUptoRow : OpenClaim := { program := "ytpgbbbgblgkokaa", sum := "2b7136d26625f36db49fe6b565157cd3ad35f93fad2512f04cac1f61b98eb9e5", func := "lodger/lodgerlaw08.TableDoes", spec := "tableDoes", unfollowed := true, recurses := true, apart := false, narrowed := true }
def TableDoesUptoSaid : Prop := tableDoesUptoRow.holds Try.pinned (OpenSpec.upto tableDoesSpec)

/-- 'lodgerlaw08.TableOnce', WHERE WHAT IT READS IS OF BULK AT MOST 1048576: true; the input reads as it did. -/
def tableOnceUptoRow : OpenClaim := { program := "ytpgbbbgblgkokaa", sum := "2b7136d26625f36db49fe6b565157cd3ad35f93fad2512f04cac1f61b98eb9e5", func := "lodger/lodgerlaw08.TableOnce", spec := "tableOnce", unfollowed := true, recurses := true, apart := false, narrowed := true }
def TableOnceUptoSaid : Prop := tableOnceUptoRow.holds Try.pinned (OpenSpec.upto tableOnceSpec)

/-- 'lodgerlaw08.TableRoom', WHERE WHAT IT READS IS OF BULK AT MOST 1048576: true; the input reads as it did. -/
def tableRoomUptoRow : OpenClaim := { program := "ytpgbbbgblgkokaa", sum := "2b7136d26625f36db49fe6b565157cd3ad35f93fad2512f04cac1f61b98eb9e5", func := "lodger/lodgerlaw08.TableRoom", spec := "tableRoom", unfollowed := true, recurses := true, apart := false, narrowed := true }
def TableRoomUptoSaid : Prop := tableRoomUptoRow.holds Try.pinned (OpenSpec.upto tableRoomSpec)

/-- 'lodgerlaw08.TableOwn', WHERE WHAT IT READS IS OF BULK AT MOST 1048576: true; the input reads as it did. -/
def tableOwnUptoRow : OpenClaim := { program := "ytpgbbbgblgkokaa", sum := "2b7136d26625f36db49fe6b565157cd3ad35f93fad2512f04cac1f61b98eb9e5", func := "lodger/lodgerlaw08.TableOwn", spec := "tableOwn", unfollowed := true, recurses := true, apart := false, narrowed := true }
def TableOwnUptoSaid : Prop := tableOwnUptoRow.holds Try.pinned (OpenSpec.upto tableOwnSpec)

/-- 'lodgerlaw08.TableSectors', WHERE WHAT IT READS IS OF BULK AT MOST 1048576: true; the input reads as it did. -/
def tableSectorsUptoRow : OpenClaim := { program := "ytpgbbbgblgkokaa", sum := "2b7136d26625f36db49fe6b565157cd3ad35f93fad2512f04cac1f61b98eb9e5", func := "lodger/lodgerlaw08.TableSectors", spec := "tableSectors", unfollowed := true, recurses := true, apart := false, narrowed := true }
def TableSectorsUptoSaid : Prop := tableSectorsUptoRow.holds Try.pinned (OpenSpec.upto tableSectorsSpec)

/-- 'lodgerlaw08.TableCycle', WHERE WHAT IT READS IS OF BULK AT MOST 1048576: true; the input reads as it did. -/
def tableCycleUptoRow : OpenClaim := { program := "ytpgbbbgblgkokaa", sum := "2b7136d26625f36db49fe6b565157cd3ad35f93fad2512f04cac1f61b98eb9e5", func := "lodger/lodgerlaw08.TableCycle", spec := "tableCycle", unfollowed := true, recurses := true, apart := false, narrowed := true }
def TableCycleUptoSaid : Prop := tableCycleUptoRow.holds Try.pinned (OpenSpec.upto tableCycleSpec)

end Rows
end Go.Proofs.Ytpgbbbgblgkokaa
