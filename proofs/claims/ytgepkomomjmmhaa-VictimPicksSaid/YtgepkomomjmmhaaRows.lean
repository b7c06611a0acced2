/-
  No cell of these rows narrows 'for every input' (looked for: loops, veiled, ifaces, maps, wideKeys, modest, calm, conditions, laid).
  DERIVED. THE GIVEN ROWS OF THIS SEAT. 7 by the template 'for every input the law returns true; each argument reads behind the call as it read before'; 0 by the template 'total and deterministic' (their statements: YtgepkomomjmmhaaTotals.lean).
  GIVEN WITH THE SEED: the statements are not yours to turn. If you find one false, say at which input.
  Laid BY PROGRAM, IN A SANDBOX (cutbox-rows.mjs): the forced cells as the released guide's own fill.sh prints them over the translation 407de150ff0d27e8… (all of the seat's roots in one cut). By AI agents, Wed Nov 11 2026. No macro, syntax, notation, axiom, sorry.
-/
import Derived.Test.YtgepkomomjmmhaaChecked
import GoSem.Claim
import GoSem.ClaimJoined
import GoSem.ClaimMapViews
import Derived.JoinedTies
import Derived.KernelRfl
namespace Go.Proofs.Ytgepkomomjmmhaa
/- THE CELL 'sum', in the pinned program and in every row, IS THE sha256 OF THE DUMP (.gsa) THAT YtgepkomomjmmhaaProg.lean LOADS. Nothing in Lean hashes anything: it is a label: what it is worth is what the hold of that sum in a sandbox is worth. -/
noncomputable def Try.pinned : Pinned := { name := "ytgepkomomjmmhaa", sum := "407de150ff0d27e83bfa468660a0bd016d9280cb677c204dd34132b807b414a5", checked := Try.checked }
namespace Rows
def none {H : Type} : Left H := { results := [], args := [] }

/-- 'lodgerlaw14.VictimPicks': WHATEVER THE INPUT: true; the input reads as it did. -/
def victimPicksSpec : ChangeSpec := { name := "victimPicks", fn := fun _ => fun
  | [d1, d2, d3] => { results := [.lit (.bool true)], args := [d1, d2, d3] }
  | _ => none }
def victimPicksRow : OpenClaim := { program := "ytgepkomomjmmhaa", sum := "407de150ff0d27e83bfa468660a0bd016d9280cb677c204dd34132b807b414a5", func := "lodger/lodgerlaw14.VictimPicks", spec := "victimPicks", unfollowed := true, recurses := true, apart := false }
def VictimPicksSaid : Prop := victimPicksRow.holds Try.pinned (OpenSpec.ofChange victimPicksSpec)

/-- ITS FALSE NEIGHBOUR: 'it returns false'. Refute it at one input. -/
def victimPicksWrong : ChangeSpec := { name := "victimPicks", fn := fun _ => fun
  | [d1, d2, d3] => { results := [.lit (.bool false)], args := [d1, d2, d3] }
  | _ => none }
def VictimPicksWrongFalsely : Prop := victimPicksRow.holds Try.pinned (OpenSpec.ofChange victimPicksWrong)

/-- 'lodgerlaw14.VictimOrder': WHATEVER THE INPUT: true; the input reads as it did. -/
def victimOrderSpec : ChangeSpec := { name := "victimOrder", fn := fun _ => fun
  | [d1, d2, d3] => { results := [.lit (.bool true)], args := [d1, d2, d3] }
  | _ => none }
def victimOrderRow : OpenClaim := { program := "ytgepkomomjmmhaa", sum := "407de150ff0d27e83bfa468660a0bd016d9280cb677c204dd34132b807b414a5", func := "lodger/lodgerlaw14.VictimOrder", spec := "victimOrder", unfollowed := true, recurses := true, apart := false }
def VictimOrderSaid : Prop := victimOrderRow.holds Try.pinned (OpenSpec.ofChange victimOrderSpec)

/-- ITS FALSE NEIGHBOUR: 'it returns false'. Refute it at one input. -/
def victimOrderWrong : ChangeSpec := { name := "victimOrder", fn := fun _ => fun
  | [d1, d2, d3] => { results := [.lit (.bool false)], args := [d1, d2, d3] }
  | _ => none }
def VictimOrderWrongFalsely : Prop := victimOrderRow.holds Try.pinned (OpenSpec.ofChange victimOrderWrong)

/-- 'lodgerlaw14.VictimOlder': WHATEVER THE INPUT: true; the input reads as it did. -/
def victimOlderSpec : ChangeSpec := { name := "victimOlder", fn := fun _ => fun
  | [d1, d2, d3] => { results := [.lit (.bool true)], args := [d1, d2, d3] }
  | _ => none }
def victimOlderRow : OpenClaim := { program := "ytgepkomomjmmhaa", sum := "407de150ff0d27e83bfa468660a0bd016d9280cb677c204dd34132b807b414a5", func := "lodger/lodgerlaw14.VictimOlder", spec := "victimOlder", unfollowed := true, recurses := true, apart := false }
def VictimOlderSaid : Prop := victimOlderRow.holds Try.pinned (OpenSpec.ofChange victimOlderSpec)

/-- ITS FALSE NEIGHBOUR: 'it returns false'. Refute it at one input. -/
def victimOlderWrong : ChangeSpec := { name := "victimOlder", fn := fun _ => fun
  | [d1, d2, d3] => { results := [.lit (.bool false)], args := [d1, d2, d3] }
  | _ => none }
def VictimOlderWrongFalsely : Prop := victimOlderRow.holds Try.pinned (OpenSpec.ofChange victimOlderWrong)

/-- 'lodgerlaw14.VictimBest': WHATEVER THE INPUT: true; the input reads as it did. -/
def victimBestSpec : ChangeSpec := { name := "victimBest", fn := fun _ => fun
  | [d1, d2, d3] => { results := [.lit (.bool true)], args := [d1, d2, d3] }
  | _ => none }
def victimBestRow : OpenClaim := { program := "ytgepkomomjmmhaa", sum := "407de150ff0d27e83bfa468660a0bd016d9280cb677c204dd34132b807b414a5", func := "lodger/lodgerlaw14.VictimBest", spec := "victimBest", unfollowed := true, recurses := true, apart := false }
def VictimBestSaid : Prop := victimBestRow.holds Try.pinned (OpenSpec.ofChange victimBestSpec)

/-- ITS FALSE NEIGHBOUR: 'it returns false'. Refute it at one input. -/
def victimBestWrong : ChangeSpec := { name := "victimBest", fn := fun _ => fun
  | [d1, d2, d3] => { results := [.lit (.bool false)], args := [d1, d2, d3] }
  | _ => none }
def VictimBestWrongFalsely : Prop := victimBestRow.holds Try.pinned (OpenSpec.ofChange victimBestWrong)

/-- 'lodgerlaw14.VictimAll': WHATEVER THE INPUT: true; the input reads as it did. -/
def victimAllSpec : ChangeSpec := { name := "victimAll", fn := fun _ => fun
  | [d] => { results := [.lit (.bool true)], args := [d] }
  | _ => none }
def victimAllRow : OpenClaim := { program := "ytgepkomomjmmhaa", sum := "407de150ff0d27e83bfa468660a0bd016d9280cb677c204dd34132b807b414a5", func := "lodger/lodgerlaw14.VictimAll", spec := "victimAll", unfollowed := true, recurses := true, apart := false }
def VictimAllSaid : Prop := victimAllRow.holds Try.pinned (OpenSpec.ofChange victimAllSpec)

/-- ITS FALSE NEIGHBOUR: 'it returns false'. Refute it at one input. -/
def victimAllWrong : ChangeSpec := { name := "victimAll", fn := fun _ => fun
  | [d] => { results := [.lit (.bool false)], args := [d] }
  | _ => none }
def VictimAllWrongFalsely : Prop := victimAllRow.holds Try.pinned (OpenSpec.ofChange victimAllWrong)

/-- 'lodgerlaw14.VictimScale': WHATEVER THE INPUT: true; the input reads as it did. -/
def victimScaleSpec : ChangeSpec := { name := "victimScale", fn := fun _ => fun
  | [d1, d2, d3] => { results := [.lit (.bool true)], args := [d1, d2, d3] }
  | _ => none }
def victimScaleRow : OpenClaim := { program := "ytgepkomomjmmhaa", sum := "407de150ff0d27e83bfa468660a0bd016d9280cb677c204dd34132b807b414a5", func := "lodger/lodgerlaw14.VictimScale", spec := "victimScale", unfollowed := true, recurses := true, apart := false }
def VictimScaleSaid : Prop := victimScaleRow.holds Try.pinned (OpenSpec.ofChange victimScaleSpec)

/-- ITS FALSE NEIGHBOUR: 'it returns false'. Refute it at one input. -/
def victimScaleWrong : ChangeSpec := { name := "victimScale", fn := fun _ => fun
  | [d1, d2, d3] => { results := [.lit (.bool false)], args := [d1, d2, d3] }
  | _ => none }
def VictimScaleWrongFalsely : Prop := victimScaleRow.holds Try.pinned (OpenSpec.ofChange victimScaleWrong)

/-- 'lodgerlaw14.VictimRest': WHATEVER THE INPUT: true; the input reads as it did. -/
def victimRestSpec : ChangeSpec := { name := "victimRest", fn := fun _ => fun
  | [d1, d2, d3] => { results := [.lit (.bool true)], args := [d1, d2, d3] }
  | _ => none }
def victimRestRow : OpenClaim := { program := "ytgepkomomjmmhaa", sum := "407de150ff0d27e83bfa468660a0bd016d9280cb677c204dd34132b807b414a5", func := "lodger/lodgerlaw14.VictimRest", spec := "victimRest", unfollowed := true, recurses := true, apart := false }
def VictimRestSaid : Prop := victimRestRow.holds Try.pinned (OpenSpec.ofChange victimRestSpec)

/-- ITS FALSE NEIGHBOUR: 'it returns false'. Refute it at one input. -/
def victimRestWrong : ChangeSpec := { name := "victimRest", fn := fun _ => fun
  | [d1, d2, d3] => { results := [.lit (.bool false)], args := [d1, d2, d3] }
  | _ => none }
def VictimRestWrongFalsely : Prop := victimRestRow.holds Try.pinned (OpenSpec.ofChange victimRestWrong)

/- THE SECOND FORM. 'bulk': how many values and letters a reading holds, each counted each time it is reached (what is shared counts as often as it is met; a slice's spare places count too). A statement '..UptoSaid' is the law's where the arguments, and the package variables that the reading takes, are together of bulk at most 1048576: NARROWER than '..Said'. Prove '..Said' where nothing that the law and all that it calls make is longer than what came in: it says more and counts as full. Else prove '..UptoSaid'. A law counts once. -/
mutual
def uptoBulk {H : Type} : DataW H → Nat
  | .lit (.string bytes) => bytes.length + 1
  | .lit _ => 1
  | .nil => 1
  | .ptr d => uptoBulk d + 1
  | .slice elems spare => uptoBulkAll elems + uptoBulkAll spare + 1
  | .agg parts => uptoBulkAll parts + 1
  | .iface _ d => uptoBulk d + 1
  | .map entries => uptoBulkEntries entries + 1
  | .held _ => 1
def uptoBulkAll {H : Type} : List (DataW H) → Nat
  | [] => 0
  | d :: r => uptoBulk d + uptoBulkAll r
def uptoBulkEntries {H : Type} : List (Lit × DataW H) → Nat
  | [] => 0
  | x :: r => uptoBulkEntry x + uptoBulkEntries r
def uptoBulkEntry {H : Type} : Lit × DataW H → Nat
  | (.string bytes, d) => bytes.length + uptoBulk d + 1
  | (_, d) => uptoBulk d + 1
 end
def uptoSmall : (H : Type) → List (DataW H) → Bool := fun _ ds => decide (uptoBulkAll ds ≤ 1048576)
def OpenSpec.upto (s : _root_.Go.ChangeSpec) : _root_.Go.OpenSpec := { _root_.Go.OpenSpec.ofChange s with cond := some uptoSmall }

/-- 'lodgerlaw14.VictimPicks', WHERE WHAT IT READS IS OF BULK AT MOST 1048576: true; the input reads as it did. -/
def victimPicksUptoRow : OpenClaim := { program := "ytgepkomomjmmhaa", sum := "407de150ff0d27e83bfa468660a0bd016d9280cb677c204dd34132b807b414a5", func := "lodger/lodgerlaw14.VictimPicks", spec := "victimPicks", unfollowed := true, recurses := true, apart := false, narrowed := true }
def VictimPicksUptoSaid : Prop := victimPicksUptoRow.holds Try.pinned (OpenSpec.upto victimPicksSpec)

/-- 'lodgerlaw14.VictimOrder', WHERE WHAT IT READS IS OF BULK AT MOST 1048576: true; the input reads as it did. -/
def victimOrderUptoRow : OpenClaim := { program := "ytgepkomomjmmhaa", sum := "407de150ff0d27e83bfa468660a0bd016d9280cb677c204dd34132b807b414a5", func := "lodger/lodgerlaw14.VictimOrder", spec := "victimOrder", unfollowed := true, recurses := true, apart := false, narrowed := true }
def VictimOrderUptoSaid : Prop := victimOrderUptoRow.holds Try.pinned (OpenSpec.upto victimOrderSpec)

/-- 'lodgerlaw14.VictimOlder', WHERE WHAT IT READS IS OF BULK AT MOST 1048576: true; the input reads as it did. -/
def victimOlderUptoRow : OpenClaim := { program := "ytgepkomomjmmhaa", sum := "407de150ff0d27e83bfa468660a0bd016d9280cb677c204dd34132b807b414a5", func := "lodger/lodgerlaw14.VictimOlder", spec := "victimOlder", unfollowed := true, recurses := true, apart := false, narrowed := true }
def VictimOlderUptoSaid : Prop := victimOlderUptoRow.holds Try.pinned (OpenSpec.upto victimOlderSpec)

/-- 'lodgerlaw14.VictimBest', WHERE WHAT IT READS IS OF BULK AT MOST 1048576: true; the input reads as it did. -/
def victimBestUptoRow : OpenClaim := { program := "ytgepkomomjmmhaa", sum := "407de150ff0d27e83bfa468660a0bd016d9280cb677c204dd34132b807b414a5", func := "lodger/lodgerlaw14.VictimBest", spec := "victimBest", unfollowed := true, recurses := true, apart := false, narrowed := true }
def VictimBestUptoSaid : Prop := victimBestUptoRow.holds Try.pinned (OpenSpec.upto victimBestSpec)

/-- 'lodgerlaw14.VictimAll', WHERE WHAT IT READS IS OF BULK AT MOST 1048576: true; the input reads as it did. -/
def victimAllUptoRow : OpenClaim := { program := "ytgepkomomjmmhaa", sum := "407de150ff0d27e83bfa468660a0bd016d9280cb677c204dd34132b807b414a5", func := "lodger/lodgerlaw14.VictimAll", spec := "victimAll", unfollowed := true, recurses := true, apart := false, narrowed := true }
def VictimAllUptoSaid : Prop := victimAllUptoRow.holds Try.pinned (OpenSpec.upto victimAllSpec)

/-- 'lodgerlaw14.VictimScale', WHERE WHAT IT READS IS OF BULK AT MOST 1048576: true; the input reads as it did. -/
def victimScaleUptoRow : OpenClaim := { program := "ytgepkomomjmmhaa", sum := "407de150ff0d27e83bfa468660a0bd016d9280cb677c204dd34132b807b414a5", func := "lodger/lodgerlaw14.VictimScale", spec := "victimScale", unfollowed := true, recurses := true, apart := false, narrowed := true }
def VictimScaleUptoSaid : Prop := victimScaleUptoRow.holds Try.pinned (OpenSpec.upto victimScaleSpec)

/-- 'lodgerlaw14.VictimRest', WHERE WHAT IT READS IS OF BULK AT MOST 1048576: true; the input reads as it did. -/
def victimRestUptoRow : OpenClaim := { program := "ytgepkomomjmmhaa", sum := "407de150ff0d27e83bfa468660a0bd016d9280cb677c204dd34132b807b414a5", func := "lodger/lodgerlaw14.VictimRest", spec := "victimRest", unfollowed := true, recurses := true, apart := false, narrowed := true }
def VictimRestUptoSaid : Prop := victimRestUptoRow.holds Try.pinned (OpenSpec.upto victimRestSpec)

end Rows
end Go.Proofs.Ytgepkomomjmmhaa
