/-
  No cell of these rows narrows 'for every input' (looked for: loops, veiled, ifaces, maps, wideKeys, modest, calm, conditions, laid).
  DERIVED. THE GIVEN ROWS OF THIS SEAT. 7 by the template 'for every input the law returns true; each argument reads behind the call as it read before'; 0 by the template 'total and deterministic' (their statements: YtcnohlgigmmefaaGreatTotals.lean).
  GIVEN WITH THE SEED: the statements are not yours to turn. If you find one false, say at which input.
  Laid BY PROGRAM, IN A SANDBOX (cutbox-rows.mjs): the forced cells as the released guide's own fill.sh prints them over the translation 066f3a3c63ce97fb… (all of the seat's roots in one cut). By AI agents, Wed Nov 11 2026. No macro, syntax, notation, axiom, sorry.
-/
import Derived.Test.YtcnohlgigmmefaaGreatChecked
import GoSem.Claim
import GoSem.ClaimJoined
import GoSem.ClaimMapViews
import Derived.JoinedTies
import Derived.KernelRfl
namespace Go.Proofs.YtcnohlgigmmefaaGreat
/- THE CELL 'sum', in the pinned program and in every row, IS THE sha256 OF THE DUMP (.gsa) THAT YtcnohlgigmmefaaGreatProg.lean LOADS. Nothing in Lean hashes anything: it is a label: what it is worth is what the hold of that sum in a sandbox is worth. -/
noncomputable def Tryz.pinned : Pinned := { name := "ytcnohlgigmmefaagreat", sum := "066f3a3c63ce97fb835b96acfb862e830aa27e6e10a28763f1924dc97d3ce68c", checked := Tryz.checked }
namespace Rows
def none {H : Type} : Left H := { results := [], args := [] }

/-- 'lodgerlaw10.RollFinds': WHATEVER THE INPUT: true; the input reads as it did. -/
def rollFindsSpec : ChangeSpec := { name := "rollFinds", fn := fun _ => fun
  | [d1, d2] => { results := [.lit (.bool true)], args := [d1, d2] }
  | _ => none }
def rollFindsRow : OpenClaim := { program := "ytcnohlgigmmefaagreat", sum := "066f3a3c63ce97fb835b96acfb862e830aa27e6e10a28763f1924dc97d3ce68c", func := "lodger/lodgerlaw10.RollFinds", spec := "rollFinds", inPlace := ["math.Float64bits", "internal/abi.NoEscape", "internal/bytealg.MakeNoZero", "maps.clone"], unfollowed := true, recurses := true, apart := false }
def RollFindsSaid : Prop := rollFindsRow.holds Tryz.pinned (OpenSpec.ofChange rollFindsSpec)

/-- ITS FALSE NEIGHBOUR: 'it returns false'. Refute it at one input. -/
def rollFindsWrong : ChangeSpec := { name := "rollFinds", fn := fun _ => fun
  | [d1, d2] => { results := [.lit (.bool false)], args := [d1, d2] }
  | _ => none }
def RollFindsWrongFalsely : Prop := rollFindsRow.holds Tryz.pinned (OpenSpec.ofChange rollFindsWrong)

/-- 'lodgerlaw10.RollRaw': WHATEVER THE INPUT: true; the input reads as it did. -/
def rollRawSpec : ChangeSpec := { name := "rollRaw", fn := fun _ => fun
  | [d1, d2] => { results := [.lit (.bool true)], args := [d1, d2] }
  | _ => none }
def rollRawRow : OpenClaim := { program := "ytcnohlgigmmefaagreat", sum := "066f3a3c63ce97fb835b96acfb862e830aa27e6e10a28763f1924dc97d3ce68c", func := "lodger/lodgerlaw10.RollRaw", spec := "rollRaw", inPlace := ["math.Float64bits", "internal/abi.NoEscape", "internal/bytealg.MakeNoZero", "maps.clone"], unfollowed := true, recurses := true, apart := false }
def RollRawSaid : Prop := rollRawRow.holds Tryz.pinned (OpenSpec.ofChange rollRawSpec)

/-- ITS FALSE NEIGHBOUR: 'it returns false'. Refute it at one input. -/
def rollRawWrong : ChangeSpec := { name := "rollRaw", fn := fun _ => fun
  | [d1, d2] => { results := [.lit (.bool false)], args := [d1, d2] }
  | _ => none }
def RollRawWrongFalsely : Prop := rollRawRow.holds Tryz.pinned (OpenSpec.ofChange rollRawWrong)

/-- 'lodgerlaw10.RollPrefix': WHATEVER THE INPUT: true; the input reads as it did. -/
def rollPrefixSpec : ChangeSpec := { name := "rollPrefix", fn := fun _ => fun
  | [d1, d2, d3] => { results := [.lit (.bool true)], args := [d1, d2, d3] }
  | _ => none }
def rollPrefixRow : OpenClaim := { program := "ytcnohlgigmmefaagreat", sum := "066f3a3c63ce97fb835b96acfb862e830aa27e6e10a28763f1924dc97d3ce68c", func := "lodger/lodgerlaw10.RollPrefix", spec := "rollPrefix", inPlace := ["math.Float64bits", "internal/abi.NoEscape", "internal/bytealg.MakeNoZero", "maps.clone"], unfollowed := true, recurses := true, apart := false }
def RollPrefixSaid : Prop := rollPrefixRow.holds Tryz.pinned (OpenSpec.ofChange rollPrefixSpec)

/-- ITS FALSE NEIGHBOUR: 'it returns false'. Refute it at one input. -/
def rollPrefixWrong : ChangeSpec := { name := "rollPrefix", fn := fun _ => fun
  | [d1, d2, d3] => { results := [.lit (.bool false)], args := [d1, d2, d3] }
  | _ => none }
def RollPrefixWrongFalsely : Prop := rollPrefixRow.holds Tryz.pinned (OpenSpec.ofChange rollPrefixWrong)

/-- 'lodgerlaw10.RollAgain': WHATEVER THE INPUT: true; the input reads as it did. -/
def rollAgainSpec : ChangeSpec := { name := "rollAgain", fn := fun _ => fun
  | [d1, d2, d3] => { results := [.lit (.bool true)], args := [d1, d2, d3] }
  | _ => none }
def rollAgainRow : OpenClaim := { program := "ytcnohlgigmmefaagreat", sum := "066f3a3c63ce97fb835b96acfb862e830aa27e6e10a28763f1924dc97d3ce68c", func := "lodger/lodgerlaw10.RollAgain", spec := "rollAgain", inPlace := ["math.Float64bits", "internal/abi.NoEscape", "internal/bytealg.MakeNoZero", "maps.clone"], unfollowed := true, recurses := true, apart := false }
def RollAgainSaid : Prop := rollAgainRow.holds Tryz.pinned (OpenSpec.ofChange rollAgainSpec)

/-- ITS FALSE NEIGHBOUR: 'it returns false'. Refute it at one input. -/
def rollAgainWrong : ChangeSpec := { name := "rollAgain", fn := fun _ => fun
  | [d1, d2, d3] => { results := [.lit (.bool false)], args := [d1, d2, d3] }
  | _ => none }
def RollAgainWrongFalsely : Prop := rollAgainRow.holds Tryz.pinned (OpenSpec.ofChange rollAgainWrong)

/-- 'lodgerlaw10.RollOn': WHATEVER THE INPUT: true; the input reads as it did. -/
def rollOnSpec : ChangeSpec := { name := "rollOn", fn := fun _ => fun
  | [d1, d2, d3] => { results := [.lit (.bool true)], args := [d1, d2, d3] }
  | _ => none }
def rollOnRow : OpenClaim := { program := "ytcnohlgigmmefaagreat", sum := "066f3a3c63ce97fb835b96acfb862e830aa27e6e10a28763f1924dc97d3ce68c", func := "lodger/lodgerlaw10.RollOn", spec := "rollOn", inPlace := ["math.Float64bits", "internal/abi.NoEscape", "internal/bytealg.MakeNoZero", "maps.clone"], unfollowed := true, recurses := true, apart := false }
def RollOnSaid : Prop := rollOnRow.holds Tryz.pinned (OpenSpec.ofChange rollOnSpec)

/-- ITS FALSE NEIGHBOUR: 'it returns false'. Refute it at one input. -/
def rollOnWrong : ChangeSpec := { name := "rollOn", fn := fun _ => fun
  | [d1, d2, d3] => { results := [.lit (.bool false)], args := [d1, d2, d3] }
  | _ => none }
def RollOnWrongFalsely : Prop := rollOnRow.holds Tryz.pinned (OpenSpec.ofChange rollOnWrong)

/-- 'lodgerlaw10.RollTwice': WHATEVER THE INPUT: true; the input reads as it did. -/
def rollTwiceSpec : ChangeSpec := { name := "rollTwice", fn := fun _ => fun
  | [d1, d2] => { results := [.lit (.bool true)], args := [d1, d2] }
  | _ => none }
def rollTwiceRow : OpenClaim := { program := "ytcnohlgigmmefaagreat", sum := "066f3a3c63ce97fb835b96acfb862e830aa27e6e10a28763f1924dc97d3ce68c", func := "lodger/lodgerlaw10.RollTwice", spec := "rollTwice", inPlace := ["math.Float64bits", "internal/abi.NoEscape", "internal/bytealg.MakeNoZero", "maps.clone"], unfollowed := true, recurses := true, apart := false }
def RollTwiceSaid : Prop := rollTwiceRow.holds Tryz.pinned (OpenSpec.ofChange rollTwiceSpec)

/-- ITS FALSE NEIGHBOUR: 'it returns false'. Refute it at one input. -/
def rollTwiceWrong : ChangeSpec := { name := "rollTwice", fn := fun _ => fun
  | [d1, d2] => { results := [.lit (.bool false)], args := [d1, d2] }
  | _ => none }
def RollTwiceWrongFalsely : Prop := rollTwiceRow.holds Tryz.pinned (OpenSpec.ofChange rollTwiceWrong)

/-- 'lodgerlaw10.RollSealed': WHATEVER THE INPUT: true; the input reads as it did. -/
def rollSealedSpec : ChangeSpec := { name := "rollSealed", fn := fun _ => fun
  | [d1, d2] => { results := [.lit (.bool true)], args := [d1, d2] }
  | _ => none }
def rollSealedRow : OpenClaim := { program := "ytcnohlgigmmefaagreat", sum := "066f3a3c63ce97fb835b96acfb862e830aa27e6e10a28763f1924dc97d3ce68c", func := "lodger/lodgerlaw10.RollSealed", spec := "rollSealed", inPlace := ["math.Float64bits", "internal/abi.NoEscape", "internal/bytealg.MakeNoZero", "maps.clone"], unfollowed := true, recurses := true, apart := false }
def RollSealedSaid : Prop := rollSealedRow.holds Tryz.pinned (OpenSpec.ofChange rollSealedSpec)

/-- ITS FALSE NEIGHBOUR: 'it returns false'. Refute it at one input. -/
def rollSealedWrong : ChangeSpec := { name := "rollSealed", fn := fun _ => fun
  | [d1, d2] => { results := [.lit (.bool false)], args := [d1, d2] }
  | _ => none }
def RollSealedWrongFalsely : Prop := rollSealedRow.holds Tryz.pinned (OpenSpec.ofChange rollSealedWrong)

/- THE SECOND FORM. 'bulk': how many values and letters a reading holds, each counted each time it is reached (what is shared counts as often as it is met; a slice's spare places count too). A statement '..UptoSaid' is the law's where the arguments, and the package variables that the reading takes, are together of bulk at most 1048576: NARROWER than '..Said'. Prove '..Said' where nothing that the law and all that it calls make is longer than what came in: it says more and counts as full. Else prove '..UptoSaid'. A law counts once. -/
mutual
def uptoBulk {H : Type} : DataW H → Nat
  | .lit (.string bytes) => bytes.length + 1
  | .lit _ => 1
  | .nil => 1
  | .ptr d => uptoBulk d + 1
  | .slice elems spare => uptoBulkAll elems + uptoBulkAll spare + 1
  | .agg parts => uptoBulkAll parts + 1
  | .iface _ d => uptoBulk d + 1
  | .map entries => uptoBulkEntries entries + 1
  | .held _ => 1
def uptoBulkAll {H : Type} : List (DataW H) → Nat
  | [] => 0
  | d :: r => uptoBulk d + uptoBulkAll r
def uptoBulkEntries {H : Type} : List (Lit × DataW H) → Nat
  | [] => 0
  | x :: r => uptoBulkEntry x + uptoBulkEntries r
def uptoBulkEntry {H : Type} : Lit × DataW H → Nat
  | (.string bytes, d) => bytes.length + uptoBulk d + 1
  | (_, d) => uptoBulk d + 1
 end
def uptoSmall : (H : Type) → List (DataW H) → Bool := fun _ ds => decide (uptoBulkAll ds ≤ 1048576)
def OpenSpec.upto (s : _root_.Go.ChangeSpec) : _root_.Go.OpenSpec := { _root_.Go.OpenSpec.ofChange s with cond := some uptoSmall }

/-- 'lodgerlaw10.RollFinds', WHERE WHAT IT READS IS OF BULK AT MOST 1048576: true; the input reads as it did. -/
def rollFindsUptoRow : OpenClaim := { program := "ytcnohlgigmmefaagreat", sum := "066f3a3c63ce97fb835b96acfb862e830aa27e6e10a28763f1924dc97d3ce68c", func := "lodger/lodgerlaw10.RollFinds", spec := "rollFinds", inPlace := ["math.Float64bits", "internal/abi.NoEscape", "internal/bytealg.MakeNoZero", "maps.clone"], unfollowed := true, recurses := true, apart := false, narrowed := true }
def RollFindsUptoSaid : Prop := rollFindsUptoRow.holds Tryz.pinned (OpenSpec.upto rollFindsSpec)

/-- 'lodgerlaw10.RollRaw', WHERE WHAT IT READS IS OF BULK AT MOST 1048576: true; the input reads as it did. -/
def rollRawUptoRow : OpenClaim := { program := "ytcnohlgigmmefaagreat", sum := "066f3a3c63ce97fb835b96acfb862e830aa27e6e10a28763f1924dc97d3ce68c", func := "lodger/lodgerlaw10.RollRaw", spec := "rollRaw", inPlace := ["math.Float64bits", "internal/abi.NoEscape", "internal/bytealg.MakeNoZero", "maps.clone"], unfollowed := true, recurses := true, apart := false, narrowed := true }
def RollRawUptoSaid : Prop := rollRawUptoRow.holds Tryz.pinned (OpenSpec.upto rollRawSpec)

/-- 'lodgerlaw10.RollPrefix', WHERE WHAT IT READS IS OF BULK AT MOST 1048576: true; the input reads as it did. -/
def rollPrefixUptoRow : OpenClaim := { program := "ytcnohlgigmmefaagreat", sum := "066f3a3c63ce97fb835b96acfb862e830aa27e6e10a28763f1924dc97d3ce68c", func := "lodger/lodgerlaw10.RollPrefix", spec := "rollPrefix", inPlace := ["math.Float64bits", "internal/abi.NoEscape", "internal/bytealg.MakeNoZero", "maps.clone"], unfollowed := true, recurses := true, apart := false, narrowed := true }
def RollPrefixUptoSaid : Prop := rollPrefixUptoRow.holds Tryz.pinned (OpenSpec.upto rollPrefixSpec)

/-- 'lodgerlaw10.RollAgain', WHERE WHAT IT READS IS OF BULK AT MOST 1048576: true; the input reads as it did. -/
def rollAgainUptoRow : OpenClaim := { program := "ytcnohlgigmmefaagreat", sum := "066f3a3c63ce97fb835b96acfb862e830aa27e6e10a28763f1924dc97d3ce68c", func := "lodger/lodgerlaw10.RollAgain", spec := "rollAgain", inPlace := ["math.Float64bits", "internal/abi.NoEscape", "internal/bytealg.MakeNoZero", "maps.clone"], unfollowed := true, recurses := true, apart := false, narrowed := true }
def RollAgainUptoSaid : Prop := rollAgainUptoRow.holds Tryz.pinned (OpenSpec.upto rollAgainSpec)

/-- 'lodgerlaw10.RollOn', WHERE WHAT IT READS IS OF BULK AT MOST 1048576: true; the input reads as it did. -/
def rollOnUptoRow : OpenClaim := { program := "ytcnohlgigmmefaagreat", sum := "066f3a3c63ce97fb835b96acfb862e830aa27e6e10a28763f1924dc97d3ce68c", func := "lodger/lodgerlaw10.RollOn", spec := "rollOn", inPlace := ["math.Float64bits", "internal/abi.NoEscape", "internal/bytealg.MakeNoZero", "maps.clone"], unfollowed := true, recurses := true, apart := false, narrowed := true }
def RollOnUptoSaid : Prop := rollOnUptoRow.holds Tryz.pinned (OpenSpec.upto rollOnSpec)

/-- 'lodgerlaw10.RollTwice', WHERE WHAT IT READS IS OF BULK AT MOST 1048576: true; the input reads as it did. -/
def rollTwiceUptoRow : OpenClaim := { program := "ytcnohlgigmmefaagreat", sum := "066f3a3c63ce97fb835b96acfb862e830aa27e6e10a28763f1924dc97d3ce68c", func := "lodger/lodgerlaw10.RollTwice", spec := "rollTwice", inPlace := ["math.Float64bits", "internal/abi.NoEscape", "internal/bytealg.MakeNoZero", "maps.clone"], unfollowed := true, recurses := true, apart := false, narrowed := true }
def RollTwiceUptoSaid : Prop := rollTwiceUptoRow.holds Tryz.pinned (OpenSpec.upto rollTwiceSpec)

/-- 'lodgerlaw10.RollSealed', WHERE WHAT IT READS IS OF BULK AT MOST 1048576: true; the input reads as it did. -/
def rollSealedUptoRow : OpenClaim := { program := "ytcnohlgigmmefaagreat", sum := "066f3a3c63ce97fb835b96acfb862e830aa27e6e10a28763f1924dc97d3ce68c", func := "lodger/lodgerlaw10.RollSealed", spec := "rollSealed", inPlace := ["math.Float64bits", "internal/abi.NoEscape", "internal/bytealg.MakeNoZero", "maps.clone"], unfollowed := true, recurses := true, apart := false, narrowed := true }
def RollSealedUptoSaid : Prop := rollSealedUptoRow.holds Tryz.pinned (OpenSpec.upto rollSealedSpec)

end Rows
end Go.Proofs.YtcnohlgigmmefaaGreat
