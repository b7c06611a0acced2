/-
  No cell of these rows narrows 'for every input' (looked for: loops, veiled, ifaces, maps, wideKeys, modest, calm, conditions, laid).
  DERIVED. THE GIVEN ROWS OF THIS SEAT. 7 by the template 'for every input the law returns true; each argument reads behind the call as it read before'; 0 by the template 'total and deterministic' (their statements: YtdpmjlbkojhooaaGreatTotals.lean).
  GIVEN WITH THE SEED: the statements are not yours to turn. If you find one false, say at which input.
  Laid BY PROGRAM, IN A SANDBOX (cutbox-rows.mjs): the forced cells as the released guide's own fill.sh prints them over the translation 691b82a85cd6230e… (all of the seat's roots in one cut). By AI agents, Wed Nov 11 2026. No macro, syntax, notation, axiom, sorry.
-/
import Derived.Test.YtdpmjlbkojhooaaGreatChecked
import GoSem.Claim
import GoSem.ClaimJoined
import GoSem.ClaimMapViews
import Derived.JoinedTies
import Derived.KernelRfl
namespace Go.Proofs.YtdpmjlbkojhooaaGreat
/- THE CELL 'sum', in the pinned program and in every row, IS THE sha256 OF THE DUMP (.gsa) THAT YtdpmjlbkojhooaaGreatProg.lean LOADS. Nothing in Lean hashes anything: it is a label: what it is worth is what the hold of that sum in a sandbox is worth. -/
noncomputable def Tryz.pinned : Pinned := { name := "ytdpmjlbkojhooaagreat", sum := "691b82a85cd6230ef96cce2e1bda9a1712b0a2070c289ed59d8b5db7c704c72e", checked := Tryz.checked }
namespace Rows
def none {H : Type} : Left H := { results := [], args := [] }

/-- 'lodgerlaw09.LogDoes': WHATEVER THE INPUT: true; the input reads as it did. -/
def logDoesSpec : ChangeSpec := { name := "logDoes", fn := fun _ => fun
  | [d1, d2, d3] => { results := [.lit (.bool true)], args := [d1, d2, d3] }
  | _ => none }
def logDoesRow : OpenClaim := { program := "ytdpmjlbkojhooaagreat", sum := "691b82a85cd6230ef96cce2e1bda9a1712b0a2070c289ed59d8b5db7c704c72e", func := "lodger/lodgerlaw09.LogDoes", spec := "logDoes", inPlace := ["math.Float64bits", "internal/abi.NoEscape", "internal/bytealg.MakeNoZero"], unfollowed := true, recurses := true, apart := false }
def LogDoesSaid : Prop := logDoesRow.holds Tryz.pinned (OpenSpec.ofChange logDoesSpec)

/-- ITS FALSE NEIGHBOUR: 'it returns false'. Refute it at one input. -/
def logDoesWrong : ChangeSpec := { name := "logDoes", fn := fun _ => fun
  | [d1, d2, d3] => { results := [.lit (.bool false)], args := [d1, d2, d3] }
  | _ => none }
def LogDoesWrongFalsely : Prop := logDoesRow.holds Tryz.pinned (OpenSpec.ofChange logDoesWrong)

/-- 'lodgerlaw09.LogReads': WHATEVER THE INPUT: true; the input reads as it did. -/
def logReadsSpec : ChangeSpec := { name := "logReads", fn := fun _ => fun
  | [d1, d2] => { results := [.lit (.bool true)], args := [d1, d2] }
  | _ => none }
def logReadsRow : OpenClaim := { program := "ytdpmjlbkojhooaagreat", sum := "691b82a85cd6230ef96cce2e1bda9a1712b0a2070c289ed59d8b5db7c704c72e", func := "lodger/lodgerlaw09.LogReads", spec := "logReads", inPlace := ["math.Float64bits", "internal/abi.NoEscape", "internal/bytealg.MakeNoZero"], unfollowed := true, recurses := true, apart := false }
def LogReadsSaid : Prop := logReadsRow.holds Tryz.pinned (OpenSpec.ofChange logReadsSpec)

/-- ITS FALSE NEIGHBOUR: 'it returns false'. Refute it at one input. -/
def logReadsWrong : ChangeSpec := { name := "logReads", fn := fun _ => fun
  | [d1, d2] => { results := [.lit (.bool false)], args := [d1, d2] }
  | _ => none }
def LogReadsWrongFalsely : Prop := logReadsRow.holds Tryz.pinned (OpenSpec.ofChange logReadsWrong)

/-- 'lodgerlaw09.LogFull': WHATEVER THE INPUT: true; the input reads as it did. -/
def logFullSpec : ChangeSpec := { name := "logFull", fn := fun _ => fun
  | [d1, d2] => { results := [.lit (.bool true)], args := [d1, d2] }
  | _ => none }
def logFullRow : OpenClaim := { program := "ytdpmjlbkojhooaagreat", sum := "691b82a85cd6230ef96cce2e1bda9a1712b0a2070c289ed59d8b5db7c704c72e", func := "lodger/lodgerlaw09.LogFull", spec := "logFull", inPlace := ["math.Float64bits", "internal/abi.NoEscape", "internal/bytealg.MakeNoZero"], unfollowed := true, recurses := true, apart := false }
def LogFullSaid : Prop := logFullRow.holds Tryz.pinned (OpenSpec.ofChange logFullSpec)

/-- ITS FALSE NEIGHBOUR: 'it returns false'. Refute it at one input. -/
def logFullWrong : ChangeSpec := { name := "logFull", fn := fun _ => fun
  | [d1, d2] => { results := [.lit (.bool false)], args := [d1, d2] }
  | _ => none }
def LogFullWrongFalsely : Prop := logFullRow.holds Tryz.pinned (OpenSpec.ofChange logFullWrong)

/-- 'lodgerlaw09.LogLasts': WHATEVER THE INPUT: true; the input reads as it did. -/
def logLastsSpec : ChangeSpec := { name := "logLasts", fn := fun _ => fun
  | [d1, d2, d3] => { results := [.lit (.bool true)], args := [d1, d2, d3] }
  | _ => none }
def logLastsRow : OpenClaim := { program := "ytdpmjlbkojhooaagreat", sum := "691b82a85cd6230ef96cce2e1bda9a1712b0a2070c289ed59d8b5db7c704c72e", func := "lodger/lodgerlaw09.LogLasts", spec := "logLasts", inPlace := ["math.Float64bits", "internal/abi.NoEscape", "internal/bytealg.MakeNoZero"], unfollowed := true, recurses := true, apart := false }
def LogLastsSaid : Prop := logLastsRow.holds Tryz.pinned (OpenSpec.ofChange logLastsSpec)

/-- ITS FALSE NEIGHBOUR: 'it returns false'. Refute it at one input. -/
def logLastsWrong : ChangeSpec := { name := "logLasts", fn := fun _ => fun
  | [d1, d2, d3] => { results := [.lit (.bool false)], args := [d1, d2, d3] }
  | _ => none }
def LogLastsWrongFalsely : Prop := logLastsRow.holds Tryz.pinned (OpenSpec.ofChange logLastsWrong)

/-- 'lodgerlaw09.LogSeals': WHATEVER THE INPUT: true; the input reads as it did. -/
def logSealsSpec : ChangeSpec := { name := "logSeals", fn := fun _ => fun
  | [d1, d2] => { results := [.lit (.bool true)], args := [d1, d2] }
  | _ => none }
def logSealsRow : OpenClaim := { program := "ytdpmjlbkojhooaagreat", sum := "691b82a85cd6230ef96cce2e1bda9a1712b0a2070c289ed59d8b5db7c704c72e", func := "lodger/lodgerlaw09.LogSeals", spec := "logSeals", inPlace := ["math.Float64bits", "internal/abi.NoEscape", "internal/bytealg.MakeNoZero"], unfollowed := true, recurses := true, apart := false }
def LogSealsSaid : Prop := logSealsRow.holds Tryz.pinned (OpenSpec.ofChange logSealsSpec)

/-- ITS FALSE NEIGHBOUR: 'it returns false'. Refute it at one input. -/
def logSealsWrong : ChangeSpec := { name := "logSeals", fn := fun _ => fun
  | [d1, d2] => { results := [.lit (.bool false)], args := [d1, d2] }
  | _ => none }
def LogSealsWrongFalsely : Prop := logSealsRow.holds Tryz.pinned (OpenSpec.ofChange logSealsWrong)

/-- 'lodgerlaw09.LogDead': WHATEVER THE INPUT: true; the input reads as it did. -/
def logDeadSpec : ChangeSpec := { name := "logDead", fn := fun _ => fun
  | [d1, d2] => { results := [.lit (.bool true)], args := [d1, d2] }
  | _ => none }
def logDeadRow : OpenClaim := { program := "ytdpmjlbkojhooaagreat", sum := "691b82a85cd6230ef96cce2e1bda9a1712b0a2070c289ed59d8b5db7c704c72e", func := "lodger/lodgerlaw09.LogDead", spec := "logDead", inPlace := ["math.Float64bits", "internal/abi.NoEscape", "internal/bytealg.MakeNoZero"], unfollowed := true, recurses := true, apart := false }
def LogDeadSaid : Prop := logDeadRow.holds Tryz.pinned (OpenSpec.ofChange logDeadSpec)

/-- ITS FALSE NEIGHBOUR: 'it returns false'. Refute it at one input. -/
def logDeadWrong : ChangeSpec := { name := "logDead", fn := fun _ => fun
  | [d1, d2] => { results := [.lit (.bool false)], args := [d1, d2] }
  | _ => none }
def LogDeadWrongFalsely : Prop := logDeadRow.holds Tryz.pinned (OpenSpec.ofChange logDeadWrong)

/-- 'lodgerlaw09.LogGoes': WHATEVER THE INPUT: true; the input reads as it did. -/
def logGoesSpec : ChangeSpec := { name := "logGoes", fn := fun _ => fun
  | [d1, d2, d3] => { results := [.lit (.bool true)], args := [d1, d2, d3] }
  | _ => none }
def logGoesRow : OpenClaim := { program := "ytdpmjlbkojhooaagreat", sum := "691b82a85cd6230ef96cce2e1bda9a1712b0a2070c289ed59d8b5db7c704c72e", func := "lodger/lodgerlaw09.LogGoes", spec := "logGoes", inPlace := ["math.Float64bits", "internal/abi.NoEscape", "internal/bytealg.MakeNoZero", "maps.clone"], unfollowed := true, recurses := true, apart := false }
def LogGoesSaid : Prop := logGoesRow.holds Tryz.pinned (OpenSpec.ofChange logGoesSpec)

/-- ITS FALSE NEIGHBOUR: 'it returns false'. Refute it at one input. -/
def logGoesWrong : ChangeSpec := { name := "logGoes", fn := fun _ => fun
  | [d1, d2, d3] => { results := [.lit (.bool false)], args := [d1, d2, d3] }
  | _ => none }
def LogGoesWrongFalsely : Prop := logGoesRow.holds Tryz.pinned (OpenSpec.ofChange logGoesWrong)

/- THE SECOND FORM. 'bulk': how many values and letters a reading holds, each counted each time it is reached (what is shared counts as often as it is met; a slice's spare places count too). A statement '..UptoSaid' is the law's where the arguments, and the package variables that the reading takes, are together of bulk at most 1048576: NARROWER than '..Said'. Prove '..Said' where nothing that the law and all that it calls make is longer than what came in: it says more and counts as full. Else prove '..UptoSaid'. A law counts once. -/
mutual
def uptoBulk {H : Type} : DataW H → Nat
  | .lit (.string bytes) => bytes.length + 1
  | .lit _ => 1
  | .nil => 1
  | .ptr d => uptoBulk d + 1
  | .slice elems spare => uptoBulkAll elems + uptoBulkAll spare + 1
  | .agg parts => uptoBulkAll parts + 1
  | .iface _ d => uptoBulk d + 1
  | .map entries => uptoBulkEntries entries + 1
  | .held _ => 1
def uptoBulkAll {H : Type} : List (DataW H) → Nat
  | [] => 0
  | d :: r => uptoBulk d + uptoBulkAll r
def uptoBulkEntries {H : Type} : List (Lit × DataW H) → Nat
  | [] => 0
  | x :: r => uptoBulkEntry x + uptoBulkEntries r
def uptoBulkEntry {H : Type} : Lit × DataW H → Nat
  | (.string bytes, d) => bytes.length + uptoBulk d + 1
  | (_, d) => uptoBulk d + 1
 end
def uptoSmall : (H : Type) → List (DataW H) → Bool := fun _ ds => decide (uptoBulkAll ds ≤ 1048576)
def OpenSpec.upto (s : _root_.Go.ChangeSpec) : _root_.Go.OpenSpec := { _root_.Go.OpenSpec.ofChange s with cond := some uptoSmall }

/-- 'lodgerlaw09.LogDoes', WHERE WHAT IT READS IS OF BULK AT MOST 1048576: true; the input reads as it did. -/
def logDoesUptoRow : OpenClaim := { program := "ytdpmjlbkojhooaagreat", sum := "691b82a85cd6230ef96cce2e1bda9a1712b0a2070c289ed59d8b5db7c704c72e", func := "lodger/lodgerlaw09.LogDoes", spec := "logDoes", inPlace := ["math.Float64bits", "internal/abi.NoEscape", "internal/bytealg.MakeNoZero"], unfollowed := true, recurses := true, apart := false, narrowed := true }
def LogDoesUptoSaid : Prop := logDoesUptoRow.holds Tryz.pinned (OpenSpec.upto logDoesSpec)

/-- 'lodgerlaw09.LogReads', WHERE WHAT IT READS IS OF BULK AT MOST 1048576: true; the input reads as it did. -/
def logReadsUptoRow : OpenClaim := { program := "ytdpmjlbkojhooaagreat", sum := "691b82a85cd6230ef96cce2e1bda9a1712b0a2070c289ed59d8b5db7c704c72e", func := "lodger/lodgerlaw09.LogReads", spec := "logReads", inPlace := ["math.Float64bits", "internal/abi.NoEscape", "internal/bytealg.MakeNoZero"], unfollowed := true, recurses := true, apart := false, narrowed := true }
def LogReadsUptoSaid : Prop := logReadsUptoRow.holds Tryz.pinned (OpenSpec.upto logReadsSpec)

/-- 'lodgerlaw09.LogFull', WHERE WHAT IT READS IS OF BULK AT MOST 1048576: true; the input reads as it did. -/
def logFullUptoRow : OpenClaim := { program := "ytdpmjlbkojhooaagreat", sum := "691b82a85cd6230ef96cce2e1bda9a1712b0a2070c289ed59d8b5db7c704c72e", func := "lodger/lodgerlaw09.LogFull", spec := "logFull", inPlace := ["math.Float64bits", "internal/abi.NoEscape", "internal/bytealg.MakeNoZero"], unfollowed := true, recurses := true, apart := false, narrowed := true }
def LogFullUptoSaid : Prop := logFullUptoRow.holds Tryz.pinned (OpenSpec.upto logFullSpec)

/-- 'lodgerlaw09.LogLasts', WHERE WHAT IT READS IS OF BULK AT MOST 1048576: true; the input reads as it did. -/
def logLastsUptoRow : OpenClaim := { program := "ytdpmjlbkojhooaagreat", sum := "691b82a85cd6230ef96cce2e1bda9a1712b0a2070c289ed59d8b5db7c704c72e", func := "lodger/lodgerlaw09.LogLasts", spec := "logLasts", inPlace := ["math.Float64bits", "internal/abi.NoEscape", "internal/bytealg.MakeNoZero"], unfollowed := true, recurses := true, apart := false, narrowed := true }
def LogLastsUptoSaid : Prop := logLastsUptoRow.holds Tryz.pinned (OpenSpec.upto logLastsSpec)

/-- 'lodgerlaw09.LogSeals', WHERE WHAT IT READS IS OF BULK AT MOST 1048576: true; the input reads as it did. -/
def logSealsUptoRow : OpenClaim := { program := "ytdpmjlbkojhooaagreat", sum := "691b82a85cd6230ef96cce2e1bda9a1712b0a2070c289ed59d8b5db7c704c72e", func := "lodger/lodgerlaw09.LogSeals", spec := "logSeals", inPlace := ["math.Float64bits", "internal/abi.NoEscape", "internal/bytealg.MakeNoZero"], unfollowed := true, recurses := true, apart := false, narrowed := true }
def LogSealsUptoSaid : Prop := logSealsUptoRow.holds Tryz.pinned (OpenSpec.upto logSealsSpec)

/-- 'lodgerlaw09.LogDead', WHERE WHAT IT READS IS OF BULK AT MOST 1048576: true; the input reads as it did. -/
def logDeadUptoRow : OpenClaim := { program := "ytdpmjlbkojhooaagreat", sum := "691b82a85cd6230ef96cce2e1bda9a1712b0a2070c289ed59d8b5db7c704c72e", func := "lodger/lodgerlaw09.LogDead", spec := "logDead", inPlace := ["math.Float64bits", "internal/abi.NoEscape", "internal/bytealg.MakeNoZero"], unfollowed := true, recurses := true, apart := false, narrowed := true }
def LogDeadUptoSaid : Prop := logDeadUptoRow.holds Tryz.pinned (OpenSpec.upto logDeadSpec)

/-- 'lodgerlaw09.LogGoes', WHERE WHAT IT READS IS OF BULK AT MOST 1048576: true; the input reads as it did. -/
def logGoesUptoRow : OpenClaim := { program := "ytdpmjlbkojhooaagreat", sum := "691b82a85cd6230ef96cce2e1bda9a1712b0a2070c289ed59d8b5db7c704c72e", func := "lodger/lodgerlaw09.LogGoes", spec := "logGoes", inPlace := ["math.Float64bits", "internal/abi.NoEscape", "internal/bytealg.MakeNoZero", "maps.clone"], unfollowed := true, recurses := true, apart := false, narrowed := true }
def LogGoesUptoSaid : Prop := logGoesUptoRow.holds Tryz.pinned (OpenSpec.upto logGoesSpec)

end Rows
end Go.Proofs.YtdpmjlbkojhooaaGreat
