/-
  No cell of these rows narrows 'for every input' (looked for: loops, veiled, ifaces, maps, wideKeys, modest, calm, conditions, laid).
  DERIVED. THE GIVEN ROWS OF THIS SEAT. 6 by the template 'for every input the law returns true; each argument reads behind the call as it read before'; 0 by the template 'total and deterministic' (their statements: YtdnkhjikfdalbaaTotals.lean).
  GIVEN WITH THE SEED: the statements are not yours to turn. If you find one false, say at which input.
  Laid BY PROGRAM, IN A SANDBOX (cutbox-rows.mjs): the forced cells as the released guide's own fill.sh prints them over the translation fe22535a39c7ff1d… (all of the seat's roots in one cut). By AI agents, Wed Nov 11 2026. No macro, syntax, notation, axiom, sorry.
-/
import Derived.Test.YtdnkhjikfdalbaaChecked
import GoSem.Claim
import GoSem.ClaimJoined
import GoSem.ClaimMapViews
import Derived.JoinedTies
import Derived.KernelRfl
namespace Go.Proofs.Ytdnkhjikfdalbaa
/- THE CELL 'sum', in the pinned program and in every row, IS THE sha256 OF THE DUMP (.gsa) THAT YtdnkhjikfdalbaaProg.lean LOADS. Nothing in Lean hashes anything: it is a label: what it is worth is what the hold of that sum in a sandbox is worth. -/
noncomputable def Try.pinned : Pinned := { name := "ytdnkhjikfdalbaa", sum := "fe22535a39c7ff1dd11d096c29832497da24a0c264d881bb868c1af47f555df9", checked := Try.checked }
namespace Rows
def none {H : Type} : Left H := { results := [], args := [] }

/-- 'lodgerlaw07.CkptTells': WHATEVER THE INPUT: true; the input reads as it did. -/
def ckptTellsSpec : ChangeSpec := { name := "ckptTells", fn := fun _ => fun
  | [d1, d2, d3] => { results := [.lit (.bool true)], args := [d1, d2, d3] }
  | _ => none }
def ckptTellsRow : OpenClaim := { program := "ytdnkhjikfdalbaa", sum := "fe22535a39c7ff1dd11d096c29832497da24a0c264d881bb868c1af47f555df9", func := "lodger/lodgerlaw07.CkptTells", spec := "ckptTells", inPlace := ["internal/abi.NoEscape", "internal/bytealg.MakeNoZero"], unfollowed := true, recurses := true, apart := false }
def CkptTellsSaid : Prop := ckptTellsRow.holds Try.pinned (OpenSpec.ofChange ckptTellsSpec)

/-- ITS FALSE NEIGHBOUR: 'it returns false'. Refute it at one input. -/
def ckptTellsWrong : ChangeSpec := { name := "ckptTells", fn := fun _ => fun
  | [d1, d2, d3] => { results := [.lit (.bool false)], args := [d1, d2, d3] }
  | _ => none }
def CkptTellsWrongFalsely : Prop := ckptTellsRow.holds Try.pinned (OpenSpec.ofChange ckptTellsWrong)

/-- 'lodgerlaw07.CkptBack': WHATEVER THE INPUT: true; the input reads as it did. -/
def ckptBackSpec : ChangeSpec := { name := "ckptBack", fn := fun _ => fun
  | [d1, d2] => { results := [.lit (.bool true)], args := [d1, d2] }
  | _ => none }
def ckptBackRow : OpenClaim := { program := "ytdnkhjikfdalbaa", sum := "fe22535a39c7ff1dd11d096c29832497da24a0c264d881bb868c1af47f555df9", func := "lodger/lodgerlaw07.CkptBack", spec := "ckptBack", inPlace := ["internal/abi.NoEscape", "internal/bytealg.MakeNoZero"], unfollowed := true, recurses := true, apart := false }
def CkptBackSaid : Prop := ckptBackRow.holds Try.pinned (OpenSpec.ofChange ckptBackSpec)

/-- ITS FALSE NEIGHBOUR: 'it returns false'. Refute it at one input. -/
def ckptBackWrong : ChangeSpec := { name := "ckptBack", fn := fun _ => fun
  | [d1, d2] => { results := [.lit (.bool false)], args := [d1, d2] }
  | _ => none }
def CkptBackWrongFalsely : Prop := ckptBackRow.holds Try.pinned (OpenSpec.ofChange ckptBackWrong)

/-- 'lodgerlaw07.CkptTorn': WHATEVER THE INPUT: true; the input reads as it did. -/
def ckptTornSpec : ChangeSpec := { name := "ckptTorn", fn := fun _ => fun
  | [d1, d2, d3] => { results := [.lit (.bool true)], args := [d1, d2, d3] }
  | _ => none }
def ckptTornRow : OpenClaim := { program := "ytdnkhjikfdalbaa", sum := "fe22535a39c7ff1dd11d096c29832497da24a0c264d881bb868c1af47f555df9", func := "lodger/lodgerlaw07.CkptTorn", spec := "ckptTorn", inPlace := ["internal/abi.NoEscape", "internal/bytealg.MakeNoZero"], unfollowed := true, recurses := true, apart := false }
def CkptTornSaid : Prop := ckptTornRow.holds Try.pinned (OpenSpec.ofChange ckptTornSpec)

/-- ITS FALSE NEIGHBOUR: 'it returns false'. Refute it at one input. -/
def ckptTornWrong : ChangeSpec := { name := "ckptTorn", fn := fun _ => fun
  | [d1, d2, d3] => { results := [.lit (.bool false)], args := [d1, d2, d3] }
  | _ => none }
def CkptTornWrongFalsely : Prop := ckptTornRow.holds Try.pinned (OpenSpec.ofChange ckptTornWrong)

/-- 'lodgerlaw07.CkptBest': WHATEVER THE INPUT: true; the input reads as it did. -/
def ckptBestSpec : ChangeSpec := { name := "ckptBest", fn := fun _ => fun
  | [d1, d2] => { results := [.lit (.bool true)], args := [d1, d2] }
  | _ => none }
def ckptBestRow : OpenClaim := { program := "ytdnkhjikfdalbaa", sum := "fe22535a39c7ff1dd11d096c29832497da24a0c264d881bb868c1af47f555df9", func := "lodger/lodgerlaw07.CkptBest", spec := "ckptBest", inPlace := ["internal/abi.NoEscape", "internal/bytealg.MakeNoZero"], unfollowed := true, recurses := true, apart := false }
def CkptBestSaid : Prop := ckptBestRow.holds Try.pinned (OpenSpec.ofChange ckptBestSpec)

/-- ITS FALSE NEIGHBOUR: 'it returns false'. Refute it at one input. -/
def ckptBestWrong : ChangeSpec := { name := "ckptBest", fn := fun _ => fun
  | [d1, d2] => { results := [.lit (.bool false)], args := [d1, d2] }
  | _ => none }
def CkptBestWrongFalsely : Prop := ckptBestRow.holds Try.pinned (OpenSpec.ofChange ckptBestWrong)

/-- 'lodgerlaw07.CkptFields': WHATEVER THE INPUT: true; the input reads as it did. -/
def ckptFieldsSpec : ChangeSpec := { name := "ckptFields", fn := fun _ => fun
  | [d] => { results := [.lit (.bool true)], args := [d] }
  | _ => none }
def ckptFieldsRow : OpenClaim := { program := "ytdnkhjikfdalbaa", sum := "fe22535a39c7ff1dd11d096c29832497da24a0c264d881bb868c1af47f555df9", func := "lodger/lodgerlaw07.CkptFields", spec := "ckptFields", inPlace := ["internal/abi.NoEscape", "internal/bytealg.MakeNoZero"], unfollowed := true, recurses := true, apart := false }
def CkptFieldsSaid : Prop := ckptFieldsRow.holds Try.pinned (OpenSpec.ofChange ckptFieldsSpec)

/-- ITS FALSE NEIGHBOUR: 'it returns false'. Refute it at one input. -/
def ckptFieldsWrong : ChangeSpec := { name := "ckptFields", fn := fun _ => fun
  | [d] => { results := [.lit (.bool false)], args := [d] }
  | _ => none }
def CkptFieldsWrongFalsely : Prop := ckptFieldsRow.holds Try.pinned (OpenSpec.ofChange ckptFieldsWrong)

/-- 'lodgerlaw07.CkptSides': WHATEVER THE INPUT: true; the input reads as it did. -/
def ckptSidesSpec : ChangeSpec := { name := "ckptSides", fn := fun _ => fun
  | [d1, d2] => { results := [.lit (.bool true)], args := [d1, d2] }
  | _ => none }
def ckptSidesRow : OpenClaim := { program := "ytdnkhjikfdalbaa", sum := "fe22535a39c7ff1dd11d096c29832497da24a0c264d881bb868c1af47f555df9", func := "lodger/lodgerlaw07.CkptSides", spec := "ckptSides", inPlace := ["internal/abi.NoEscape", "internal/bytealg.MakeNoZero"], unfollowed := true, recurses := true, apart := false }
def CkptSidesSaid : Prop := ckptSidesRow.holds Try.pinned (OpenSpec.ofChange ckptSidesSpec)

/-- ITS FALSE NEIGHBOUR: 'it returns false'. Refute it at one input. -/
def ckptSidesWrong : ChangeSpec := { name := "ckptSides", fn := fun _ => fun
  | [d1, d2] => { results := [.lit (.bool false)], args := [d1, d2] }
  | _ => none }
def CkptSidesWrongFalsely : Prop := ckptSidesRow.holds Try.pinned (OpenSpec.ofChange ckptSidesWrong)

/- THE SECOND FORM. 'bulk': how many values and letters a reading holds, each counted each time it is reached (what is shared counts as often as it is met; a slice's spare places count too). A statement '..UptoSaid' is the law's where the arguments, and the package variables that the reading takes, are together of bulk at most 1048576: NARROWER than '..Said'. Prove '..Said' where nothing that the law and all that it calls make is longer than what came in: it says more and counts as full. Else prove '..UptoSaid'. A law counts once. -/
mutual
def uptoBulk {H : Type} : DataW H → Nat
  | .lit (.string bytes) => bytes.length + 1
  | .lit _ => 1
  | .nil => 1
  | .ptr d => uptoBulk d + 1
  | .slice elems spare => uptoBulkAll elems + uptoBulkAll spare + 1
  | .agg parts => uptoBulkAll parts + 1
  | .iface _ d => uptoBulk d + 1
  | .map entries => uptoBulkEntries entries + 1
  | .held _ => 1
def uptoBulkAll {H : Type} : List (DataW H) → Nat
  | [] => 0
  | d :: r => uptoBulk d + uptoBulkAll r
def uptoBulkEntries {H : Type} : List (Lit × DataW H) → Nat
  | [] => 0
  | x :: r => uptoBulkEntry x + uptoBulkEntries r
def uptoBulkEntry {H : Type} : Lit × DataW H → Nat
  | (.string bytes, d) => bytes.length + uptoBulk d + 1
  | (_, d) => uptoBulk d + 1
 end
def uptoSmall : (H : Type) → List (DataW H) → Bool := fun _ ds => decide (uptoBulkAll ds ≤ 1048576)
def OpenSpec.upto (s : _root_.Go.ChangeSpec) : _root_.Go.OpenSpec := { _root_.Go.OpenSpec.ofChange s with cond := some uptoSmall }

/-- 'lodgerlaw07.CkptTells', WHERE WHAT IT READS IS OF BULK AT MOST 1048576: true; the input reads as it did. -/
def ckptTellsUptoRow : OpenClaim := { program := "ytdnkhjikfdalbaa", sum := "fe22535a39c7ff1dd11d096c29832497da24a0c264d881bb868c1af47f555df9", func := "lodger/lodgerlaw07.CkptTells", spec := "ckptTells", inPlace := ["internal/abi.NoEscape", "internal/bytealg.MakeNoZero"], unfollowed := true, recurses := true, apart := false, narrowed := true }
def CkptTellsUptoSaid : Prop := ckptTellsUptoRow.holds Try.pinned (OpenSpec.upto ckptTellsSpec)

/-- 'lodgerlaw07.CkptBack', WHERE WHAT IT READS IS OF BULK AT MOST 1048576: true; the input reads as it did. -/
def ckptBackUptoRow : OpenClaim := { program := "ytdnkhjikfdalbaa", sum := "fe22535a39c7ff1dd11d096c29832497da24a0c264d881bb868c1af47f555df9", func := "lodger/lodgerlaw07.CkptBack", spec := "ckptBack", inPlace := ["internal/abi.NoEscape", "internal/bytealg.MakeNoZero"], unfollowed := true, recurses := true, apart := false, narrowed := true }
def CkptBackUptoSaid : Prop := ckptBackUptoRow.holds Try.pinned (OpenSpec.upto ckptBackSpec)

/-- 'lodgerlaw07.CkptTorn', WHERE WHAT IT READS IS OF BULK AT MOST 1048576: true; the input reads as it did. -/
def ckptTornUptoRow : OpenClaim := { program := "ytdnkhjikfdalbaa", sum := "fe22535a39c7ff1dd11d096c29832497da24a0c264d881bb868c1af47f555df9", func := "lodger/lodgerlaw07.CkptTorn", spec := "ckptTorn", inPlace := ["internal/abi.NoEscape", "internal/bytealg.MakeNoZero"], unfollowed := true, recurses := true, apart := false, narrowed := true }
def CkptTornUptoSaid : Prop := ckptTornUptoRow.holds Try.pinned (OpenSpec.upto ckptTornSpec)

/-- 'lodgerlaw07.CkptBest', WHERE WHAT IT READS IS OF BULK AT MOST 1048576: true; the input reads as it did. -/
def ckptBestUptoRow : OpenClaim := { program := "ytdnkhjikfdalbaa", sum := "fe22535a39c7ff1dd11d096c29832497da24a0c264d881bb868c1af47f555df9", func := "lodger/lodgerlaw07.CkptBest", spec := "ckptBest", inPlace := ["internal/abi.NoEscape", "internal/bytealg.MakeNoZero"], unfollowed := true, recurses := true, apart := false, narrowed := true }
def CkptBestUptoSaid : Prop := ckptBestUptoRow.holds Try.pinned (OpenSpec.upto ckptBestSpec)

/-- 'lodgerlaw07.CkptFields', WHERE WHAT IT READS IS OF BULK AT MOST 1048576: true; the input reads as it did. -/
def ckptFieldsUptoRow : OpenClaim := { program := "ytdnkhjikfdalbaa", sum := "fe22535a39c7ff1dd11d096c29832497da24a0c264d881bb868c1af47f555df9", func := "lodger/lodgerlaw07.CkptFields", spec := "ckptFields", inPlace := ["internal/abi.NoEscape", "internal/bytealg.MakeNoZero"], unfollowed := true, recurses := true, apart := false, narrowed := true }
def CkptFieldsUptoSaid : Prop := ckptFieldsUptoRow.holds Try.pinned (OpenSpec.upto ckptFieldsSpec)

/-- 'lodgerlaw07.CkptSides', WHERE WHAT IT READS IS OF BULK AT MOST 1048576: true; the input reads as it did. -/
def ckptSidesUptoRow : OpenClaim := { program := "ytdnkhjikfdalbaa", sum := "fe22535a39c7ff1dd11d096c29832497da24a0c264d881bb868c1af47f555df9", func := "lodger/lodgerlaw07.CkptSides", spec := "ckptSides", inPlace := ["internal/abi.NoEscape", "internal/bytealg.MakeNoZero"], unfollowed := true, recurses := true, apart := false, narrowed := true }
def CkptSidesUptoSaid : Prop := ckptSidesUptoRow.holds Try.pinned (OpenSpec.upto ckptSidesSpec)

end Rows
end Go.Proofs.Ytdnkhjikfdalbaa
