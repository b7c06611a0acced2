/-
  No cell of these rows narrows 'for every input' (looked for: loops, veiled, ifaces, maps, wideKeys, modest, calm, conditions, laid).
  DERIVED. THE GIVEN ROWS OF THIS SEAT. 4 by the template 'for every input the law returns true; each argument reads behind the call as it read before'; 0 by the template 'total and deterministic' (their statements: YtjdkgkllgapgjaaTotals.lean).
  GIVEN WITH THE SEED: the statements are not yours to turn. If you find one false, say at which input.
  Laid BY PROGRAM, IN A SANDBOX (cutbox-rows.mjs): the forced cells as the released guide's own fill.sh prints them over the translation 639366fdf428443e… (all of the seat's roots in one cut). By AI agents, Wed Nov 11 2026. No macro, syntax, notation, axiom, sorry.
-/
import Derived.Test.YtjdkgkllgapgjaaChecked
import GoSem.Claim
import GoSem.ClaimJoined
import GoSem.ClaimMapViews
import Derived.JoinedTies
import Derived.KernelRfl
namespace Go.Proofs.Ytjdkgkllgapgjaa
/- THE CELL 'sum', in the pinned program and in every row, IS THE sha256 OF THE DUMP (.gsa) THAT YtjdkgkllgapgjaaProg.lean LOADS. Nothing in Lean hashes anything: it is a label: what it is worth is what the hold of that sum in a sandbox is worth. -/
noncomputable def Try.pinned : Pinned := { name := "ytjdkgkllgapgjaa", sum := "639366fdf428443e4053164785965e7d79631d5db1000321d185a3a8d07fa242", checked := Try.checked }
namespace Rows
def none {H : Type} : Left H := { results := [], args := [] }

/-- 'lodgerlaw13.IndexSums': WHATEVER THE INPUT: true; the input reads as it did. -/
def indexSumsSpec : ChangeSpec := { name := "indexSums", fn := fun _ => fun
  | [d1, d2] => { results := [.lit (.bool true)], args := [d1, d2] }
  | _ => none }
def indexSumsRow : OpenClaim := { program := "ytjdkgkllgapgjaa", sum := "639366fdf428443e4053164785965e7d79631d5db1000321d185a3a8d07fa242", func := "lodger/lodgerlaw13.IndexSums", spec := "indexSums", recurses := true, plainKeys := false, apart := false }
def IndexSumsSaid : Prop := indexSumsRow.holds Try.pinned (OpenSpec.ofChange indexSumsSpec)

/-- ITS FALSE NEIGHBOUR: 'it returns false'. Refute it at one input. -/
def indexSumsWrong : ChangeSpec := { name := "indexSums", fn := fun _ => fun
  | [d1, d2] => { results := [.lit (.bool false)], args := [d1, d2] }
  | _ => none }
def IndexSumsWrongFalsely : Prop := indexSumsRow.holds Try.pinned (OpenSpec.ofChange indexSumsWrong)

/-- 'lodgerlaw13.IndexNewest': WHATEVER THE INPUT: true; the input reads as it did. -/
def indexNewestSpec : ChangeSpec := { name := "indexNewest", fn := fun _ => fun
  | [d] => { results := [.lit (.bool true)], args := [d] }
  | _ => none }
def indexNewestRow : OpenClaim := { program := "ytjdkgkllgapgjaa", sum := "639366fdf428443e4053164785965e7d79631d5db1000321d185a3a8d07fa242", func := "lodger/lodgerlaw13.IndexNewest", spec := "indexNewest", recurses := true, plainKeys := false, apart := false }
def IndexNewestSaid : Prop := indexNewestRow.holds Try.pinned (OpenSpec.ofChange indexNewestSpec)

/-- ITS FALSE NEIGHBOUR: 'it returns false'. Refute it at one input. -/
def indexNewestWrong : ChangeSpec := { name := "indexNewest", fn := fun _ => fun
  | [d] => { results := [.lit (.bool false)], args := [d] }
  | _ => none }
def IndexNewestWrongFalsely : Prop := indexNewestRow.holds Try.pinned (OpenSpec.ofChange indexNewestWrong)

/-- 'lodgerlaw13.IndexOrder': WHATEVER THE INPUT: true; the input reads as it did. -/
def indexOrderSpec : ChangeSpec := { name := "indexOrder", fn := fun _ => fun
  | [d] => { results := [.lit (.bool true)], args := [d] }
  | _ => none }
def indexOrderRow : OpenClaim := { program := "ytjdkgkllgapgjaa", sum := "639366fdf428443e4053164785965e7d79631d5db1000321d185a3a8d07fa242", func := "lodger/lodgerlaw13.IndexOrder", spec := "indexOrder", recurses := true, plainKeys := false, apart := false }
def IndexOrderSaid : Prop := indexOrderRow.holds Try.pinned (OpenSpec.ofChange indexOrderSpec)

/-- ITS FALSE NEIGHBOUR: 'it returns false'. Refute it at one input. -/
def indexOrderWrong : ChangeSpec := { name := "indexOrder", fn := fun _ => fun
  | [d] => { results := [.lit (.bool false)], args := [d] }
  | _ => none }
def IndexOrderWrongFalsely : Prop := indexOrderRow.holds Try.pinned (OpenSpec.ofChange indexOrderWrong)

/-- 'lodgerlaw13.IndexGone': WHATEVER THE INPUT: true; the input reads as it did. -/
def indexGoneSpec : ChangeSpec := { name := "indexGone", fn := fun _ => fun
  | [d1, d2] => { results := [.lit (.bool true)], args := [d1, d2] }
  | _ => none }
def indexGoneRow : OpenClaim := { program := "ytjdkgkllgapgjaa", sum := "639366fdf428443e4053164785965e7d79631d5db1000321d185a3a8d07fa242", func := "lodger/lodgerlaw13.IndexGone", spec := "indexGone", recurses := true, plainKeys := false, apart := false }
def IndexGoneSaid : Prop := indexGoneRow.holds Try.pinned (OpenSpec.ofChange indexGoneSpec)

/-- ITS FALSE NEIGHBOUR: 'it returns false'. Refute it at one input. -/
def indexGoneWrong : ChangeSpec := { name := "indexGone", fn := fun _ => fun
  | [d1, d2] => { results := [.lit (.bool false)], args := [d1, d2] }
  | _ => none }
def IndexGoneWrongFalsely : Prop := indexGoneRow.holds Try.pinned (OpenSpec.ofChange indexGoneWrong)

/- THE SECOND FORM. 'bulk': how many values and letters a reading holds, each counted each time it is reached (what is shared counts as often as it is met; a slice's spare places count too). A statement '..UptoSaid' is the law's where the arguments, and the package variables that the reading takes, are together of bulk at most 1048576: NARROWER than '..Said'. Prove '..Said' where nothing that the law and all that it calls make is longer than what came in: it says more and counts as full. Else prove '..UptoSaid'. A law counts once. -/
mutual
def uptoBulk {H : Type} : DataW H → Nat
  | .lit (.string bytes) => bytes.length + 1
  | .lit _ => 1
  | .nil => 1
  | .ptr d => uptoBulk d + 1
  | .slice elems spare => uptoBulkAll elems + uptoBulkAll spare + 1
  | .agg parts => uptoBulkAll parts + 1
  | .iface _ d => uptoBulk d + 1
  | .map entries => uptoBulkEntries entries + 1
  | .held _ => 1
def uptoBulkAll {H : Type} : List (DataW H) → Nat
  | [] => 0
  | d :: r => uptoBulk d + uptoBulkAll r
def uptoBulkEntries {H : Type} : List (Lit × DataW H) → Nat
  | [] => 0
  | x :: r => uptoBulkEntry x + uptoBulkEntries r
def uptoBulkEntry {H : Type} : Lit × DataW H → Nat
  | (.string bytes, d) => bytes.length + uptoBulk d + 1
  | (_, d) => uptoBulk d + 1
 end
def uptoSmall : (H : Type) → List (DataW H) → Bool := fun _ ds => decide (uptoBulkAll ds ≤ 1048576)
def OpenSpec.upto (s : _root_.Go.ChangeSpec) : _root_.Go.OpenSpec := { _root_.Go.OpenSpec.ofChange s with cond := some uptoSmall }

/-- 'lodgerlaw13.IndexSums', WHERE WHAT IT READS IS OF BULK AT MOST 1048576: true; the input reads as it did. -/
def indexSumsUptoRow : OpenClaim := { program := "ytjdkgkllgapgjaa", sum := "639366fdf428443e4053164785965e7d79631d5db1000321d185a3a8d07fa242", func := "lodger/lodgerlaw13.IndexSums", spec := "indexSums", recurses := true, plainKeys := false, apart := false, narrowed := true }
def IndexSumsUptoSaid : Prop := indexSumsUptoRow.holds Try.pinned (OpenSpec.upto indexSumsSpec)

/-- 'lodgerlaw13.IndexNewest', WHERE WHAT IT READS IS OF BULK AT MOST 1048576: true; the input reads as it did. -/
def indexNewestUptoRow : OpenClaim := { program := "ytjdkgkllgapgjaa", sum := "639366fdf428443e4053164785965e7d79631d5db1000321d185a3a8d07fa242", func := "lodger/lodgerlaw13.IndexNewest", spec := "indexNewest", recurses := true, plainKeys := false, apart := false, narrowed := true }
def IndexNewestUptoSaid : Prop := indexNewestUptoRow.holds Try.pinned (OpenSpec.upto indexNewestSpec)

/-- 'lodgerlaw13.IndexOrder', WHERE WHAT IT READS IS OF BULK AT MOST 1048576: true; the input reads as it did. -/
def indexOrderUptoRow : OpenClaim := { program := "ytjdkgkllgapgjaa", sum := "639366fdf428443e4053164785965e7d79631d5db1000321d185a3a8d07fa242", func := "lodger/lodgerlaw13.IndexOrder", spec := "indexOrder", recurses := true, plainKeys := false, apart := false, narrowed := true }
def IndexOrderUptoSaid : Prop := indexOrderUptoRow.holds Try.pinned (OpenSpec.upto indexOrderSpec)

/-- 'lodgerlaw13.IndexGone', WHERE WHAT IT READS IS OF BULK AT MOST 1048576: true; the input reads as it did. -/
def indexGoneUptoRow : OpenClaim := { program := "ytjdkgkllgapgjaa", sum := "639366fdf428443e4053164785965e7d79631d5db1000321d185a3a8d07fa242", func := "lodger/lodgerlaw13.IndexGone", spec := "indexGone", recurses := true, plainKeys := false, apart := false, narrowed := true }
def IndexGoneUptoSaid : Prop := indexGoneUptoRow.holds Try.pinned (OpenSpec.upto indexGoneSpec)

end Rows
end Go.Proofs.Ytjdkgkllgapgjaa
