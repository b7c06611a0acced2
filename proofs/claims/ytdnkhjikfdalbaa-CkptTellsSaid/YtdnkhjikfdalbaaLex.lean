/- A great region that draws its order: that the text's own order may stand for all is shown a few operations at a time, each time by a fact of its own. No program is spoken of. -/
import Derived.WalkKit
import Derived.Still
import Derived.KernelRfl
namespace Go.Proofs.Ytdnkhjikfdalbaa.Lex
open Go.RowKit

/-- The operations of a region, by its number. -/
def find (id : Nat) : Code → Option (Array Oper)
  | .region i ops _ => if i = id then some ops else none
  | .seq x y => (find id x).or (find id y)
  | .cond _ x y => (find id x).or (find id y)
  | .block _ x => find id x
  | .loop x => find id x
  | _ => none

/-- m operations from number k on. -/
def part (md : Region.Mode) (ops : Array Oper) : Nat → Nat → Array Bool → Bool
  | 0, _, _ => true
  | m + 1, k, listed => (Region.ready md ops listed).contains k && Region.free md ops listed k && part md ops m (k + 1) (listed.setIfInBounds k true)
def fill : Nat → Nat → Array Bool → Array Bool
  | 0, _, listed => listed
  | m + 1, k, listed => fill m (k + 1) (listed.setIfInBounds k true)

theorem chain {md : Region.Mode} {ops : Array Oper} : ∀ (m n k : Nat) (listed : Array Bool), part md ops m k listed = true → Region.lexFrom md ops n (k + m) (fill m k listed) = true → Region.lexFrom md ops (n + m) k listed = true
  | 0, n, k, listed, _, h => h
  | m + 1, n, k, listed, hp, h => by
    simp only [part, Bool.and_eq_true] at hp
    show Region.lexFrom md ops ((n + m) + 1) k listed = true
    simp only [Region.lexFrom, Bool.and_eq_true]
    refine ⟨hp.1, chain m n (k + 1) _ hp.2 ?_⟩
    rw [show k + 1 + m = k + (m + 1) by omega]
    exact h

end Go.Proofs.Ytdnkhjikfdalbaa.Lex
