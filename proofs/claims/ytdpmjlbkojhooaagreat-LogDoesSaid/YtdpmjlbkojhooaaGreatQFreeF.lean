/- A part. -/
import Derived.Test.YtdpmjlbkojhooaaGreatQLwD
import Derived.Test.YtdpmjlbkojhooaaGreatQFreeC
namespace Go.Proofs.YtdpmjlbkojhooaaGreat.FreeF
open Go.RowKit Free
set_option linter.unusedVariables false
structure C (w:World) (b:Nat) (T:TypeId) (i1 i2:Nat) (f:Bool→Bool→Array Value) (listed:Array Bool) (a:Act) (W:World):Prop where
 only:Dk.Only (fun x=>x=b) w W
 blk:W.heap[b]? = some (.cells (f (listed.getD i1 false) (listed.getD i2 false)) T (0,0))
section
variable {w W:World} {b:Nat} {T:TypeId} {i1 i2:Nat} {f:Bool→Bool→Array Value} {listed:Array Bool} {a a' : Act}
theorem C.start (k:Nat) (h:w.heap[b]? = some (.cells (f false false) T (0,0))):C w b T i1 i2 f (Array.replicate k false) a { w with drawn:=w.drawn+1 }:=by
 have e:∀ i,(Array.replicate k false).getD i false=false:=fun i=>by
  simp only [Array.getD_eq_getD_getElem?,Array.getElem?_replicate]
  split <;> simp
 exact ⟨(Dk.Only.refl _ w).drew,by rw [e,e]; exact h⟩
theorem C.still (h:C w b T i1 i2 f listed a W) {i:Nat} (h1:i≠i1) (h2:i≠i2):C w b T i1 i2 f (listed.setIfInBounds i true) a' W :=
 ⟨h.only,by rw [getD_set_ne false h1,getD_set_ne false h2]; exact h.blk⟩
theorem C.cell (h:C w b T i1 i2 f listed a W) (c:Nat) (hc:∀ x y,c<(f x y).size):(∃ u,W.cell? ⟨b,c,none⟩=some u)∧W.frozen? ⟨b,c,none⟩=false:=by
 refine ⟨⟨_,(cell_of_row W b c _ T (0,0) h.blk).trans (Array.getElem?_eq_getElem (hc _ _))⟩,?_⟩
 have:=h.blk
 simp [World.frozen?,this]
theorem C.set (h:C w b T i1 i2 f listed a W) (c:Nat) (v:Value) (g:Array Value) (hg:(f (listed.getD i1 false) (listed.getD i2 false)).setIfInBounds c v=g):(W.setCell ⟨b,c,none⟩ v).heap[b]? = some (.cells g T (0,0)):=by
 have:=h.blk
 rw [← hg]
 simp [World.setCell,Array.getElem?_modify,this]
theorem C.put1 (h:C w b T i1 i2 f listed a W) (hlt:i1<listed.size) (hno:listed.getD i1 true=false) (h12:i1≠i2) {c:Nat} {v:Value} (hf:∀ y,(f false y).setIfInBounds c v=f true y):C w b T i1 i2 f (listed.setIfInBounds i1 true) a' (W.setCell ⟨b,c,none⟩ v):=by
 have hn:=FreeD.not_listed hlt hno
 refine ⟨h.only.setCell (p:=⟨b,c,none⟩) (.inl rfl) v,?_⟩
 rw [getD_set_ne false h12]
 refine h.set c v _ ?_
 rw [hn,show (listed.setIfInBounds i1 true).getD i1 false=true by simp [hlt]]
 exact hf _
theorem C.put2 (h:C w b T i1 i2 f listed a W) (hlt:i2<listed.size) (hno:listed.getD i2 true=false) (h12:i1≠i2) {c:Nat} {v:Value} (hf:∀ x,(f x false).setIfInBounds c v=f x true):C w b T i1 i2 f (listed.setIfInBounds i2 true) a' (W.setCell ⟨b,c,none⟩ v):=by
 have hn:=FreeD.not_listed hlt hno
 refine ⟨h.only.setCell (p:=⟨b,c,none⟩) (.inl rfl) v,?_⟩
 rw [getD_set_ne false h12.symm]
 refine h.set c v _ ?_
 rw [hn,show (listed.setIfInBounds i2 true).getD i2 false=true by simp [hlt]]
 exact hf _
end
end Go.Proofs.YtdpmjlbkojhooaaGreat.FreeF
