/- A part. -/
import Derived.Test.YtdpmjlbkojhooaaGreatQNewC
import Derived.Test.YtdpmjlbkojhooaaGreatQFreeC
namespace Go.Proofs.YtdpmjlbkojhooaaGreat.NewV
open Go.RowKit Free NewC
set_option linter.unusedVariables false
structure C (w:World) (T:TypeId) (ia ix sa:Nat) (cs:Array Value) (listed:Array Bool) (a:Act) (W:World):Prop where
 b:Below w.heap.size w W
 da:listed.getD ia false=true→∃ b vs,a.tmps.getD sa undef=.pointer (some ⟨b,0,none⟩)∧w.heap.size≤b∧vs.size=cs.size∧W.heap[b]? = some (.cells vs T (0,0))∧(listed.getD ix false=true→vs=cs)
 ex:listed.getD ix false=true→listed.getD ia false=true
section
variable {w W W' : World} {T:TypeId} {ia ix sa:Nat} {cs:Array Value} {listed:Array Bool} {a:Act}
theorem C.start (k:Nat):C w T ia ix sa cs (Array.replicate k false) a { w with drawn:=w.drawn+1 }:=by
 have h:∀ i,¬ (Array.replicate k false).getD i false=true:=fun i e=>by
  simp only [Array.getD_eq_getD_getElem?,Array.getElem?_replicate] at e
  split at e <;> simp at e
 exact ⟨(Below.refl _ _).drew,fun e=>absurd e (h _),fun e=>absurd e (h _)⟩
theorem C.step (h:C w T ia ix sa cs listed a W) (i d:Nat) (x:Value) (hi:i≠ia∧i≠ix) (hd:d≠sa) (hb:Below W.heap.size W W'):C w T ia ix sa cs (listed.setIfInBounds i true) (a.put (some d) x) W':=by
 refine ⟨geTrans h.b hb,?_,?_⟩
 ·rw [getD_set_ne false hi.1,getD_set_ne false hi.2,put_ne x hd]
  intro e
  obtain ⟨b,vs,e1,e2,e3,e4,e5⟩:=h.da e
  exact ⟨b,vs,e1,e2,e3,(hb.block b (Array.getElem?_eq_some_iff.1 e4).1).trans e4,e5⟩
 ·rw [getD_set_ne false hi.1,getD_set_ne false hi.2]; exact h.ex
theorem C.alloc (h:C w T ia ix sa cs listed a W) (hne:ia≠ix) (hsz:ia<listed.size) (hno:listed.getD ia true=false) (ha:sa<a.tmps.size) (vs:Array Value) (hv:vs.size=cs.size) :
 C w T ia ix sa cs (listed.setIfInBounds ia true) (a.put (some sa) (.pointer (some ⟨W.heap.size,0,none⟩))) (W.alloc (.cells vs T)):=by
 have hn:=NewC.not_listed hsz hno
 refine ⟨geTrans h.b (below1 W _),fun _=>⟨W.heap.size,vs,put_eq _ ha,h.b.size,hv,heap_alloc_new W _,?_⟩,fun _=>set_self hsz⟩
 rw [getD_set_ne false hne]
 exact fun e=>by rw [h.ex e] at hn; cases hn
theorem C.store (h:C w T ia ix sa cs listed a W) (hne:ia≠ix) (hla:listed.getD ia false=true) {b:Nat} {vs:Array Value} (e1:a.tmps.getD sa undef=.pointer (some ⟨b,0,none⟩)) (hb:w.heap.size≤b) (hB:W.heap[b]? = some (.cells vs T (0,0))) :
 C w T ia ix sa cs (listed.setIfInBounds ix true) (a.put none undef) (W.setRow b cs):=by
 refine ⟨row_below h.b hb,fun _=>⟨b,cs,e1,hb,rfl,?_,fun _=>rfl⟩,?_⟩
 ·unfold World.setRow
  rw [Array.getElem?_modify,if_pos rfl,hB]
  rfl
 ·rw [getD_set_ne false hne.symm]; exact fun _=>hla
end
end Go.Proofs.YtdpmjlbkojhooaaGreat.NewV
