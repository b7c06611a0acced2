/- A part. -/
import Derived.Test.YtcnohlgigmmefaaGreatPLwP
import Derived.Maps.AppendAt
import Derived.Deep.RegionLaw
import Derived.IntWalk
namespace Go.Proofs.YtcnohlgigmmefaaGreat.Cp
open Go.RowKit Go.Lib
set_option linter.unusedVariables false
set_option maxRecDepth 100000
open Go.RowKit Go.Lib Wd Cr
set_option linter.unusedVariables false
structure Its (w:World) (L:List (Nat × Array Value)) (M:List (Option Addr × Nat × List Int)) (W:World):Prop where
 b:Below w.heap.size w W
 k:∀ x∈L,Blk W x.1 42 x.2
 s:∀ y∈M,Sl W y.1 y.2.1 y.2.2
section
variable {w W W' : World} {L:List (Nat × Array Value)} {M:List (Option Addr × Nat × List Int)}
theorem Its.later (h:Its w L M W) (hb:Below W.heap.size W W'):Its w L M W':=⟨Wd.Ge.trans h.b hb,fun x hx=>(h.k x hx).later hb,fun y hy=>(h.s y hy).later hb⟩
theorem Its.drawn (h:Its w L M W):Its w L M { W with drawn:=W.drawn+1 }:=h.later (below_drawn W)
theorem Its.at_ (h:Its w L M W) {x:Nat × Array Value} (i:Nat) (hi:L[i]? = some x):Blk W x.1 42 x.2:=h.k x (List.mem_of_getElem? hi)
theorem Its.sl (h:Its w L M W) {y:Option Addr × Nat × List Int} (i:Nat) (hi:M[i]? = some y):Sl W y.1 y.2.1 y.2.2:=h.s y (List.mem_of_getElem? hi)
theorem Its.nil (h:Below w.heap.size w W):Its w [] [] W:=⟨h,(fun x hx=>by cases hx),(fun y hy=>by cases hy)⟩
theorem Its.cons (h:Its w L M W) {b:Nat} {cs:Array Value} (K:Blk W b 42 cs):Its w ((b,cs) :: L) M W :=
 ⟨h.b,(fun x hx=>by rcases List.mem_cons.1 hx with rfl|hx; exact K; exact h.k x hx),h.s⟩
end
open Go.RowKit Go.Lib Wd Cr
set_option linter.unusedVariables false
namespace R7
end R7
open Go.RowKit Go.Lib Wd Cr
set_option linter.unusedVariables false
namespace R7
end R7
open Go.RowKit Go.Lib Wd Cr
set_option linter.unusedVariables false
def iv (l:List Int):List Value:=l.map fun x=>.int .i64 x
structure D7 (w:World) (bc:Nat) (g e a v:Int) (A:Option Addr) (p:Nat) (B:Option Addr) (q i j:Nat) (lo ln:List Int) (W:World):Prop where
 b:Below w.heap.size w W
 z:Blk W w.heap.size 52 (csC 0 0 0 0 none 0 0 none 0 0)
 hbc:w.heap.size<bc
 k:Blk W bc 52 (csC g e a v A i p B j q)
 oo:W.ownsRow (bc+1) 3 1 (.slice A i p) i (iv lo)
 on:W.ownsRow (bc+1) 3 1 (.slice B j q) j (iv ln)
 ne:∀ r,(Value.slice A i p).ownBlock=some r→(Value.slice B j q).ownBlock≠some r
structure D3 (w:World) (H:Nat) (vs:Array Value) (listed:Array Bool) (a:Act) (W:World):Prop where
 b:Below w.heap.size w W
 z:Blk W w.heap.size 52 (csC 0 0 0 0 none 0 0 none 0 0)
 hH:H≤W.heap.size
 ord:listed.getD 15 false=true→listed.getD 14 false=true
 blk:listed.getD 14 false=true→∃ b,a.tmps.getD 4 undef=.pointer (some ⟨b,0,none⟩)∧H≤b∧Blk W b 52 (if listed.getD 15 false=true then vs else csC 0 0 0 0 none 0 0 none 0 0)
section
variable {w:World} {H:Nat} {vs:Array Value} {listed:Array Bool} {a:Act} {W W' : World}
theorem D3.step (h:D3 w H vs listed a W) (i d:Nat) (v:Value) (hi:i≠14) (hi' : i≠15) (hd:d≠4) (hb:Below W.heap.size W W'):D3 w H vs (listed.setIfInBounds i true) (a.put (some d) v) W':=by
 have e20:(listed.setIfInBounds i true).getD 14 false=listed.getD 14 false:=getD_set_ne false hi
 have e21:(listed.setIfInBounds i true).getD 15 false=listed.getD 15 false:=getD_set_ne false hi'
 refine ⟨Wd.Ge.trans h.b hb,h.z.later hb,Nat.le_trans h.hH hb.size,by rw [e20,e21]; exact h.ord,?_⟩
 rw [e20,e21]
 intro hl
 obtain ⟨b,h1,h2,h3⟩:=h.blk hl
 exact ⟨b,(Free.slot_ne v hd).trans h1,h2,h3.later hb⟩
theorem D3.alloc (h:D3 w H vs listed a W) (hsz:listed.size=16) (ha:4<a.tmps.size) (hno:listed.getD 14 true=false):D3 w H vs (listed.setIfInBounds 14 true) (a.put (some 4) (.pointer (some ⟨W.heap.size,0,none⟩))) (W.alloc (.cells (csC 0 0 0 0 none 0 0 none 0 0) 52)):=by
 have e21:(listed.setIfInBounds 14 true).getD 15 false=listed.getD 15 false:=getD_set_ne false (by omega)
 have e20:(listed.setIfInBounds 14 true).getD 14 false=true:=by simp [hsz]
 have f20:listed.getD 14 false=false:=by
  simp only [Array.getD_eq_getD_getElem?] at hno ⊢
  have:listed[14]? = some (listed[14]'(by omega)):=Array.getElem?_eq_getElem (by omega)
  rw [this] at hno ⊢
  exact hno
 have f21:¬ listed.getD 15 false=true:=fun hh=>by have:=h.ord hh; rw [f20] at this; exact absurd this (by decide)
 have hb:=below1 W (.cells (csC 0 0 0 0 none 0 0 none 0 0) 52)
 refine ⟨Wd.Ge.trans h.b hb,h.z.later hb,Nat.le_trans h.hH hb.size,fun _=>e20,fun _=>⟨W.heap.size,?_,h.hH,?_⟩⟩
 ·unfold Act.put
  simp [ha]
 ·rw [e21,if_neg f21]
  exact Blk.new _ _ _
theorem D3.store (h:D3 w H vs listed a W) (hsz:listed.size=16) (hl:listed.getD 14 false=true) (q1:w.heap.size<H) {b:Nat} (hs:a.tmps.getD 4 undef=.pointer (some ⟨b,0,none⟩)) :
 D3 w H vs (listed.setIfInBounds 15 true) (a.put none undef) (W.setRow b vs):=by
 obtain ⟨b',h1,h2,h3⟩:=h.blk hl
 have eb:b' = b:=by rw [hs] at h1; injection h1 with h1; injection h1 with h1; injection h1 with h1; exact h1.symm
 subst eb
 have e21:(listed.setIfInBounds 15 true).getD 15 false=true:=by simp [hsz]
 have e20:(listed.setIfInBounds 15 true).getD 14 false=listed.getD 14 false:=getD_set_ne false (by omega)
 refine ⟨below_row h.b (by omega) _,h.z.far (by omega) _,by rw [row_size]; exact h.hH,fun _=>by rw [e20]; exact hl,fun _=>⟨b',hs,h2,?_⟩⟩
 rw [e21,if_pos rfl]
 exact h3.row _
end
namespace R7
end R7
open Go.RowKit Go.Lib Wd Cr
set_option linter.unusedVariables false
namespace R7
end R7
end Go.Proofs.YtcnohlgigmmefaaGreat.Cp
