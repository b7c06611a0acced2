/- A part. -/
import Derived.Test.YtcnohlgigmmefaaGreatPLwU
namespace Go.Proofs.YtcnohlgigmmefaaGreat.Tb
open Go.RowKit Go.Lib
set_option linter.unusedVariables false
set_option maxRecDepth 100000
open Go.RowKit Go.Lib
set_option linter.unusedVariables false
inductive CndO where
 | is (v:Value)
 | emp
 | own (κ:IntKind) (e:TypeId) (base m:Nat) (l:List Int)
 | row3 (base:Nat) (sg st:Int) (m k n:Nat) (o l f:List Int)
 | put (base bz:Nat) (T:TypeId) (sg st:Int) (m k n:Nat) (o l f:List Int)
def CndO.p:CndO→World→Value→Prop
 | .is v=>fun _ u=>u=v
 | .emp=>fun _ u=>∃ g,u=.slice (some ⟨g,0,none⟩) 0 0
 | .own κ e base m l=>fun W u=>∃ g p,u=.slice (some ⟨g,0,none⟩) m p∧W.ownsRow base e 1 (.slice (some ⟨g,0,none⟩) m p) m (iv κ l)
 | .row3 base sg st m k n o l f=>fun W u=>∃ A p B q C r,u=.agg #[.int .i64 sg,.int .i64 st,.slice A m p,.slice B k q,.slice C n r]∧Rows3 base A m p B k q C n r o l f W
 | .put base bz T sg st m k n o l f=>fun W _=>∃ A p B q C r,Blk W bz T (csT sg st A m p B k q C n r)∧Rows3 base A m p B k q C n r o l f W
theorem CndO.later (c:CndO) {W W' : World} {u:Value} (hb:Below W.heap.size W W') (h:c.p W u):c.p W' u:=by
 cases c with
 | is v=>exact h
 | emp=>exact h
 | own κ e base m l=>obtain ⟨g,p,e1,ho⟩:=h; exact ⟨g,p,e1,own_later ho hb⟩
 | row3=>obtain ⟨A,p,B,q,C,r,e1,ho⟩:=h; exact ⟨A,p,B,q,C,r,e1,ho.later hb⟩
 | put=>obtain ⟨A,p,B,q,C,r,e1,ho⟩:=h; exact ⟨A,p,B,q,C,r,e1.later hb,ho.later hb⟩
theorem CndO.keep {cs:List CndO} {W W' : World} {j:Nat} {u:Value} (hb:Below W.heap.size W W') (h:Free.V (cs.map CndO.p) j W u):Free.V (cs.map CndO.p) j W' u:=by
 unfold Free.V at *
 cases hi:cs[j]? with
 | none=>simp only [List.getD_eq_getElem?_getD,List.getElem?_map,hi]; exact trivial
 | some c =>
   simp only [List.getD_eq_getElem?_getD,List.getElem?_map,hi,Option.map_some,Option.getD_some] at h ⊢
   exact c.later hb h
structure OwC (w:World) (b1 bz base:Nat) (T:TypeId) (cs:Array Value) (m k:Nat) (listed:Array Bool) (a:Act) (W:World):Prop where
 b:Below w.heap.size w W
 kb:Blk W b1 T cs
 z:listed.getD 17 false=false→Blk W bz T (csT 0 0 none 0 0 none 0 0 none 0 0)
 s:base≤W.heap.size
 lt:bz<base
 ne:b1≠bz
 lw:w.heap.size≤bz
 d:listed.getD 7 false=true→listed.getD 11 false=true→∀ g h p q,a.tmps.getD 10 undef=.slice (some ⟨g,0,none⟩) m p→a.tmps.getD 14 undef=.slice (some ⟨h,0,none⟩) k q→g≠h
section
variable {w:World} {b1 bz base m k:Nat} {T:TypeId} {cs:Array Value} {listed:Array Bool} {a:Act} {W W' : World}
theorem OwC.step (h:OwC w b1 bz base T cs m k listed a W) (i d:Nat) (v:Value) (h7:i≠7) (h11:i≠11) (h17:i≠17) (hd:d≠10) (hd' : d≠14) (hb:Below W.heap.size W W'):OwC w b1 bz base T cs m k (listed.setIfInBounds i true) (a.put (some d) v) W':=by
 refine ⟨Ge.trans h.b hb,h.kb.later hb,?_,Nat.le_trans h.s hb.size,h.lt,h.ne,h.lw,?_⟩
 ·rw [getD_set_ne false h17]; exact fun e=>(h.z e).later hb
 ·rw [getD_set_ne false h7,getD_set_ne false h11]
  intro l7 l11 g g' p q e1 e2
  exact h.d l7 l11 g g' p q ((Free.slot_ne v hd).symm.trans e1) ((Free.slot_ne v hd').symm.trans e2)
theorem OwC.store (h:OwC w b1 bz base T cs m k listed a W) (hsz:listed.size=18) (vs:Array Value):OwC w b1 bz base T cs m k (listed.setIfInBounds 17 true) (a.put none undef) (W.setRow bz vs):=by
 refine ⟨below_row h.b h.lw _,h.kb.far h.ne.symm _,?_,by rw [row_size]; exact h.s,h.lt,h.ne,h.lw,?_⟩
 ·intro e; simp [hsz] at e
 ·rw [getD_set_ne false (show 17≠7 by omega),getD_set_ne false (show 17≠11 by omega)]
  exact h.d
end
open Go.RowKit Go.Lib
set_option linter.unusedVariables false
open Go.RowKit Go.Lib
set_option linter.unusedVariables false
theorem own_far {W:World} {base b n:Nat} {e T:TypeId} {v:Value} {xs:List Value} {cs:Array Value} (h:W.ownsRow base e 1 v n xs) (hB:Blk W b T cs) (hne:e≠T) (vs:Array Value):(W.setRow b vs).ownsRow base e 1 v n xs:=by
 refine ⟨h.1,?_⟩
 rcases h.2 with h0 | ⟨g,cap,cur,he,hbg,hg,hc⟩
 ·exact .inl h0
 ·refine .inr ⟨g,cap,cur,he,hbg,?_,hc⟩
  have hgb:g≠b:=by
   intro e1
   subst e1
   unfold Blk at hB
   rw [hB] at hg
   injection hg with hg
   injection hg with _ hg
   exact hne hg.symm
  exact (setRow_other W b g vs (fun e1=>hgb e1)).trans hg
theorem Rows3.far {W:World} {base b:Nat} {A:Option Addr} {m p:Nat} {B:Option Addr} {k q:Nat} {C:Option Addr} {n r:Nat} {o l f:List Int} (h:Rows3 base A m p B k q C n r o l f W) {cs:Array Value} (hB:Blk W b 53 cs) (vs:Array Value):Rows3 base A m p B k q C n r o l f (W.setRow b vs) :=
 ⟨own_far h.a hB (by decide) vs,own_far h.b hB (by decide) vs,own_far h.c hB (by decide) vs,h.ab⟩
inductive CndA where
 | any
 | is (v:Value)
 | own (base:Nat) (l:List Int)
 | row3 (base:Nat) (sg st:Int) (m k n:Nat) (o l f:List Int)
def CndA.p:CndA→World→Value→Prop
 | .any=>fun _ _=>True
 | .is v=>fun _ u=>u=v
 | .own base l=>fun W u=>∃ A m p,u=.slice A m p∧W.ownsRow base 3 1 (.slice A m p) m (iv .i64 l)
 | .row3 base sg st m k n o l f=>fun W u=>∃ A p B q C r,u=.agg #[.int .i64 sg,.int .i64 st,.slice A m p,.slice B k q,.slice C n r]∧Rows3 base A m p B k q C n r o l f W
theorem CndA.later (c:CndA) {W W' : World} {u:Value} (hb:Below W.heap.size W W') (h:c.p W u):c.p W' u:=by
 cases c with
 | any=>exact trivial
 | is v=>exact h
 | own=>obtain ⟨A,m,p,e1,ho⟩:=h; exact ⟨A,m,p,e1,own_later ho hb⟩
 | row3=>obtain ⟨A,p,B,q,C,r,e1,ho⟩:=h; exact ⟨A,p,B,q,C,r,e1,ho.later hb⟩
theorem CndA.far (c:CndA) {W:World} {u:Value} {b:Nat} {cs:Array Value} (hB:Blk W b 53 cs) (vs:Array Value) (h:c.p W u):c.p (W.setRow b vs) u:=by
 cases c with
 | any=>exact trivial
 | is v=>exact h
 | own=>obtain ⟨A,m,p,e1,ho⟩:=h; exact ⟨A,m,p,e1,own_far ho hB (by decide) vs⟩
 | row3=>obtain ⟨A,p,B,q,C,r,e1,ho⟩:=h; exact ⟨A,p,B,q,C,r,e1,ho.far hB vs⟩
theorem CndA.lift {cs:List CndA} {W W' : World} {j:Nat} {u:Value} (hc:∀ c:CndA,c.p W u→c.p W' u) (h:Free.V (cs.map CndA.p) j W u):Free.V (cs.map CndA.p) j W' u:=by
 unfold Free.V at *
 cases hi:cs[j]? with
 | none=>simp only [List.getD_eq_getElem?_getD,List.getElem?_map,hi]; exact trivial
 | some c =>
   simp only [List.getD_eq_getElem?_getD,List.getElem?_map,hi,Option.map_some,Option.getD_some] at h ⊢
   exact hc c h
theorem CndA.keep {cs:List CndA} {W W' : World} {j:Nat} {u:Value} (hb:Below W.heap.size W W') (h:Free.V (cs.map CndA.p) j W u):Free.V (cs.map CndA.p) j W' u:=CndA.lift (fun c=>c.later hb) h
structure AwC (w:World) (bz base ia ix sa:Nat) (cs:Array Value) (sg st:Int) (m k n:Nat) (o l f:List Int) (listed:Array Bool) (a:Act) (W:World):Prop where
 b:Below w.heap.size w W
 kb:Blk W w.heap.size 53 cs
 z:Blk W bz 53 (csT 0 0 none 0 0 none 0 0 none 0 0)
 s:base≤W.heap.size
 lt:bz<base
 lw:w.heap.size<bz
 ord:listed.getD ix false=true→listed.getD ia false=true
 blk:listed.getD ia false=true→∃ b,a.tmps.getD sa undef=.pointer (some ⟨b,0,none⟩)∧base≤b∧(listed.getD ix false=false→Blk W b 53 (csT 0 0 none 0 0 none 0 0 none 0 0)) ∧
  (listed.getD ix false=true→∃ A p B q C r,Blk W b 53 (csT sg st A m p B k q C n r)∧Rows3 base A m p B k q C n r o l f W)
section
variable {w:World} {bz base ia ix sa m k n:Nat} {cs:Array Value} {sg st:Int} {o l f:List Int} {listed:Array Bool} {a:Act} {W W' : World}
theorem AwC.step (h:AwC w bz base ia ix sa cs sg st m k n o l f listed a W) (i d:Nat) (v:Value) (h1:i≠ia) (h2:i≠ix) (hd:d≠sa) (hb:Below W.heap.size W W'):AwC w bz base ia ix sa cs sg st m k n o l f (listed.setIfInBounds i true) (a.put (some d) v) W':=by
 have e1:(listed.setIfInBounds i true).getD ia false=listed.getD ia false:=getD_set_ne false h1
 have e2:(listed.setIfInBounds i true).getD ix false=listed.getD ix false:=getD_set_ne false h2
 refine ⟨Ge.trans h.b hb,h.kb.later hb,h.z.later hb,Nat.le_trans h.s hb.size,h.lt,h.lw,by rw [e1,e2]; exact h.ord,?_⟩
 rw [e1,e2]
 intro hl
 obtain ⟨b,q1,q2,q3,q4⟩:=h.blk hl
 refine ⟨b,(Free.slot_ne v hd).trans q1,q2,fun e=>(q3 e).later hb,fun e=>?_⟩
 obtain ⟨A,p,B,q,C,r,k1,k2⟩:=q4 e
 exact ⟨A,p,B,q,C,r,k1.later hb,k2.later hb⟩
theorem not_listed {i:Nat} (hi:i<listed.size) (h:listed.getD i true=false):listed.getD i false=false:=by
 simp only [Array.getD_eq_getD_getElem?] at h ⊢
 have:listed[i]? = some (listed[i]'hi):=Array.getElem?_eq_getElem hi
 rw [this] at h ⊢
 exact h
theorem AwC.alloc (h:AwC w bz base ia ix sa cs sg st m k n o l f listed a W) (hi:ia<listed.size) (hne:ia≠ix) (ha:sa<a.tmps.size) (hno:listed.getD ia true=false) :
 AwC w bz base ia ix sa cs sg st m k n o l f (listed.setIfInBounds ia true) (a.put (some sa) (.pointer (some ⟨W.heap.size,0,none⟩))) (W.alloc (.cells (csT 0 0 none 0 0 none 0 0 none 0 0) 53)):=by
 have e2:(listed.setIfInBounds ia true).getD ix false=listed.getD ix false:=getD_set_ne false hne
 have e1:(listed.setIfInBounds ia true).getD ia false=true:=by simp [hi]
 have f1:=not_listed hi hno
 have hb:=below1 W (.cells (csT 0 0 none 0 0 none 0 0 none 0 0) 53)
 refine ⟨Ge.trans h.b hb,h.kb.later hb,h.z.later hb,Nat.le_trans h.s hb.size,h.lt,h.lw,fun _=>e1,fun _=>⟨W.heap.size,?_,h.s,fun _=>Blk.new _ _ _,fun e=>?_⟩⟩
 ·unfold Act.put
  simp [ha]
 ·rw [e2] at e
  have:=h.ord e
  rw [f1] at this
  exact absurd this (by decide)
theorem AwC.store (h:AwC w bz base ia ix sa cs sg st m k n o l f listed a W) (hi:ix<listed.size) (hne:ia≠ix) {b:Nat} (hl:listed.getD ia false=true) (hs:a.tmps.getD sa undef=.pointer (some ⟨b,0,none⟩)) {A:Option Addr} {p:Nat} {B:Option Addr} {q:Nat} {C:Option Addr} {r:Nat}
 (hB:Blk W b 53 (csT 0 0 none 0 0 none 0 0 none 0 0)) (hbb:base≤b) (R:Rows3 base A m p B k q C n r o l f W) :
 AwC w bz base ia ix sa cs sg st m k n o l f (listed.setIfInBounds ix true) (a.put none undef) (W.setRow b (csT sg st A m p B k q C n r)):=by
 have e1:(listed.setIfInBounds ix true).getD ia false=listed.getD ia false:=getD_set_ne false (fun e=>hne e.symm)
 have e2:(listed.setIfInBounds ix true).getD ix false=true:=by simp [hi]
 have h1:=h.lt
 have h2:=h.lw
 refine ⟨below_row h.b (by omega) _,h.kb.far (by omega) _,h.z.far (by omega) _,by rw [row_size]; exact h.s,h.lt,h.lw,fun _=>by rw [e1]; exact hl,fun _=>⟨b,hs,hbb,fun e=>?_,fun _=>⟨A,p,B,q,C,r,hB.row _,R.far hB _⟩⟩⟩
 rw [e2] at e
 exact absurd e (by decide)
end
open Go.RowKit Go.Lib
set_option linter.unusedVariables false
open Go.RowKit Go.Lib
set_option linter.unusedVariables false
theorem own_not {W:World} {base b n:Nat} {e T:TypeId} {v:Value} {xs:List Value} {cs:Array Value} (h:W.ownsRow base e 1 v n xs) (hB:Blk W b T cs) (hne:e≠T):v.ownBlock≠some b:=by
 intro hq
 rcases h.2 with ⟨rfl,_⟩ | ⟨g,cap,cur,rfl,_,hg,_⟩
 ·cases hq
 ·injection hq with hq
  simp only at hq
  subst hq
  unfold Blk at hB
  rw [hB] at hg
  injection hg with hg
  injection hg with _ hg
  exact hne hg.symm
structure Own4 (base bc:Nat) (sg st:Int) (A:Option Addr) (m p:Nat) (B:Option Addr) (k q:Nat) (C:Option Addr) (n r:Nat) (o l f:List Int) (W:World):Prop where
 z:Blk W bc 53 (csT sg st A m p B k q C n r)
 lt:base≤bc
 s:Rows3 base A m p B k q C n r o l f W
 sz:base≤W.heap.size
theorem Own4.later {base bc:Nat} {sg st:Int} {A:Option Addr} {m p:Nat} {B:Option Addr} {k q:Nat} {C:Option Addr} {n r:Nat} {o l f:List Int} {W W' : World} (h:Own4 base bc sg st A m p B k q C n r o l f W) (hb:Below W.heap.size W W'):Own4 base bc sg st A m p B k q C n r o l f W':=⟨h.z.later hb,h.lt,h.s.later hb,Nat.le_trans h.sz hb.size⟩
theorem Own4.push_a {base bc:Nat} {sg st:Int} {A:Option Addr} {m p:Nat} {B:Option Addr} {k q:Nat} {C:Option Addr} {n r:Nat} {o l f:List Int} {W:World} {nb:Nat} {x:Int} (h:Own4 base bc sg st A m p B k q C n r o l f W) (hc:W.cell? ⟨nb,0,none⟩=some (.int .i64 x)) (hm:m<1000) :
 ∃ g p' W5,(∀ ty,(Builtin.append_ #[40,40] ty #[.slice A m p,.slice (some ⟨nb,0,none⟩) 1 1]).run Tryz.prog W=.ok (.slice (some ⟨g,0,none⟩) (m+1) p') W5) ∧
   W5.cell? ⟨bc,2,none⟩=some (.slice A m p)∧W5.frozen? ⟨bc,2,none⟩=false∧Own4 base bc sg st (some ⟨g,0,none⟩) (m+1) p' B k q C n r (o++[x]) l f (W5.setCell ⟨bc,2,none⟩ (.slice (some ⟨g,0,none⟩) (m+1) p')) ∧
   (∀ w0,Below w0.heap.size w0 W→w0.heap.size≤base→Below w0.heap.size w0 (W5.setCell ⟨bc,2,none⟩ (.slice (some ⟨g,0,none⟩) (m+1) p')))∧(∀ b t cs,Blk W b t cs→b<base→b≠bc→Blk (W5.setCell ⟨bc,2,none⟩ (.slice (some ⟨g,0,none⟩) (m+1) p')) b t cs):=by
 obtain ⟨g,p',W5,hrun,own5,g5,hat,hlt⟩:=push_run (T:=40) Tryz.underlying40 infoI rfl h.s.a hm hc h.sz
 have hrow:∀ j,ob A=some j→base≤j:=fun j hj=>(h.s.a.lt j (by rw [ob_eq]; exact hj)).1
 have k5:=blk_grown h.z g5 (fun e=>own_not h.s.a h.z (by decide) (by rw [ob_eq]; exact e.symm))
 have gs:=grown_set W5 bc 2 (.slice (some ⟨g,0,none⟩) (m+1) p')
 have keep:∀ {e' : TypeId} {B' : Option Addr} {n' q' : Nat} {xs:List Value},e'≠53→W5.ownsRow base e' 1 (.slice B' n' q') n' xs→(W5.setCell ⟨bc,2,none⟩ (.slice (some ⟨g,0,none⟩) (m+1) p')).ownsRow base e' 1 (.slice B' n' q') n' xs:=fun {e'} {B'} {n'} {q'} {xs} he ho=>ho.kept gs (by
  cases hq:(Value.slice B' n' q').ownBlock with
  | none=>exact .inl rfl
  | some j=>exact .inr (fun e=>own_not ho k5 he (hq.trans e)))
 refine ⟨g,p',W5,hrun,k5.cell 2,k5.frozen 2,⟨?_,h.lt,⟨?_,?_,?_,?_⟩,?_⟩,fun w0 hb hle=>?_,fun b t cs hB hb hne=>?_⟩
 ·exact k5.set_ 2 _
 ·exact keep (by decide) own5
 ·exact keep (by decide) (own_kept (p:=0) h.s.b g5 h.s.ab)
 ·exact keep (by decide) (own_kept (p:=0) h.s.c g5 (fun j hj=>by have:=own_ne h.s.a h.s.c (by decide) j; rw [ob_eq,ob_eq] at this; exact this hj))
 ·intro j hj hh
  injection hj with hj
  have hj:g=j:=hj
  rcases hat with e|e
  ·exact h.s.ab j (by rw [e,hj]) hh
  ·have:=(h.s.b.lt j (by rw [ob_eq]; exact hh)).2
   omega
 ·have:=g5.size; have:=h.sz; simp; omega
 ·refine Below.setCell (p:=⟨bc,2,none⟩) ?_ (Nat.le_trans hle h.lt) _
  exact hb.grown g5 hb.size (fun j hj=>by have:=hrow j hj; have:=h.lt; omega)
 ·exact blk_grown (blk_grown hB g5 (fun e=>by have:=hrow b e.symm; omega)) gs (fun e=>by injection e with e; exact hne e)
theorem Own4.push_b {base bc:Nat} {sg st:Int} {A:Option Addr} {m p:Nat} {B:Option Addr} {k q:Nat} {C:Option Addr} {n r:Nat} {o l f:List Int} {W:World} {nb:Nat} {x:Int} (h:Own4 base bc sg st A m p B k q C n r o l f W) (hc:W.cell? ⟨nb,0,none⟩=some (.int .i64 x)) (hm:k<1000) :
 ∃ g p' W5,(∀ ty,(Builtin.append_ #[40,40] ty #[.slice B k q,.slice (some ⟨nb,0,none⟩) 1 1]).run Tryz.prog W=.ok (.slice (some ⟨g,0,none⟩) (k+1) p') W5) ∧
   W5.cell? ⟨bc,3,none⟩=some (.slice B k q)∧W5.frozen? ⟨bc,3,none⟩=false∧Own4 base bc sg st A m p (some ⟨g,0,none⟩) (k+1) p' C n r o (l++[x]) f (W5.setCell ⟨bc,3,none⟩ (.slice (some ⟨g,0,none⟩) (k+1) p')) ∧
   (∀ w0,Below w0.heap.size w0 W→w0.heap.size≤base→Below w0.heap.size w0 (W5.setCell ⟨bc,3,none⟩ (.slice (some ⟨g,0,none⟩) (k+1) p')))∧(∀ b t cs,Blk W b t cs→b<base→b≠bc→Blk (W5.setCell ⟨bc,3,none⟩ (.slice (some ⟨g,0,none⟩) (k+1) p')) b t cs):=by
 obtain ⟨g,p',W5,hrun,own5,g5,hat,hlt⟩:=push_run (T:=40) Tryz.underlying40 infoI rfl h.s.b hm hc h.sz
 have hrow:∀ j,ob B=some j→base≤j:=fun j hj=>(h.s.b.lt j (by rw [ob_eq]; exact hj)).1
 have k5:=blk_grown h.z g5 (fun e=>own_not h.s.b h.z (by decide) (by rw [ob_eq]; exact e.symm))
 have gs:=grown_set W5 bc 3 (.slice (some ⟨g,0,none⟩) (k+1) p')
 have keep:∀ {e' : TypeId} {B' : Option Addr} {n' q' : Nat} {xs:List Value},e'≠53→W5.ownsRow base e' 1 (.slice B' n' q') n' xs→(W5.setCell ⟨bc,3,none⟩ (.slice (some ⟨g,0,none⟩) (k+1) p')).ownsRow base e' 1 (.slice B' n' q') n' xs:=fun {e'} {B'} {n'} {q'} {xs} he ho=>ho.kept gs (by
  cases hq:(Value.slice B' n' q').ownBlock with
  | none=>exact .inl rfl
  | some j=>exact .inr (fun e=>own_not ho k5 he (hq.trans e)))
 refine ⟨g,p',W5,hrun,k5.cell 3,k5.frozen 3,⟨?_,h.lt,⟨?_,?_,?_,?_⟩,?_⟩,fun w0 hb hle=>?_,fun b t cs hB hb hne=>?_⟩
 ·exact k5.set_ 3 _
 ·exact keep (by decide) (own_kept (p:=0) h.s.a g5 (fun j hj hh=>h.s.ab j hh hj))
 ·exact keep (by decide) own5
 ·exact keep (by decide) (own_kept (p:=0) h.s.c g5 (fun j hj=>by have:=own_ne h.s.b h.s.c (by decide) j; rw [ob_eq,ob_eq] at this; exact this hj))
 ·intro j hj hh
  injection hh with hh
  have hh:g=j:=hh
  rcases hat with e|e
  ·exact h.s.ab j hj (by rw [e,hh])
  ·have:=(h.s.a.lt j (by rw [ob_eq]; exact hj)).2
   omega
 ·have:=g5.size; have:=h.sz; simp; omega
 ·refine Below.setCell (p:=⟨bc,3,none⟩) ?_ (Nat.le_trans hle h.lt) _
  exact hb.grown g5 hb.size (fun j hj=>by have:=hrow j hj; have:=h.lt; omega)
 ·exact blk_grown (blk_grown hB g5 (fun e=>by have:=hrow b e.symm; omega)) gs (fun e=>by injection e with e; exact hne e)
theorem Own4.push_c {base bc:Nat} {sg st:Int} {A:Option Addr} {m p:Nat} {B:Option Addr} {k q:Nat} {C:Option Addr} {n r:Nat} {o l f:List Int} {W:World} {nb:Nat} {x:Int} (h:Own4 base bc sg st A m p B k q C n r o l f W) (hc:W.cell? ⟨nb,0,none⟩=some (.int .u64 x)) (hm:n<1000) :
 ∃ g p' W5,(∀ ty,(Builtin.append_ #[43,43] ty #[.slice C n r,.slice (some ⟨nb,0,none⟩) 1 1]).run Tryz.prog W=.ok (.slice (some ⟨g,0,none⟩) (n+1) p') W5) ∧
   W5.cell? ⟨bc,4,none⟩=some (.slice C n r)∧W5.frozen? ⟨bc,4,none⟩=false∧Own4 base bc sg st A m p B k q (some ⟨g,0,none⟩) (n+1) p' o l (f++[x]) (W5.setCell ⟨bc,4,none⟩ (.slice (some ⟨g,0,none⟩) (n+1) p')) ∧
   (∀ w0,Below w0.heap.size w0 W→w0.heap.size≤base→Below w0.heap.size w0 (W5.setCell ⟨bc,4,none⟩ (.slice (some ⟨g,0,none⟩) (n+1) p')))∧(∀ b t cs,Blk W b t cs→b<base→b≠bc→Blk (W5.setCell ⟨bc,4,none⟩ (.slice (some ⟨g,0,none⟩) (n+1) p')) b t cs):=by
 obtain ⟨g,p',W5,hrun,own5,g5,hat,hlt⟩:=push_run (T:=43) Tryz.underlying43 infoU rfl h.s.c hm hc h.sz
 have hrow:∀ j,ob C=some j→base≤j:=fun j hj=>(h.s.c.lt j (by rw [ob_eq]; exact hj)).1
 have k5:=blk_grown h.z g5 (fun e=>own_not h.s.c h.z (by decide) (by rw [ob_eq]; exact e.symm))
 have gs:=grown_set W5 bc 4 (.slice (some ⟨g,0,none⟩) (n+1) p')
 have keep:∀ {e' : TypeId} {B' : Option Addr} {n' q' : Nat} {xs:List Value},e'≠53→W5.ownsRow base e' 1 (.slice B' n' q') n' xs→(W5.setCell ⟨bc,4,none⟩ (.slice (some ⟨g,0,none⟩) (n+1) p')).ownsRow base e' 1 (.slice B' n' q') n' xs:=fun {e'} {B'} {n'} {q'} {xs} he ho=>ho.kept gs (by
  cases hq:(Value.slice B' n' q').ownBlock with
  | none=>exact .inl rfl
  | some j=>exact .inr (fun e=>own_not ho k5 he (hq.trans e)))
 refine ⟨g,p',W5,hrun,k5.cell 4,k5.frozen 4,⟨?_,h.lt,⟨?_,?_,?_,?_⟩,?_⟩,fun w0 hb hle=>?_,fun b t cs hB hb hne=>?_⟩
 ·exact k5.set_ 4 _
 ·exact keep (by decide) (own_kept (p:=0) h.s.a g5 (fun j hj=>by have:=own_ne h.s.c h.s.a (by decide) j; rw [ob_eq,ob_eq] at this; exact this hj))
 ·exact keep (by decide) (own_kept (p:=0) h.s.b g5 (fun j hj=>by have:=own_ne h.s.c h.s.b (by decide) j; rw [ob_eq,ob_eq] at this; exact this hj))
 ·exact keep (by decide) own5
 ·exact h.s.ab
 ·have:=g5.size; have:=h.sz; simp; omega
 ·refine Below.setCell (p:=⟨bc,4,none⟩) ?_ (Nat.le_trans hle h.lt) _
  exact hb.grown g5 hb.size (fun j hj=>by have:=hrow j hj; have:=h.lt; omega)
 ·exact blk_grown (blk_grown hB g5 (fun e=>by have:=hrow b e.symm; omega)) gs (fun e=>by injection e with e; exact hne e)
open Go.RowKit Go.Lib
set_option linter.unusedVariables false
def er (l:List Int) (i j:Nat):List Int:=(l.take j).eraseIdx i
open Go.RowKit Go.Lib
set_option linter.unusedVariables false
section
variable {ops:Array Oper} {o:Oper} {a:Act} {w:World} {K:Act→World→Prop} {Q' : Exit→Act→World→Prop} {E:Prop}
end
open Go.RowKit Go.Lib
set_option linter.unusedVariables false
end Go.Proofs.YtcnohlgigmmefaaGreat.Tb
