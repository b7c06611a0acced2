/- A part. -/
import Derived.WalkKit
import Derived.Orders
import Derived.Below
import Derived.Laws.Rows
import Derived.Laws.Tables
import Derived.Test.YtcnohlgigmmefaaGreatPClass
import Derived.Test.YtcnohlgigmmefaaGreatPLwE
import Derived.Test.YtcnohlgigmmefaaGreatPLwS
import Derived.Test.YtcnohlgigmmefaaGreatPLwQ
import Derived.Test.YtcnohlgigmmefaaGreatPLwV
namespace Go.Proofs.YtcnohlgigmmefaaGreat.NewC
open Go.RowKit Free
set_option linter.unusedVariables false
theorem geTrans {a b c:World} (h:Below a.heap.size a b) (k:Below b.heap.size b c):Below a.heap.size a c:=h.trans (k.mono h.size)
theorem below1 (w:World) (o:Obj):Below w.heap.size w (w.alloc o):=(Below.refl _ _).alloc (Nat.le_refl _) _
theorem put_ne {a:Act} {d j:Nat} (v:Value) (h:d≠j):(a.put (some d) v).tmps.getD j undef=a.tmps.getD j undef:=Free.slot_ne v h
theorem put_eq {a:Act} {d:Nat} (v:Value) (h:d<a.tmps.size):(a.put (some d) v).tmps.getD d undef=v:=by unfold Act.put; simp [h]
theorem set_self {listed:Array Bool} {i:Nat} (h:i<listed.size):(listed.setIfInBounds i true).getD i false=true:=by simp [h]
theorem not_listed {listed:Array Bool} {i:Nat} (hi:i<listed.size) (h:listed.getD i true=false):listed.getD i false=false:=by
 simp only [Array.getD_eq_getD_getElem?] at h ⊢
 have:listed[i]? = some (listed[i]'hi):=Array.getElem?_eq_getElem hi
 rw [this] at h ⊢
 exact h
theorem setRow_size (w:World) (g:Nat) (cs:Array Value):(w.setRow g cs).heap.size=w.heap.size:=by unfold World.setRow; simp
theorem row_below {a w:World} {n g:Nat} {cs:Array Value} (h:Below n a w) (hg:n≤g):Below n a (w.setRow g cs) :=
 ⟨h.os,h.tape,h.output,by rw [setRow_size]; exact h.size,fun k hk=>(setRow_other w g k cs (by omega)).trans (h.block k hk)⟩
structure Tells (R:(Nat→Prop)→Value→World→Prop):Prop where
 later:∀ {S u W W'},R S u W→Below W.heap.size W W'→R S u W'
 weak:∀ {S S' u W},R S u W→(∀ g,S' g→S g∨W.heap.size≤g)→R S' u W
 row:∀ {S u W g} (cs:Array Value),R S u W→S g→R S u (W.setRow g cs)
structure Nums where
 ic:Nat
 im:Nat
 ip:Nat
 ia:Nat
 ix:Nat
 sc:Nat
 sm:Nat
 sp:Nat
 sa:Nat
structure Nums.Ok (n:Nums):Prop where
 cm:n.ic≠n.im
 cp:n.ic≠n.ip
 ca:n.ic≠n.ia
 cx:n.ic≠n.ix
 mp:n.im≠n.ip
 ma:n.im≠n.ia
 mx:n.im≠n.ix
 pa:n.ip≠n.ia
 px:n.ip≠n.ix
 ax:n.ia≠n.ix
 scm:n.sc≠n.sm
 scp:n.sc≠n.sp
 sca:n.sc≠n.sa
 smp:n.sm≠n.sp
 sma:n.sm≠n.sa
 spa:n.sp≠n.sa
def Sf (n:Nums) (S:Nat→Prop) (listed:Array Bool) (a:Act) (g:Nat):Prop :=
 S g∨(listed.getD n.ia false=true∧a.tmps.getD n.sa undef=.pointer (some ⟨g,0,none⟩))
structure Cs (n:Nums) (w:World) (T:TypeId) (N:Nat) (y:Value) (R:(Nat→Prop)→Value→World→Prop) (S:Nat→Prop) (u:Value) (listed:Array Bool) (a:Act) (W:World):Prop where
 b:Below w.heap.size w W
 dc:listed.getD n.ic false=true→a.tmps.getD n.sc undef=.tuple #[u,y]∧R (Sf n S listed a) u W
 dm:listed.getD n.im false=true→listed.getD n.ic false=true∧a.tmps.getD n.sm undef=.tuple #[u,y]
 dp:listed.getD n.ip false=true→listed.getD n.im false=true∧a.tmps.getD n.sp undef=u
 da:listed.getD n.ia false=true→∃ b vs,a.tmps.getD n.sa undef=.pointer (some ⟨b,0,none⟩)∧w.heap.size≤b∧vs.size=N∧W.heap[b]? = some (.cells vs T (0,0))∧(listed.getD n.ix false=true→u=.agg vs)
 dx:listed.getD n.ix false=true→listed.getD n.ic false=true
 ex:listed.getD n.ix false=true→listed.getD n.ia false=true
def C (n:Nums) (w:World) (T:TypeId) (N:Nat) (y:Value) (R:(Nat→Prop)→Value→World→Prop) (S:Nat→Prop) (listed:Array Bool) (a:Act) (W:World):Prop:=∃ u,Cs n w T N y R S u listed a W
section
variable {n:Nums} {w W W' : World} {T:TypeId} {N:Nat} {y:Value} {R:(Nat→Prop)→Value→World→Prop} {S:Nat→Prop} {u:Value} {listed:Array Bool} {a:Act}
theorem C.start (k:Nat):C n w T N y R S (Array.replicate k false) a { w with drawn:=w.drawn+1 }:=by
 have h:∀ i,¬ (Array.replicate k false).getD i false=true:=fun i e=>by
  simp only [Array.getD_eq_getD_getElem?,Array.getElem?_replicate] at e
  split at e <;> simp at e
 exact ⟨undef,⟨(Below.refl _ _).drew,fun e=>absurd e (h _),fun e=>absurd e (h _),fun e=>absurd e (h _),fun e=>absurd e (h _),fun e=>absurd e (h _),fun e=>absurd e (h _)⟩⟩
theorem C.b (h:C n w T N y R S listed a W):Below w.heap.size w W:=by obtain ⟨u,h⟩:=h; exact h.b
theorem Sf.keep {i d:Nat} {x:Value} (h1:i≠n.ia) (hd:d≠n.sa) {g:Nat} (h:Sf n S (listed.setIfInBounds i true) (a.put (some d) x) g):Sf n S listed a g:=by
 unfold Sf at *
 rw [getD_set_ne false h1,put_ne x hd] at h
 exact h
theorem Cs.step (hR:Tells R) (h:Cs n w T N y R S u listed a W) (i d:Nat) (x:Value) (hi:i≠n.ic∧i≠n.im∧i≠n.ip∧i≠n.ia∧i≠n.ix) (hd:d≠n.sc∧d≠n.sm∧d≠n.sp∧d≠n.sa) (hb:Below W.heap.size W W') :
 Cs n w T N y R S u (listed.setIfInBounds i true) (a.put (some d) x) W':=by
 obtain ⟨i1,i2,i3,i4,i5⟩:=hi
 obtain ⟨s1,s2,s3,s4⟩:=hd
 refine ⟨geTrans h.b hb,?_,?_,?_,?_,?_,?_⟩
 ·rw [getD_set_ne false i1,put_ne x s1]
  exact fun e=>⟨(h.dc e).1,hR.weak (hR.later (h.dc e).2 hb) fun g hg=>.inl (hg.keep i4 s4)⟩
 ·rw [getD_set_ne false i2,getD_set_ne false i1,put_ne x s2]; exact h.dm
 ·rw [getD_set_ne false i3,getD_set_ne false i2,put_ne x s3]; exact h.dp
 ·rw [getD_set_ne false i4,getD_set_ne false i5,put_ne x s4]
  intro e
  obtain ⟨b,vs,e1,e2,e3,e4,e5⟩:=h.da e
  exact ⟨b,vs,e1,e2,e3,(hb.block b (Array.getElem?_eq_some_iff.1 e4).1).trans e4,e5⟩
 ·rw [getD_set_ne false i5,getD_set_ne false i1]; exact h.dx
 ·rw [getD_set_ne false i5,getD_set_ne false i4]; exact h.ex
theorem C.step (hR:Tells R) (h:C n w T N y R S listed a W) (i d:Nat) (x:Value) (hi:i≠n.ic∧i≠n.im∧i≠n.ip∧i≠n.ia∧i≠n.ix) (hd:d≠n.sc∧d≠n.sm∧d≠n.sp∧d≠n.sa) (hb:Below W.heap.size W W') :
 C n w T N y R S (listed.setIfInBounds i true) (a.put (some d) x) W':=by
 obtain ⟨u,h⟩:=h
 exact ⟨u,h.step hR i d x hi hd hb⟩
theorem C.call (hR:Tells R) (hn:n.Ok) (h:C n w T N y R S listed a W) (hno:listed.getD n.ic false=false) (ha:n.sc<a.tmps.size) {u:Value} (hu:R (fun g=>S g∨(w.heap.size≤g∧g<W.heap.size)) u W') (hb:Below W.heap.size W W') :
 C n w T N y R S (listed.setIfInBounds n.ic true) (a.put (some n.sc) (.tuple #[u,y])) W':=by
 obtain ⟨u0,h⟩:=h
 have nm:¬ listed.getD n.im false=true:=fun e=>by rw [(h.dm e).1] at hno; cases hno
 have np:¬ listed.getD n.ip false=true:=fun e=>nm (h.dp e).1
 have nx:¬ listed.getD n.ix false=true:=fun e=>by rw [h.dx e] at hno; cases hno
 refine ⟨u,⟨geTrans h.b hb,fun _=>⟨put_eq _ ha,hR.weak hu fun g hg=>?_⟩,?_,?_,?_,?_,?_⟩⟩
 ·rcases hg.keep hn.ca hn.sca with hg | ⟨e,hp⟩
  ·exact .inl (.inl hg)
  ·obtain ⟨b,vs,e1,e2,_,e4,_⟩:=h.da e
   rw [hp] at e1
   injection e1 with e1
   injection e1 with e1
   injection e1 with e1
   subst e1
   exact .inl (.inr ⟨e2,(Array.getElem?_eq_some_iff.1 e4).1⟩)
 ·rw [getD_set_ne false hn.cm]; exact fun e=>absurd e nm
 ·rw [getD_set_ne false hn.cp]; exact fun e=>absurd e np
 ·rw [getD_set_ne false hn.ca,getD_set_ne false hn.cx,put_ne _ hn.sca]
  intro e
  obtain ⟨b,vs,e1,e2,e3,e4,_⟩:=h.da e
  exact ⟨b,vs,e1,e2,e3,(hb.block b (Array.getElem?_eq_some_iff.1 e4).1).trans e4,fun e=>absurd e nx⟩
 ·rw [getD_set_ne false hn.cx]; exact fun e=>absurd e nx
 ·rw [getD_set_ne false hn.cx]; exact fun e=>absurd e nx
theorem Cs.alloc (hR:Tells R) (hn:n.Ok) (h:Cs n w T N y R S u listed a W) (hsz:n.ia<listed.size) (hno:listed.getD n.ia false=false) (ha:n.sa<a.tmps.size) (vs:Array Value) (hv:vs.size=N) :
 Cs n w T N y R S u (listed.setIfInBounds n.ia true) (a.put (some n.sa) (.pointer (some ⟨W.heap.size,0,none⟩))) (W.alloc (.cells vs T)):=by
 have hb:=below1 W (.cells vs T)
 have ea:=put_eq (.pointer (some ⟨W.heap.size,0,none⟩)) ha
 refine ⟨geTrans h.b hb,?_,?_,?_,fun _=>⟨W.heap.size,vs,ea,h.b.size,hv,heap_alloc_new W _,?_⟩,?_,?_⟩
 ·rw [getD_set_ne false hn.ca.symm,put_ne _ hn.sca.symm]
  refine fun e=>⟨(h.dc e).1,hR.weak (hR.later (hR.weak (S':=fun g=>Sf n S listed a g∨W.heap.size≤g) (h.dc e).2 fun g hg=>hg) hb) fun g hg=>?_⟩
  rcases hg with hg | ⟨_,hp⟩
  ·exact .inl (.inl (.inl hg))
  ·rw [ea] at hp
   injection hp with hp
   injection hp with hp
   injection hp with hp
   exact .inl (.inr (by omega))
 ·rw [getD_set_ne false hn.ma.symm,getD_set_ne false hn.ca.symm,put_ne _ hn.sma.symm]; exact h.dm
 ·rw [getD_set_ne false hn.pa.symm,getD_set_ne false hn.ma.symm,put_ne _ hn.spa.symm]; exact h.dp
 ·rw [getD_set_ne false hn.ax]
  exact fun e=>by rw [h.ex e] at hno; cases hno
 ·rw [getD_set_ne false hn.ax,getD_set_ne false hn.ca.symm]; exact h.dx
 ·exact fun _=>set_self hsz
theorem Cs.store (hR:Tells R) (hn:n.Ok) (h:Cs n w T N y R S u listed a W) (hlc:listed.getD n.ic false=true) (hla:listed.getD n.ia false=true) {b:Nat} {vs us:Array Value} (e1:a.tmps.getD n.sa undef=.pointer (some ⟨b,0,none⟩)) (hb:w.heap.size≤b) (hB:W.heap[b]? = some (.cells vs T (0,0))) (hu:us.size=N) (hus:u=.agg us) :
 Cs n w T N y R S u (listed.setIfInBounds n.ix true) (a.put none undef) (W.setRow b us):=by
 refine ⟨row_below h.b hb,?_,?_,?_,?_,?_,?_⟩
 ·rw [getD_set_ne false hn.cx.symm]
  refine fun e=>⟨(h.dc e).1,hR.weak (hR.row us (h.dc e).2 (.inr ⟨hla,e1⟩)) fun g hg=>?_⟩
  unfold Sf at hg
  rw [getD_set_ne false hn.ax.symm] at hg
  exact .inl hg
 ·rw [getD_set_ne false hn.mx.symm,getD_set_ne false hn.cx.symm]; exact h.dm
 ·rw [getD_set_ne false hn.px.symm,getD_set_ne false hn.mx.symm]; exact h.dp
 ·refine fun _=>⟨b,us,e1,hb,hu,?_,fun _=>hus⟩
  unfold World.setRow
  rw [Array.getElem?_modify,if_pos rfl,hB]
  rfl
 ·rw [getD_set_ne false hn.cx.symm]; exact fun _=>hlc
 ·rw [getD_set_ne false hn.ax.symm]; exact fun _=>hla
end
end Go.Proofs.YtcnohlgigmmefaaGreat.NewC
namespace Go.Proofs.YtcnohlgigmmefaaGreat.Lg
open Go.RowKit Go.Lib
open Tb (Tab TIn Sl okP csT lastN nth Fresh)
open Dk (St Only Grew)
set_option linter.unusedVariables false
set_option maxRecDepth 100000
def csL (d:Nat) (sg st:Int) (A:Option Addr) (m p:Nat) (B:Option Addr) (k q:Nat) (C:Option Addr) (n r:Nat) (ls ep gn:Int):Array Value:=#[.pointer (some ⟨d,0,none⟩),.int .i64 sg,.int .i64 st,.slice A m p,.slice B k q,.slice C n r,.int .u64 ls,.int .u32 ep,.int .u64 gn]
def Nb3 (A B C:Option Addr) (g:Nat):Prop:=(∀ a,A=some a→a.block≠g)∧(∀ a,B=some a→a.block≠g)∧(∀ a,C=some a→a.block≠g)
theorem sl_same {κ:IntKind} {W W' : World} {A:Option Addr} {m:Nat} {l:List Int} {G:Nat→Prop} (h:Sl κ W A m l) (hA:∀ a,A=some a→G a.block) (hs:∀ i,G i→W'.heap[i]? = W.heap[i]?) (hz:W.heap.size≤W'.heap.size):Sl κ W' A m l:=by
 refine ⟨h.len,fun hm=>?_⟩
 obtain ⟨b,o,rfl,hb,hc⟩:=h.cells hm
 exact ⟨b,o,rfl,by omega,fun j hj=>(World.cell?_of_block (w:=W) (hs b (hA _ rfl))).trans (hc j hj)⟩
theorem fresh_nb {W0:World} {base m g:Nat} {A:Option Addr} (h:Fresh W0 base A m) (hm:0<m) (hg:g<base):∀ a,A=some a→a.block≠g:=by
 obtain ⟨b,o,rfl,hb,_⟩:=h hm
 rintro a ha
 injection ha with ha
 subst ha
 simp only
 omega
theorem sl_nb {κ:IntKind} {W:World} {A:Option Addr} {m:Nat} {l:List Int} (h:Sl κ W A m l) (hm:0<m) {g:Nat} (hg:W.heap.size≤g):∀ a,A=some a→a.block≠g:=by
 obtain ⟨b,o,rfl,hb,_⟩:=h.cells hm
 rintro a ha
 injection ha with ha
 subst ha
 simp only
 omega
theorem tin_nb {t:Tab} {W:World} {A:Option Addr} {m:Nat} {B:Option Addr} {k:Nat} {C:Option Addr} {n:Nat} (hok:okP t) (h:TIn W A m B k C n t.o t.l t.f) {g:Nat} (hg:W.heap.size≤g):Nb3 A B C g:=by
 have h1:=Tb.ok_full hok h
 exact ⟨sl_nb h.a (by omega) hg,sl_nb h.b (by omega) hg,sl_nb h.c (by omega) hg⟩
theorem fresh_nb3 {t:Tab} {W W0:World} {base:Nat} {A:Option Addr} {m:Nat} {B:Option Addr} {k:Nat} {C:Option Addr} {n:Nat} (hok:okP t) (h:TIn W A m B k C n t.o t.l t.f) (hf:Fresh W0 base A m∧Fresh W0 base B k∧Fresh W0 base C n) {g:Nat} (hg:g<base):Nb3 A B C g:=by
 have h1:=Tb.ok_full hok h
 exact ⟨fresh_nb hf.1 (by omega) hg,fresh_nb hf.2.1 (by omega) hg,fresh_nb hf.2.2 (by omega) hg⟩
theorem sl_row {κ:IntKind} {W:World} {A:Option Addr} {m:Nat} {l:List Int} (h:Sl κ W A m l) {g:Nat} (hg:∀ a,A=some a→a.block≠g) (cs:Array Value):Sl κ (W.setRow g cs) A m l:=by
 refine ⟨h.len,fun hm=>?_⟩
 obtain ⟨b,o,rfl,hb,hc⟩:=h.cells hm
 have hne:b≠g:=hg _ rfl
 exact ⟨b,o,rfl,by rw [Tb.row_size]; exact hb,fun j hj=>(World.cell?_of_block (w:=W) (setRow_other W g b cs hne)).trans (hc j hj)⟩
theorem tin_row {W:World} {A:Option Addr} {m:Nat} {B:Option Addr} {k:Nat} {C:Option Addr} {n:Nat} {o l f:List Int} (h:TIn W A m B k C n o l f) {g:Nat} (hg:Nb3 A B C g) (cs:Array Value):TIn (W.setRow g cs) A m B k C n o l f :=
 ⟨sl_row h.a hg.1 cs,sl_row h.b hg.2.1 cs,sl_row h.c hg.2.2 cs⟩
structure LogIn (T:TypeId) (w:World) (g d:Nat) (A:Option Addr) (m p:Nat) (B:Option Addr) (k q:Nat) (C:Option Addr) (n r:Nat) (G:Nat→Prop) (t:Tab) (ls ep gn:Int):Prop where
 blk:Tb.Blk w g T (csL d t.sg t.st A m p B k q C n r ls ep gn)
 tin:TIn w A m B k C n t.o t.l t.f
 gg:G g
 ga:∀ a,A=some a→G a.block
 gb:∀ a,B=some a→G a.block
 gc:∀ a,C=some a→G a.block
 nb:Nb3 A B C g
 lt:∀ b,G b→b<w.heap.size
 ok:okP t
theorem LogIn.same {T:TypeId} {w w' : World} {g d:Nat} {A:Option Addr} {m p:Nat} {B:Option Addr} {k q:Nat} {C:Option Addr} {n r:Nat} {G:Nat→Prop} {t:Tab} {ls ep gn:Int} (D:LogIn T w g d A m p B k q C n r G t ls ep gn) (hs:∀ i,G i→w'.heap[i]? = w.heap[i]?) (hz:w.heap.size≤w'.heap.size):LogIn T w' g d A m p B k q C n r G t ls ep gn :=
 ⟨(hs g D.gg).trans D.blk,⟨sl_same D.tin.a D.ga hs hz,sl_same D.tin.b D.gb hs hz,sl_same D.tin.c D.gc hs hz⟩,D.gg,D.ga,D.gb,D.gc,D.nb,fun b hb=>Nat.lt_of_lt_of_le (D.lt b hb) hz,D.ok⟩
def logI (T:TypeId) (g d:Nat) (t:Tab) (ls ep gn:Int):Dk.Item :=
 ⟨fun w G=>∃ A m p B k q C n r,LogIn T w g d A m p B k q C n r G t ls ep gn,fun ⟨A,m,p,B,k,q,C,n,r,D⟩ hs hz=>⟨A,m,p,B,k,q,C,n,r,D.same hs hz⟩,fun ⟨_,_,_,_,_,_,_,_,_,D⟩=>D.lt⟩
section
variable {T:TypeId} {W w w' : World} {items:List Dk.Item} {g d:Nat} {t t' : Tab} {ls ep gn:Int} {j:Nat}
theorem log_at (h:Dk.Sep W w items) (hj:items[j]? = some (logI T g d t ls ep gn)) :
 ∃ A m p B k q C n r,Tb.Blk w g T (csL d t.sg t.st A m p B k q C n r ls ep gn)∧TIn w A m B k C n t.o t.l t.f∧Nb3 A B C g∧okP t:=by
 obtain ⟨G,⟨A,m,p,B,k,q,C,n,r,D⟩,_⟩:=h.at_ j hj
 exact ⟨A,m,p,B,k,q,C,n,r,D.blk,D.tin,D.nb,D.ok⟩
theorem log_ok (h:Dk.Sep W w items) (hj:items[j]? = some (logI T g d t ls ep gn)):okP t:=by
 obtain ⟨_,_,_,_,_,_,_,_,_,_,_,_,ok⟩:=log_at h hj
 exact ok
theorem set_row {w:World} {g:Nat} {t:TypeId} {cs:Array Value} (h:Tb.Blk w g t cs) (i:Nat) (u:Value):w.setCell ⟨g,i,none⟩ u=w.setRow g (cs.setIfInBounds i u):=by
 unfold Tb.Blk at h
 unfold World.setCell World.setRow
 congr 1
 apply Array.ext
 ·simp
 ·intro x h1 h2
  simp only [Array.getElem_modify]
  by_cases e:g=x
  ·subst e
   obtain ⟨hlt,hx⟩:=Array.getElem?_eq_some_iff.1 h
   simp [hx]
  ·simp [e]
theorem row_row (w:World) (g:Nat) (c1 c2:Array Value):(w.setRow g c1).setRow g c2=w.setRow g c2:=by
 unfold World.setRow
 congr 1
 apply Array.ext_getElem?
 intro x
 rw [Array.getElem?_modify,Array.getElem?_modify,Array.getElem?_modify]
 by_cases e:g=x
 ·rw [if_pos e,if_pos e,if_pos e]
  cases w.heap[x]? with
  | none=>rfl
  | some o=>cases o <;> rfl
 ·rw [if_neg e,if_neg e,if_neg e]
theorem tab_cells {A0:Option Addr} {m0 p0:Nat} {B0:Option Addr} {k0 q0:Nat} {C0:Option Addr} {n0 r0:Nat} (hB:Tb.Blk w g T (csL d t.sg t.st A0 m0 p0 B0 k0 q0 C0 n0 r0 ls ep gn)) (sg st:Int) (A:Option Addr) (m p:Nat) (B:Option Addr) (k q:Nat) (C:Option Addr) (n r:Nat):w.setCells g 1 [.int .i64 sg,.int .i64 st,.slice A m p,.slice B k q,.slice C n r]=w.setRow g (csL d sg st A m p B k q C n r ls ep gn):=by
 simp only [World.setCells]
 have e1:=set_row hB 1 (.int .i64 sg)
 rw [e1]
 have hB1:=hB.row ((csL d t.sg t.st A0 m0 p0 B0 k0 q0 C0 n0 r0 ls ep gn).setIfInBounds 1 (.int .i64 sg))
 rw [set_row hB1]
 have hB2:=hB1.row (((csL d t.sg t.st A0 m0 p0 B0 k0 q0 C0 n0 r0 ls ep gn).setIfInBounds 1 (.int .i64 sg)).setIfInBounds 2 (.int .i64 st))
 rw [set_row hB2]
 have hB3:=hB2.row ((((csL d t.sg t.st A0 m0 p0 B0 k0 q0 C0 n0 r0 ls ep gn).setIfInBounds 1 (.int .i64 sg)).setIfInBounds 2 (.int .i64 st)).setIfInBounds 3 (.slice A m p))
 rw [set_row hB3]
 have hB4:=hB3.row (((((csL d t.sg t.st A0 m0 p0 B0 k0 q0 C0 n0 r0 ls ep gn).setIfInBounds 1 (.int .i64 sg)).setIfInBounds 2 (.int .i64 st)).setIfInBounds 3 (.slice A m p)).setIfInBounds 4 (.slice B k q))
 rw [set_row hB4]
 rw [row_row,row_row,row_row,row_row]
 rfl
end
section
variable {ops:Array Oper} {rest:List Oper} {o:Oper} {a:Act} {w:World} {Q:Exit→Act→World→Prop}
end
end Go.Proofs.YtcnohlgigmmefaaGreat.Lg
namespace Go.Proofs.YtcnohlgigmmefaaGreat.FreeD
open Go.RowKit Free
def Dep (ops:Array Oper) (listed:Array Bool):Prop:=∀ i o,ops[i]? = some o→listed.getD i false=true→∀ e∈o.after,Region.binds .any e=true→listed.getD e.on false=true
def waits (ops:Array Oper) (i:Nat):Nat→Nat→Bool
 | 0,x=>x == i
 | f+1,x=>x == i || match ops[x]? with
   | none=>false
   | some o=>o.after.toList.any fun e=>Region.binds .any e && waits ops i f e.on
theorem Dep.back {ops:Array Oper} {listed:Array Bool} (h:Dep ops listed) {i:Nat}:∀ (f x:Nat),waits ops i f x=true→listed.getD x false=true→listed.getD i false=true
 | 0,x,hw,hl=>by
   unfold waits at hw
   rw [beq_iff_eq] at hw
   rw [← hw]; exact hl
 | f+1,x,hw,hl=>by
   unfold waits at hw
   rw [Bool.or_eq_true] at hw
   rcases hw with hw|hw
   ·rw [beq_iff_eq] at hw
    rw [← hw]; exact hl
   ·cases ho:ops[x]? with
    | none=>rw [ho] at hw; cases hw
    | some o =>
      rw [ho] at hw
      simp only [List.any_eq_true,Bool.and_eq_true] at hw
      obtain ⟨e,he,hb,hr⟩:=hw
      exact h.back f e.on hr (h x o ho hl e (by simpa using he) hb)
theorem Dep.not_yet {ops:Array Oper} {listed:Array Bool} (h:Dep ops listed) {i x f:Nat} (hw:waits ops i f x=true) (hn:listed.getD i false=false):listed.getD x false=false:=by
 cases hl:listed.getD x false with
 | false=>rfl
 | true=>rw [h.back f x hw hl] at hn; cases hn
section
variable (P:Program) (ops:Array Oper) (VL:List (World→Value→Prop)) (C:Array Bool→Act→World→Prop) (a0:Act)
def Step (Q:Exit→Act→World→Prop) (i:Nat) (o:Oper):Prop :=
 ∀ (listed:Array Bool) (a:Act) (w:World),FreeC.At ops VL C a0 listed a w→Dep ops listed→listed.getD i true=false→(∀ e∈o.after,Region.binds .any e=true→listed.getD e.on false=true) →
   ∀ K:Act→World→Prop,(∀ v w',C (listed.setIfInBounds i true) (a.put o.dst v) w'→V VL i w' (match o.dst with|some _=>v|none=>undef)→(∀ j u,j≠i→listed.getD j false=true→V VL j w u→V VL j w' u)→K (a.put o.dst v) w')→o.wp P a w K Q
def Steps (Q:Exit→Act→World→Prop):Nat→List Oper→Prop
 | _,[]=>True
 | k,o :: l=>Step P ops VL C a0 Q k o∧Steps Q (k+1) l
end
section
variable {P:Program} {ops:Array Oper} {VL:List (World→Value→Prop)} {C:Array Bool→Act→World→Prop} {a0:Act}
theorem at_of {listed:Array Bool} {a:Act} {w:World} (h:FreeC.At ops VL (fun l a w=>C l a w∧Dep ops l) a0 listed a w):FreeC.At ops VL C a0 listed a w:=⟨h.size,h.slots,h.defers,h.c.1,h.val,h.kept⟩
theorem step_of {Q:Exit→Act→World→Prop} {i:Nat} {o:Oper} (ho:ops[i]? = some o) (h:Step P ops VL C a0 Q i o):FreeC.Step P ops VL (fun l a w=>C l a w∧Dep ops l) a0 Q i o:=by
 intro listed a w hA hno hr K hK
 refine h listed a w (at_of hA) hA.c.2 hno hr K fun v w' hC hV hP=>hK v w' ⟨hC,?_⟩ hV hP
 intro j oj hj hl e he hb
 by_cases hji:j=i
 ·subst hji
  rw [ho] at hj
  injection hj with hj
  subst hj
  have:=hr e he hb
  by_cases hei:j=e.on
  ·rw [← hei] at this
   have hlt:j<listed.size:=by rw [hA.size]; exact (Array.getElem?_eq_some_iff.1 ho).1
   rw [← hei]; simp [hlt]
  ·rw [getD_set_ne false hei]; exact this
 ·rw [getD_set_ne false (Ne.symm hji)] at hl
  have:=hA.c.2 j oj hj hl e he hb
  by_cases hei:i=e.on
  ·subst hei
   have hlt:e.on<listed.size:=by rw [hA.size]; exact (Array.getElem?_eq_some_iff.1 ho).1
   simp [hlt]
  ·rw [getD_set_ne false hei]; exact this
theorem steps_of {Q:Exit→Act→World→Prop}:∀ (l:List Oper) (k:Nat),(∀ j o,l[j]? = some o→ops[k+j]? = some o)→Steps P ops VL C a0 Q k l→FreeC.Steps P ops VL (fun l a w=>C l a w∧Dep ops l) a0 Q k l
 | [],_,_,_=>trivial
 | o :: l,k,hk,hs=>⟨step_of (by have:=hk 0 o (by simp); simpa using this) hs.1,steps_of l (k+1) (fun j o hj=>by have:=hk (j+1) o (by simpa using hj); rw [show k+1+j=k+(j+1) by omega]; exact this) hs.2⟩
theorem wp_freeD {id:Nat} {Q:Exit→Act→World→Prop} {w:World} {l:List Oper} (VL:List (World→Value→Prop)) (C:Array Bool→Act→World→Prop)
 (hm:P.follows .mixedOrders=true) (hB:okB l.toArray a0.tmps.size=true) (hC:C (Array.replicate l.length false) a0 { w with drawn:=w.drawn+1 })
 (hS:Steps P l.toArray VL C a0 Q 0 l)
 (fin:∀ a w,FreeC.At l.toArray VL C a0 (Array.replicate l.length true) a w→Q .normal a w):(Code.region id l.toArray true).wp P Q a0 w:=by
 refine FreeC.wp_freeC VL (fun li a w=>C li a w∧Dep l.toArray li) hm hB ⟨hC,fun i o hi hl=>?_⟩ (steps_of l 0 (fun j o hj=>by rw [Nat.zero_add]; simpa using hj) hS) (fun a w h=>fin a w (at_of h))
 exfalso
 simp only [Array.getD_eq_getD_getElem?,Array.getElem?_replicate] at hl
 split at hl <;> simp at hl
end
structure Last (w:World) (x:Nat) (P:World→Prop) (listed:Array Bool) (a:Act) (W:World):Prop where
 bef:listed.getD x false=false→Below w.heap.size w W
 aft:listed.getD x false=true→P W
section
variable {w W W' : World} {x:Nat} {P:World→Prop} {listed:Array Bool} {a a' : Act}
theorem Last.start (w:World) (x:Nat) (P:World→Prop) (k:Nat) (a:Act):Last w x P (Array.replicate k false) a { w with drawn:=w.drawn+1 } :=
 ⟨fun _=>(Below.refl _ _).drew,fun e=>by
  simp only [Array.getD_eq_getD_getElem?,Array.getElem?_replicate] at e
  split at e <;> simp at e⟩
theorem Last.step (h:Last w x P listed a W) {i:Nat} (hi:i≠x) (hx:listed.getD x false=false) (hb:Below W.heap.size W W'):Last w x P (listed.setIfInBounds i true) a' W':=by
 have e:(listed.setIfInBounds i true).getD x false=listed.getD x false:=getD_set_ne false hi
 exact ⟨fun _=>(h.bef hx).trans (hb.mono (h.bef hx).size),fun e2=>by rw [e,hx] at e2; cases e2⟩
theorem Last.still (h:Last w x P listed a W) {i:Nat} (hi:i≠x):Last w x P (listed.setIfInBounds i true) a' W:=by
 have e:(listed.setIfInBounds i true).getD x false=listed.getD x false:=getD_set_ne false hi
 exact ⟨by rw [e]; exact h.bef,by rw [e]; exact h.aft⟩
theorem Last.last (hsz:x<listed.size) (hp:P W'):Last w x P (listed.setIfInBounds x true) a' W' :=
 ⟨fun e=>by simp [hsz] at e,fun _=>hp⟩
end
def wl (vs:List (Option Value)):List (World→Value→Prop):=vs.map fun o _ u=>match o with|none=>True|some v=>u=v
theorem wl_any {vs:List (Option Value)} {j:Nat} {W W' : World} {u:Value} (h:Free.V (wl vs) j W u):Free.V (wl vs) j W' u:=by
 unfold Free.V wl at *
 simp only [List.getD_eq_getElem?_getD,List.getElem?_map] at h ⊢
 cases hi:vs[j]? with
 | none=>rw [hi] at h; exact h
 | some c=>rw [hi] at h; exact h
theorem slot_is {xs:Array Value} {n:Nat} {v:Value} (h:xs.getD n undef=v):xs[n]?.getD undef=v:=by simpa using h
theorem not_listed {listed:Array Bool} {i:Nat} (hi:i<listed.size) (h:listed.getD i true=false):listed.getD i false=false:=by
 simp only [Array.getD_eq_getD_getElem?] at h ⊢
 have:listed[i]? = some (listed[i]'hi):=Array.getElem?_eq_getElem hi
 rw [this] at h ⊢
 exact h
end Go.Proofs.YtcnohlgigmmefaaGreat.FreeD
