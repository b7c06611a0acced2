/- A part. -/
import Derived.Test.YtdpmjlbkojhooaaGreatQLgL
import Derived.Test.YtdpmjlbkojhooaaGreatQLgB
namespace Go.Proofs.YtdpmjlbkojhooaaGreat.Lg
open Go.RowKit Go.Lib
open Tb (Tab TIn Sl okP csT lastN nth Fresh)
open Dk (St Only Grew)
set_option linter.unusedVariables false
set_option maxRecDepth 100000
structure Kp where
 A:Option Addr
 m:Nat
 p:Nat
 B:Option Addr
 k:Nat
 q:Nat
 C:Option Addr
 n:Nat
 r:Nat
 t:Tab
structure KIn (w:World) (G:Nat→Prop) (g:Nat) (x:Kp):Prop where
 tin:TIn w x.A x.m x.B x.k x.C x.n x.t.o x.t.l x.t.f
 ga:∀ a,x.A=some a→G a.block
 gb:∀ a,x.B=some a→G a.block
 gc:∀ a,x.C=some a→G a.block
 nb:Nb3 x.A x.B x.C g
 ok:okP x.t
section
variable {w w' : World} {G G' : Nat→Prop} {g:Nat} {x:Kp}
theorem KIn.same (h:KIn w G g x) (hs:∀ i,G i→w'.heap[i]? = w.heap[i]?) (hz:w.heap.size≤w'.heap.size):KIn w' G g x :=
 ⟨⟨sl_same h.tin.a h.ga hs hz,sl_same h.tin.b h.gb hs hz,sl_same h.tin.c h.gc hs hz⟩,h.ga,h.gb,h.gc,h.nb,h.ok⟩
theorem KIn.grow (h:KIn w G g x) (hg:∀ b,G b→G' b):KIn w G' g x :=
 ⟨h.tin,fun a e=>hg _ (h.ga a e),fun a e=>hg _ (h.gb a e),fun a e=>hg _ (h.gc a e),h.nb,h.ok⟩
theorem KIn.later (h:KIn w G g x) (hb:Below w.heap.size w w'):KIn w' G g x:=⟨h.tin.later hb,h.ga,h.gb,h.gc,h.nb,h.ok⟩
theorem KIn.row (h:KIn w G g x) (cs:Array Value):KIn (w.setRow g cs) G g x:=⟨tin_row h.tin h.nb cs,h.ga,h.gb,h.gc,h.nb,h.ok⟩
end
def logX (T:TypeId) (g d:Nat) (t:Tab) (ls ep gn:Int) (K:Kp):Dk.Item :=
 ⟨fun w G=>(∃ A m p B k q C n r,LogIn T w g d A m p B k q C n r G t ls ep gn)∧KIn w G g K,fun ⟨⟨A,m,p,B,k,q,C,n,r,D⟩,h⟩ hs hz=>⟨⟨A,m,p,B,k,q,C,n,r,D.same hs hz⟩,h.same hs hz⟩,fun ⟨⟨_,_,_,_,_,_,_,_,_,D⟩,_⟩=>D.lt⟩
section
variable {T:TypeId} {W w w' : World} {items:List Dk.Item} {g d:Nat} {t t' : Tab} {ls ep gn:Int} {j:Nat} {K:Kp}
theorem x_at (h:Dk.Sep W w items) (hj:items[j]? = some (logX T g d t ls ep gn K)) :
 ∃ A m p B k q C n r,Tb.Blk w g T (csL d t.sg t.st A m p B k q C n r ls ep gn)∧TIn w A m B k C n t.o t.l t.f∧Nb3 A B C g∧okP t:=by
 obtain ⟨G,⟨⟨A,m,p,B,k,q,C,n,r,D⟩,_⟩,_⟩:=h.at_ j hj
 exact ⟨A,m,p,B,k,q,C,n,r,D.blk,D.tin,D.nb,D.ok⟩
theorem x_ok (h:Dk.Sep W w items) (hj:items[j]? = some (logX T g d t ls ep gn K)):okP t:=by
 obtain ⟨_,_,_,_,_,_,_,_,_,_,_,_,ok⟩:=x_at h hj
 exact ok
theorem x_keep (h:Dk.Sep W w items) (hj:items[j]? = some (logI T g d t ls ep gn)) :
 ∃ A m p B k q C n r,Tb.Blk w g T (csL d t.sg t.st A m p B k q C n r ls ep gn)∧Dk.Sep W w (items.set j (logX T g d t ls ep gn ⟨A,m,p,B,k,q,C,n,r,t⟩)):=by
 obtain ⟨G,⟨A,m,p,B,k,q,C,n,r,D⟩,hN,_,hset⟩:=h.at_ j hj
 exact ⟨A,m,p,B,k,q,C,n,r,D.blk,hset w G _ ⟨⟨A,m,p,B,k,q,C,n,r,D⟩,⟨D.tin,D.ga,D.gb,D.gc,D.nb,D.ok⟩⟩ (Grew.refl _ _) (Only.refl _ w)⟩
theorem x_forget (h:Dk.Sep W w items) (hj:items[j]? = some (logX T g d t ls ep gn K)):Dk.Sep W w (items.set j (logI T g d t ls ep gn)):=by
 obtain ⟨G,⟨D,_⟩,hN,_,hset⟩:=h.at_ j hj
 exact hset w G _ D (Grew.refl _ _) (Only.refl _ w)
theorem x_back (h:Dk.Sep W w items) (hj:items[j]? = some (logX T g d t ls ep gn K)) (ls' ep' gn' : Int) :
 (∃ cs,cs.size=9∧Tb.Blk w g T cs)∧Dk.Sep W (w.setRow g (csL d K.t.sg K.t.st K.A K.m K.p K.B K.k K.q K.C K.n K.r ls' ep' gn')) (items.set j (logI T g d K.t ls' ep' gn')):=by
 obtain ⟨G,⟨⟨A,m,p,B,k,q,C,n,r,D⟩,h2⟩,hN,_,hset⟩:=h.at_ j hj
 refine ⟨⟨_,rfl,D.blk⟩,hset _ G _ ⟨K.A,K.m,K.p,K.B,K.k,K.q,K.C,K.n,K.r,?_⟩ (Grew.refl _ _) ((Only.refl _ w).setRow (.inl D.gg) _)⟩
 exact ⟨D.blk.row _,tin_row h2.tin h2.nb _,D.gg,h2.ga,h2.gb,h2.gc,h2.nb,fun b hb=>by rw [Tb.row_size]; exact D.lt b hb,h2.ok⟩
theorem x_row (h:Dk.Sep W w items) (hj:items[j]? = some (logX T g d t ls ep gn K)) (ls' ep' gn' : Int) :
 ∃ A m p B k q C n r,Tb.Blk w g T (csL d t.sg t.st A m p B k q C n r ls ep gn)∧TIn w A m B k C n t.o t.l t.f∧Dk.Sep W (w.setRow g (csL d t.sg t.st A m p B k q C n r ls' ep' gn')) (items.set j (logX T g d t ls' ep' gn' K)):=by
 obtain ⟨G,⟨⟨A,m,p,B,k,q,C,n,r,D⟩,h2⟩,hN,_,hset⟩:=h.at_ j hj
 refine ⟨A,m,p,B,k,q,C,n,r,D.blk,D.tin,hset _ G _ ⟨⟨A,m,p,B,k,q,C,n,r,?_⟩,h2.row _⟩ (Grew.refl _ _) ((Only.refl _ w).setRow (.inl D.gg) _)⟩
 exact ⟨D.blk.row _,tin_row D.tin D.nb _,D.gg,D.ga,D.gb,D.gc,D.nb,fun b hb=>by rw [Tb.row_size]; exact D.lt b hb,D.ok⟩
theorem x_lsn (h:Dk.Sep W w items) (hj:items[j]? = some (logX T g d t ls ep gn K)) (x:Int):Dk.Sep W (w.setCell ⟨g,6,none⟩ (.int .u64 x)) (items.set j (logX T g d t x ep gn K)):=by
 obtain ⟨A,m,p,B,k,q,C,n,r,hB,_,hS⟩:=x_row h hj x ep gn
 rw [set_row hB]
 exact hS
theorem x_gen (h:Dk.Sep W w items) (hj:items[j]? = some (logX T g d t ls ep gn K)) (x:Int):Dk.Sep W (w.setCell ⟨g,8,none⟩ (.int .u64 x)) (items.set j (logX T g d t ls ep x K)):=by
 obtain ⟨A,m,p,B,k,q,C,n,r,hB,_,hS⟩:=x_row h hj ls ep x
 rw [set_row hB]
 exact hS
theorem x_tab (h:Dk.Sep W w items) (hj:items[j]? = some (logX T g d t ls ep gn K)) (hb:Below w.heap.size w w') {W0:World} {A:Option Addr} {m p:Nat} {B:Option Addr} {k q:Nat} {C:Option Addr} {n r:Nat} (ht:TIn w' A m B k C n t'.o t'.l t'.f) (hok:okP t') (hf:Fresh W0 w.heap.size A m∧Fresh W0 w.heap.size B k∧Fresh W0 w.heap.size C n) :
 Dk.Sep W (w'.setRow g (csL d t'.sg t'.st A m p B k q C n r ls ep gn)) (items.set j (logX T g d t' ls ep gn K)):=by
 obtain ⟨G,⟨⟨A0,m0,p0,B0,k0,q0,C0,n0,r0,D⟩,h2⟩,hN,_,hset⟩:=h.at_ j hj
 have hgw:g<w.heap.size:=D.lt g D.gg
 have h1:=Tb.ok_full hok ht
 obtain ⟨ba,oa,rfl,hba,_⟩:=ht.a.cells (by omega)
 obtain ⟨bb,ob,rfl,hbb,_⟩:=ht.b.cells (by omega)
 obtain ⟨bc,oc,rfl,hbc,_⟩:=ht.c.cells (by omega)
 have na:=fresh_nb3 hok ht hf hgw
 have fa:w.heap.size≤ba:=by obtain ⟨b,o,e,hle,_⟩:=hf.1 (by omega); injection e with e; injection e with e1; omega
 have fb:w.heap.size≤bb:=by obtain ⟨b,o,e,hle,_⟩:=hf.2.1 (by omega); injection e with e; injection e with e1; omega
 have fc:w.heap.size≤bc:=by obtain ⟨b,o,e,hle,_⟩:=hf.2.2 (by omega); injection e with e; injection e with e1; omega
 refine hset _ (fun b=>G b∨b=ba∨b=bb∨b=bc) _ ⟨⟨_,m,p,_,k,q,_,n,r,⟨(D.blk.later hb).row _,tin_row ht na _,.inl D.gg,?_,?_,?_,na,?_,hok⟩⟩,((h2.later hb).row _).grow fun b hG=>.inl hG⟩ ?_ (((Only.refl _ w).of_below hb).setRow (.inl D.gg) _)
 ·rintro a ha; injection ha with ha; subst ha; exact .inr (.inl rfl)
 ·rintro a ha; injection ha with ha; subst ha; exact .inr (.inr (.inl rfl))
 ·rintro a ha; injection ha with ha; subst ha; exact .inr (.inr (.inr rfl))
 ·rintro b (hG|rfl|rfl|rfl)
  ·rw [Tb.row_size]; exact Nat.lt_of_lt_of_le (D.lt b hG) hb.size
  ·rw [Tb.row_size]; exact hba
  ·rw [Tb.row_size]; exact hbb
  ·rw [Tb.row_size]; exact hbc
 ·rintro b (hG|rfl|rfl|rfl)
  ·exact .inl hG
  ·exact .inr fa
  ·exact .inr fb
  ·exact .inr fc
end
theorem info_lg:(Tryz.prog.info? 135).map (·.size)=some 9:=by kernel_rfl
theorem info_tp:(Tryz.prog.info? 64).map (·.size)=some 5:=by kernel_rfl
theorem csL_one (d:Nat) (sg st:Int) (A:Option Addr) (m p:Nat) (B:Option Addr) (k q:Nat) (C:Option Addr) (n r:Nat) (ls ep gn:Int):(csL d sg st A m p B k q C n r ls ep gn).all (·.oneCell')=true:=by simp [csL,Value.oneCell']
section
variable {ops:Array Oper} {rest:List Oper} {o:Oper} {a:Act} {w:World} {Q:Exit→Act→World→Prop}
theorem load_pt (hgd:o.guard=none) (x:Operand) (ho:o.op=.load 64 x) (g:Nat) (hx:a.eval x=.pointer (some ⟨g,1,none⟩)) {sg st:Int} {A:Option Addr} {m p:Nat} {B:Option Addr} {k q:Nat} {C:Option Addr} {n r:Nat} {d:Nat} {T:TypeId} {ls ep gn:Int} (hB:Tb.Blk w g T (csL d sg st A m p B k q C n r ls ep gn))
 (h:wpList Tryz.prog ops Q rest (a.put o.dst (.agg #[.int .i64 sg,.int .i64 st,.slice A m p,.slice B k q,.slice C n r])) w):wpList Tryz.prog ops Q (o :: rest) a w :=
 wpList_load_mid hgd _ x ho g 1 hx [.int .i64 sg,.int .i64 st,.slice A m p,.slice B k q,.slice C n r] _ (fun j v hv=>by
  have hj:j<5:=(List.getElem?_eq_some_iff.1 hv).1
  rw [hB.cell]
  rcases (by omega:j=0∨j=1∨j=2∨j=3∨j=4) with rfl|rfl|rfl|rfl|rfl <;> exact hv) Tryz.underlying64 rfl info_tp h
theorem store_pt (hgd:o.guard=none) (x y:Operand) (ho:o.op=.store 64 x y) (g:Nat) (hx:a.eval x=.pointer (some ⟨g,1,none⟩)) {sg st:Int} {A:Option Addr} {m p:Nat} {B:Option Addr} {k q:Nat} {C:Option Addr} {n r:Nat} (hy:a.eval y=.agg #[.int .i64 sg,.int .i64 st,.slice A m p,.slice B k q,.slice C n r]) {t:Tab} {A0:Option Addr} {m0 p0:Nat} {B0:Option Addr} {k0 q0:Nat} {C0:Option Addr} {n0 r0:Nat} {d:Nat} {T:TypeId} {ls ep gn:Int} (hB:Tb.Blk w g T (csL d t.sg t.st A0 m0 p0 B0 k0 q0 C0 n0 r0 ls ep gn))
 (h:wpList Tryz.prog ops Q rest (a.put o.dst undef) (w.setRow g (csL d sg st A m p B k q C n r ls ep gn))):wpList Tryz.prog ops Q (o :: rest) a w:=by
 refine wpList_store_mid hgd _ x y ho g 1 #[.int .i64 sg,.int .i64 st,.slice A m p,.slice B k q,.slice C n r] hx hy (fun j hj=>?_) info_tp (Tb.csT_one sg st A m p B k q C n r) ?_
 ·have hj5:j<5:=hj
  rw [hB.cell,hB.frozen]
  rcases (by omega:j=0∨j=1∨j=2∨j=3∨j=4) with rfl|rfl|rfl|rfl|rfl <;> exact ⟨rfl,rfl⟩
 ·rw [show (#[.int .i64 sg,.int .i64 st,.slice A m p,.slice B k q,.slice C n r]:Array Value).toList=[.int .i64 sg,.int .i64 st,.slice A m p,.slice B k q,.slice C n r] from rfl,tab_cells hB]
  exact h
theorem load_lg (hgd:o.guard=none) (x:Operand) (ho:o.op=.load 135 x) (g:Nat) (hx:a.eval x=.pointer (some ⟨g,0,none⟩)) {sg st:Int} {A:Option Addr} {m p:Nat} {B:Option Addr} {k q:Nat} {C:Option Addr} {n r:Nat} {d:Nat} {T:TypeId} {ls ep gn:Int} (hB:Tb.Blk w g T (csL d sg st A m p B k q C n r ls ep gn))
 (h:wpList Tryz.prog ops Q rest (a.put o.dst (.agg (csL d sg st A m p B k q C n r ls ep gn))) w):wpList Tryz.prog ops Q (o :: rest) a w :=
 wpList_load_row hgd _ x ho g hx _ (csL d sg st A m p B k q C n r ls ep gn) (0,0) _ hB Tryz.underlying135 rfl info_lg h
theorem store_lg (hgd:o.guard=none) (x y:Operand) (ho:o.op=.store 135 x y) (g:Nat) (hx:a.eval x=.pointer (some ⟨g,0,none⟩)) {sg st:Int} {A:Option Addr} {m p:Nat} {B:Option Addr} {k q:Nat} {C:Option Addr} {n r:Nat} {d:Nat} {T:TypeId} {ls ep gn:Int} (hy:a.eval y=.agg (csL d sg st A m p B k q C n r ls ep gn)) {cs:Array Value} (hsz:cs.size=9) (hB:Tb.Blk w g T cs)
 (h:wpList Tryz.prog ops Q rest (a.put o.dst undef) (w.setRow g (csL d sg st A m p B k q C n r ls ep gn))):wpList Tryz.prog ops Q (o :: rest) a w :=
 wpList_store_row hgd _ x y ho g (csL d sg st A m p B k q C n r ls ep gn) hx hy _ _ hB info_lg hsz (csL_one d sg st A m p B k q C n r ls ep gn) h
end
end Go.Proofs.YtdpmjlbkojhooaaGreat.Lg
