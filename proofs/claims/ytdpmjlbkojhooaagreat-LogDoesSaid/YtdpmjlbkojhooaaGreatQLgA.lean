/- A part. -/
import Derived.Test.YtdpmjlbkojhooaaGreatQLwE
import Derived.Test.YtdpmjlbkojhooaaGreatQLwS
import Derived.Test.YtdpmjlbkojhooaaGreatQLwQ
import Derived.Test.YtdpmjlbkojhooaaGreatQLwV
import Derived.Test.YtdpmjlbkojhooaaGreatQNewC
namespace Go.Proofs.YtdpmjlbkojhooaaGreat.Lg
open Go.RowKit Go.Lib
open Tb (Tab TIn Sl okP csT lastN nth Fresh)
open Dk (St Only Grew)
set_option linter.unusedVariables false
set_option maxRecDepth 100000
def csL (d:Nat) (sg st:Int) (A:Option Addr) (m p:Nat) (B:Option Addr) (k q:Nat) (C:Option Addr) (n r:Nat) (ls ep gn:Int):Array Value:=#[.pointer (some ⟨d,0,none⟩),.int .i64 sg,.int .i64 st,.slice A m p,.slice B k q,.slice C n r,.int .u64 ls,.int .u32 ep,.int .u64 gn]
def Nb3 (A B C:Option Addr) (g:Nat):Prop:=(∀ a,A=some a→a.block≠g)∧(∀ a,B=some a→a.block≠g)∧(∀ a,C=some a→a.block≠g)
theorem sl_same {κ:IntKind} {W W' : World} {A:Option Addr} {m:Nat} {l:List Int} {G:Nat→Prop} (h:Sl κ W A m l) (hA:∀ a,A=some a→G a.block) (hs:∀ i,G i→W'.heap[i]? = W.heap[i]?) (hz:W.heap.size≤W'.heap.size):Sl κ W' A m l:=by
 refine ⟨h.len,fun hm=>?_⟩
 obtain ⟨b,o,rfl,hb,hc⟩:=h.cells hm
 exact ⟨b,o,rfl,by omega,fun j hj=>(World.cell?_of_block (w:=W) (hs b (hA _ rfl))).trans (hc j hj)⟩
theorem fresh_nb {W0:World} {base m g:Nat} {A:Option Addr} (h:Fresh W0 base A m) (hm:0<m) (hg:g<base):∀ a,A=some a→a.block≠g:=by
 obtain ⟨b,o,rfl,hb,_⟩:=h hm
 rintro a ha
 injection ha with ha
 subst ha
 simp only
 omega
theorem sl_nb {κ:IntKind} {W:World} {A:Option Addr} {m:Nat} {l:List Int} (h:Sl κ W A m l) (hm:0<m) {g:Nat} (hg:W.heap.size≤g):∀ a,A=some a→a.block≠g:=by
 obtain ⟨b,o,rfl,hb,_⟩:=h.cells hm
 rintro a ha
 injection ha with ha
 subst ha
 simp only
 omega
theorem tin_nb {t:Tab} {W:World} {A:Option Addr} {m:Nat} {B:Option Addr} {k:Nat} {C:Option Addr} {n:Nat} (hok:okP t) (h:TIn W A m B k C n t.o t.l t.f) {g:Nat} (hg:W.heap.size≤g):Nb3 A B C g:=by
 have h1:=Tb.ok_full hok h
 exact ⟨sl_nb h.a (by omega) hg,sl_nb h.b (by omega) hg,sl_nb h.c (by omega) hg⟩
theorem fresh_nb3 {t:Tab} {W W0:World} {base:Nat} {A:Option Addr} {m:Nat} {B:Option Addr} {k:Nat} {C:Option Addr} {n:Nat} (hok:okP t) (h:TIn W A m B k C n t.o t.l t.f) (hf:Fresh W0 base A m∧Fresh W0 base B k∧Fresh W0 base C n) {g:Nat} (hg:g<base):Nb3 A B C g:=by
 have h1:=Tb.ok_full hok h
 exact ⟨fresh_nb hf.1 (by omega) hg,fresh_nb hf.2.1 (by omega) hg,fresh_nb hf.2.2 (by omega) hg⟩
theorem sl_row {κ:IntKind} {W:World} {A:Option Addr} {m:Nat} {l:List Int} (h:Sl κ W A m l) {g:Nat} (hg:∀ a,A=some a→a.block≠g) (cs:Array Value):Sl κ (W.setRow g cs) A m l:=by
 refine ⟨h.len,fun hm=>?_⟩
 obtain ⟨b,o,rfl,hb,hc⟩:=h.cells hm
 have hne:b≠g:=hg _ rfl
 exact ⟨b,o,rfl,by rw [Tb.row_size]; exact hb,fun j hj=>(World.cell?_of_block (w:=W) (setRow_other W g b cs hne)).trans (hc j hj)⟩
theorem tin_row {W:World} {A:Option Addr} {m:Nat} {B:Option Addr} {k:Nat} {C:Option Addr} {n:Nat} {o l f:List Int} (h:TIn W A m B k C n o l f) {g:Nat} (hg:Nb3 A B C g) (cs:Array Value):TIn (W.setRow g cs) A m B k C n o l f :=
 ⟨sl_row h.a hg.1 cs,sl_row h.b hg.2.1 cs,sl_row h.c hg.2.2 cs⟩
structure LogIn (T:TypeId) (w:World) (g d:Nat) (A:Option Addr) (m p:Nat) (B:Option Addr) (k q:Nat) (C:Option Addr) (n r:Nat) (G:Nat→Prop) (t:Tab) (ls ep gn:Int):Prop where
 blk:Tb.Blk w g T (csL d t.sg t.st A m p B k q C n r ls ep gn)
 tin:TIn w A m B k C n t.o t.l t.f
 gg:G g
 ga:∀ a,A=some a→G a.block
 gb:∀ a,B=some a→G a.block
 gc:∀ a,C=some a→G a.block
 nb:Nb3 A B C g
 lt:∀ b,G b→b<w.heap.size
 ok:okP t
theorem LogIn.same {T:TypeId} {w w' : World} {g d:Nat} {A:Option Addr} {m p:Nat} {B:Option Addr} {k q:Nat} {C:Option Addr} {n r:Nat} {G:Nat→Prop} {t:Tab} {ls ep gn:Int} (D:LogIn T w g d A m p B k q C n r G t ls ep gn) (hs:∀ i,G i→w'.heap[i]? = w.heap[i]?) (hz:w.heap.size≤w'.heap.size):LogIn T w' g d A m p B k q C n r G t ls ep gn :=
 ⟨(hs g D.gg).trans D.blk,⟨sl_same D.tin.a D.ga hs hz,sl_same D.tin.b D.gb hs hz,sl_same D.tin.c D.gc hs hz⟩,D.gg,D.ga,D.gb,D.gc,D.nb,fun b hb=>Nat.lt_of_lt_of_le (D.lt b hb) hz,D.ok⟩
def logI (T:TypeId) (g d:Nat) (t:Tab) (ls ep gn:Int):Dk.Item :=
 ⟨fun w G=>∃ A m p B k q C n r,LogIn T w g d A m p B k q C n r G t ls ep gn,fun ⟨A,m,p,B,k,q,C,n,r,D⟩ hs hz=>⟨A,m,p,B,k,q,C,n,r,D.same hs hz⟩,fun ⟨_,_,_,_,_,_,_,_,_,D⟩=>D.lt⟩
section
variable {T:TypeId} {W w w' : World} {items:List Dk.Item} {g d:Nat} {t t' : Tab} {ls ep gn:Int} {j:Nat}
theorem log_at (h:Dk.Sep W w items) (hj:items[j]? = some (logI T g d t ls ep gn)) :
 ∃ A m p B k q C n r,Tb.Blk w g T (csL d t.sg t.st A m p B k q C n r ls ep gn)∧TIn w A m B k C n t.o t.l t.f∧Nb3 A B C g∧okP t:=by
 obtain ⟨G,⟨A,m,p,B,k,q,C,n,r,D⟩,_⟩:=h.at_ j hj
 exact ⟨A,m,p,B,k,q,C,n,r,D.blk,D.tin,D.nb,D.ok⟩
theorem log_ok (h:Dk.Sep W w items) (hj:items[j]? = some (logI T g d t ls ep gn)):okP t:=by
 obtain ⟨_,_,_,_,_,_,_,_,_,_,_,_,ok⟩:=log_at h hj
 exact ok
theorem log_row (h:Dk.Sep W w items) (hj:items[j]? = some (logI T g d t ls ep gn)) (ls' ep' gn' : Int) :
 ∃ A m p B k q C n r,Tb.Blk w g T (csL d t.sg t.st A m p B k q C n r ls ep gn)∧TIn w A m B k C n t.o t.l t.f∧Dk.Sep W (w.setRow g (csL d t.sg t.st A m p B k q C n r ls' ep' gn')) (items.set j (logI T g d t ls' ep' gn')):=by
 obtain ⟨G,⟨A,m,p,B,k,q,C,n,r,D⟩,hN,_,hset⟩:=h.at_ j hj
 refine ⟨A,m,p,B,k,q,C,n,r,D.blk,D.tin,hset _ G _ ⟨A,m,p,B,k,q,C,n,r,?_⟩ (Grew.refl _ _) ((Only.refl _ w).setRow (.inl D.gg) _)⟩
 exact ⟨D.blk.row _,tin_row D.tin D.nb _,D.gg,D.ga,D.gb,D.gc,D.nb,fun b hb=>by rw [Tb.row_size]; exact D.lt b hb,D.ok⟩
theorem set_row {w:World} {g:Nat} {t:TypeId} {cs:Array Value} (h:Tb.Blk w g t cs) (i:Nat) (u:Value):w.setCell ⟨g,i,none⟩ u=w.setRow g (cs.setIfInBounds i u):=by
 unfold Tb.Blk at h
 unfold World.setCell World.setRow
 congr 1
 apply Array.ext
 ·simp
 ·intro x h1 h2
  simp only [Array.getElem_modify]
  by_cases e:g=x
  ·subst e
   obtain ⟨hlt,hx⟩:=Array.getElem?_eq_some_iff.1 h
   simp [hx]
  ·simp [e]
theorem log_lsn (h:Dk.Sep W w items) (hj:items[j]? = some (logI T g d t ls ep gn)) (x:Int):Dk.Sep W (w.setCell ⟨g,6,none⟩ (.int .u64 x)) (items.set j (logI T g d t x ep gn)):=by
 obtain ⟨A,m,p,B,k,q,C,n,r,hB,_,hS⟩:=log_row h hj x ep gn
 rw [set_row hB]
 exact hS
theorem log_gen (h:Dk.Sep W w items) (hj:items[j]? = some (logI T g d t ls ep gn)) (x:Int):Dk.Sep W (w.setCell ⟨g,8,none⟩ (.int .u64 x)) (items.set j (logI T g d t ls ep x)):=by
 obtain ⟨A,m,p,B,k,q,C,n,r,hB,_,hS⟩:=log_row h hj ls ep x
 rw [set_row hB]
 exact hS
theorem log_tab (h:Dk.Sep W w items) (hj:items[j]? = some (logI T g d t ls ep gn)) (hb:Below w.heap.size w w') {W0:World} {A:Option Addr} {m p:Nat} {B:Option Addr} {k q:Nat} {C:Option Addr} {n r:Nat} (ht:TIn w' A m B k C n t'.o t'.l t'.f) (hok:okP t') (hf:Fresh W0 w.heap.size A m∧Fresh W0 w.heap.size B k∧Fresh W0 w.heap.size C n) :
 Dk.Sep W (w'.setRow g (csL d t'.sg t'.st A m p B k q C n r ls ep gn)) (items.set j (logI T g d t' ls ep gn)):=by
 obtain ⟨G,⟨A0,m0,p0,B0,k0,q0,C0,n0,r0,D⟩,hN,_,hset⟩:=h.at_ j hj
 have hgw:g<w.heap.size:=D.lt g D.gg
 have h1:=Tb.ok_full hok ht
 obtain ⟨ba,oa,rfl,hba,_⟩:=ht.a.cells (by omega)
 obtain ⟨bb,ob,rfl,hbb,_⟩:=ht.b.cells (by omega)
 obtain ⟨bc,oc,rfl,hbc,_⟩:=ht.c.cells (by omega)
 have na:=fresh_nb3 hok ht hf hgw
 have fa:w.heap.size≤ba:=by obtain ⟨b,o,e,hle,_⟩:=hf.1 (by omega); injection e with e; injection e with e1; omega
 have fb:w.heap.size≤bb:=by obtain ⟨b,o,e,hle,_⟩:=hf.2.1 (by omega); injection e with e; injection e with e1; omega
 have fc:w.heap.size≤bc:=by obtain ⟨b,o,e,hle,_⟩:=hf.2.2 (by omega); injection e with e; injection e with e1; omega
 refine hset _ (fun b=>G b∨b=ba∨b=bb∨b=bc) _ ⟨_,m,p,_,k,q,_,n,r,⟨(D.blk.later hb).row _,tin_row ht na _,.inl D.gg,?_,?_,?_,na,?_,hok⟩⟩ ?_ (((Only.refl _ w).of_below hb).setRow (.inl D.gg) _)
 ·rintro a ha; injection ha with ha; subst ha; exact .inr (.inl rfl)
 ·rintro a ha; injection ha with ha; subst ha; exact .inr (.inr (.inl rfl))
 ·rintro a ha; injection ha with ha; subst ha; exact .inr (.inr (.inr rfl))
 ·rintro b (hG|rfl|rfl|rfl)
  ·rw [Tb.row_size]; exact Nat.lt_of_lt_of_le (D.lt b hG) hb.size
  ·rw [Tb.row_size]; exact hba
  ·rw [Tb.row_size]; exact hbb
  ·rw [Tb.row_size]; exact hbc
 ·rintro b (hG|rfl|rfl|rfl)
  ·exact .inl hG
  ·exact .inr fa
  ·exact .inr fb
  ·exact .inr fc
theorem row_row (w:World) (g:Nat) (c1 c2:Array Value):(w.setRow g c1).setRow g c2=w.setRow g c2:=by
 unfold World.setRow
 congr 1
 apply Array.ext_getElem?
 intro x
 rw [Array.getElem?_modify,Array.getElem?_modify,Array.getElem?_modify]
 by_cases e:g=x
 ·rw [if_pos e,if_pos e,if_pos e]
  cases w.heap[x]? with
  | none=>rfl
  | some o=>cases o <;> rfl
 ·rw [if_neg e,if_neg e,if_neg e]
theorem tab_cells {A0:Option Addr} {m0 p0:Nat} {B0:Option Addr} {k0 q0:Nat} {C0:Option Addr} {n0 r0:Nat} (hB:Tb.Blk w g T (csL d t.sg t.st A0 m0 p0 B0 k0 q0 C0 n0 r0 ls ep gn)) (sg st:Int) (A:Option Addr) (m p:Nat) (B:Option Addr) (k q:Nat) (C:Option Addr) (n r:Nat):w.setCells g 1 [.int .i64 sg,.int .i64 st,.slice A m p,.slice B k q,.slice C n r]=w.setRow g (csL d sg st A m p B k q C n r ls ep gn):=by
 simp only [World.setCells]
 have e1:=set_row hB 1 (.int .i64 sg)
 rw [e1]
 have hB1:=hB.row ((csL d t.sg t.st A0 m0 p0 B0 k0 q0 C0 n0 r0 ls ep gn).setIfInBounds 1 (.int .i64 sg))
 rw [set_row hB1]
 have hB2:=hB1.row (((csL d t.sg t.st A0 m0 p0 B0 k0 q0 C0 n0 r0 ls ep gn).setIfInBounds 1 (.int .i64 sg)).setIfInBounds 2 (.int .i64 st))
 rw [set_row hB2]
 have hB3:=hB2.row ((((csL d t.sg t.st A0 m0 p0 B0 k0 q0 C0 n0 r0 ls ep gn).setIfInBounds 1 (.int .i64 sg)).setIfInBounds 2 (.int .i64 st)).setIfInBounds 3 (.slice A m p))
 rw [set_row hB3]
 have hB4:=hB3.row (((((csL d t.sg t.st A0 m0 p0 B0 k0 q0 C0 n0 r0 ls ep gn).setIfInBounds 1 (.int .i64 sg)).setIfInBounds 2 (.int .i64 st)).setIfInBounds 3 (.slice A m p)).setIfInBounds 4 (.slice B k q))
 rw [set_row hB4]
 rw [row_row,row_row,row_row,row_row]
 rfl
end
theorem info_l:(Tryz.prog.info? 100).map (·.size)=some 5:=by kernel_rfl
section
variable {ops:Array Oper} {rest:List Oper} {o:Oper} {a:Act} {w:World} {Q:Exit→Act→World→Prop}
theorem load_lt (hgd:o.guard=none) (x:Operand) (ho:o.op=.load 100 x) (g:Nat) (hx:a.eval x=.pointer (some ⟨g,1,none⟩)) {sg st:Int} {A:Option Addr} {m p:Nat} {B:Option Addr} {k q:Nat} {C:Option Addr} {n r:Nat} {d:Nat} {T:TypeId} {ls ep gn:Int} (hB:Tb.Blk w g T (csL d sg st A m p B k q C n r ls ep gn))
 (h:wpList Tryz.prog ops Q rest (a.put o.dst (.agg #[.int .i64 sg,.int .i64 st,.slice A m p,.slice B k q,.slice C n r])) w):wpList Tryz.prog ops Q (o :: rest) a w :=
 wpList_load_mid hgd _ x ho g 1 hx [.int .i64 sg,.int .i64 st,.slice A m p,.slice B k q,.slice C n r] _ (fun j v hv=>by
  have hj:j<5:=(List.getElem?_eq_some_iff.1 hv).1
  rw [hB.cell]
  rcases (by omega:j=0∨j=1∨j=2∨j=3∨j=4) with rfl|rfl|rfl|rfl|rfl <;> exact hv) Tryz.underlying100 rfl info_l h
theorem store_lt (hgd:o.guard=none) (x y:Operand) (ho:o.op=.store 100 x y) (g:Nat) (hx:a.eval x=.pointer (some ⟨g,1,none⟩)) {sg st:Int} {A:Option Addr} {m p:Nat} {B:Option Addr} {k q:Nat} {C:Option Addr} {n r:Nat} (hy:a.eval y=.agg #[.int .i64 sg,.int .i64 st,.slice A m p,.slice B k q,.slice C n r]) {t:Tab} {A0:Option Addr} {m0 p0:Nat} {B0:Option Addr} {k0 q0:Nat} {C0:Option Addr} {n0 r0:Nat} {d:Nat} {T:TypeId} {ls ep gn:Int} (hB:Tb.Blk w g T (csL d t.sg t.st A0 m0 p0 B0 k0 q0 C0 n0 r0 ls ep gn))
 (h:wpList Tryz.prog ops Q rest (a.put o.dst undef) (w.setRow g (csL d sg st A m p B k q C n r ls ep gn))):wpList Tryz.prog ops Q (o :: rest) a w:=by
 refine wpList_store_mid hgd _ x y ho g 1 #[.int .i64 sg,.int .i64 st,.slice A m p,.slice B k q,.slice C n r] hx hy (fun j hj=>?_) info_l (Tb.csT_one sg st A m p B k q C n r) ?_
 ·have hj5:j<5:=hj
  rw [hB.cell,hB.frozen]
  rcases (by omega:j=0∨j=1∨j=2∨j=3∨j=4) with rfl|rfl|rfl|rfl|rfl <;> exact ⟨rfl,rfl⟩
 ·rw [show (#[.int .i64 sg,.int .i64 st,.slice A m p,.slice B k q,.slice C n r]:Array Value).toList=[.int .i64 sg,.int .i64 st,.slice A m p,.slice B k q,.slice C n r] from rfl,tab_cells hB]
  exact h
end
end Go.Proofs.YtdpmjlbkojhooaaGreat.Lg
