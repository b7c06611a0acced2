/- A part. -/
import Derived.Test.YtdpmjlbkojhooaaGreatQLhD
import Derived.Test.YtdpmjlbkojhooaaGreatQLgI
namespace Go.Proofs.YtdpmjlbkojhooaaGreat.Lg
open Go.RowKit Go.Lib
open Tb (Tab TIn Sl okP csT lastN nth Fresh)
open Dk (St Only Grew)
set_option linter.unusedVariables false
set_option maxRecDepth 100000
inductive Cq where
 | any
 | is (v:Value)
 | tab (t:Tab)
 | tup (t:Tab) (y:Int)
def Cq.p (N0 g:Nat):Cq→World→Value→Prop
 | .any=>fun _ _=>True
 | .is v=>fun _ u=>u=v
 | .tab t=>fun W u=>TabR t N0 (fun x=>x=g) u W
 | .tup t y=>fun W u=>∃ v,u=.tuple #[v,.int .i64 y]∧TabR t N0 (fun x=>x=g) v W
theorem tabR_later {t' : Tab} {N0:Nat} {S:Nat→Prop} {u:Value} {W W' : World} (h:TabR t' N0 S u W) (hb:Below W.heap.size W W'):TabR t' N0 S u W':=by
 obtain ⟨A,m,p,B,k,q,C,n,r,W1,e,h1,h2,h3⟩:=h
 exact ⟨A,m,p,B,k,q,C,n,r,W1,e,h1.later hb,h2,h3⟩
theorem tabR_row {t' : Tab} {N0 g:Nat} {u:Value} {W:World} (h:TabR t' N0 (fun x=>x=g) u W) (cs:Array Value):TabR t' N0 (fun x=>x=g) u (W.setRow g cs):=by
 obtain ⟨A,m,p,B,k,q,C,n,r,W1,e,h1,h2,h3⟩:=h
 exact ⟨A,m,p,B,k,q,C,n,r,W1,e,tin_row h1 (h3 g rfl) cs,h2,h3⟩
theorem Cq.keep {N0 g:Nat} {c:Cq} {W W' : World} {u:Value} (hb:Below W.heap.size W W') (h:c.p N0 g W u):c.p N0 g W' u:=by
 cases c with
 | any=>exact trivial
 | is v=>exact h
 | tab t=>exact tabR_later h hb
 | tup t y=>exact ⟨h.choose,h.choose_spec.1,tabR_later h.choose_spec.2 hb⟩
theorem Cq.row {N0 g:Nat} {c:Cq} {W:World} {u:Value} (cs:Array Value) (h:c.p N0 g W u):c.p N0 g (W.setRow g cs) u:=by
 cases c with
 | any=>exact trivial
 | is v=>exact h
 | tab t=>exact tabR_row h cs
 | tup t y=>exact ⟨h.choose,h.choose_spec.1,tabR_row h.choose_spec.2 cs⟩
theorem Cq.all {N0 g:Nat} {l:List Cq} {j:Nat} {W W' : World} {u:Value} (hc:∀ c:Cq,c.p N0 g W u→c.p N0 g W' u) (h:Free.V (l.map (Cq.p N0 g)) j W u):Free.V (l.map (Cq.p N0 g)) j W' u:=by
 unfold Free.V at *
 simp only [List.getD_eq_getElem?_getD,List.getElem?_map] at h ⊢
 cases hi:l[j]? with
 | none=>rw [hi] at h; exact h
 | some c=>rw [hi] at h; exact hc c h
theorem tab_slot {t' : Tab} {N0 g n:Nat} {W:World} {xs:Array Value} (h:Cq.p N0 g (.tab t') W (xs.getD n undef)):∃ A m p B k q C n' r W1,xs[n]?.getD undef=.agg #[.int .i64 t'.sg,.int .i64 t'.st,.slice A m p,.slice B k q,.slice C n' r]∧TIn W A m B k C n' t'.o t'.l t'.f∧(Fresh W1 N0 A m∧Fresh W1 N0 B k∧Fresh W1 N0 C n')∧Nb3 A B C g:=by
 obtain ⟨A,m,p,B,k,q,C,n',r,W1,e,h1,h2,h3⟩:=h
 exact ⟨A,m,p,B,k,q,C,n',r,W1,by simpa using e,h1,h2,h3 g rfl⟩
theorem tup_slot {t' : Tab} {y:Int} {N0 g n:Nat} {W:World} {xs:Array Value} (h:Cq.p N0 g (.tup t' y) W (xs.getD n undef)):∃ v,xs[n]?.getD undef=.tuple #[v,.int .i64 y]∧TabR t' N0 (fun x=>x=g) v W:=by
 obtain ⟨v,e,h1⟩:=h
 exact ⟨v,by simpa using e,h1⟩
section
variable {o:Oper} {a:Act} {w:World} {K:Act→World→Prop} {Q:Exit→Act→World→Prop}
theorem wp_store_pt (x y:Operand) (ho:o.op=.store 64 x y) (g:Nat) (hx:a.eval x=.pointer (some ⟨g,1,none⟩)) {sg st:Int} {A:Option Addr} {m p:Nat} {B:Option Addr} {k q:Nat} {C:Option Addr} {n r:Nat} (hy:a.eval y=.agg #[.int .i64 sg,.int .i64 st,.slice A m p,.slice B k q,.slice C n r]) {t:Tab} {A0:Option Addr} {m0 p0:Nat} {B0:Option Addr} {k0 q0:Nat} {C0:Option Addr} {n0 r0:Nat} {d:Nat} {T:TypeId} {ls ep gn:Int} (hB:Tb.Blk w g T (csL d t.sg t.st A0 m0 p0 B0 k0 q0 C0 n0 r0 ls ep gn))
 (h:K (a.put o.dst undef) (w.setRow g (csL d sg st A m p B k q C n r ls ep gn))):o.wp Tryz.prog a w K Q:=by
 refine wp_store_mid _ x y ho g 1 #[.int .i64 sg,.int .i64 st,.slice A m p,.slice B k q,.slice C n r] hx hy (fun j hj=>?_) info_tp (Tb.csT_one sg st A m p B k q C n r) ?_
 ·have hj5:j<5:=hj
  rw [hB.cell,hB.frozen]
  rcases (by omega:j=0∨j=1∨j=2∨j=3∨j=4) with rfl|rfl|rfl|rfl|rfl <;> exact ⟨rfl,rfl⟩
 ·rw [show (#[.int .i64 sg,.int .i64 st,.slice A m p,.slice B k q,.slice C n r]:Array Value).toList=[.int .i64 sg,.int .i64 st,.slice A m p,.slice B k q,.slice C n r] from rfl,tab_cells hB]
  exact h
end
theorem resP_tab {t' : Tab} {w W w' : World} {g:Nat} {e:Ending} (hok:okP t') (hg:g<w.heap.size) (hw:Below w.heap.size w W) (h:Tb.ResP t' 0 W e w'):∃ v,e=.returned (.tuple #[v,.int .i64 0])∧TabR t' w.heap.size (fun x=>x=g) v w'∧Below W.heap.size W w':=by
 obtain ⟨A,m,p,B,k,q,C,n,r,e,ht,_,hf,hb⟩:=h
 have hf2:Fresh w' w.heap.size A m∧Fresh w' w.heap.size B k∧Fresh w' w.heap.size C n:=⟨fresh_wide hf.1 hw.size,fresh_wide hf.2.1 hw.size,fresh_wide hf.2.2 hw.size⟩
 exact ⟨_,e,⟨A,m,p,B,k,q,C,n,r,w',rfl,ht,hf2,fun x hx=>by subst hx; exact fresh_nb3 hok ht hf2 hg⟩,hb⟩
end Go.Proofs.YtdpmjlbkojhooaaGreat.Lg
