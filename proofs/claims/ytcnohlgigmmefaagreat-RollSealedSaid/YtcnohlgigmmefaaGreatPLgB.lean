/- A part. -/
import Derived.Test.YtcnohlgigmmefaaGreatPNewC
import Derived.Test.YtcnohlgigmmefaaGreatPClass
import Derived.Deep.DeepCutAuto
import Derived.Deep.RegionWith
import Derived.Deep.QuietTactic
import Derived.BigQuiet
import Derived.Test.YtcnohlgigmmefaaGreatPLwK
namespace Go.Proofs.YtcnohlgigmmefaaGreat.Lg
open Go.RowKit Go.Lib
open Tb (Tab TIn Sl okP csT lastN nth Fresh)
open Dk (St Only Grew)
set_option linter.unusedVariables false
set_option maxRecDepth 100000
theorem set_same {items:List Dk.Item} {k:Nat} {x:Dk.Item} (h:items[k]? = some x):items.set k x=items:=by
 apply List.ext_getElem?
 intro i
 rw [List.getElem?_set]
 by_cases e:k=i
 ·subst e
  have hl:=(List.getElem?_eq_some_iff.1 h).1
  rw [if_pos rfl,if_pos hl,h]
 ·rw [if_neg e]
theorem get_set {items:List Dk.Item} {k j:Nat} {x y:Dk.Item} (h:items[j]? = some y) (hkj:k≠j):(items.set k x)[j]? = some y:=by rw [List.getElem?_set_ne hkj]; exact h
theorem get_self {items:List Dk.Item} {k:Nat} {x y:Dk.Item} (h:items[k]? = some y):(items.set k x)[k]? = some x:=List.getElem?_set_self (List.getElem?_eq_some_iff.1 h).1
theorem set_set {items:List Dk.Item} {k:Nat} {x y:Dk.Item}:(items.set k x).set k y=items.set k y:=List.set_set ..
instance (s:St):Decidable s.dead:=by unfold Dk.St.dead; infer_instance
def chkS (s:St) (gn:Int) (S:ByteArray):St × Int × Int :=
 if s.dead then (s,gn,9) else
 if s.flush.dead then (s.flush,gn,9) else
 if (s.flush.write ((gn+1)%2) S).dead then (s.flush.write ((gn+1)%2) S,gn,9) else ((s.flush.write ((gn+1)%2) S).flush,gn+1,0)
theorem slC {κ:IntKind} {W:World} {A:Option Addr} {m:Nat} {l:List Int} (h:Sl .i64 W A m l):Cp.Sl W A m l:=⟨h.len,h.cells⟩
theorem okC_of {t:Tab} (h:okP t) {g e l v:Int} (hg:g≠0) (hl:l≠0):Cp.okC ⟨g,e,l,v,t.o,t.l⟩=true:=by
 rw [Cp.okC_iff]
 refine ⟨⟨hg,hl⟩,?_⟩
 obtain ⟨h1,h2,h3,h4,h5,h6,h7,h8⟩:=h
 have hb:=Tb.ok_bd (t:=t) ⟨h1,h2,h3,h4,h5,h6,h7,h8⟩
 rw [Cp.segB_iff]
 exact ⟨by simp only; omega,by simp only; omega,h7,fun x hx=>by have:=h4 x hx; omega,fun x hx=>by have:=h6 x hx; omega,h5⟩
theorem size_of {S:ByteArray} {l:List UInt8} (h:l=S.data.toList):S.size=l.length:=by rw [h]; simp
end Go.Proofs.YtcnohlgigmmefaaGreat.Lg
namespace Go.Proofs.YtcnohlgigmmefaaGreat.Lg
open Go.RowKit Go.Lib
open Tb (Tab TIn Sl okP csT lastN nth Fresh)
open Dk (St Only Grew)
set_option linter.unusedVariables false
set_option maxRecDepth 100000
theorem set3 {items:List Dk.Item} {k j:Nat} {a b c:Dk.Item} (hkj:k≠j):((items.set j a).set k b).set j c=(items.set k b).set j c:=by
 rw [List.set_comm _ _ hkj.symm,List.set_set]
def dropS (t:Tab) (x:Int) (s:St) (gn:Int) (S:ByteArray):St × Tab × Int × Int:=match Tb.dropT t x with
 | none=>(s,t,gn,1)
 | some t'=>((chkS s gn S).1,t',(chkS s gn S).2.1,(chkS s gn S).2.2)
end Go.Proofs.YtcnohlgigmmefaaGreat.Lg
namespace Go.Proofs.YtcnohlgigmmefaaGreat.Lg
open Go.RowKit Go.Lib
open Dk (St Only Grew)
set_option linter.unusedVariables false
set_option maxRecDepth 100000
def locI (l:List (Nat × TypeId × Array Value)):Dk.Item :=
 ⟨fun w G=>(∀ x∈l,Tb.Blk w x.1 x.2.1 x.2.2)∧∀ b,G b↔∃ x∈l,x.1=b,fun ⟨h,hG⟩ hs _=>⟨fun x hx=>(hs x.1 ((hG x.1).2 ⟨x,hx,rfl⟩)).trans (h x hx),hG⟩,
  fun ⟨h,hG⟩ b hb=>by obtain ⟨x,hx,e⟩:=(hG b).1 hb; rw [← e]; exact (h x hx).lt⟩
section
variable {W w w' : World} {items:List Dk.Item} {k:Nat} {l l' : List (Nat × TypeId × Array Value)}
theorem loc_new (h:Dk.Sep W w items) (hb:Below w.heap.size w w') (hl:∀ x∈l,Tb.Blk w' x.1 x.2.1 x.2.2) (hn:∀ x∈l,w.heap.size≤x.1):Dk.Sep W w' (items++[locI l]) :=
 h.new (locI l) (G:=fun b=>∃ x∈l,x.1=b) ⟨hl,fun _=>Iff.rfl⟩ (fun b hb'=>by obtain ⟨x,hx,e⟩:=hb'; rw [← e]; exact hn x hx) hb
theorem loc_at (h:Dk.Sep W w items) (hk:items[k]? = some (locI l)):∀ x∈l,Tb.Blk w x.1 x.2.1 x.2.2:=by
 obtain ⟨G,⟨hl,_⟩,_⟩:=h.at_ k hk
 exact hl
theorem loc_put (h:Dk.Sep W w items) (hk:items[k]? = some (locI l)) (ho:Only (fun b=>∃ x∈l,x.1=b) w w') (hl:∀ x∈l',Tb.Blk w' x.1 x.2.1 x.2.2) (hs:∀ x∈l',∃ y∈l,y.1=x.1):Dk.Sep W w' (items.set k (locI l')):=by
 obtain ⟨G,⟨_,hG⟩,_,_,put⟩:=h.at_ k hk
 refine put w' (fun b=>∃ x∈l',x.1=b) _ ⟨hl,fun _=>Iff.rfl⟩ (fun b hb=>?_) (ho.mono fun b hb=>.inl ((hG b).2 hb))
 obtain ⟨x,hx,e⟩:=hb
 obtain ⟨y,hy,e2⟩:=hs x hx
 exact .inl ((hG b).2 ⟨y,hy,e2.trans e⟩)
theorem loc_row (h:Dk.Sep W w items) (hk:items[k]? = some (locI l)) (b:Nat) (hb:∃ x∈l,x.1=b) (cs:Array Value) (hl:∀ x∈l',Tb.Blk (w.setRow b cs) x.1 x.2.1 x.2.2) (hs:∀ x∈l',∃ y∈l,y.1=x.1):Dk.Sep W (w.setRow b cs) (items.set k (locI l')) :=
 loc_put h hk ((Only.refl _ w).setRow (.inl hb) cs) hl hs
theorem loc_drop {a:Dk.Item} (h:Dk.Sep W w (items++[a])):Dk.Sep W w items:=by
 obtain ⟨hW,Gs,hl,hh,hd,hN⟩:=h
 have hlen:Gs.length=items.length+1:=by rw [hl]; simp
 have hg:∀ (i:Nat) (G:Nat→Prop),(Gs.take items.length)[i]? = some G→i<items.length∧Gs[i]? = some G:=fun i G hi=>by
  rw [List.getElem?_take] at hi
  split at hi
  ·exact ⟨by assumption,hi⟩
  ·cases hi
 refine ⟨hW,Gs.take items.length,by rw [List.length_take]; omega,fun i it G hi hG=>?_,fun i j G H hij hi hj=>hd i j G H hij (hg i G hi).2 (hg j H hj).2,fun i G hi=>hN i G (hg i G hi).2⟩
 obtain ⟨hlt,hG'⟩:=hg i G hG
 exact hh i it G (by rw [List.getElem?_append_left hlt]; exact hi) hG'
theorem app_at {a b:Dk.Item} (h:items[k]? = some a):(items++[b])[k]? = some a:=by
 rw [List.getElem?_append_left (List.getElem?_eq_some_iff.1 h).1]; exact h
theorem app_last {b:Dk.Item}:(items++[b])[items.length]? = some b:=by simp
theorem app_set {a b c:Dk.Item} (h:items[k]? = some a):(items++[b]).set k c=items.set k c++[b]:=by
 rw [List.set_append,if_pos (List.getElem?_eq_some_iff.1 h).1]
theorem app_set_last {b c:Dk.Item}:(items++[b]).set items.length c=items++[c]:=by
 rw [List.set_append,if_neg (by omega)]; simp
end
end Go.Proofs.YtcnohlgigmmefaaGreat.Lg
namespace Go.Proofs.YtcnohlgigmmefaaGreat.NewV
open Go.RowKit Free NewC
set_option linter.unusedVariables false
structure C (w:World) (T:TypeId) (ia ix sa:Nat) (cs:Array Value) (listed:Array Bool) (a:Act) (W:World):Prop where
 b:Below w.heap.size w W
 da:listed.getD ia false=true→∃ b vs,a.tmps.getD sa undef=.pointer (some ⟨b,0,none⟩)∧w.heap.size≤b∧vs.size=cs.size∧W.heap[b]? = some (.cells vs T (0,0))∧(listed.getD ix false=true→vs=cs)
 ex:listed.getD ix false=true→listed.getD ia false=true
section
variable {w W W' : World} {T:TypeId} {ia ix sa:Nat} {cs:Array Value} {listed:Array Bool} {a:Act}
theorem C.start (k:Nat):C w T ia ix sa cs (Array.replicate k false) a { w with drawn:=w.drawn+1 }:=by
 have h:∀ i,¬ (Array.replicate k false).getD i false=true:=fun i e=>by
  simp only [Array.getD_eq_getD_getElem?,Array.getElem?_replicate] at e
  split at e <;> simp at e
 exact ⟨(Below.refl _ _).drew,fun e=>absurd e (h _),fun e=>absurd e (h _)⟩
theorem C.step (h:C w T ia ix sa cs listed a W) (i d:Nat) (x:Value) (hi:i≠ia∧i≠ix) (hd:d≠sa) (hb:Below W.heap.size W W'):C w T ia ix sa cs (listed.setIfInBounds i true) (a.put (some d) x) W':=by
 refine ⟨geTrans h.b hb,?_,?_⟩
 ·rw [getD_set_ne false hi.1,getD_set_ne false hi.2,put_ne x hd]
  intro e
  obtain ⟨b,vs,e1,e2,e3,e4,e5⟩:=h.da e
  exact ⟨b,vs,e1,e2,e3,(hb.block b (Array.getElem?_eq_some_iff.1 e4).1).trans e4,e5⟩
 ·rw [getD_set_ne false hi.1,getD_set_ne false hi.2]; exact h.ex
theorem C.alloc (h:C w T ia ix sa cs listed a W) (hne:ia≠ix) (hsz:ia<listed.size) (hno:listed.getD ia true=false) (ha:sa<a.tmps.size) (vs:Array Value) (hv:vs.size=cs.size) :
 C w T ia ix sa cs (listed.setIfInBounds ia true) (a.put (some sa) (.pointer (some ⟨W.heap.size,0,none⟩))) (W.alloc (.cells vs T)):=by
 have hn:=NewC.not_listed hsz hno
 refine ⟨geTrans h.b (below1 W _),fun _=>⟨W.heap.size,vs,put_eq _ ha,h.b.size,hv,heap_alloc_new W _,?_⟩,fun _=>set_self hsz⟩
 rw [getD_set_ne false hne]
 exact fun e=>by rw [h.ex e] at hn; cases hn
theorem C.store (h:C w T ia ix sa cs listed a W) (hne:ia≠ix) (hla:listed.getD ia false=true) {b:Nat} {vs:Array Value} (e1:a.tmps.getD sa undef=.pointer (some ⟨b,0,none⟩)) (hb:w.heap.size≤b) (hB:W.heap[b]? = some (.cells vs T (0,0))) :
 C w T ia ix sa cs (listed.setIfInBounds ix true) (a.put none undef) (W.setRow b cs):=by
 refine ⟨row_below h.b hb,fun _=>⟨b,cs,e1,hb,rfl,?_,fun _=>rfl⟩,?_⟩
 ·unfold World.setRow
  rw [Array.getElem?_modify,if_pos rfl,hB]
  rfl
 ·rw [getD_set_ne false hne.symm]; exact fun _=>hla
end
end Go.Proofs.YtcnohlgigmmefaaGreat.NewV
namespace Go.Proofs.YtcnohlgigmmefaaGreat.Lg
open Go.RowKit Go.Lib
open Tb (Tab TIn Sl okP csT lastN nth Fresh)
open Dk (St Only Grew)
set_option linter.unusedVariables false
set_option maxRecDepth 100000
theorem loc_one (s1 s2:Int):(#[Value.int .i64 s1,.int .i64 s2]:Array Value).all (·.oneCell')=true:=by simp [Value.oneCell']
theorem info_loc:(Tryz.prog.info? 93).map (·.size)=some 2:=by kernel_rfl
theorem len_open {t:Tab} (h:okP t):Tb.lenT t (lastN t.o)=lastN t.l:=by
 have hb:=Tb.ok_bd h
 have hi:Tb.idx t.o (lastN t.o)=(t.o.length-1:Nat):=Tb.idx_at (by omega) rfl (by
  intro hm
  obtain ⟨j,hj,e⟩:=List.mem_iff_getElem.1 hm
  rw [List.length_take] at hj
  rw [List.getElem_take] at e
  have e2:lastN t.o=t.o[t.o.length-1]'(by omega):=by unfold lastN; rw [Tb.nth_lt (by omega)]
  rw [e2] at e
  have:=(List.getElem_inj h.2.2.2.2.1).1 e
  omega)
 unfold Tb.lenT
 rw [hi,if_neg (by omega)]
 unfold lastN
 rw [Int.toNat_natCast,hb.2.2.1]
section
variable {ops:Array Oper} {rest:List Oper} {o:Oper} {a:Act} {w:World} {Q:Exit→Act→World→Prop}
theorem load_loc (hgd:o.guard=none) (x:Operand) (ho:o.op=.load 93 x) (b:Nat) (hx:a.eval x=.pointer (some ⟨b,0,none⟩)) {s1 s2:Int} {t:TypeId} (hg:Tb.Blk w b t #[.int .i64 s1,.int .i64 s2])
 (h:wpList Tryz.prog ops Q rest (a.put o.dst (.agg #[.int .i64 s1,.int .i64 s2])) w):wpList Tryz.prog ops Q (o :: rest) a w :=
 wpList_load_row hgd _ x ho b hx _ #[.int .i64 s1,.int .i64 s2] (0,0) _ hg Tryz.underlying93 rfl info_loc h
theorem store_loc (hgd:o.guard=none) (x y:Operand) (ho:o.op=.store 93 x y) (b:Nat) (hx:a.eval x=.pointer (some ⟨b,0,none⟩)) {s1 s2 z1 z2:Int} (hy:a.eval y=.agg #[.int .i64 s1,.int .i64 s2]) {t:TypeId} (hg:Tb.Blk w b t #[.int .i64 z1,.int .i64 z2])
 (h:wpList Tryz.prog ops Q rest (a.put o.dst undef) (w.setRow b #[.int .i64 s1,.int .i64 s2])):wpList Tryz.prog ops Q (o :: rest) a w :=
 wpList_store_row hgd _ x y ho b #[.int .i64 s1,.int .i64 s2] hx hy _ _ hg info_loc rfl (loc_one s1 s2) h
end
theorem res_loc {fn:Func} {p' q' : Tmp} (h:fn.results=#[.cell p' 93,.tmp q']) (tmps:Array Value) (W:World) (b:Nat) {s1 s2:Int} {t:TypeId} {y:Value} (hp:tmps.getD p' undef=.pointer (some ⟨b,0,none⟩)) (hq:tmps.getD q' undef=y) (L:Tb.Blk W b t #[.int .i64 s1,.int .i64 s2]) :
 (results fn tmps).run Tryz.prog W=.ok (.tuple #[.agg #[.int .i64 s1,.int .i64 s2],y]) W:=by
 have hp' : tmps[p']?.getD undef=.pointer (some ⟨b,0,none⟩):=by simpa using hp
 have hq' : tmps[q']?.getD undef=y:=by simpa using hq
 have h1:(loadVar 93 ⟨b,0,none⟩).run Tryz.prog W=.ok (.agg #[.int .i64 s1,.int .i64 s2]) W:=run_loadVar_row W b t 93 #[.int .i64 s1,.int .i64 s2] (0,0) _ L Tryz.underlying93 rfl info_loc
 simp [results,h,hp',hq',asAddr,h1]
end Go.Proofs.YtcnohlgigmmefaaGreat.Lg
namespace Go.Proofs.YtcnohlgigmmefaaGreat.Lg
open Go.RowKit Go.Lib
open Tb (Tab TIn Sl okP csT lastN nth Fresh)
open Dk (St Only Grew)
set_option linter.unusedVariables false
set_option maxRecDepth 100000
theorem fresh_wide {W:World} {base base' m:Nat} {A:Option Addr} (h:Fresh W base' A m) (hb:base≤base'):Fresh W base A m:=fun hm=>by
 obtain ⟨b,o,e,h1,h2⟩:=h hm
 exact ⟨b,o,e,Nat.le_trans hb h1,h2⟩
def TabR (t' : Tab) (N0:Nat) (S:Nat→Prop) (u:Value) (W:World):Prop :=
 ∃ A m p B k q C n r W1,u=.agg #[.int .i64 t'.sg,.int .i64 t'.st,.slice A m p,.slice B k q,.slice C n r]∧TIn W A m B k C n t'.o t'.l t'.f∧(Fresh W1 N0 A m∧Fresh W1 N0 B k∧Fresh W1 N0 C n)∧∀ g,S g→Nb3 A B C g
def sealS (t:Tab) (s:St) (ls:Int) (S:ByteArray):St × Tab × Int × Int:=match Tb.freeT t with
 | []=>(s,t,ls,10)
 | f :: _=>if s.dead then (s,t,ls,9) else (s.write (Tb.sectorT t.st (lastN t.o) (lastN t.l)) S,Tb.openedT t f (ls+1),ls+1,0)
end Go.Proofs.YtcnohlgigmmefaaGreat.Lg
namespace Go.Proofs.YtcnohlgigmmefaaGreat.Lg
open Go.RowKit Go.Lib
open Tb (Tab TIn Sl okP csT lastN nth Fresh)
open Dk (St Only Grew)
set_option linter.unusedVariables false
set_option maxRecDepth 100000
def secB (r:Rc.Rec):ByteArray:=⟨(Rc.secL r).toArray⟩
theorem secB_eq (r:Rc.Rec):Rc.secL r=(secB r).data.toList:=by simp [secB]
def footB (t:Tab) (ls ep:Int):ByteArray:=match Tb.freeT t with
 | []=>ByteArray.empty
 | f :: _=>secB ⟨ls,ep,3,0,f,[],[]⟩
theorem footB_eq {t:Tab} {ls ep f:Int} {l:List Int} (h:Tb.freeT t=f :: l):Rc.secL ⟨ls,ep,3,0,f,[],[]⟩=(footB t ls ep).data.toList:=by
 unfold footB; rw [h]; exact secB_eq _
def FitS (t:Tab) (s:St):Prop:=2+t.sg*(t.st+1)≤s.size
theorem has_sector {t:Tab} {s:St} (hok:okP t) (hf:FitS t s) {seg slot:Int} (h1:0≤seg∧seg<t.sg) (h2:0≤slot∧slot≤t.st):s.has (Tb.sectorT t.st seg slot):=by
 have hs:=hok.1
 have ht:=hok.2.1
 unfold Tb.sectorT
 rw [if_pos ⟨ht.1,ht.2,h1.1,by omega,h2.1,h2.2⟩]
 unfold FitS at hf
 have e1:seg*(t.st+1)≤(t.sg-1)*(t.st+1):=Int.mul_le_mul_of_nonneg_right (by omega) (by omega)
 have e2:(t.sg-1)*(t.st+1)=t.sg*(t.st+1)-(t.st+1):=by rw [Int.sub_mul,Int.one_mul]
 have e3:0≤seg*(t.st+1):=Int.mul_nonneg h1.1 (by omega)
 exact ⟨by omega,by omega⟩
theorem open_bd {t:Tab} (hok:okP t):(0≤lastN t.o∧lastN t.o<t.sg)∧(0≤lastN t.l∧lastN t.l≤t.st):=by
 have hb:=Tb.ok_bd hok
 exact ⟨hok.2.2.2.1 _ (Tb.last_mem (by omega)),hok.2.2.2.2.2.1 _ (Tb.last_mem (by omega))⟩
theorem has_open {t:Tab} {s:St} (hok:okP t) (hf:FitS t s):s.has (Tb.sectorT t.st (lastN t.o) (lastN t.l)):=has_sector hok hf (open_bd hok).1 (open_bd hok).2
theorem set4 {items:List Dk.Item} {k j:Nat} {a b c d:Dk.Item} (hkj:k≠j):((((items.set k a).set j b).set k c).set j d)=(items.set k c).set j d:=by
 rw [List.set_comm _ _ hkj.symm,set_set,set_set]
def sealIf (t:Tab) (s:St) (ls ep:Int):St × Tab × Int × Int:=if lastN t.l=t.st then sealS t s ls (footB t ls ep) else (s,t,ls,0)
def appS (t:Tab) (s:St) (ls ep K V D:Int) (I X:ByteArray):St × Tab × Int × Int × Int × Int :=
 if K=3∨Rc.okR ⟨ls,ep,K,V,D,I.data.toList,X.data.toList⟩=false then (s,t,ls,0,0,5) else
 if Tb.roomT t=0 then (s,t,ls,0,0,10) else
 if (sealIf t s ls ep).2.2.2≠0 then ((sealIf t s ls ep).1,(sealIf t s ls ep).2.1,(sealIf t s ls ep).2.2.1,0,0,(sealIf t s ls ep).2.2.2) else
 putS (sealIf t s ls ep).2.1 (sealIf t s ls ep).1 (sealIf t s ls ep).2.2.1 ep K V D I X
where
 putS (t:Tab) (s:St) (ls ep K V D:Int) (I X:ByteArray):St × Tab × Int × Int × Int × Int :=
  if s.dead then (s,t,ls,0,0,9) else (s.write (Tb.sectorT t.st (lastN t.o) (lastN t.l)) (secB ⟨ls,ep,K,V,D,I.data.toList,X.data.toList⟩),Tb.countedT t,ls+1,lastN t.o,lastN t.l,0)
theorem blk_ne {W:World} {b c:Nat} {T T' : TypeId} {vs us:Array Value} (h:Tb.Blk W b T vs) (h' : Tb.Blk W c T' us) (hne:T≠T'):b≠c:=by
 intro e
 subst e
 unfold Tb.Blk at h h'
 rw [h] at h'
 injection h' with h'
 injection h' with _ h'
 exact hne h'
theorem okR_lsn {l l' e k v d:Int} {i a:List UInt8} (h:Rc.okR ⟨l,e,k,v,d,i,a⟩=true) (hl:l'≠0):Rc.okR ⟨l',e,k,v,d,i,a⟩=true:=by
 rw [Rc.okR_iff] at h ⊢
 exact ⟨hl,h.2⟩
theorem count_yes {t:Tab} (h:lastN t.l≠t.st):Tb.countT t=some (Tb.countedT t):=if_neg h
theorem opened_count {t:Tab} {f x:Int} (hok:okP t):lastN (Tb.openedT t f x).l≠(Tb.openedT t f x).st:=by
 have h1:lastN (t.l++[0])=0:=by unfold lastN; rw [List.length_append,List.length_singleton,Nat.add_sub_cancel]; exact Tb.nth_last t.l 0
 have:=hok.2.1
 show lastN (t.l++[0])≠t.st
 rw [h1]; omega
theorem seal_facts {t t1:Tab} {s s1:St} {ls ls1 e1:Int} {S:ByteArray} (hok:okP t) (hf:FitS t s) (hls:1≤ls∧ls+2<18446744073709551616) (hpl:s.pend.length+2<1048576) (EZ:sealS t s ls S=(s1,t1,ls1,e1)) (he:e1=0) :
 okP t1∧FitS t1 s1∧lastN t1.l≠t1.st∧(1≤ls1∧ls1+1<18446744073709551616)∧s1.pend.length<1048576:=by
 unfold sealS at EZ
 split at EZ
 ·injection EZ with _ EZ; injection EZ with _ EZ; injection EZ with _ EZ; omega
 ·rename_i f l hfr
  split at EZ
  ·injection EZ with _ EZ; injection EZ with _ EZ; injection EZ with _ EZ; omega
  ·injection EZ with E1 EZ; injection EZ with E2 EZ; injection EZ with E3 EZ
   subst E1 E2 E3
   refine ⟨Tb.opened_ok hok (by rw [hfr]; exact List.mem_cons_self ..),hf,opened_count hok,⟨by omega,by omega⟩,?_⟩
   show (s.pend++[_]).length<_
   simp; omega
theorem arrF79 {cs:Array Value} (h:cs.size=79):∃ y:Nat→Value,(∀ i,cs.getD i undef=y i)∧cs=#[y 0,y 1,y 2,y 3,y 4,y 5,y 6,y 7,y 8,y 9,y 10,y 11,y 12,y 13,y 14,y 15,y 16,y 17,y 18,y 19,y 20,y 21,y 22,y 23,y 24,y 25,y 26,y 27,y 28,y 29,y 30,y 31,y 32,y 33,y 34,y 35,y 36,y 37,y 38,y 39,y 40,y 41,y 42,y 43,y 44,y 45,y 46,y 47,y 48,y 49,y 50,y 51,y 52,y 53,y 54,y 55,y 56,y 57,y 58,y 59,y 60,y 61,y 62,y 63,y 64,y 65,y 66,y 67,y 68,y 69,y 70,y 71,y 72,y 73,y 74,y 75,y 76,y 77,y 78]:=by
 refine ⟨fun i=>cs.getD i undef,fun _=>rfl,?_⟩
 have e:cs=((List.range 79).map fun i=>cs.getD i undef).toArray:=by
  apply Array.ext
  ·simp [h]
  ·intro i h1 h2
   simp [h1]
 exact e.trans rfl
end Go.Proofs.YtcnohlgigmmefaaGreat.Lg
namespace Go.Proofs.YtcnohlgigmmefaaGreat.Lg
open Go.RowKit Go.Lib
open Tb (Tab TIn Sl okP csT lastN nth Fresh)
open Dk (St Only Grew)
set_option linter.unusedVariables false
set_option maxRecDepth 100000
def zero7:Array Value:=#[.int .u64 0,.int .u32 0,.int .i64 0,.int .u64 0,.int .u64 0,.string ⟨#[]⟩,.string ⟨#[]⟩]
def cutC (s:ByteArray):Array Value :=
 if Rc.isSec s.data.toList=true then #[.int .u64 (Rc.cutR s.data.toList).l,.int .u32 (Rc.cutR s.data.toList).e,.int .i64 (Rc.cutR s.data.toList).k,.int .u64 (Rc.cutR s.data.toList).v,.int .u64 (Rc.cutR s.data.toList).d,.string ⟨(Rc.cutR s.data.toList).i.toArray⟩,.string ⟨(Rc.cutR s.data.toList).a.toArray⟩] else zero7
def decE (s:ByteArray):Int:=if Rc.isSec s.data.toList=true then 0 else 5
theorem cutC_one (s:ByteArray):(cutC s).all (·.oneCell')=true:=by
 unfold cutC zero7
 split <;> simp [Value.oneCell']
theorem cutC_size (s:ByteArray):(cutC s).size=7:=by
 unfold cutC zero7
 split <;> rfl
def readS (t:Tab) (s:St) (seg slot:Int):Array Value × Int :=
 if slot<0∨Tb.lenT t seg≤slot then (zero7,3) else (cutC (s.cur (Tb.sectorT t.st seg slot)),decE (s.cur (Tb.sectorT t.st seg slot)))
section
variable {ops:Array Oper} {rest:List Oper} {o:Oper} {a:Act} {w:World} {Q:Exit→Act→World→Prop}
end
theorem len_in {t:Tab} {seg slot:Int} (h0:0≤slot) (h:slot<Tb.lenT t seg):seg∈t.o:=by
 unfold Tb.lenT at h
 split at h
 ·omega
 ·rename_i hn
  exact Decidable.byContradiction fun hm=>hn (Tb.idx_neg.2 hm)
theorem len_le {t:Tab} {seg:Int} (hok:okP t):Tb.lenT t seg≤t.st:=by
 unfold Tb.lenT
 split
 ·have:=hok.2.1; omega
 ·have hi:=Tb.idx_lt (l:=t.o) (x:=seg)
  have:=hok.2.2.2.2.2.1 (nth t.l (Tb.idx t.o seg).toNat) (Tb.nth_mem (by have:=hok.2.2.2.2.2.2.1; omega))
  omega
end Go.Proofs.YtcnohlgigmmefaaGreat.Lg
namespace Go.Proofs.YtcnohlgigmmefaaGreat.Lg
open Go.RowKit Go.Lib
open Tb (Tab TIn Sl okP csT lastN nth Fresh)
open Dk (St Only Grew)
set_option linter.unusedVariables false
set_option maxRecDepth 100000
theorem log_new {W w w' W0:World} {items:List Dk.Item} {T:TypeId} {g d:Nat} {t:Tab} {ls ep gn:Int} {A:Option Addr} {m p:Nat} {B:Option Addr} {k q:Nat} {C:Option Addr} {n r:Nat} (h:Dk.Sep W w items) (hb:Below w.heap.size w w') (hB:Tb.Blk w' g T (csL d t.sg t.st A m p B k q C n r ls ep gn)) (hg:w.heap.size≤g) (ht:TIn w' A m B k C n t.o t.l t.f) (hok:okP t) (hf:Fresh W0 w.heap.size A m∧Fresh W0 w.heap.size B k∧Fresh W0 w.heap.size C n) (hn:Nb3 A B C g) :
 Dk.Sep W w' (items++[logI T g d t ls ep gn]):=by
 have h1:=Tb.ok_full hok ht
 obtain ⟨ba,oa,rfl,hba,_⟩:=ht.a.cells (by omega)
 obtain ⟨bb,ob,rfl,hbb,_⟩:=ht.b.cells (by omega)
 obtain ⟨bc,oc,rfl,hbc,_⟩:=ht.c.cells (by omega)
 have fa:w.heap.size≤ba:=by obtain ⟨b,o,e,hle,_⟩:=hf.1 (by omega); injection e with e; injection e with e1; omega
 have fb:w.heap.size≤bb:=by obtain ⟨b,o,e,hle,_⟩:=hf.2.1 (by omega); injection e with e; injection e with e1; omega
 have fc:w.heap.size≤bc:=by obtain ⟨b,o,e,hle,_⟩:=hf.2.2 (by omega); injection e with e; injection e with e1; omega
 refine h.new (logI T g d t ls ep gn) (G:=fun b=>b=g∨b=ba∨b=bb∨b=bc) ⟨_,m,p,_,k,q,_,n,r,⟨hB,ht,.inl rfl,?_,?_,?_,hn,?_,hok⟩⟩ ?_ hb
 ·rintro a ha; injection ha with ha; subst ha; exact .inr (.inl rfl)
 ·rintro a ha; injection ha with ha; subst ha; exact .inr (.inr (.inl rfl))
 ·rintro a ha; injection ha with ha; subst ha; exact .inr (.inr (.inr rfl))
 ·rintro b (rfl|rfl|rfl|rfl)
  ·exact hB.lt
  ·exact hba
  ·exact hbb
  ·exact hbc
 ·rintro b (rfl|rfl|rfl|rfl)
  ·exact hg
  ·exact fa
  ·exact fb
  ·exact fc
theorem app_fin {items:List Dk.Item} {k:Nat} {a b c d:Dk.Item} (h:items[k]? = some a):((items++[b]).set k c).set items.length d=items.set k c++[d]:=by
 rw [app_set h]
 have e:items.length=(items.set k c).length:=by simp
 rw [e]
 exact app_set_last
theorem chk_zero {s:St} {gn:Int} {S:ByteArray} (h:(chkS s gn S).2.2=0):(chkS s gn S).2.1=gn+1:=by
 unfold chkS at h ⊢
 split
 ·rename_i h1; rw [if_pos h1] at h; exact absurd h (by simp)
 ·rename_i h1
  rw [if_neg h1] at h
  split
  ·rename_i h2; rw [if_pos h2] at h; exact absurd h (by simp)
  ·rename_i h2
   rw [if_neg h2] at h
   split
   ·rename_i h3; rw [if_pos h3] at h; exact absurd h (by simp)
   ·rfl
theorem may_size {sg sl rt:Int} {x:Nat} (h:Ck.MayC sg sl x rt):Tb.sizeB sg sl=true:=by
 obtain ⟨h1,h2,_⟩:=h
 unfold Tb.sizeB
 exact decide_eq_true ⟨h1,h2⟩
def fmtE (s:St) (sg sl:Int) (x:Nat) (rt:Int) (S:ByteArray):Int:=if Ck.MayC sg sl x rt then (if s.size<Ck.scC sg sl x rt then 10 else (chkS s 0 S).2.2) else 1
def fmtD (s:St) (sg sl:Int) (x:Nat) (rt:Int) (S:ByteArray):St:=if Ck.MayC sg sl x rt then (if s.size<Ck.scC sg sl x rt then s else (chkS s 0 S).1) else s
end Go.Proofs.YtcnohlgigmmefaaGreat.Lg
