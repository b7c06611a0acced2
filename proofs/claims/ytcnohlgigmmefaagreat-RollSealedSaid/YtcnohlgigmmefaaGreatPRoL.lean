/- A part. -/
import Derived.Test.YtcnohlgigmmefaaGreatPRoH
import Derived.Test.YtcnohlgigmmefaaGreatPLgB
namespace Go.Proofs.YtcnohlgigmmefaaGreat.Ro
open Go.RowKit Go.Lib
open Tb (Tab TIn Sl okP csT lastN nth Fresh)
open Dk (St Only Grew)
open Lg (locI rowS loc_cell loc_whole loc_alloc loc_blk)
set_option linter.unusedVariables false
set_option maxRecDepth 100000
def onB (A:Option Addr) (m b:Nat):Prop:=0<m∧∃ o,A=some ⟨b,o,none⟩
section
variable {κ:IntKind} {W W' : World} {A:Option Addr} {m:Nat} {l:List Int}
theorem sl_lt (h:Sl κ W A m l) {b:Nat} (hb:onB A m b):b<W.heap.size:=by
 obtain ⟨h0,o,e⟩:=hb
 obtain ⟨b',o',e',hlt,_⟩:=h.cells h0
 rw [e] at e'
 injection e' with e'
 injection e' with e1
 omega
theorem sl_on (h:Sl κ W A m l) (hs:∀ b,onB A m b→W'.heap[b]? = W.heap[b]?) (hz:W.heap.size≤W'.heap.size):Sl κ W' A m l:=by
 refine ⟨h.len,fun hm=>?_⟩
 obtain ⟨b,o,rfl,hb,hc⟩:=h.cells hm
 exact ⟨b,o,rfl,by omega,fun j hj=>(World.cell?_of_block (w:=W) (hs b ⟨hm,o,rfl⟩)).trans (hc j hj)⟩
theorem fresh_on {W0:World} {base:Nat} (h:Fresh W0 base A m) {b:Nat} (hb:onB A m b):base≤b:=by
 obtain ⟨h0,o,e⟩:=hb
 obtain ⟨b',o',e',hle,_⟩:=h h0
 rw [e] at e'
 injection e' with e'
 injection e' with e1
 omega
end
def tabI (A:Option Addr) (m:Nat) (B:Option Addr) (k:Nat) (C:Option Addr) (n:Nat) (o l f:List Int):Dk.Item :=
 ⟨fun w G=>TIn w A m B k C n o l f∧∀ b,G b↔onB A m b∨onB B k b∨onB C n b,
  fun ⟨h,hG⟩ hs hz=>⟨⟨sl_on h.a (fun b hb=>hs b ((hG b).2 (.inl hb))) hz,sl_on h.b (fun b hb=>hs b ((hG b).2 (.inr (.inl hb)))) hz,sl_on h.c (fun b hb=>hs b ((hG b).2 (.inr (.inr hb)))) hz⟩,hG⟩,
  fun ⟨h,hG⟩ b hb=>by
   rcases (hG b).1 hb with h1|h1|h1
   ·exact sl_lt h.a h1
   ·exact sl_lt h.b h1
   ·exact sl_lt h.c h1⟩
section
variable {W w w' : World} {items:List Dk.Item} {A:Option Addr} {m:Nat} {B:Option Addr} {k:Nat} {C:Option Addr} {n:Nat} {o l f:List Int}
theorem tab_new (h:Dk.Sep W w items) (ht:TIn w' A m B k C n o l f) (hn:∀ b,onB A m b∨onB B k b∨onB C n b→w.heap.size≤b) (hb:Below w.heap.size w w'):Dk.Sep W w' (items++[tabI A m B k C n o l f]) :=
 h.new _ (G:=fun b=>onB A m b∨onB B k b∨onB C n b) ⟨ht,fun _=>Iff.rfl⟩ hn hb
theorem tab_put (h:Dk.Sep W w items) {j:Nat} {it:Dk.Item} (hj:items[j]? = some it) (ht:TIn w' A m B k C n o l f) (hn:∀ b,onB A m b∨onB B k b∨onB C n b→w.heap.size≤b) (hb:Below w.heap.size w w'):Dk.Sep W w' (items.set j (tabI A m B k C n o l f)) :=
 Lg.sep_swap h hj _ (G:=fun b=>onB A m b∨onB B k b∨onB C n b) ⟨ht,fun _=>Iff.rfl⟩ hn hb
theorem tab_tin (h:Dk.Sep W w items) {j:Nat} (hj:items[j]? = some (tabI A m B k C n o l f)):TIn w A m B k C n o l f:=by
 obtain ⟨G,⟨ht,_⟩,_⟩:=h.at_ j hj
 exact ht
theorem fresh_ons {W0:World} {base:Nat} (hf:Fresh W0 base A m∧Fresh W0 base B k∧Fresh W0 base C n):∀ b,onB A m b∨onB B k b∨onB C n b→base≤b:=by
 rintro b (h|h|h)
 ·exact fresh_on hf.1 h
 ·exact fresh_on hf.2.1 h
 ·exact fresh_on hf.2.2 h
end
section
variable {W w w' : World} {items items' : List Dk.Item}
theorem sep_pick (h:Dk.Sep W w items) (idx:List Nat) (hn:idx.Nodup) (he:idx.map (fun i=>items[i]?)=items'.map some):Dk.Sep W w items':=by
 obtain ⟨hW,Gs,hl,hh,hd,hN⟩:=h
 have hlen:idx.length=items'.length:=by simpa using congrArg List.length he
 have hat:∀ (i:Nat) (it:Dk.Item),items'[i]? = some it→∃ p,idx[i]? = some p∧items[p]? = some it:=fun i it hi=>by
  have h1:(idx.map (fun i=>items[i]?))[i]? = some (some it):=by rw [he,List.getElem?_map,hi]; rfl
  rw [List.getElem?_map] at h1
  cases hp:idx[i]? with
  | none=>rw [hp] at h1; cases h1
  | some p=>rw [hp] at h1; exact ⟨p,rfl,by simpa using h1⟩
 have hG:∀ (i:Nat) (G:Nat→Prop),(idx.map fun p=>Gs.getD p (fun _=>False))[i]? = some G→∃ p,idx[i]? = some p∧Gs[p]? = some G:=fun i G hi=>by
  rw [List.getElem?_map] at hi
  cases hp:idx[i]? with
  | none=>rw [hp] at hi; cases hi
  | some p =>
    rw [hp] at hi
    have hil:i<items'.length:=by rw [← hlen]; exact (List.getElem?_eq_some_iff.1 hp).1
    obtain ⟨p',hp',hx⟩:=hat i _ (List.getElem?_eq_getElem hil)
    rw [hp] at hp'
    injection hp' with hp'
    subst hp'
    have hpl:p<Gs.length:=by rw [hl]; exact (List.getElem?_eq_some_iff.1 hx).1
    refine ⟨p,rfl,?_⟩
    rw [List.getElem?_eq_getElem hpl]
    simp only [Option.map_some,Option.some.injEq] at hi
    rw [← hi,List.getD_eq_getElem?_getD,List.getElem?_eq_getElem hpl]
    rfl
 refine ⟨hW,idx.map fun p=>Gs.getD p (fun _=>False),by rw [List.length_map,hlen],fun i it G hi hG'=>?_,fun i j G H hij hi hj=>?_,fun i G hi=>?_⟩
 ·obtain ⟨p,hp,hx⟩:=hat i it hi
  obtain ⟨p',hp',hg⟩:=hG i G hG'
  rw [hp] at hp'
  injection hp' with hp'
  subst hp'
  exact hh p it G hx hg
 ·obtain ⟨p,hp,hg⟩:=hG i G hi
  obtain ⟨q,hq,hg'⟩:=hG j H hj
  refine hd p q G H (fun e=>hij ?_) hg hg'
  subst e
  exact (List.getElem?_inj (List.getElem?_eq_some_iff.1 hp).1 hn).1 (hp.trans hq.symm)
 ·obtain ⟨p,hp,hg⟩:=hG i G hi
  exact hN p G hg
theorem sep_front {a:Dk.Item} (h:Dk.Sep W w (items++[a])):Dk.Sep W w (a :: items):=by
 refine sep_pick h (items.length :: List.range items.length) ?_ ?_
 ·rw [List.nodup_cons]
  exact ⟨by simp,List.nodup_range⟩
 ·rw [List.map_cons,List.map_cons]
  congr 1
  ·simp
  ·apply List.ext_getElem?
   intro i
   rw [List.getElem?_map,List.getElem?_map]
   by_cases hi:i<items.length
   ·rw [List.getElem?_range hi]
    simp [List.getElem?_append_left hi,List.getElem?_eq_getElem hi]
   ·rw [List.getElem?_eq_none (l:=items) (by omega),List.getElem?_eq_none (by simp; omega)]
    rfl
theorem new_front (h:Dk.Sep W w items) (it:Dk.Item) {G:Nat→Prop} (hG:it.holds w' G) (hn:∀ b,G b→w.heap.size≤b) (hb:Below w.heap.size w w'):Dk.Sep W w' (it :: items):=sep_front (h.new it hG hn hb)
theorem loc_front (h:Dk.Sep W w items) (t:TypeId) (cs:Array Value):Dk.Sep W (w.alloc (.cells cs t)) (locI [(w.heap.size,t,cs)] :: items):=sep_front (loc_alloc h t cs)
theorem sep_skip {a b:Dk.Item} (h:Dk.Sep W w (a :: b :: items)):Dk.Sep W w (a :: items):=by
 obtain ⟨hW,Gs,hl,hh,hd,hN⟩:=h
 match Gs,hl with
 | Ga :: Gb :: Gs,hl =>
   have hi:∀ i:Nat,∃ j,(∀ G,(Ga :: Gs)[i]? = some G→(Ga :: Gb :: Gs)[j]? = some G)∧(∀ it,(a :: items)[i]? = some it→(a :: b :: items)[j]? = some it)∧(j=if i=0 then 0 else i+1):=fun i=>by
    cases i with
    | zero=>exact ⟨0,fun _ h=>h,fun _ h=>h,rfl⟩
    | succ i=>exact ⟨i+2,fun _ h=>h,fun _ h=>h,rfl⟩
   refine ⟨hW,Ga :: Gs,by simpa using hl,fun i it G h1 h2=>?_,fun i j G H hij h1 h2=>?_,fun i G h1=>?_⟩
   ·obtain ⟨j,e1,e2,_⟩:=hi i
    exact hh j it G (e2 _ h1) (e1 _ h2)
   ·obtain ⟨i',e1,_,e2⟩:=hi i
    obtain ⟨j',e3,_,e4⟩:=hi j
    refine hd i' j' G H ?_ (e1 _ h1) (e3 _ h2)
    rw [e2,e4]
    split <;> split <;> omega
   ·obtain ⟨j,e1,_⟩:=hi i
    exact hN j G (e1 _ h1)
theorem sep_merge {a b c:Dk.Item} {k:Nat} (h:Dk.Sep W w (a :: items)) (hk:items[k]? = some b) (hc:∀ Ga Gb:Nat→Prop,a.holds w Ga→b.holds w Gb→∃ G,c.holds w G∧∀ x,G x→Ga x∨Gb x):Dk.Sep W w (items.set k c):=by
 obtain ⟨hW,Gs,hl,hh,hd,hN⟩:=h
 cases Gs with
 | nil=>simp at hl
 | cons Ga Gs =>
   have hkl:k<Gs.length:=by have:=(List.getElem?_eq_some_iff.1 hk).1; simp at hl; omega
   have hkG:Gs[k]? = some Gs[k]:=List.getElem?_eq_getElem hkl
   obtain ⟨G,g1,g2⟩:=hc Ga Gs[k] (hh 0 a Ga rfl rfl) (hh (k+1) b _ hk hkG)
   have hset:∀ (i:Nat) (H:Nat→Prop),(Gs.set k G)[i]? = some H→(i=k∧H=G)∨(i≠k∧Gs[i]? = some H):=fun i H hi=>by
    rw [List.getElem?_set] at hi
    by_cases e:k=i
    ·subst e
     rw [if_pos rfl,if_pos hkl] at hi
     injection hi with hi
     exact .inl ⟨rfl,hi.symm⟩
    ·rw [if_neg e] at hi
     exact .inr ⟨fun h=>e h.symm,hi⟩
   have hoff:∀ (i:Nat) (H:Nat→Prop),i≠k→Gs[i]? = some H→∀ x,H x→¬ G x:=fun i H hne hi x hx hg=>by
    rcases g2 x hg with h1|h1
    ·exact hd (i+1) 0 H Ga (by omega) hi rfl x hx h1
    ·exact hd (i+1) (k+1) H _ (by omega) hi hkG x hx h1
   refine ⟨hW,Gs.set k G,by simpa using hl,fun i it H hi hH=>?_,fun i j H H' hij hi hj x hx hx'=>?_,fun i H hi x hx=>?_⟩
   ·rcases hset i H hH with ⟨rfl,rfl⟩ | ⟨hne,hH'⟩
    ·rw [List.getElem?_set_self (List.getElem?_eq_some_iff.1 hk).1] at hi
     injection hi with hi
     subst hi
     exact g1
    ·rw [List.getElem?_set_ne (Ne.symm hne)] at hi
     exact hh (i+1) it H hi hH'
   ·rcases hset i H hi with ⟨rfl,rfl⟩ | ⟨hne,hH⟩ <;> rcases hset j H' hj with ⟨rfl,rfl⟩ | ⟨hne',hH'⟩
    ·exact hij rfl
    ·exact hoff j H' hne' hH' x hx' hx
    ·exact hoff i H hne hH x hx hx'
    ·exact hd (i+1) (j+1) H H' (by omega) hH hH' x hx hx'
   ·rcases hset i H hi with ⟨rfl,rfl⟩ | ⟨hne,hH⟩
    ·rcases g2 x hx with h1|h1
     ·exact hN 0 Ga rfl x h1
     ·exact hN (i+1) _ hkG x h1
    ·exact hN (i+1) H hH x hx
theorem rows_new (h:Dk.Sep W w items) {e:TypeId} {sz n:Nat} {v:Value} {xs:List Value} (ho:w'.ownsRow w.heap.size e sz v n xs) (hb:Below w.heap.size w w'):Dk.Sep W w' (rowS e sz v n xs :: items) :=
 new_front h (rowS e sz v n xs) (G:=fun b=>v.ownBlock=some b) ⟨Tb.own_base ho (Nat.zero_le _),fun _=>Iff.rfl⟩ (fun b hb'=>(ho.lt b hb').1) hb
theorem rows_put {κ:IntKind} {e:TypeId} {g n p:Nat} {l:List Int} {k:Nat} (h:Dk.Sep W w items) (hk:items[k]? = some (rowS e 1 (.slice (some ⟨g,0,none⟩) n p) n (Tb.iv κ l))) (i:Nat) (x:Int) :
 Dk.Sep W (w.setCell ⟨g,i,none⟩ (.int κ x)) (items.set k (rowS e 1 (.slice (some ⟨g,0,none⟩) n p) n (Tb.iv κ (l.set i x)))):=by
 obtain ⟨G,⟨ho,hG⟩,_,_,put⟩:=h.at_ k hk
 have h1:=(ho.stored i (.int κ x)).1
 rw [Tb.iv_set] at h1
 exact put _ G _ ⟨h1,hG⟩ (Grew.refl _ _) ((Only.refl _ w).grown (Tb.grown_set w g i (.int κ x)) (fun q hq=>.inl ((hG q).2 hq)))
theorem rows_own {e:TypeId} {sz n:Nat} {v:Value} {xs:List Value} {k:Nat} (h:Dk.Sep W w items) (hk:items[k]? = some (rowS e sz v n xs)):w.ownsRow 0 e sz v n xs:=by
 obtain ⟨G,⟨ho,_⟩,_⟩:=h.at_ k hk
 exact ho
theorem rows_sl {κ:IntKind} {e:TypeId} {A:Option Addr} {n p:Nat} {l:List Int} {k:Nat} (h:Dk.Sep W w items) (hk:items[k]? = some (rowS e 1 (.slice A n p) n (Tb.iv κ l))):Sl κ w A n l:=Tb.own_sl (rows_own h hk)
theorem tab_first {A:Option Addr} {m:Nat} {B:Option Addr} {k:Nat} {C:Option Addr} {n:Nat} {o l f:List Int} {e:TypeId} {C' : Option Addr} {n' p' : Nat} {f' : List Int} {j:Nat} (h:Dk.Sep W w (rowS e 1 (.slice C' n' p') n' (Tb.iv .u64 f') :: items)) (hj:items[j]? = some (tabI A m B k C n o l f)) :
 Dk.Sep W w (items.set j (tabI A m B k C' n' o l f')):=by
 have hs:=rows_sl h (k:=0) rfl
 refine sep_merge h hj fun Ga Gb ⟨ho,hGa⟩ ⟨ht,hGb⟩=>⟨fun b=>onB A m b∨onB B k b∨onB C' n' b,⟨⟨ht.a,ht.b,hs⟩,fun _=>Iff.rfl⟩,?_⟩
 rintro x (h1|h1|h1)
 ·exact .inr ((hGb x).2 (.inl h1))
 ·exact .inr ((hGb x).2 (.inr (.inl h1)))
 ·left
  obtain ⟨_,y,rfl⟩:=h1
  exact (hGa x).2 rfl
end
def fdC (x:Fd):List Value:=[.int .i64 x.1.1,.int .i64 x.1.2,.int .u64 x.2.l,.int .u32 x.2.e,.int .i64 x.2.k,.int .u64 x.2.v,.int .u64 x.2.d,.string ⟨x.2.i.toArray⟩,.string ⟨x.2.a.toArray⟩]
theorem fdC_len (x:Fd):(fdC x).length=9:=rfl
def csI (g e l v:Int) (A:Option Addr) (m p:Nat) (B:Option Addr) (k q:Nat) (sg st:Int) (vO vN vT:Value) (ls vr:Int) (vF:Value):Array Value:=#[.int .u64 g,.int .u32 e,.int .u64 l,.int .u64 v,.slice A m p,.slice B k q,.int .i64 sg,.int .i64 st,vO,vN,vT,.int .u64 ls,.int .u64 vr,vF]
abbrev nilS:Value:=.slice none 0 0
def zeroI:Array Value:=csI 0 0 0 0 none 0 0 none 0 0 0 0 nilS nilS nilS 0 0 nilS
structure IL where
 A:Option Addr
 m:Nat
 p:Nat
 B:Option Addr
 k:Nat
 q:Nat
 A2:Option Addr
 m2:Nat
 p2:Nat
 B2:Option Addr
 k2:Nat
 q2:Nat
 C2:Option Addr
 n2:Nat
 r2:Nat
 F:Option Addr
 fp:Nat
def IL.cs (x:IL) (m:Img):Array Value:=csI m.c.g m.c.e m.c.l m.c.v x.A x.m x.p x.B x.k x.q m.t.sg m.t.st (.slice x.A2 x.m2 x.p2) (.slice x.B2 x.k2 x.q2) (.slice x.C2 x.n2 x.r2) m.ls m.v (.slice x.F m.f.length x.fp)
def IL.fI (x:IL) (T:TypeId) (m:Img):Dk.Item:=rowS T 9 (.slice x.F m.f.length x.fp) m.f.length (m.f.flatMap fdC)
def IL.kI (x:IL) (m:Img):Dk.Item:=tabI x.A x.m x.B x.k none 0 m.c.o m.c.n []
def IL.tI (x:IL) (m:Img):Dk.Item:=tabI x.A2 x.m2 x.B2 x.k2 x.C2 x.n2 m.t.o m.t.l m.t.f
def ScanP (T:TypeId) (o:Option Img) (w:World) (e:Ending) (w' : World):Prop :=
 (o=none∧e=.returned (.tuple #[.agg zeroI,.int .i64 5])∧Below w.heap.size w w') ∨
 ∃ (m:Img) (x:IL),o=some m∧e=.returned (.tuple #[.agg (x.cs m),.int .i64 0])∧Dk.Sep w w' [x.fI T m,x.kI m,x.tI m]
def recC (r:Rc.Rec):Array Value:=#[.int .u64 r.l,.int .u32 r.e,.int .i64 r.k,.int .u64 r.v,.int .u64 r.d,.string ⟨r.i.toArray⟩,.string ⟨r.a.toArray⟩]
def nxR (S:ByteArray) (l e:Int):Option Rc.Rec:=match recOf S with
 | none=>none
 | some r=>if r.l=l∧r.e=e then some r else none
def nxC (o:Option Rc.Rec):Array Value:=match o with
 | none=>Lg.zero7
 | some r=>recC r
theorem nxC_size (o:Option Rc.Rec):(nxC o).size=7:=by cases o <;> rfl
theorem nxC_one (o:Option Rc.Rec):(nxC o).all (·.oneCell')=true:=by cases o <;> simp [nxC,recC,Lg.zero7,Value.oneCell']
theorem step_nx (h:Held) (ep:Int) (m:Img):stepI h ep m=match nxR (h (place m)) m.ls ep with
 | none=>none
 | some r=>if r.k≠3 then (if lastN m.t.l<m.t.st then some ⟨m.c,Tb.countedT m.t,up m.ls,max m.v r.v,m.f++[((lastN m.t.o,lastN m.t.l),r)]⟩ else none)
  else match Tb.freeT m.t with
   | []=>none
   | f :: _=>if r.d=f then some ⟨m.c,Tb.openedT m.t f (up m.ls),up m.ls,m.v,m.f⟩ else none:=by
 unfold stepI nxR recAt place
 split
 ·rename_i h1; rw [h1]
 ·rename_i r h1
  rw [h1]
  simp only
  split <;> rfl
theorem nxR_some {S:ByteArray} {l e:Int} {r:Rc.Rec} (h:nxR S l e=some r):recOf S=some r∧r.l=l∧r.e=e:=by
 unfold nxR at h
 split at h
 ·cases h
 ·rename_i r' h1
  split at h
  ·rename_i h2
   injection h with h
   subst h
   exact ⟨h1,h2⟩
  ·cases h
def ins (cs:Array Value) (i:Nat):List Value→Array Value
 | []=>cs
 | v :: vs=>ins (cs.setIfInBounds i v) (i+1) vs
theorem set_cells {w:World} {g:Nat} {t:TypeId}:∀ {cs:Array Value} (i:Nat) (vs:List Value),Tb.Blk w g t cs→w.setCells g i vs=if vs=[] then w else w.setRow g (ins cs i vs)
 | cs,i,[],h=>rfl
 | cs,i,[v],h=>by
   simp only [World.setCells,ins]
   rw [Lg.set_row h]
   rfl
 | cs,i,v :: u :: vs,h=>by
   have h1:=h.row (cs.setIfInBounds i v)
   have:=set_cells (cs:=cs.setIfInBounds i v) (i+1) (u :: vs) h1
   simp only [World.setCells] at this ⊢
   rw [Lg.set_row h,this,if_neg (by simp),if_neg (by simp),Lg.row_row]
   rfl
end Go.Proofs.YtcnohlgigmmefaaGreat.Ro
namespace Go.Proofs.YtcnohlgigmmefaaGreat.Lg
open Go.RowKit Go.Lib
open Tb (Tab TIn Sl okP csT lastN nth Fresh)
open Dk (St Only Grew)
set_option linter.unusedVariables false
set_option maxRecDepth 100000
structure Kp where
 A:Option Addr
 m:Nat
 p:Nat
 B:Option Addr
 k:Nat
 q:Nat
 C:Option Addr
 n:Nat
 r:Nat
 t:Tab
structure KIn (w:World) (G:Nat→Prop) (g:Nat) (x:Kp):Prop where
 tin:TIn w x.A x.m x.B x.k x.C x.n x.t.o x.t.l x.t.f
 ga:∀ a,x.A=some a→G a.block
 gb:∀ a,x.B=some a→G a.block
 gc:∀ a,x.C=some a→G a.block
 nb:Nb3 x.A x.B x.C g
 ok:okP x.t
section
variable {w w' : World} {G G' : Nat→Prop} {g:Nat} {x:Kp}
theorem KIn.same (h:KIn w G g x) (hs:∀ i,G i→w'.heap[i]? = w.heap[i]?) (hz:w.heap.size≤w'.heap.size):KIn w' G g x :=
 ⟨⟨sl_same h.tin.a h.ga hs hz,sl_same h.tin.b h.gb hs hz,sl_same h.tin.c h.gc hs hz⟩,h.ga,h.gb,h.gc,h.nb,h.ok⟩
theorem KIn.grow (h:KIn w G g x) (hg:∀ b,G b→G' b):KIn w G' g x :=
 ⟨h.tin,fun a e=>hg _ (h.ga a e),fun a e=>hg _ (h.gb a e),fun a e=>hg _ (h.gc a e),h.nb,h.ok⟩
theorem KIn.later (h:KIn w G g x) (hb:Below w.heap.size w w'):KIn w' G g x:=⟨h.tin.later hb,h.ga,h.gb,h.gc,h.nb,h.ok⟩
theorem KIn.row (h:KIn w G g x) (cs:Array Value):KIn (w.setRow g cs) G g x:=⟨tin_row h.tin h.nb cs,h.ga,h.gb,h.gc,h.nb,h.ok⟩
end
def logX (T:TypeId) (g d:Nat) (t:Tab) (ls ep gn:Int) (K:Kp):Dk.Item :=
 ⟨fun w G=>(∃ A m p B k q C n r,LogIn T w g d A m p B k q C n r G t ls ep gn)∧KIn w G g K,fun ⟨⟨A,m,p,B,k,q,C,n,r,D⟩,h⟩ hs hz=>⟨⟨A,m,p,B,k,q,C,n,r,D.same hs hz⟩,h.same hs hz⟩,fun ⟨⟨_,_,_,_,_,_,_,_,_,D⟩,_⟩=>D.lt⟩
section
variable {T:TypeId} {W w w' : World} {items:List Dk.Item} {g d:Nat} {t t' : Tab} {ls ep gn:Int} {j:Nat} {K:Kp}
theorem x_at (h:Dk.Sep W w items) (hj:items[j]? = some (logX T g d t ls ep gn K)) :
 ∃ A m p B k q C n r,Tb.Blk w g T (csL d t.sg t.st A m p B k q C n r ls ep gn)∧TIn w A m B k C n t.o t.l t.f∧Nb3 A B C g∧okP t:=by
 obtain ⟨G,⟨⟨A,m,p,B,k,q,C,n,r,D⟩,_⟩,_⟩:=h.at_ j hj
 exact ⟨A,m,p,B,k,q,C,n,r,D.blk,D.tin,D.nb,D.ok⟩
theorem x_ok (h:Dk.Sep W w items) (hj:items[j]? = some (logX T g d t ls ep gn K)):okP t:=by
 obtain ⟨_,_,_,_,_,_,_,_,_,_,_,_,ok⟩:=x_at h hj
 exact ok
theorem x_keep (h:Dk.Sep W w items) (hj:items[j]? = some (logI T g d t ls ep gn)) :
 ∃ A m p B k q C n r,Tb.Blk w g T (csL d t.sg t.st A m p B k q C n r ls ep gn)∧Dk.Sep W w (items.set j (logX T g d t ls ep gn ⟨A,m,p,B,k,q,C,n,r,t⟩)):=by
 obtain ⟨G,⟨A,m,p,B,k,q,C,n,r,D⟩,hN,_,hset⟩:=h.at_ j hj
 exact ⟨A,m,p,B,k,q,C,n,r,D.blk,hset w G _ ⟨⟨A,m,p,B,k,q,C,n,r,D⟩,⟨D.tin,D.ga,D.gb,D.gc,D.nb,D.ok⟩⟩ (Grew.refl _ _) (Only.refl _ w)⟩
theorem x_forget (h:Dk.Sep W w items) (hj:items[j]? = some (logX T g d t ls ep gn K)):Dk.Sep W w (items.set j (logI T g d t ls ep gn)):=by
 obtain ⟨G,⟨D,_⟩,hN,_,hset⟩:=h.at_ j hj
 exact hset w G _ D (Grew.refl _ _) (Only.refl _ w)
theorem x_back (h:Dk.Sep W w items) (hj:items[j]? = some (logX T g d t ls ep gn K)) (ls' ep' gn' : Int) :
 (∃ cs,cs.size=9∧Tb.Blk w g T cs)∧Dk.Sep W (w.setRow g (csL d K.t.sg K.t.st K.A K.m K.p K.B K.k K.q K.C K.n K.r ls' ep' gn')) (items.set j (logI T g d K.t ls' ep' gn')):=by
 obtain ⟨G,⟨⟨A,m,p,B,k,q,C,n,r,D⟩,h2⟩,hN,_,hset⟩:=h.at_ j hj
 refine ⟨⟨_,rfl,D.blk⟩,hset _ G _ ⟨K.A,K.m,K.p,K.B,K.k,K.q,K.C,K.n,K.r,?_⟩ (Grew.refl _ _) ((Only.refl _ w).setRow (.inl D.gg) _)⟩
 exact ⟨D.blk.row _,tin_row h2.tin h2.nb _,D.gg,h2.ga,h2.gb,h2.gc,h2.nb,fun b hb=>by rw [Tb.row_size]; exact D.lt b hb,h2.ok⟩
theorem x_row (h:Dk.Sep W w items) (hj:items[j]? = some (logX T g d t ls ep gn K)) (ls' ep' gn' : Int) :
 ∃ A m p B k q C n r,Tb.Blk w g T (csL d t.sg t.st A m p B k q C n r ls ep gn)∧TIn w A m B k C n t.o t.l t.f∧Dk.Sep W (w.setRow g (csL d t.sg t.st A m p B k q C n r ls' ep' gn')) (items.set j (logX T g d t ls' ep' gn' K)):=by
 obtain ⟨G,⟨⟨A,m,p,B,k,q,C,n,r,D⟩,h2⟩,hN,_,hset⟩:=h.at_ j hj
 refine ⟨A,m,p,B,k,q,C,n,r,D.blk,D.tin,hset _ G _ ⟨⟨A,m,p,B,k,q,C,n,r,?_⟩,h2.row _⟩ (Grew.refl _ _) ((Only.refl _ w).setRow (.inl D.gg) _)⟩
 exact ⟨D.blk.row _,tin_row D.tin D.nb _,D.gg,D.ga,D.gb,D.gc,D.nb,fun b hb=>by rw [Tb.row_size]; exact D.lt b hb,D.ok⟩
theorem x_lsn (h:Dk.Sep W w items) (hj:items[j]? = some (logX T g d t ls ep gn K)) (x:Int):Dk.Sep W (w.setCell ⟨g,6,none⟩ (.int .u64 x)) (items.set j (logX T g d t x ep gn K)):=by
 obtain ⟨A,m,p,B,k,q,C,n,r,hB,_,hS⟩:=x_row h hj x ep gn
 rw [set_row hB]
 exact hS
theorem x_gen (h:Dk.Sep W w items) (hj:items[j]? = some (logX T g d t ls ep gn K)) (x:Int):Dk.Sep W (w.setCell ⟨g,8,none⟩ (.int .u64 x)) (items.set j (logX T g d t ls ep x K)):=by
 obtain ⟨A,m,p,B,k,q,C,n,r,hB,_,hS⟩:=x_row h hj ls ep x
 rw [set_row hB]
 exact hS
theorem x_tab (h:Dk.Sep W w items) (hj:items[j]? = some (logX T g d t ls ep gn K)) (hb:Below w.heap.size w w') {W0:World} {A:Option Addr} {m p:Nat} {B:Option Addr} {k q:Nat} {C:Option Addr} {n r:Nat} (ht:TIn w' A m B k C n t'.o t'.l t'.f) (hok:okP t') (hf:Fresh W0 w.heap.size A m∧Fresh W0 w.heap.size B k∧Fresh W0 w.heap.size C n) :
 Dk.Sep W (w'.setRow g (csL d t'.sg t'.st A m p B k q C n r ls ep gn)) (items.set j (logX T g d t' ls ep gn K)):=by
 obtain ⟨G,⟨⟨A0,m0,p0,B0,k0,q0,C0,n0,r0,D⟩,h2⟩,hN,_,hset⟩:=h.at_ j hj
 have hgw:g<w.heap.size:=D.lt g D.gg
 have h1:=Tb.ok_full hok ht
 obtain ⟨ba,oa,rfl,hba,_⟩:=ht.a.cells (by omega)
 obtain ⟨bb,ob,rfl,hbb,_⟩:=ht.b.cells (by omega)
 obtain ⟨bc,oc,rfl,hbc,_⟩:=ht.c.cells (by omega)
 have na:=fresh_nb3 hok ht hf hgw
 have fa:w.heap.size≤ba:=by obtain ⟨b,o,e,hle,_⟩:=hf.1 (by omega); injection e with e; injection e with e1; omega
 have fb:w.heap.size≤bb:=by obtain ⟨b,o,e,hle,_⟩:=hf.2.1 (by omega); injection e with e; injection e with e1; omega
 have fc:w.heap.size≤bc:=by obtain ⟨b,o,e,hle,_⟩:=hf.2.2 (by omega); injection e with e; injection e with e1; omega
 refine hset _ (fun b=>G b∨b=ba∨b=bb∨b=bc) _ ⟨⟨_,m,p,_,k,q,_,n,r,⟨(D.blk.later hb).row _,tin_row ht na _,.inl D.gg,?_,?_,?_,na,?_,hok⟩⟩,((h2.later hb).row _).grow fun b hG=>.inl hG⟩ ?_ (((Only.refl _ w).of_below hb).setRow (.inl D.gg) _)
 ·rintro a ha; injection ha with ha; subst ha; exact .inr (.inl rfl)
 ·rintro a ha; injection ha with ha; subst ha; exact .inr (.inr (.inl rfl))
 ·rintro a ha; injection ha with ha; subst ha; exact .inr (.inr (.inr rfl))
 ·rintro b (hG|rfl|rfl|rfl)
  ·rw [Tb.row_size]; exact Nat.lt_of_lt_of_le (D.lt b hG) hb.size
  ·rw [Tb.row_size]; exact hba
  ·rw [Tb.row_size]; exact hbb
  ·rw [Tb.row_size]; exact hbc
 ·rintro b (hG|rfl|rfl|rfl)
  ·exact .inl hG
  ·exact .inr fa
  ·exact .inr fb
  ·exact .inr fc
end
theorem info_lg:(Tryz.prog.info? 156).map (·.size)=some 9:=by kernel_rfl
theorem info_tp:(Tryz.prog.info? 45).map (·.size)=some 5:=by kernel_rfl
theorem csL_one (d:Nat) (sg st:Int) (A:Option Addr) (m p:Nat) (B:Option Addr) (k q:Nat) (C:Option Addr) (n r:Nat) (ls ep gn:Int):(csL d sg st A m p B k q C n r ls ep gn).all (·.oneCell')=true:=by simp [csL,Value.oneCell']
section
variable {ops:Array Oper} {rest:List Oper} {o:Oper} {a:Act} {w:World} {Q:Exit→Act→World→Prop}
theorem load_pt (hgd:o.guard=none) (x:Operand) (ho:o.op=.load 45 x) (g:Nat) (hx:a.eval x=.pointer (some ⟨g,1,none⟩)) {sg st:Int} {A:Option Addr} {m p:Nat} {B:Option Addr} {k q:Nat} {C:Option Addr} {n r:Nat} {d:Nat} {T:TypeId} {ls ep gn:Int} (hB:Tb.Blk w g T (csL d sg st A m p B k q C n r ls ep gn))
 (h:wpList Tryz.prog ops Q rest (a.put o.dst (.agg #[.int .i64 sg,.int .i64 st,.slice A m p,.slice B k q,.slice C n r])) w):wpList Tryz.prog ops Q (o :: rest) a w :=
 wpList_load_mid hgd _ x ho g 1 hx [.int .i64 sg,.int .i64 st,.slice A m p,.slice B k q,.slice C n r] _ (fun j v hv=>by
  have hj:j<5:=(List.getElem?_eq_some_iff.1 hv).1
  rw [hB.cell]
  rcases (by omega:j=0∨j=1∨j=2∨j=3∨j=4) with rfl|rfl|rfl|rfl|rfl <;> exact hv) Tryz.underlying45 rfl info_tp h
theorem store_pt (hgd:o.guard=none) (x y:Operand) (ho:o.op=.store 45 x y) (g:Nat) (hx:a.eval x=.pointer (some ⟨g,1,none⟩)) {sg st:Int} {A:Option Addr} {m p:Nat} {B:Option Addr} {k q:Nat} {C:Option Addr} {n r:Nat} (hy:a.eval y=.agg #[.int .i64 sg,.int .i64 st,.slice A m p,.slice B k q,.slice C n r]) {t:Tab} {A0:Option Addr} {m0 p0:Nat} {B0:Option Addr} {k0 q0:Nat} {C0:Option Addr} {n0 r0:Nat} {d:Nat} {T:TypeId} {ls ep gn:Int} (hB:Tb.Blk w g T (csL d t.sg t.st A0 m0 p0 B0 k0 q0 C0 n0 r0 ls ep gn))
 (h:wpList Tryz.prog ops Q rest (a.put o.dst undef) (w.setRow g (csL d sg st A m p B k q C n r ls ep gn))):wpList Tryz.prog ops Q (o :: rest) a w:=by
 refine wpList_store_mid hgd _ x y ho g 1 #[.int .i64 sg,.int .i64 st,.slice A m p,.slice B k q,.slice C n r] hx hy (fun j hj=>?_) info_tp (Tb.csT_one sg st A m p B k q C n r) ?_
 ·have hj5:j<5:=hj
  rw [hB.cell,hB.frozen]
  rcases (by omega:j=0∨j=1∨j=2∨j=3∨j=4) with rfl|rfl|rfl|rfl|rfl <;> exact ⟨rfl,rfl⟩
 ·rw [show (#[.int .i64 sg,.int .i64 st,.slice A m p,.slice B k q,.slice C n r]:Array Value).toList=[.int .i64 sg,.int .i64 st,.slice A m p,.slice B k q,.slice C n r] from rfl,tab_cells hB]
  exact h
theorem load_lg (hgd:o.guard=none) (x:Operand) (ho:o.op=.load 156 x) (g:Nat) (hx:a.eval x=.pointer (some ⟨g,0,none⟩)) {sg st:Int} {A:Option Addr} {m p:Nat} {B:Option Addr} {k q:Nat} {C:Option Addr} {n r:Nat} {d:Nat} {T:TypeId} {ls ep gn:Int} (hB:Tb.Blk w g T (csL d sg st A m p B k q C n r ls ep gn))
 (h:wpList Tryz.prog ops Q rest (a.put o.dst (.agg (csL d sg st A m p B k q C n r ls ep gn))) w):wpList Tryz.prog ops Q (o :: rest) a w :=
 wpList_load_row hgd _ x ho g hx _ (csL d sg st A m p B k q C n r ls ep gn) (0,0) _ hB Tryz.underlying156 rfl info_lg h
theorem store_lg (hgd:o.guard=none) (x y:Operand) (ho:o.op=.store 156 x y) (g:Nat) (hx:a.eval x=.pointer (some ⟨g,0,none⟩)) {sg st:Int} {A:Option Addr} {m p:Nat} {B:Option Addr} {k q:Nat} {C:Option Addr} {n r:Nat} {d:Nat} {T:TypeId} {ls ep gn:Int} (hy:a.eval y=.agg (csL d sg st A m p B k q C n r ls ep gn)) {cs:Array Value} (hsz:cs.size=9) (hB:Tb.Blk w g T cs)
 (h:wpList Tryz.prog ops Q rest (a.put o.dst undef) (w.setRow g (csL d sg st A m p B k q C n r ls ep gn))):wpList Tryz.prog ops Q (o :: rest) a w :=
 wpList_store_row hgd _ x y ho g (csL d sg st A m p B k q C n r ls ep gn) hx hy _ _ hB info_lg hsz (csL_one d sg st A m p B k q C n r ls ep gn) h
end
end Go.Proofs.YtcnohlgigmmefaaGreat.Lg
