/- A part. -/
import Derived.Test.YtcnohlgigmmefaaGreatPLgI
namespace Go.Proofs.YtcnohlgigmmefaaGreat.Ro
open Go.RowKit Go.Lib Wd
open Tb (Tab okP lastN nth)
open Dk (St)
set_option linter.unusedVariables false
abbrev Held:=Int→ByteArray
abbrev Fd:=(Int × Int) × Rc.Rec
def recOf (x:ByteArray):Option Rc.Rec:=if Rc.isSec x.data.toList=true then some (Rc.cutR x.data.toList) else none
def recAt (h:Held) (st seg slot:Int):Option Rc.Rec:=recOf (h (Tb.sectorT st seg slot))
theorem recOf_some {x:ByteArray} {r:Rc.Rec} (h:recOf x=some r):Rc.isSec x.data.toList=true∧Rc.cutR x.data.toList=r∧Rc.Fits r∧Rc.okR r=true∧x.data.toList=Rc.secL r:=by
 unfold recOf at h
 split at h
 ·rename_i hs
  injection h with h
  subst h
  have:=(Rc.isSec_iff _).1 hs
  exact ⟨hs,rfl,Rc.cutR_fits _,this.1,this.2.symm⟩
 ·cases h
theorem recOf_sec {r:Rc.Rec} (hf:Rc.Fits r) (h:Rc.okR r=true):recOf (Lg.secB r)=some r:=by
 unfold recOf
 rw [← Lg.secB_eq,if_pos (Rc.isSec_secL hf h),Rc.cutR_secL hf h]
theorem recOf_low {x:ByteArray} {r:Rc.Rec} {l e:Int} (h:recOf x=some r) (hlt:endN x.data.toList<stN l e):¬ (r.l=l∧r.e=e):=by
 rintro ⟨rfl,rfl⟩
 obtain ⟨h1,h2,_⟩:=recOf_some h
 have:=end_is h1
 rw [h2] at this
 omega
structure Img where
 c:Cp.Chk
 t:Tab
 ls:Int
 v:Int
 f:List Fd
def segF (h:Held) (st seg:Int):Nat→Option (List Fd)
 | 0=>some []
 | k+1=>match segF h st seg k with
   | none=>none
   | some l=>match recAt h st seg (k:Int) with
     | none=>none
     | some r=>if r.k=3 then none else some (l++[((seg,(k:Int)),r)])
def readsT (h:Held) (st:Int) (o l:List Int):Nat→Option (List Fd)
 | 0=>some []
 | i+1=>match readsT h st o l i with
   | none=>none
   | some a=>match segF h st (nth o i) (nth l i).toNat with
     | none=>none
     | some b=>some (a++b)
def firstT (h:Held) (st seg n ls:Int):Int:=if n≤0 then ls else match recAt h st seg 0 with
 | none=>ls
 | some r=>r.l
def firstsT (h:Held) (st:Int) (c:Cp.Chk) (i:Nat):List Int:=(List.range i).map fun j=>firstT h st (nth c.o j) (nth c.n j) c.l
def baseI (h:Held) (sg st:Int) (c:Cp.Chk) (f:List Fd):Img:=⟨c,⟨sg,st,c.o,c.n,firstsT h st c c.o.length⟩,c.l,c.v,f⟩
def inT (sg st:Int) (c:Cp.Chk) (i:Nat):Prop:=∀ j,j<i→nth c.o j<sg∧nth c.n j≤st
instance (sg st:Int) (c:Cp.Chk) (i:Nat):Decidable (inT sg st c i):=by unfold inT; infer_instance
def cntI (h:Held) (sg st:Int) (c:Cp.Chk):Option (List Fd):=if inT sg st c c.o.length then readsT h st c.o c.n c.o.length else none
def up (l:Int):Int:=if l=18446744073709551615 then 0 else l+1
def stepI (h:Held) (ep:Int) (m:Img):Option Img:=match recAt h m.t.st (lastN m.t.o) (lastN m.t.l) with
 | none=>none
 | some r=>if r.l=m.ls∧r.e=ep then
  (if r.k≠3 then (if lastN m.t.l<m.t.st then some ⟨m.c,Tb.countedT m.t,up m.ls,max m.v r.v,m.f++[((lastN m.t.o,lastN m.t.l),r)]⟩ else none)
   else match Tb.freeT m.t with
    | []=>none
    | f :: _=>if r.d=f then some ⟨m.c,Tb.openedT m.t f (up m.ls),up m.ls,m.v,m.f⟩ else none)
  else none
def fuelI (m:Img):Nat:=(Tb.freeT m.t).length*(m.t.st.toNat+1)+(m.t.st-lastN m.t.l).toNat
def runI (h:Held) (ep:Int):Nat→Img→Img
 | 0,m=>m
 | n+1,m=>match stepI h ep m with
   | none=>m
   | some m'=>runI h ep n m'
def scanI (h:Held) (sg st:Int):Option Img :=
 if Cp.bestE (h 0).data.toList (h 1).data.toList=0 then
  match cntI h sg st (Cp.bestC (h 0).data.toList (h 1).data.toList) with
  | none=>none
  | some f=>some (runI h (Cp.bestC (h 0).data.toList (h 1).data.toList).e (fuelI (baseI h sg st (Cp.bestC (h 0).data.toList (h 1).data.toList) f)) (baseI h sg st (Cp.bestC (h 0).data.toList (h 1).data.toList) f))
 else none
theorem last_opened (t:Tab) (f x:Int):lastN (Tb.openedT t f x).o=f∧lastN (Tb.openedT t f x).l=0:=⟨Tb.last_app ..,Tb.last_app ..⟩
theorem last_counted {t:Tab} (hok:okP t):lastN (Tb.countedT t).o=lastN t.o∧lastN (Tb.countedT t).l=lastN t.l+1:=⟨rfl,Tb.last_set _ _ (by have:=hok.2.2.1; have:=hok.2.2.2.2.2.2.1; omega)⟩
theorem counted_ok {t:Tab} (hok:okP t) (h:lastN t.l<t.st):okP (Tb.countedT t):=Tb.count_ok hok (Lg.count_yes (by omega))
theorem opened_ok {t:Tab} {f x:Int} {l:List Int} (hok:okP t) (h:Tb.freeT t=f :: l):okP (Tb.openedT t f x):=Tb.opened_ok hok (by rw [h]; exact List.mem_cons_self ..)
theorem step_cases {h:Held} {ep:Int} {m m' : Img} (hs:stepI h ep m=some m'):∃ r,recAt h m.t.st (lastN m.t.o) (lastN m.t.l)=some r∧r.l=m.ls∧r.e=ep ∧
 ((r.k≠3∧lastN m.t.l<m.t.st∧m' = ⟨m.c,Tb.countedT m.t,up m.ls,max m.v r.v,m.f++[((lastN m.t.o,lastN m.t.l),r)]⟩)∨(r.k=3∧∃ l,Tb.freeT m.t=r.d :: l∧m' = ⟨m.c,Tb.openedT m.t r.d (up m.ls),up m.ls,m.v,m.f⟩)):=by
 unfold stepI at hs
 split at hs
 ·cases hs
 ·rename_i r hr
  refine ⟨r,hr,?_⟩
  split at hs
  ·rename_i h1
   refine ⟨h1.1,h1.2,?_⟩
   split at hs
   ·rename_i h2
    split at hs
    ·rename_i h3
     injection hs with hs
     exact .inl ⟨h2,h3,hs.symm⟩
    ·cases hs
   ·rename_i h2
    split at hs
    ·cases hs
    ·rename_i f l hf
     split at hs
     ·rename_i h3
      subst h3
      injection hs with hs
      exact .inr ⟨by omega,l,hf,hs.symm⟩
     ·cases hs
  ·cases hs
theorem step_ok {h:Held} {ep:Int} {m m' : Img} (hok:okP m.t) (hs:stepI h ep m=some m'):okP m'.t∧fuelI m'<fuelI m∧m'.t.sg=m.t.sg∧m'.t.st=m.t.st∧m'.c=m.c:=by
 obtain ⟨r,h1,h2,h3,⟨h4,h5,rfl⟩ | ⟨h4,l,h5,rfl⟩⟩:=step_cases hs
 ·have hc:=counted_ok hok h5
  refine ⟨hc,?_,rfl,rfl,rfl⟩
  have e1:=(last_counted hok).2
  have e2:(Tb.freeT (Tb.countedT m.t)).length=(Tb.freeT m.t).length:=rfl
  unfold fuelI
  simp only
  rw [e1,e2]
  show _+(m.t.st-(lastN m.t.l+1)).toNat<_
  have e3:(Tb.countedT m.t).st.toNat=m.t.st.toNat:=rfl
  rw [e3]
  omega
 ·have hc:=opened_ok (x:=up m.ls) hok h5
  refine ⟨hc,?_,rfl,rfl,rfl⟩
  have e1:=(last_opened m.t r.d (up m.ls)).2
  have f1:=Tb.ok_free hok
  have f2:=Tb.ok_free hc
  have f3:(Tb.openedT m.t r.d (up m.ls)).o.length=m.t.o.length+1:=by show (m.t.o++[r.d]).length=_; simp
  have f4:(Tb.openedT m.t r.d (up m.ls)).sg=m.t.sg:=rfl
  have f5:(Tb.freeT m.t).length=(Tb.freeT (Tb.openedT m.t r.d (up m.ls))).length+1:=by omega
  have hb:=Lg.open_bd hok
  unfold fuelI
  simp only
  rw [e1,f5,Nat.add_mul,Nat.one_mul]
  show _*(m.t.st.toNat+1)+(m.t.st-0).toNat<_
  omega
theorem run_ok {h:Held} {ep:Int}:∀ (n:Nat) {m:Img},okP m.t→okP (runI h ep n m).t∧(runI h ep n m).t.sg=m.t.sg∧(runI h ep n m).t.st=m.t.st∧(runI h ep n m).c=m.c
 | 0,m,hok=>⟨hok,rfl,rfl,rfl⟩
 | n+1,m,hok=>by
   unfold runI
   split
   ·exact ⟨hok,rfl,rfl,rfl⟩
   ·rename_i m' hs
    obtain ⟨h1,_,h2,h3,h4⟩:=step_ok hok hs
    obtain ⟨g1,g2,g3,g4⟩:=run_ok (h:=h) (ep:=ep) n h1
    exact ⟨g1,g2.trans h2,g3.trans h3,g4.trans h4⟩
theorem run_end {h:Held} {ep:Int}:∀ (n:Nat) {m:Img},okP m.t→fuelI m≤n→stepI h ep (runI h ep n m)=none
 | 0,m,hok,hn=>by
   cases hs:stepI h ep m with
   | none=>exact hs
   | some m'=>have:=(step_ok hok hs).2.1; omega
 | n+1,m,hok,hn=>by
   unfold runI
   split
   ·assumption
   ·rename_i m' hs
    obtain ⟨h1,h2,_⟩:=step_ok hok hs
    exact run_end n h1 (by omega)
theorem run_more {h:Held} {ep:Int}:∀ (n k:Nat) {m:Img},okP m.t→fuelI m≤n→fuelI m≤k→runI h ep n m=runI h ep k m
 | 0,k,m,hok,hn,hk=>by
   have h0:stepI h ep m=none:=by
    cases hs:stepI h ep m with
    | none=>rfl
    | some m'=>have:=(step_ok hok hs).2.1; omega
   cases k with
   | zero=>rfl
   | succ k=>simp only [runI,h0]
 | n+1,k,m,hok,hn,hk=>by
   cases hs:stepI h ep m with
   | none=>cases k with
     | zero=>simp only [runI,hs]
     | succ k=>simp only [runI,hs]
   | some m' =>
     obtain ⟨h1,h2,_⟩:=step_ok hok hs
     cases k with
     | zero=>omega
     | succ k =>
       simp only [runI,hs]
       exact run_more n k h1 (by omega) (by omega)
theorem run_step {h:Held} {ep:Int} {m m' : Img} (hok:okP m.t) (hs:stepI h ep m=some m'):runI h ep (fuelI m) m=runI h ep (fuelI m') m':=by
 obtain ⟨h1,h2,_⟩:=step_ok hok hs
 obtain ⟨n,e⟩:∃ n,fuelI m=n+1:=⟨fuelI m-1,by omega⟩
 rw [e]
 simp only [runI,hs]
 exact run_more n _ h1 (by omega) (Nat.le_refl _)
theorem run_stop {h:Held} {ep:Int} {m:Img} (hs:stepI h ep m=none):∀ n,runI h ep n m=m
 | 0=>rfl
 | n+1=>by simp only [runI,hs]
def place (m:Img):Int:=Tb.sectorT m.t.st (lastN m.t.o) (lastN m.t.l)
def putI (m:Img) (r:Rc.Rec):Img:=if r.k=3 then ⟨m.c,Tb.openedT m.t r.d (m.ls+1),m.ls+1,m.v,m.f⟩ else ⟨m.c,Tb.countedT m.t,m.ls+1,max m.v r.v,m.f++[((lastN m.t.o,lastN m.t.l),r)]⟩
structure OkW (ep:Int) (m:Img) (r:Rc.Rec):Prop where
 fit:(r.k≠3∧lastN m.t.l<m.t.st)∨(r.k=3∧∃ l,Tb.freeT m.t=r.d :: l)
 l:r.l=m.ls
 e:r.e=ep
 fs:Rc.Fits r
 ok:Rc.okR r=true
 lt:m.ls+1<18446744073709551616
inductive Wr (ep:Int) (m0:Img):List (Int × Rc.Rec)→Img→Prop
 | nil:Wr ep m0 [] m0
 | snoc {L:List (Int × Rc.Rec)} {m:Img} {r:Rc.Rec}:Wr ep m0 L m→OkW ep m r→Wr ep m0 (L++[(place m,r)]) (putI m r)
section
variable {ep:Int} {m0 m:Img} {L:List (Int × Rc.Rec)} {r:Rc.Rec} {h:Held}
theorem put_ok (hok:okP m.t) (hr:OkW ep m r):okP (putI m r).t:=by
 unfold putI
 rcases hr.fit with ⟨h1,h2⟩ | ⟨h1,l,h2⟩
 ·rw [if_neg h1]
  exact counted_ok hok h2
 ·rw [if_pos h1]
  exact opened_ok hok h2
theorem put_same:(putI m r).t.sg=m.t.sg∧(putI m r).t.st=m.t.st∧(putI m r).c=m.c∧(putI m r).ls=m.ls+1:=by
 unfold putI
 split <;> exact ⟨rfl,rfl,rfl,rfl⟩
theorem Wr.okT (W:Wr ep m0 L m) (hok:okP m0.t):okP m.t:=by
 induction W with
 | nil=>exact hok
 | snoc W hr ih=>exact put_ok ih hr
theorem Wr.same (W:Wr ep m0 L m):m.t.sg=m0.t.sg∧m.t.st=m0.t.st∧m.c=m0.c∧m.ls=m0.ls+L.length:=by
 induction W with
 | nil=>exact ⟨rfl,rfl,rfl,by simp⟩
 | @snoc L m r W hr ih =>
   have h1:=put_same (m:=m) (r:=r)
   exact ⟨h1.1.trans ih.1,h1.2.1.trans ih.2.1,h1.2.2.1.trans ih.2.2.1,by rw [h1.2.2.2,ih.2.2.2,List.length_append]; simp; omega⟩
theorem step_put (hr:OkW ep m r) (h1:recOf (h (place m))=some r):stepI h ep m=some (putI m r):=by
 have h1:recAt h m.t.st (lastN m.t.o) (lastN m.t.l)=some r:=h1
 have eu:up m.ls=m.ls+1:=by unfold up; rw [if_neg (by have:=hr.lt; omega)]
 unfold stepI putI
 rw [h1]
 simp only
 rw [if_pos ⟨hr.l,hr.e⟩,eu]
 rcases hr.fit with ⟨h2,h3⟩ | ⟨h2,l,h3⟩
 ·rw [if_pos h2,if_pos h3,if_neg h2]
 ·rw [if_neg (by omega),h3,if_pos h2]
  simp
theorem Wr.run (W:Wr ep m0 L m) (hok:okP m0.t) (hh:∀ p∈L,recOf (h p.1)=some p.2):runI h ep (fuelI m0) m0=runI h ep (fuelI m) m:=by
 induction W with
 | nil=>rfl
 | snoc W hr ih =>
   rw [ih fun p hp=>hh p (List.mem_append_left _ hp)]
   exact run_step (W.okT hok) (step_put hr (hh _ (List.mem_append_right _ (List.mem_singleton.2 rfl))))
theorem Wr.split {L1 L2:List (Int × Rc.Rec)} (W:Wr ep m0 L m) (e:L=L1++L2):∃ m1,Wr ep m0 L1 m1∧Wr ep m1 L2 m:=by
 induction W generalizing L2 with
 | nil =>
   obtain ⟨rfl,rfl⟩:=List.append_eq_nil_iff.1 e.symm
   exact ⟨m0,.nil,.nil⟩
 | @snoc L m r W hr ih =>
   rcases List.eq_nil_or_concat L2 with rfl | ⟨L3,x,rfl⟩
   ·rw [List.append_nil] at e
    exact ⟨_,e ▸ .snoc W hr,.nil⟩
   ·rw [List.concat_eq_append,← List.append_assoc] at e
    obtain ⟨e1,e2⟩:=List.append_inj' e rfl
    injection e2 with e2
    subst e2
    obtain ⟨m1,h1,h2⟩:=ih e1
    exact ⟨m1,h1,by rw [List.concat_eq_append]; exact .snoc h2 hr⟩
theorem Wr.none (W:Wr ep m0 L m) (e:L=[]):m=m0:=by
 induction W with
 | nil=>rfl
 | snoc W hr ih=>exact absurd e (by simp)
theorem Wr.head {p:Int × Rc.Rec} (W:Wr ep m0 L m) (e:∃ L2,L=p :: L2):p.1=place m0∧OkW ep m0 p.2:=by
 induction W with
 | nil=>obtain ⟨_,e⟩:=e; cases e
 | @snoc L m r W hr ih =>
   obtain ⟨L2,e⟩:=e
   cases L with
   | nil =>
     injection e with e1 _
     subst e1
     obtain rfl:=W.none rfl
     exact ⟨rfl,hr⟩
   | cons a L3 =>
     injection e with e1 _
     subst e1
     exact ih ⟨_,rfl⟩
def Past (m:Img) (p:Int × Int):Prop:=p.1∈m.t.o∧(0≤p.2∧p.2≤m.t.st)∧(p.1=lastN m.t.o→p.2<lastN m.t.l)
theorem past_put {p:Int × Int} (hok:okP m.t) (hr:OkW ep m r) (hp:Past m p):Past (putI m r) p:=by
 unfold putI
 obtain ⟨h1,h2,h3⟩:=hp
 rcases hr.fit with ⟨h4,h5⟩ | ⟨h4,l,h5⟩
 ·rw [if_neg h4]
  have e:=last_counted hok
  exact ⟨h1,h2,fun e1=>by simp only; rw [e.2]; have:=h3 (e1.trans e.1); omega⟩
 ·rw [if_pos h4]
  have e:=last_opened m.t r.d (m.ls+1)
  have hn:=Tb.free_in (t:=m.t) (s:=r.d) (by rw [h5]; exact List.mem_cons_self ..) (by have:=hok.1; omega)
  exact ⟨List.mem_append_left _ h1,h2,fun e1=>absurd h1 (by rw [e1]; simp only; rw [e.1]; exact hn.2.2)⟩
theorem past_here (hok:okP m.t) (hr:OkW ep m r):Past (putI m r) (lastN m.t.o,lastN m.t.l):=by
 have hb:=Lg.open_bd hok
 have hm:lastN m.t.o∈m.t.o:=Tb.last_mem (by have:=hok.2.2.1; omega)
 unfold putI
 rcases hr.fit with ⟨h4,h5⟩ | ⟨h4,l,h5⟩
 ·rw [if_neg h4]
  have e:=last_counted hok
  exact ⟨hm,hb.2,fun e1=>by simp only; rw [e.2]; omega⟩
 ·rw [if_pos h4]
  have e:=last_opened m.t r.d (m.ls+1)
  have hn:=Tb.free_in (t:=m.t) (s:=r.d) (by rw [h5]; exact List.mem_cons_self ..) (by have:=hok.1; omega)
  refine ⟨List.mem_append_left _ hm,hb.2,fun e1=>absurd hm ?_⟩
  simp only at e1
  rw [e1,e.1]
  exact hn.2.2
theorem past_ne {p:Int × Int} (hok:okP m.t) (hp:Past m p):Tb.sectorT m.t.st p.1 p.2≠place m:=by
 intro e
 have hb:=Lg.open_bd hok
 have hq:=hok.1
 have hi:=hok.2.2.2.1 _ hp.1
 obtain ⟨e1,e2⟩:=Lg.sector_inj hok.2.1 (by omega) (by omega) hp.2.1 hb.2 e
 have:=hp.2.2 e1
 omega
theorem sector_ge {st seg slot:Int} (h1:1≤st∧st≤30) (h2:0≤seg∧seg≤15) (h3:0≤slot∧slot≤st):2≤Tb.sectorT st seg slot:=by
 unfold Tb.sectorT
 rw [if_pos ⟨h1.1,h1.2,h2.1,h2.2,h3.1,h3.2⟩]
 have:=Int.mul_nonneg h2.1 (show 0≤st+1 by omega)
 omega
theorem place_ge (hok:okP m.t):2≤place m:=by
 have hb:=Lg.open_bd hok
 have:=hok.1
 exact sector_ge hok.2.1 (by omega) hb.2
theorem Wr.past (W:Wr ep m0 L m) (hok:okP m0.t):(∀ q,Past m0 q→Past m q∧∀ p∈L,Tb.sectorT m0.t.st q.1 q.2≠p.1)∧(∀ p∈L,2≤p.1∧∃ q,Past m q∧p.1=Tb.sectorT m.t.st q.1 q.2)∧(L.map (·.1)).Nodup:=by
 induction W with
 | nil=>exact ⟨fun q hq=>⟨hq,by simp⟩,by simp,by simp⟩
 | @snoc L m r W hr ih =>
   obtain ⟨i1,i2,i3⟩:=ih
   have ho:=W.okT hok
   have hs:=W.same
   have hp:=put_same (m:=m) (r:=r)
   refine ⟨fun q hq=>⟨past_put ho hr (i1 q hq).1,fun p hp'=>?_⟩,fun p hp'=>?_,?_⟩
   ·rcases List.mem_append.1 hp' with hp'|hp'
    ·exact (i1 q hq).2 p hp'
    ·rw [List.mem_singleton.1 hp',← hs.2.1]
     exact past_ne ho (i1 q hq).1
   ·rcases List.mem_append.1 hp' with hp'|hp'
    ·obtain ⟨h2,q,h3,h4⟩:=i2 p hp'
     exact ⟨h2,q,past_put ho hr h3,by rw [h4,hp.2.1]⟩
    ·rw [List.mem_singleton.1 hp']
     exact ⟨place_ge ho,_,past_here ho hr,by rw [hp.2.1]; rfl⟩
   ·rw [List.map_append,List.nodup_append]
    refine ⟨i3,by simp,fun a ha b hb e=>?_⟩
    obtain ⟨p,hp',rfl⟩:=List.mem_map.1 ha
    simp only [List.map_cons,List.map_nil,List.mem_singleton] at hb
    subst hb
    obtain ⟨h2,q,h3,h4⟩:=i2 p hp'
    exact past_ne ho h3 (h4.symm.trans e)
end
end Go.Proofs.YtcnohlgigmmefaaGreat.Ro
