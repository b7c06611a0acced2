/- A part. -/
import Derived.Test.YtcnohlgigmmefaaGreatPRoL
namespace Go.Proofs.YtcnohlgigmmefaaGreat.Ro
open Go.RowKit Go.Lib
open Tb (Tab TIn Sl okP csT lastN nth Fresh)
open Dk (St Only Grew)
set_option linter.unusedVariables false
theorem tab_eta {t:Tab} {sg st:Int} (h1:t.sg=sg) (h2:t.st=st):(⟨sg,st,t.o,t.l,t.f⟩:Tab)=t:=by subst h1 h2; rfl
def nextI (m:Img) (o:Option Rc.Rec):Option Img:=match o with
 | none=>none
 | some r=>if r.k≠3 then (if lastN m.t.l<m.t.st then some ⟨m.c,Tb.countedT m.t,up m.ls,max m.v r.v,m.f++[((lastN m.t.o,lastN m.t.l),r)]⟩ else none)
   else match Tb.freeT m.t with
    | []=>none
    | f :: _=>if r.d=f then some ⟨m.c,Tb.openedT m.t f (up m.ls),up m.ls,m.v,m.f⟩ else none
theorem step_next (h:Held) (ep:Int) (m:Img):stepI h ep m=nextI m (nxR (h (place m)) m.ls ep):=step_nx h ep m
structure Fine (sg st:Int) (c:Cp.Chk) (m:Img):Prop where
 ok:okP m.t
 sg:m.t.sg=sg
 st:m.t.st=st
 c:m.c=c
 ls:0≤m.ls∧m.ls<18446744073709551616
 v:0≤m.v∧m.v<18446744073709551616
 len:(m.f.length:Int)+Tb.roomT m.t≤480
section
variable {sg st:Int} {c:Cp.Chk} {m m' : Img} {h:Held} {ep:Int}
theorem room_ge {t:Tab} (hok:okP t):0≤Tb.roomT t:=by
 have h1:=hok.2.1
 have hb:=(Lg.open_bd hok).2
 have hf:=Tb.ok_free hok
 unfold Tb.roomT
 have:0≤t.st*(t.sg-t.o.length):=Int.mul_nonneg (by omega) (by omega)
 omega
theorem Fine.few (F:Fine sg st c m):m.f.length<1000:=by
 have h1:=F.len
 have h2:=room_ge F.ok
 omega
theorem up_wrap {l:Int} (h:0≤l∧l<18446744073709551616):IntKind.u64.wrap (l+1)=up l:=by
 unfold up
 rw [IntKind.wrap_u64]
 split <;> omega
theorem up_bd {l:Int} (h:0≤l∧l<18446744073709551616):0≤up l∧up l<18446744073709551616:=by
 unfold up
 split <;> omega
theorem rec_bd {S:ByteArray} {r:Rc.Rec} (h:recOf S=some r):(0≤r.v∧r.v<18446744073709551616)∧(0≤r.d∧r.d<18446744073709551616)∧(r.k=1∨r.k=2∨r.k=3):=by
 obtain ⟨_,_,hf,hok,_⟩:=recOf_some h
 refine ⟨⟨hf.v0,hf.v1⟩,⟨hf.d0,hf.d1⟩,?_⟩
 rcases ((Rc.okR_iff r).1 hok).2 with h1|h1|h1
 ·exact .inl h1.1
 ·exact .inr (.inl h1.1)
 ·exact .inr (.inr h1.1)
theorem opened_room {t:Tab} {f x:Int} {l:List Int} (hok:okP t) (hf:Tb.freeT t=f :: l):Tb.roomT (Tb.openedT t f x)≤Tb.roomT t:=by
 have hb:=(Lg.open_bd hok).2
 have hn:(Tb.openedT t f x).o.length=t.o.length+1:=by show (t.o++[f]).length=_; simp
 have hl:=(last_opened t f x).2
 unfold Tb.roomT
 rw [hl,hn]
 show t.st-0+t.st*(t.sg-((t.o.length+1:Nat):Int))≤_
 have e:t.st*(t.sg-((t.o.length+1:Nat):Int))=t.st*(t.sg-(t.o.length:Int))-t.st:=by
  rw [show t.sg-((t.o.length+1:Nat):Int)=(t.sg-(t.o.length:Int))-1 by omega,Int.mul_sub,Int.mul_one]
 rw [e]
 omega
theorem counted_room {t:Tab} (hok:okP t):Tb.roomT (Tb.countedT t)=Tb.roomT t-1:=by
 have hl:=(last_counted hok).2
 unfold Tb.roomT
 rw [hl]
 show t.st-(lastN t.l+1)+t.st*(t.sg-(t.o.length:Int))=_
 omega
theorem Fine.step (F:Fine sg st c m) (hs:stepI h ep m=some m'):Fine sg st c m':=by
 obtain ⟨h1,_,h2,h3,h4⟩:=step_ok F.ok hs
 obtain ⟨r,hr,_,_,⟨h5,h6,rfl⟩ | ⟨h5,l,h6,rfl⟩⟩:=step_cases hs
 ·have hb:=(rec_bd (S:=h (Tb.sectorT m.t.st (lastN m.t.o) (lastN m.t.l))) hr).1
  have hv:=F.v
  refine ⟨h1,h2.trans F.sg,h3.trans F.st,h4.trans F.c,up_bd F.ls,⟨by simp only; omega,by simp only; omega⟩,?_⟩
  have:=F.len
  have hc:=counted_room F.ok
  simp only
  rw [hc,List.length_append]
  simp
  omega
 ·refine ⟨h1,h2.trans F.sg,h3.trans F.st,h4.trans F.c,up_bd F.ls,F.v,?_⟩
  have:=F.len
  have hc:=opened_room (x:=up m.ls) F.ok h6
  simp only
  omega
end
end Go.Proofs.YtcnohlgigmmefaaGreat.Ro
