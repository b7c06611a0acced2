/- A part. -/
import Derived.Test.YtcnohlgigmmefaaGreatPRpP
namespace Go.Proofs.YtcnohlgigmmefaaGreat.Ro
open Go.RowKit Go.Lib Wd
open Tb (Tab okP lastN nth)
open Dk (St)
open Lg (appS sealS sealIf chkS dropS footB secB chkB dropB LogP fmtE fmtD)
open Lg.Lg (bC bE S0 S0_eq S0_size nD NewL new_yes sc_may fix_okR Run run_new)
set_option linter.unusedVariables false
set_option maxRecDepth 100000
structure Sld (G Z:Int) (f:Nat→Int) (a x all:Nat) (t:Tab) (s:St) (ls:Int):Prop where
 p:LogP (12*a+2*x) t s ls 1
 set:s.set=false
 st:t.st=Z
 sg:t.sg=G
 z:1≤Z∧Z≤5
 g:4≤G∧G≤6
 ag:(a:Int)<G
 xz:(x:Int)≤Z
 o:t.o=Tb.upto (a+1)
 l:t.l=(List.range a).map f++[(x:Int)]
 al:all≤5*a+x
 dk:∃ L m nf,Disk1 G Z s.held s.pend c0 [] L m nf∧Tied m t ls∧(recsL L).length=all
section
variable {G Z ls:Int} {f:Nat→Int} {a x all:Nat} {t:Tab} {s:St}
theorem Sld.lastl (h:Sld G Z f a x all t s ls):lastN t.l=x:=by rw [h.l]; exact Tb.last_app ..
theorem Sld.next (h:Sld G Z f a x all t s ls) (hx:(x:Int)<Z) :
 ∃ s1 t1 l1 sg so,appS t s ls 1 1 (all:Int) 9 (bC 97) (bC 118)=(s1,t1,l1,sg,so,0)∧Sld G Z f a (x+1) (all+1) t1 s1 l1:=by
 have hz:=h.z
 have hg:=h.g
 have hag:=h.ag
 have hla:=h.lastl
 have b1:=h.p.ls1
 have b2:=h.p.ls2
 have hal:=h.al
 have hr:0<Tb.roomT t:=by
  rw [Lg.Lg.free_len1 h.p.ok,hla,h.st]
  have:=Int.mul_nonneg (show 0≤Z by omega) (show 0≤((Tb.freeT t).length:Int) by omega)
  omega
 have hR:Rc.okR ⟨ls,1,1,(all:Int),9,(bC 97).data.toList,(bC 118).data.toList⟩=true:=Lg.Lg.live_ok (by omega) (by decide)
 have E:=Lg.Lg.app_same2 (ep:=1) (Lg.not_dead h.set) hr (by decide:(1:Int)≠3) hR (by rw [hla,h.st]; omega)
 have hA:=(Lg.app_p (ep:=1) (K:=1) (V:=(all:Int)) (D:=9) (I:=bC 97) (X:=bC 118) h.p).le (c':=12*a+2*(x+1)) (by omega)
 obtain ⟨L,m,nf,D0,T,hl⟩:=h.dk
 rw [E] at hA
 refine ⟨_,_,_,_,_,E,hA,h.set,h.st,h.sg,hz,hg,hag,by omega,h.o,?_,by omega,?_⟩
 ·show t.l.set (t.l.length-1) (lastN t.l+1)=_
  rw [hla,h.l,List.length_append,List.length_map,List.length_range]
  show (_++[_]).set (a+1-1) _=_
  rw [List.set_append,if_neg (by simp)]
  simp
 ·obtain ⟨L',m',D',T',hL⟩:=app_on D0 T h.p.ok ⟨b1,by omega⟩ ⟨by decide,by decide⟩ ⟨by omega,by omega⟩ ⟨by decide,by decide⟩ E
  rw [if_pos rfl] at hL
  refine ⟨L++L',m',nf,D',T',?_⟩
  rw [recsL_app,List.length_append,hl]
  show all+((L'.map (·.2)).filter _).length=_
  rw [hL]
  rfl
theorem Sld.seal (h:Sld G Z f a x all t s ls) (ha:(a:Int)+1<G) (hf:f a=x) :
 ∃ s1 t1 l1,sealS t s ls (footB t ls 1)=(s1,t1,l1,0)∧Sld G Z f (a+1) 0 all t1 s1 l1:=by
 have hz:=h.z
 have hg:=h.g
 have hxz:=h.xz
 have hsg:=h.sg
 have b1:=h.p.ls1
 have b2:=h.p.ls2
 have hal:=h.al
 obtain ⟨l,hfr⟩:∃ l,Tb.freeT t=((a+1:Nat):Int) :: l:=by
  unfold Tb.freeT
  rw [h.o]
  exact Lg.free_upto (by omega)
 have E:sealS t s ls (footB t ls 1)=(s.write (Tb.sectorT t.st (lastN t.o) (lastN t.l)) (footB t ls 1),Tb.openedT t ((a+1:Nat):Int) (ls+1),ls+1,0):=by
  unfold sealS
  simp only [hfr]
  rw [if_neg (Lg.not_dead h.set)]
 have hp:=(Lg.seal_p h.p (S:=footB t ls 1) fun f l hf=>Lg.footB_size h.p.ok h.p.ls1 hf).le (c':=12*(a+1)+2*0) (by omega)
 obtain ⟨L,m,nf,D0,T,hl⟩:=h.dk
 rw [E] at hp
 refine ⟨_,_,_,E,hp,h.set,h.st,hsg,hz,hg,by omega,by omega,?_,?_,by omega,?_⟩
 ·show t.o++[_]=_
  rw [h.o,Tb.upto_succ (a+1)]
 ·show t.l++[(0:Int)]=_
  rw [h.l,List.range_succ,List.map_append,List.map_cons,List.map_nil,hf]
  rfl
 ·obtain ⟨L',m',D',T',hL,_⟩:=seal_on D0 T h.p.ok ⟨b1,by omega⟩ ⟨by decide,by decide⟩ E
  refine ⟨L++L',m',nf,D',T',?_⟩
  rw [recsL_app,List.length_append,hl]
  show all+((L'.map (·.2)).filter _).length=_
  rw [hL]
  rfl
theorem Sld.done (h:Sld G Z f a x all t s ls) (keep:Nat→Bool) (torn:Int) (n:Nat) :
 ∃ m,Shut G Z (s.flush.crash keep torn n).held c0 m∧m.t.o=t.o∧m.t.l=t.l∧m.f.length=all:=by
 obtain ⟨L,m,nf,D0,T,hl⟩:=h.dk
 have D2:=D0.flush (h':=s.flush.held) (fun i=>by
  rw [Dk.flush_held h.p.good]
  rfl)
 have hc:=D2.crashTo keep torn n
 obtain ⟨L1,L2,m1,e,hn,_,W,_,S⟩:=D2.crash hc.1 hc.2
 have e2:L2=[]:=List.eq_nil_of_length_eq_zero (by rw [e,List.length_append] at hn; omega)
 rw [e2,List.append_nil] at e
 rw [← e] at W
 have em:m1=m:=W.fold.trans D2.wr.fold.symm
 rw [em] at S W
 obtain ⟨l,e3,e4⟩:=W.foundP
 have e5:m.f=l:=e3
 exact ⟨m,S,T.o.symm,T.l.symm,by rw [e5,← hl,← e4,List.length_map]⟩
theorem sld_new {rt:Int} {x:Nat} (hm:Ck.MayC G Z x rt) (hG:G≤6) (hZ:Z≤5):Sld G Z f 0 0 0 (Tb.newT G Z 1) (nD G Z x rt) 1:=by
 obtain ⟨L,m,nf,D,T,hl,_⟩:=(pre_new (rt:=rt) hm hG hZ 0).dk
 have N:=(new_yes hm hG hZ).2
 exact ⟨N.p,N.set,N.st,N.sg,N.z,N.g,by have:=N.g; omega,by have:=N.z; omega,rfl,rfl,by omega,L,m,nf,D,T,hl⟩
end
end Go.Proofs.YtcnohlgigmmefaaGreat.Ro
