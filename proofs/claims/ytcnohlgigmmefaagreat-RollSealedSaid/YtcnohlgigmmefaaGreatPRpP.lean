/- A part. -/
import Derived.Test.YtcnohlgigmmefaaGreatPRpH
import Derived.Test.YtcnohlgigmmefaaGreatPLgO
namespace Go.Proofs.YtcnohlgigmmefaaGreat.Ro
open Go.RowKit Go.Lib Wd
open Tb (Tab okP lastN nth)
open Dk (St)
open Lg (appS sealS sealIf chkS dropS footB secB chkB dropB LogP fmtE fmtD)
open Lg.Lg (bC bE S0 S0_eq S0_size nD NewL new_yes sc_may fix_okR Run run_new)
set_option linter.unusedVariables false
set_option maxRecDepth 100000
section
variable {t t' : Tab} {s s' : St} {ls ls' ep K V D sg so er:Int} {I X:ByteArray}
theorem seal_free {S:ByteArray} (h:s.set=false):(sealS t s ls S).1.set=false∧∀ s',s'.set=false→(sealS t s' ls S).2=(sealS t s ls S).2:=by
 unfold sealS
 split
 ·exact ⟨h,fun s' h'=>rfl⟩
 ·rw [if_neg (Lg.not_dead h)]
  exact ⟨h,fun s' h'=>by rw [if_neg (Lg.not_dead h')]⟩
theorem sealIf_free (h:s.set=false):(sealIf t s ls ep).1.set=false∧∀ s',s'.set=false→(sealIf t s' ls ep).2=(sealIf t s ls ep).2:=by
 unfold sealIf
 split
 ·exact seal_free h
 ·exact ⟨h,fun s' h'=>rfl⟩
theorem app_free (h:s.set=false):(appS t s ls ep K V D I X).1.set=false∧∀ s',s'.set=false→(appS t s' ls ep K V D I X).2=(appS t s ls ep K V D I X).2:=by
 obtain ⟨h1,h2⟩:=sealIf_free (t:=t) (ls:=ls) (ep:=ep) h
 unfold appS
 split
 ·exact ⟨h,fun s' h'=>rfl⟩
 ·split
  ·exact ⟨h,fun s' h'=>rfl⟩
  ·refine ⟨?_,fun s' h'=>?_⟩
   ·split
    ·exact h1
    ·unfold appS.putS
     rw [if_neg (Lg.not_dead h1)]
     exact h1
   ·have h3:=h2 s' h'
    have h4:=(sealIf_free (t:=t) (ls:=ls) (ep:=ep) h').1
    rw [h3]
    split
    ·rfl
    ·unfold appS.putS
     rw [if_neg (Lg.not_dead h1),if_neg (Lg.not_dead h4)]
end
structure RunF (G Z:Int) (i:Nat) (t:Tab) (s:St) (ls:Int):Prop where
 p:LogP (2*i) t s ls 1
 set:s.set=false
 run:∃ s',s'.set=false∧Run G Z i t s' ls
section
variable {G Z ls K V D:Int} {i:Nat} {t:Tab} {s:St} {I X:ByteArray}
theorem RunF.next (h:RunF G Z i t s ls) (hi:(i:Int)<G*Z) (hK:K≠3) (hR:Rc.okR ⟨ls,1,K,V,D,I.data.toList,X.data.toList⟩=true) :
 ∃ s1 t1 l1 sg so,appS t s ls 1 K V D I X=(s1,t1,l1,sg,so,0)∧RunF G Z (i+1) t1 s1 l1:=by
 obtain ⟨s',hs',R⟩:=h.run
 obtain ⟨s1,t1,l1,sg,so,E,R1,S1,_⟩:=R.next hi hK hR (fun h=>by rw [hs'] at h; cases h)
 obtain ⟨f1,f2⟩:=app_free (t:=t) (ls:=ls) (ep:=1) (K:=K) (V:=V) (D:=D) (I:=I) (X:=X) h.set
 have f3:=f2 s' hs'
 rw [E] at f3
 have lp:=Lg.app_p (ep:=1) (K:=K) (V:=V) (D:=D) (I:=I) (X:=X) h.p
 obtain ⟨⟨q1,q2⟩,hq⟩:∃ z,appS t s ls 1 K V D I X=z:=⟨_,rfl⟩
 rw [hq] at f1 f3 lp
 simp only at f1 f3 lp
 rw [← f3] at lp
 exact ⟨q1,t1,l1,sg,so,by rw [hq,← f3],lp,f1,s1,S1.trans hs',R1⟩
theorem RunF.flush (h:RunF G Z i t s ls):RunF G Z i t s.flush ls:=by
 have p:=h.p
 exact ⟨⟨p.ok,p.fit,p.good.flush (Lg.not_dead h.set),p.ls1,p.ls2,p.gn1,p.gn2,Nat.zero_le _⟩,h.set,h.run⟩
theorem runf_new (h:NewL G Z s t):RunF G Z 0 t s 1:=⟨h.p,h.set,s,h.set,run_new h⟩
end
def Rising (R:List Rc.Rec):Prop:=∀ i (hi:i<R.length),(R[i]).v=(i:Int)+1∧(R[i]).i=[97]
structure Pre (G Z:Int) (i fl:Nat) (t:Tab) (s:St) (ls:Int):Prop where
 run:RunF G Z i t s ls
 dk:∃ L m nf,Disk1 G Z s.held s.pend c0 [] L m nf∧Tied m t ls∧(recsL L).length=i∧Rising (recsL L)∧(fl<i→fl≤(recsL (L.take nf)).length)
theorem recs_add {L L' : List (Int × Rc.Rec)} {r:Rc.Rec} {i:Nat} (hl:(recsL L).length=i) (hR:Rising (recsL L)) (h:(L'.map (·.2)).filter (fun r=>decide (r.k≠3))=[r]) (hv:r.v=(i:Int)+1) (hi:r.i=[97]) :
 (recsL (L++L')).length=i+1∧Rising (recsL (L++L')):=by
 have e:recsL (L++L')=recsL L++[r]:=by rw [recsL_app]; exact congrArg _ h
 refine ⟨by rw [e,List.length_append,hl]; rfl,fun j hj=>?_⟩
 have hj2:j<i+1:=by rw [e,List.length_append,hl] at hj; exact hj
 have hg:(recsL (L++L'))[j]=(recsL L++[r])[j]'(by rw [← e]; exact hj):=by simp only [e]
 rw [hg]
 by_cases h1:j<i
 ·rw [List.getElem_append_left (by omega)]
  exact hR j (by omega)
 ·obtain rfl:j=i:=by omega
  rw [List.getElem_append_right (by omega)]
  simp only [hl,Nat.sub_self,List.getElem_cons_zero]
  exact ⟨hv,hi⟩
theorem Pre.next {G Z ls:Int} {i fl:Nat} {t:Tab} {s:St} (h:Pre G Z i fl t s ls) (hi:(i:Int)<G*Z) (hb:i≤30) (hf:fl=i→s.pend=[]∨fl=0) :
 ∃ s1 t1 l1 sg so,appS t s ls 1 1 ((i:Int)+1) 9 (bC 97) (bC 118)=(s1,t1,l1,sg,so,0)∧Pre G Z (i+1) fl t1 s1 l1:=by
 have l1':=h.run.p.ls1
 have l2':=h.run.p.ls2
 obtain ⟨s1,t1,l1,sg,so,E,R1⟩:=h.run.next (K:=1) (V:=(i:Int)+1) (D:=9) (I:=bC 97) (X:=bC 118) hi (by decide) (Lg.Lg.live_ok (by omega) (by decide))
 refine ⟨s1,t1,l1,sg,so,E,R1,?_⟩
 obtain ⟨L,m,nf,Dk,T,hl,hr,hfl⟩:=h.dk
 obtain ⟨L',m',D',T',hL⟩:=app_on Dk T h.run.p.ok ⟨l1',by omega⟩ ⟨by decide,by decide⟩ ⟨by omega,by omega⟩ ⟨by decide,by decide⟩ E
 rw [if_pos rfl] at hL
 obtain ⟨a1,a2⟩:=recs_add hl hr hL rfl rfl
 refine ⟨L++L',m',nf,D',T',a1,a2,fun hlt=>?_⟩
 rw [List.take_append_of_le_length Dk.le]
 by_cases he:fl<i
 ·exact hfl he
 ·obtain rfl:fl=i:=by omega
  rcases hf rfl with hp|h0
  ·have h1:=Dk.pend
   rw [hp] at h1
   have h2:L.drop nf=[]:=by
    cases hd:L.drop nf with
    | nil=>rfl
    | cons a l=>rw [hd] at h1; cases h1
   have h3:L.take nf=L:=by
    have:=List.take_append_drop nf L
    rw [h2,List.append_nil] at this
    exact this
   rw [h3,hl]
   exact Nat.le_refl _
  ·omega
theorem tied_new {G Z:Int} (h:Held):Tied (baseI h G Z c0 []) (Tb.newT G Z 1) 1:=⟨rfl,rfl,rfl,rfl,rfl⟩
theorem Pre.flush {G Z ls:Int} {i fl:Nat} {t:Tab} {s:St} (h:Pre G Z i fl t s ls):Pre G Z i fl t s.flush ls:=by
 refine ⟨h.run.flush,?_⟩
 obtain ⟨L,m,nf,D0,T,hl,hr,hfl⟩:=h.dk
 have D2:=D0.flush (h':=s.flush.held) (fun i=>by
  rw [Dk.flush_held h.run.p.good]
  rfl)
 refine ⟨L,m,L.length,D2,T,hl,hr,fun hlt=>?_⟩
 rw [List.take_length,hl]
 omega
structure Found1 (G Z:Int) (h:Held) (fl i:Nat) (m:Img):Prop where
 shut:Shut G Z h c0 m
 ge:fl≤m.f.length
 le:m.f.length≤i
 v:m.v=m.f.length
 up:Rising (m.f.map (·.2))
 used:Tb.usedT m.t=m.f.length
theorem Pre.crash {G Z ls:Int} {i fl:Nat} {t:Tab} {s:St} (h:Pre G Z i fl t s ls) (hf:fl≤i) (hp:fl=i→s.pend=[]∨fl=0) (keep:Nat→Bool) (torn:Int) (n:Nat):∃ m,Found1 G Z (s.crash keep torn n).held fl i m:=by
 obtain ⟨L,m,nf,Dk,T,hl,hr,hfl⟩:=h.dk
 have hge:fl≤(recsL (L.take nf)).length:=by
  by_cases he:fl<i
  ·exact hfl he
  ·obtain rfl:fl=i:=by omega
   rcases hp rfl with hp|h0
   ·have h1:=Dk.pend
    rw [hp] at h1
    have h2:L.drop nf=[]:=by
     cases hd:L.drop nf with
     | nil=>rfl
     | cons a l=>rw [hd] at h1; cases h1
    have h3:L.take nf=L:=by
     have:=List.take_append_drop nf L
     rw [h2,List.append_nil] at this
     exact this
    rw [h3,hl]
    exact Nat.le_refl _
   ·omega
 have hc:=Dk.crashTo keep torn n
 obtain ⟨L1,L2,m1,e,hn,_,W,_,S⟩:=Dk.crash hc.1 hc.2
 obtain ⟨l,e1,e2⟩:=W.foundP
 have e3:m1.f=l:=e1
 obtain ⟨p1,p2⟩:=recs_prefix e rfl
 have p3:=recs_ge e hn
 have elen:m1.f.length=(recsL L1).length:=by rw [e3,← e2,List.length_map]
 have hup:Rising (recsL L1):=fun j hj=>by
  have h1:(recsL L1)[j]=(recsL L)[j]'(by omega):=by
   have h2:(recsL L1)[j]=((recsL L).take (recsL L1).length)[j]'(by rw [← p1]; exact hj):=by
    congr 1
   rw [h2,List.getElem_take]
  rw [h1]
  exact hr j (by omega)
 refine ⟨m1,S,by omega,by omega,?_,?_,(faith_used S.ok S.faith).symm⟩
 ·have h4:=W.vers
  have h5:=vers_up (recsL L1) 0 (fun j hj=>by have:=(hup j hj).1; omega)
  rw [h4,elen]
  show (recsL L1).foldl (fun a r=>max a r.v) 0=_
  rw [h5,Int.zero_add]
 ·rw [e3,e2]
  exact hup
theorem pre_new {G Z rt:Int} {x:Nat} (hm:Ck.MayC G Z x rt) (hG:G≤6) (hZ:Z≤5) (fl:Nat):Pre G Z 0 fl (Tb.newT G Z 1) (nD G Z x rt) 1:=by
 obtain ⟨f1,N⟩:=new_yes hm hG hZ
 have hb:=Lg.Lg.sc_bd hm hG hZ
 have hmb:=Lg.Lg.may_bd hm hG hZ
 refine ⟨runf_new N,?_⟩
 have eC:S0=secC c0:=bytes_eq (by rw [secC_eq]; exact S0_eq.symm)
 have hE:chkS (St.new (Ck.scC G Z x rt)) 0 (secC c0)=(nD G Z x rt,1,0):=by
  have h1:fmtD (St.new (Ck.scC G Z x rt)) G Z x rt S0=nD G Z x rt:=rfl
  unfold fmtD at h1
  have hs:¬ (St.new (Ck.scC G Z x rt)).size<Ck.scC G Z x rt:=by show ¬ Ck.scC G Z x rt<Ck.scC G Z x rt; omega
  rw [if_pos hm,if_neg hs,eC] at h1
  rw [Lg.Lg.chk_free rfl] at h1 ⊢
  exact congrArg (fun z=>(z,(1:Int),(0:Int))) h1
 have hsc:=sc_may hm
 obtain ⟨_,_,hp,D0⟩:=new_disk (sg:=G) (st:=Z) ⟨hmb.2.1,by omega⟩ ⟨hmb.1.1,by omega⟩ (n:=Ck.scC G Z x rt) ⟨by
  rw [hsc]
  have:=Int.mul_nonneg (show 0≤G by omega) (show 0≤Z+1 by omega)
  omega,hb.2⟩ hE
 exact ⟨[],_,0,D0,tied_new _,rfl,fun i hi=>absurd hi (by simp [recsL]),fun h=>by omega⟩
end Go.Proofs.YtcnohlgigmmefaaGreat.Ro
namespace Go.Proofs.YtcnohlgigmmefaaGreat.Lg
open Go.RowKit Go.Lib
set_option linter.unusedVariables false
set_option maxRecDepth 100000
namespace Lg
open Go.RowKit Go.Lib
open Tb (Tab TIn Sl okP csT lastN nth Fresh)
open Dk (St Only Grew)
set_option linter.unusedVariables false
set_option maxRecDepth 100000
inductive Cn where
 | any
 | is (v:Value)
 | tab (t:Tab)
def Cn.p:Cn→World→Value→Prop
 | .any=>fun _ _=>True
 | .is v=>fun _ u=>u=v
 | .tab t=>fun W u=>∃ A m p B k q C n r,u=.agg #[.int .i64 t.sg,.int .i64 t.st,.slice A m p,.slice B k q,.slice C n r]∧TIn W A m B k C n t.o t.l t.f
theorem Cn.later (c:Cn) {W W' : World} {u:Value} (hb:Below W.heap.size W W') (h:c.p W u):c.p W' u:=by
 cases c with
 | any=>exact trivial
 | is v=>exact h
 | tab t =>
   obtain ⟨A,m,p,B,k,q,C,n,r,e,s⟩:=h
   exact ⟨A,m,p,B,k,q,C,n,r,e,s.later hb⟩
section
variable {ops:Array Oper} {rest:List Oper} {o:Oper} {a:Act} {w:World} {Q:Exit→Act→World→Prop}
end
end Lg
end Go.Proofs.YtcnohlgigmmefaaGreat.Lg
namespace Go.Proofs.YtcnohlgigmmefaaGreat.Ro
open Go.ChangeShapes Go.WideShapes Go.ChangeAt Go.RowKit Go.Lib Go.Joins Go.Deep
open Tb (Tab TIn Sl okP csT lastN nth Fresh)
open Dk (St Only Grew)
open Lg (rowS)
open Lg.Lg (i64_of)
set_option linter.unusedVariables false
set_option maxRecDepth 100000
section
variable {H:Type} {enc:TypeId × Value→H} {W:World}
theorem trod_bools {fuel:Nat} {v:Value} {x:DataW H × List MemPlace} (hf:DataW.trod enc Tryz.prog W 0 (fun _=>true) true fuel 28 [v]=some x) :
 ∃ (A:Option Addr) (n c:Nat) (f:Nat→Bool),v=.slice A n c∧n≤maxLen∧CellsIn W A n (fun j=>.bool (f j))∧∀ j,n≤j→f j=false:=by
 have ht:=Tryz.underlying28
 have he:=Tryz.underlying4
 have hca:Tryz.prog.cellsOf 4=1:=by kernel_rfl
 rcases open_slice1 ht hca hf with ⟨h0,_⟩ | ⟨a,len,cap,m,k,V,D,Pl,hcs,_,hl,hm,hmm,_,hi⟩
 ·obtain rfl:v=.slice none 0 0:=by simpa using h0
  exact ⟨none,0,0,fun _=>false,rfl,Nat.zero_le _,fun h=>absurd h (by omega),fun _ _=>rfl⟩
 ·obtain rfl:v=.slice (some a) len cap:=by simpa using hcs
  simp only [if_true] at hmm
  subst hmm
  obtain ⟨f,hf⟩:=choose_lt (α:=Bool) (n:=len) (p:=fun j z=>V j=.bool z) (fun j hj=>by
   obtain ⟨z,e1,_⟩:=DataW.trod_bool he (hi j (by omega)).2
   exact ⟨z,by simpa using e1⟩)
  refine ⟨some a,len,m,fun j=>decide (j<len) && f j,rfl,Nat.le_trans hl hm,fun hn=>?_,fun j hj=>by simp [show ¬ j<len by omega]⟩
  have h0:=(hi 0 (by omega)).1
  have ha:a.add 0=a:=by unfold Addr.add; simp
  rw [ha] at h0
  obtain ⟨e1,e2⟩:=spot_none h0
  refine ⟨a.block,a.off,by rw [← e1],e2,fun j hj=>?_⟩
  have:=(hi j (by omega)).1
  rw [e1,Addr.add_mid] at this
  rw [this,hf j hj]
  simp [hj]
theorem open_crash {b0:Nat} {r' : Reach} {v:Value} {y:DataW H} {ps:List MemPlace}
 (hv:Value.okWide Tryz.prog W r' b0 87 v) (h:DataW.Trod enc Tryz.prog W 0 (fun _=>true) true 87 v y ps) :
 ∃ (lim:Int) (A:Option Addr) (N c:Nat) (f:Nat→Bool) (torn pos:Int),v=.agg #[.int .i64 lim,.slice A N c,.int .i64 torn,.int .i64 pos]∧(-9223372036854775808≤lim∧lim≤9223372036854775807)∧N≤maxLen∧CellsIn W A N (fun j=>.bool (f j))∧∀ j,N≤j→f j=false:=by
 obtain ⟨cs,rfl,hsz⟩:=okWide_struct Tryz.underlying87 hv
 obtain ⟨c0,c1,c2,c3,rfl⟩:=Lg.Lg.array4 (hsz.trans (by kernel_rfl))
 obtain ⟨fuel,hf⟩:=h
 obtain ⟨xs,n,_,_,_,hlen,hff⟩:=DataW.trod_struct Tryz.underlying87 (by simpa [Value.cells] using hf)
 match xs,hlen with
 | [y0,y1,y2,y3],_ =>
   have k1:Tryz.prog.cellsOf 3=1:=by kernel_rfl
   have k2:Tryz.prog.cellsOf 28=1:=by kernel_rfl
   have g0:=hff 0 _ rfl
   have g1:=hff 1 _ rfl
   have g2:=hff 2 _ rfl
   have g3:=hff 3 _ rfl
   simp [k1,k2] at g0 g1 g2 g3
   obtain ⟨K,e0,_,w0⟩:=DataW.trod_int Tryz.underlying3 g0
   obtain ⟨A,m,c,f,rfl,h1,h2,h3⟩:=trod_bools g1
   obtain ⟨T,e2,_,w2⟩:=DataW.trod_int Tryz.underlying3 g2
   obtain ⟨R,e3,_,w3⟩:=DataW.trod_int Tryz.underlying3 g3
   simp at e0 e2 e3
   subst e0 e2 e3
   exact ⟨K,A,m,c,f,T,R,rfl,i64_of w0,h1,h2,h3⟩
end
theorem flat_get {α:Type} (f:α→List Value) (c:Nat) (hf:∀ x,(f x).length=c):∀ (L:List α) (j:Nat) (x:α) (k:Nat),L[j]? = some x→k<c→(L.flatMap f)[j*c+k]? = (f x)[k]?
 | [],j,x,k,h,_=>by simp at h
 | y :: L,0,x,k,h,hk=>by
   have e:y=x:=by simpa using h
   subst e
   rw [List.flatMap_cons,Nat.zero_mul,Nat.zero_add,List.getElem?_append_left (by rw [hf]; exact hk)]
 | y :: L,j+1,x,k,h,hk=>by
   have h' : L[j]? = some x:=by simpa using h
   rw [List.flatMap_cons,List.getElem?_append_right (by rw [hf,Nat.add_mul]; omega),hf,show (j+1)*c+k-c=j*c+k by rw [Nat.add_mul]; omega]
   exact flat_get f c hf L j x k h' hk
theorem rows_cell {W w:World} {items:List Dk.Item} (h:Dk.Sep W w items) {k:Nat} {t:TypeId} {sz:Nat} {A:Option Addr} {p n:Nat} {xs:List Value} (hk:items[k]? = some (rowS t sz (.slice A n p) n xs)) (hn:0<n):∃ g,A=some ⟨g,0,none⟩∧∀ j,j<n*sz→w.cell? ⟨g,j,none⟩=xs[j]?:=by
 obtain ⟨G,⟨hrow,_⟩,_⟩:=h.at_ k hk
 rcases hrow.2 with ⟨_,rfl⟩ | ⟨g,cap,cur,e,_,hg,_,_,_,hx⟩
 ·omega
 ·injection e with e1 e2 e3
  refine ⟨g,e1,fun j hj=>?_⟩
  rw [← hx,List.getElem?_take_of_lt hj,cell_of_row w g j cur t (0,0) hg]
  simp
theorem found_cell {W w:World} {items:List Dk.Item} {T:TypeId} {m:Img} {y:IL} {k:Nat} (h:Dk.Sep W w items) (hk:items[k]? = some (y.fI T m)) (hn:0<m.f.length):∃ g,y.F=some ⟨g,0,none⟩∧∀ (i j:Nat) (hi:i<m.f.length),j<9→w.cell? ⟨g,i*9+j,none⟩=(fdC m.f[i])[j]?:=by
 obtain ⟨g,e,hc⟩:=rows_cell h hk hn
 refine ⟨g,e,fun i j hi hj=>?_⟩
 rw [hc _ (by have:=Nat.mul_le_mul_right 9 (show i+1≤m.f.length by omega); omega)]
 exact flat_get fdC 9 fdC_len m.f i _ j (List.getElem?_eq_getElem hi) hj
theorem open_pair {H:Type} {enc:TypeId × Value→H} {W:World} {b0:Nat} {r' : Reach} {v:Value} {y:DataW H} {ps:List MemPlace}
 (hv:Value.okWide Tryz.prog W r' b0 85 v) (h:DataW.Trod enc Tryz.prog W 0 (fun _=>true) true 85 v y ps) :
 ∃ a b:Int,v=.agg #[.int .u8 a,.int .u8 b]∧(0≤a∧a≤255)∧(0≤b∧b≤255):=by
 simp only [Value.okWide,Tryz.underlying85] at hv
 obtain ⟨cs,rfl,hsz,_⟩:=hv
 obtain ⟨c0,c1,rfl⟩:=Lg.Lg.array2 (hsz.trans (by kernel_rfl))
 obtain ⟨fuel,hf⟩:=h
 obtain ⟨xs,n,_,_,_,hlen,hff⟩:=DataW.trod_array Tryz.underlying85 (by simpa [Value.cells] using hf)
 match xs,hlen with
 | [y0,y1],_ =>
   have k1:Tryz.prog.cellsOf 5=1:=by kernel_rfl
   have g0:=hff 0 (by decide)
   have g1:=hff 1 (by decide)
   simp [k1] at g0 g1
   obtain ⟨a,e0,_,w0⟩:=DataW.trod_int Tryz.underlying5 g0
   obtain ⟨b,e1,_,w1⟩:=DataW.trod_int Tryz.underlying5 g1
   simp at e0 e1
   subst e0 e1
   simp [Lit.wf] at w0 w1
   exact ⟨a,b,rfl,w0,w1⟩
end Go.Proofs.YtcnohlgigmmefaaGreat.Ro
