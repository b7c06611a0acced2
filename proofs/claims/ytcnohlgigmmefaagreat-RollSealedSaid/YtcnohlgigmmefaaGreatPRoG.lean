/- A part. -/
import Derived.Test.YtcnohlgigmmefaaGreatPRoE
namespace Go.Proofs.YtcnohlgigmmefaaGreat.Ro
open Go.RowKit Go.Lib Wd
open Tb (Tab okP lastN nth)
open Dk (St)
open Lg (appS sealS sealIf chkS dropS footB secB chkB dropB LogP)
set_option linter.unusedVariables false
def Alive (sg st:Int) (s:St) (t:Tab) (ls e gn:Int):Prop:=∃ c f L m nf,Disk1 sg st s.held s.pend c f L m nf∧Tied m t ls∧c.e=e∧c.g=gn
def Any (sg st:Int) (s:St) (e G:Int):Prop:=∃ c f L m,c.e=e∧c.g≤G∧((∃ nf,Disk1 sg st s.held s.pend c f L m nf)∨∃ c' f',Half sg st s.held s.pend c f L m c' f'∧c'.e=e∧c'.g≤G)
section
variable {sg st:Int} {s s' : St} {c c' : Cp.Chk} {f f' : List Fd} {L:List (Int × Rc.Rec)} {m:Img} {nf:Nat} {t t' : Tab} {ls ls' e gn gn' er G G' : Int} {h h' : Held} {k:Nat}
theorem Alive.any (A:Alive sg st s t ls e gn) (h:gn≤G):Any sg st s e G:=by
 obtain ⟨c,f,L,m,nf,D,T,he,hg⟩:=A
 exact ⟨c,f,L,m,he,by omega,.inl ⟨nf,D⟩⟩
theorem Any.le (A:Any sg st s e G) (h:G≤G'):Any sg st s e G':=by
 obtain ⟨c,f,L,m,he,hg,A⟩:=A
 refine ⟨c,f,L,m,he,by omega,A.imp id fun ⟨c',f',H,h1,h2⟩=>⟨c',f',H,h1,by omega⟩⟩
theorem chk_fits {o l:List Int} {g v:Int} (hg:0≤g∧g<18446744073709551616) (he:0≤e∧e<4294967296) (hl:0≤ls∧ls<18446744073709551616) (hv:0≤v∧v<18446744073709551616):Cp.Fits ⟨g,e,ls,v,o,l⟩:=⟨hg.1,hg.2,he.1,he.2,hl.1,hl.2,hv.1,hv.2⟩
theorem Any.crash (A:Any sg st s e G) (keep:Nat→Bool) (torn:Int) (n:Nat):∃ c m,Shut sg st (s.crash keep torn n).held c m∧c.e=e∧c.g≤G:=by
 obtain ⟨c,f,L,m,he,hg,⟨nf,D⟩ | ⟨c',f',H,h1,h2⟩⟩:=A
 ·obtain ⟨a,b⟩:=D.crashTo keep torn n
  obtain ⟨_,_,m1,_,_,_,_,_,S⟩:=D.crash a b
  exact ⟨c,m1,S,he,hg⟩
 ·rcases (H.crash keep torn n).2 with D|D
  ·exact ⟨c,m,D.shut,he,hg⟩
  ·exact ⟨c',_,Disk1.shut (L:=[]) D,h1,h2⟩
theorem zero_end:endN Dk.zeroS.data.toList=0∧endG Dk.zeroS.data.toList=0:=by
 have e:Dk.zeroS.data.toList=List.replicate 128 0:=by simp [Dk.zeroS]
 unfold endN endG
 rw [e,List.drop_replicate,List.drop_replicate,leN_zeros,leN_zeros]
 exact ⟨rfl,rfl⟩
def c0:Cp.Chk:=⟨1,1,1,0,[0],[0]⟩
theorem c0_ok:Cp.Fits c0∧Cp.okC c0=true:=⟨⟨by decide,by decide,by decide,by decide,by decide,by decide,by decide,by decide⟩,by decide⟩
theorem new_disk {n:Int} (hsg:4≤sg∧sg≤16) (hst:1≤st∧st≤30) (hn:2≤n∧n≤4096) (hE:chkS (St.new n) 0 (secC c0)=(s',gn',er)):er=0∧gn' = 1∧s'.pend=[]∧Disk1 sg st s'.held s'.pend c0 [] [] (baseI s'.held sg st c0 []) 0:=by
 have g0:=Dk.St.Good.new (n:=n) (by omega) hn.2
 have nd:∀ q:St,q.set=false→¬ q.dead:=fun q hq hd=>by have:=hd.1; rw [hq] at this; cases this
 have g1:=g0.flush (nd _ rfl)
 have g2:=g1.write (nd _ rfl) (i:=(0+1)%2) (x:=secC c0) ⟨by decide,by show (0+1)%2<n; omega⟩ (secC_size c0_ok.2)
 unfold chkS at hE
 rw [if_neg (nd _ rfl),if_neg (nd _ rfl),if_neg (nd _ rfl)] at hE
 injection hE with a1 a; injection a with a2 a
 subst a1; subst a2; subst a
 have hh:∀ i,((St.new n).flush.write ((0+1)%2) (secC c0)).flush.held i=if (1:Int)=i then secC c0 else Dk.zeroS:=fun i=>by
  rw [Dk.flush_held g2,Dk.write_cur]
  have e2:(St.new n).flush.cur i=Dk.zeroS:=by
   have:(St.new n).flush.cur i=(St.new n).flush.held i:=Dk.over_nil ..
   rw [this,Dk.flush_held g0]
   rfl
  rw [e2]
  rfl
 have hz:=zero_end
 refine ⟨rfl,rfl,rfl,Rest.start hsg hst ⟨c0_ok.1,c0_ok.2,?_,?_,fun i hi=>?_,fun i=>?_⟩ ⟨fun j hj=>?_,?_⟩⟩
 ·rw [hh]
  exact secC_eq _
 ·rw [hh]
  show ((endG Dk.zeroS.data.toList:Nat):Int)<1
  rw [hz.2]
  decide
 ·rw [hh,if_neg (by omega),hz.1]
  decide
 ·rw [hh]
  split
  ·exact secC_size c0_ok.2
  ·exact Dk.zeroS_size
 ·obtain rfl:j=0:=by have:j<1:=hj; omega
  exact ⟨by show (0:Int)<sg; omega,by show (0:Int)≤st; omega⟩
 ·rfl
theorem sector_out (st seg slot:Int):Tb.sectorT st seg slot≠0∧Tb.sectorT st seg slot≠1:=by
 by_cases hc:1≤st∧st≤30∧0≤seg∧seg≤15∧0≤slot∧slot≤st
 ·have:=sector_ge ⟨hc.1,hc.2.1⟩ ⟨hc.2.2.1,hc.2.2.2.1⟩ hc.2.2.2.2
  omega
 ·unfold Tb.sectorT
  rw [if_neg hc]
  decide
def Apart (h h' : Held):Prop:=∀ i,i≠0→i≠1→h' i=h i
theorem Apart.rec (A:Apart h h') (seg slot:Int):recAt h' st seg slot=recAt h st seg slot:=by
 unfold recAt
 rw [A _ (sector_out ..).1 (sector_out ..).2]
theorem Apart.base (A:Apart h h'):baseI h' sg st c f=baseI h sg st c f:=base_same fun i hi k hk=>A.rec ..
theorem Apart.run (A:Apart h h'):∀ n m,runI h' e n m=runI h e n m
 | 0,m=>rfl
 | n+1,m=>by
   have e1:stepI h' e m=stepI h e m:=by
    unfold stepI
    rw [A.rec]
   unfold runI
   rw [e1]
   split
   ·rfl
   ·exact A.run n _
theorem Shut.slots (S:Shut sg st h c m) (A:Apart h h') (R:Rest h' c 0 (c.e+1)):Shut sg st h' c m:=by
 refine ⟨S.hsg,S.hst,R,?_,?_,S.ok,S.sg,S.st,S.mc,S.ls,S.v⟩
 ·have hs:=S.scan
  unfold scanI cntI at hs ⊢
  obtain ⟨a1,a2⟩:=S.rest.best
  obtain ⟨b1,b2⟩:=R.best
  rw [a1,a2] at hs
  rw [b1,b2,reads_same (h:=h) fun i hi k hk=>A.rec ..,← hs]
  simp only [A.base,A.run]
 ·have hF:=S.faith
  unfold Faith at hF ⊢
  rw [reads_same (h:=h) fun i hi k hk=>A.rec ..]
  exact hF
def nextC (c:Cp.Chk) (m:Img):Cp.Chk:=⟨c.g+1,c.e+1,m.ls,m.v,m.t.o,m.t.l⟩
theorem Shut.next (S:Shut sg st h c m) (hg:c.g+1<18446744073709551616) (he:c.e+1<4294967296):Cp.Fits (nextC c m)∧Cp.okC (nextC c m)=true∧Cnt sg st h (nextC c m) m.f:=by
 have f0:=S.rest.fs
 have g0:=f0.g0
 have e0:=f0.e0
 have h1:=S.ls
 have h2:=S.v
 exact ⟨chk_fits ⟨by omega,hg⟩ ⟨by omega,he⟩ ⟨by omega,h1.2⟩ h2,Lg.okC_of S.ok (by omega) (by omega),cnt_tied S.ok S.faith S.sg S.st rfl rfl⟩
theorem Shut.opened (S:Shut sg st s.held c m) (hp:s.pend=[]) (hG:s.Good) (hs2:2≤s.size) (hg:c.g+1<18446744073709551616) (he:c.e+1<4294967296) (hE:chkS s c.g (secC (nextC c m))=(s',gn',er)) :
 ((er=0∧gn' = c.g+1∧Disk1 sg st s'.held s'.pend (nextC c m) m.f [] (baseI s'.held sg st (nextC c m) m.f) 0)∨(er=9∧s.set=true)) ∧
 ∀ keep torn n,Shut sg st (s'.crash keep torn n).held c m∨Shut sg st (s'.crash keep torn n).held (nextC c m) (baseI (s'.crash keep torn n).held sg st (nextC c m) m.f):=by
 obtain ⟨n1,n2,n3⟩:=S.next hg he
 have hh:∀ (q:St),q.Good→q.pend=[]→q.flush.held=q.held:=fun q hq h0=>by
  funext i
  rw [Dk.flush_held hq]
  unfold Dk.St.cur
  rw [h0]
  rfl
 have hfl:=hh s hG hp
 have hle:stN 0 (c.e+1)≤stN (nextC c m).l (nextC c m).e:=by
  have:=S.rest.fs.e0
  have:=S.ls
  exact stN_le ⟨by omega,by omega⟩ (by omega) (by show 0≤m.ls; omega) (.inr ⟨rfl,by show 0≤m.ls; omega⟩)
 have hcr:∀ (q:St) keep torn n,q.pend=[]→(q.crash keep torn n).held=q.held:=fun q keep torn n h0=>by
  show Dk.crashTo keep torn n q.pend q.held q.pend.length=q.held
  rw [h0]
  rfl
 have set_of:∀ q:St,q.dead→q.set=true:=fun q hd=>hd.1
 unfold chkS at hE
 split at hE
 ·rename_i hd
  injection hE with a1 a; injection a with a2 a
  subst a1; subst a2; subst a
  exact ⟨.inr ⟨rfl,hd.1⟩,fun keep torn n=>.inl (by rw [hcr _ _ _ _ hp]; exact S)⟩
 ·rename_i hd
  have g1:=hG.flush hd
  split at hE
  ·rename_i hd1
   injection hE with a1 a; injection a with a2 a
   subst a1; subst a2; subst a
   exact ⟨.inr ⟨rfl,hd1.1⟩,fun keep torn n=>.inl (by rw [hcr _ _ _ _ rfl,hfl]; exact S)⟩
  ·rename_i hd1
   have g2:=g1.write hd1 (i:=(c.g+1)%2) (x:=secC (nextC c m)) ⟨by omega,by show _<s.size; omega⟩ (secC_size n2)
   split at hE
   ·rename_i hd2
    injection hE with a1 a; injection a with a2 a
    subst a1; subst a2; subst a
    refine ⟨.inr ⟨rfl,hd2.1⟩,fun keep torn n=>?_⟩
    have hm:∀ i,i≠(c.g+1)%2→((s.flush.write ((c.g+1)%2) (secC (nextC c m))).crash keep torn n).held i=s.held i:=fun i hi=>by
     have:=crash_miss (keep:=keep) (torn:=torn) (n:=n) (h:=s.flush.held) (l:=[((c.g+1)%2,secC (nextC c m))]) (i:=i) (fun p hp'=>by rw [List.mem_singleton] at hp'; rw [hp']; exact fun e=>hi e.symm) 1
     rw [hfl] at this
     rw [← this]
     show Dk.crashTo keep torn n [((c.g+1)%2,secC (nextC c m))] s.flush.held 1 i=_
     rw [hfl]
    obtain ⟨q,hq⟩:=crash_hit (keep:=keep) (torn:=torn) (n:=n) (l:=[((c.g+1)%2,secC (nextC c m))]) (h:=s.held) (i:=(c.g+1)%2) (X:=secC (nextC c m)) (by simp) (by simp) (secC_size n2) (S.rest.sz _)
    have hq:((s.flush.write ((c.g+1)%2) (secC (nextC c m))).crash keep torn n).held ((c.g+1)%2)=Dk.mix q (secC (nextC c m)) (s.held ((c.g+1)%2)):=by
     rw [← hq]
     show Dk.crashTo keep torn n [((c.g+1)%2,secC (nextC c m))] s.flush.held 1 _=_
     rw [hfl]
     rfl
    generalize ((s.flush.write ((c.g+1)%2) (secC (nextC c m))).crash keep torn n).held=h' at hm hq ⊢
    rcases S.rest.torn n1 n2 rfl hle hq hm with ⟨h3,R⟩|R
    ·exact .inr (Disk1.shut (L:=[]) (R.start S.hsg S.hst (cnt_slots S.hsg S.hst n2 n3 fun i hi=>hm i (by omega))))
    ·exact .inl (S.slots (fun i h0 h1=>hm i (by omega)) R)
   ·rename_i hd2
    injection hE with a1 a; injection a with a2 a
    subst a1; subst a2; subst a
    have hw:∀ i,(s.flush.write ((c.g+1)%2) (secC (nextC c m))).flush.held i=if (c.g+1)%2=i then secC (nextC c m) else s.held i:=fun i=>by
     rw [Dk.flush_held g2,Dk.write_cur]
     have:s.flush.cur i=s.flush.held i:=Dk.over_nil ..
     rw [this,hfl]
    have hR:=S.rest.next (h':=(s.flush.write ((c.g+1)%2) (secC (nextC c m))).flush.held) n1 n2 rfl hle (by rw [hw,if_pos rfl]) fun i hi=>by rw [hw,if_neg (Ne.symm hi)]
    have D:=hR.start S.hsg S.hst (cnt_slots S.hsg S.hst n2 n3 fun i hi=>by rw [hw,if_neg (by omega)])
    exact ⟨.inl ⟨rfl,rfl,D⟩,fun keep torn n=>.inr (by rw [hcr _ _ _ _ rfl]; exact Disk1.shut (L:=[]) D)⟩
end
end Go.Proofs.YtcnohlgigmmefaaGreat.Ro
