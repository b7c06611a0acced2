/- A part. -/
import Derived.Test.YtcnohlgigmmefaaGreatPRoC
namespace Go.Proofs.YtcnohlgigmmefaaGreat.Ro
open Go.RowKit Go.Lib Wd
open Tb (Tab okP lastN nth)
open Dk (St)
set_option linter.unusedVariables false
structure Tied (m:Img) (t:Tab) (ls:Int):Prop where
 o:t.o=m.t.o
 l:t.l=m.t.l
 sg:t.sg=m.t.sg
 st:t.st=m.t.st
 ls:ls=m.ls
structure Half (sg st:Int) (h:Held) (pd:List (Int × ByteArray)) (c:Cp.Chk) (f:List Fd) (L:List (Int × Rc.Rec)) (m:Img) (c' : Cp.Chk) (f' : List Fd):Prop where
 d:Disk1 sg st h [] c f L m L.length
 fs:Cp.Fits c'
 ok:Cp.okC c' = true
 g:c'.g=c.g+1
 le:stN m.ls c.e≤stN c'.l c'.e
 cnt:Cnt sg st h c' f'
 pend:pd=[((c.g+1)%2,secC c')]
section
variable {h h' : Held} {sg st:Int} {pd:List (Int × ByteArray)} {c c' : Cp.Chk} {f f' : List Fd} {L:List (Int × Rc.Rec)} {m:Img} {nf:Nat} {r:Rc.Rec} {t:Tab} {ls:Int}
theorem over_miss {l:List (Int × ByteArray)} {i:Int} (hm:∀ p∈l,p.1≠i) (x:ByteArray):Dk.over l i x=x:=by
 unfold Dk.over
 induction l generalizing x with
 | nil=>rfl
 | cons a l ih =>
   rw [List.foldl_cons,if_neg (hm a (List.mem_cons_self ..))]
   exact ih (fun p hp=>hm p (List.mem_cons_of_mem _ hp)) x
theorem over_hit {l:List (Int × ByteArray)} {i:Int} {X:ByteArray} (hd:(l.map (·.1)).Nodup) (hm:(i,X)∈l) (x:ByteArray):Dk.over l i x=X:=by
 induction l generalizing x with
 | nil=>cases hm
 | cons a l ih =>
   rw [List.map_cons,List.nodup_cons] at hd
   show Dk.over l i (if a.1=i then a.2 else x)=X
   rcases List.mem_cons.1 hm with e|hm
   ·subst e
    rw [if_pos rfl]
    exact over_miss (fun p hp e=>hd.1 (List.mem_map.2 ⟨p,hp,e⟩)) _
   ·exact ih hd.2 hm _
theorem Disk1.nodup (D:Disk1 sg st h pd c f L m nf):((L.drop nf).map (·.1)).Nodup:=by
 have hn:=(D.wr.past D.okb).2.2
 rw [← List.take_append_drop nf L,List.map_append,List.nodup_append] at hn
 exact hn.2.1
theorem Disk1.pdn (D:Disk1 sg st h pd c f L m nf):(pd.map (·.1)).Nodup:=by
 rw [D.pend,List.map_map]
 exact D.nodup
theorem Disk1.fo (D:Disk1 sg st h pd c f L m nf):∀ p∈L,Rc.Fits p.2∧Rc.okR p.2=true∧p.2.e=c.e:=fun p hp=>by
 obtain ⟨a,b,e⟩:=List.append_of_mem hp
 have:=D.wr.ls _ _ _ e
 exact ⟨this.2.2.1,this.2.2.2,this.2.1⟩
theorem Disk1.crashTo (D:Disk1 sg st h pd c f L m nf) (keep:Nat→Bool) (torn:Int) (n:Nat) :
 (∀ i,(∀ p∈L.drop nf,p.1≠i)→Dk.crashTo keep torn n pd h pd.length i=h i)∧∀ p∈L.drop nf,∃ q,Dk.crashTo keep torn n pd h pd.length p.1=Dk.mix q (Lg.secB p.2) (h p.1):=by
 refine ⟨fun i hi=>crash_miss (fun p hp=>?_) _,fun p hp=>crash_hit D.pdn ?_ (Lg.secB_size (D.fo p (List.mem_of_mem_drop hp)).2.1) (D.rest.sz _)⟩
 ·rw [D.pend] at hp
  obtain ⟨q,hq,rfl⟩:=List.mem_map.1 hp
  exact hi q hq
 ·rw [D.pend]
  exact List.mem_map.2 ⟨p,hp,rfl⟩
theorem Disk1.flush (D:Disk1 sg st h pd c f L m nf) (hh:∀ i,h' i=Dk.over pd i (h i)):Disk1 sg st h' [] c f L m L.length:=by
 have hp:=D.wr.past D.okb
 have hmiss:∀ i,(∀ p∈L.drop nf,p.1≠i)→h' i=h i:=fun i hi=>by
  rw [hh,over_miss]
  intro p hp
  rw [D.pend] at hp
  obtain ⟨q,hq,rfl⟩:=List.mem_map.1 hp
  exact hi q hq
 have hhit:∀ p∈L.drop nf,h' p.1=Lg.secB p.2:=fun p hp=>by
  rw [hh]
  refine over_hit D.pdn ?_ _
  rw [D.pend]
  exact List.mem_map.2 ⟨p,hp,rfl⟩
 have hsame:=D.sameAt (h':=h') fun i _=>hmiss i
 have eb:=base_same (sg:=sg) (f:=f) hsame
 have h01:∀ i,i<2→h' i=h i:=fun i hi=>hmiss i fun p hp' e=>by have:=(hp.2.1 p (List.mem_of_mem_drop hp')).1; omega
 have f0:=D.rest.fs
 refine ⟨D.hsg,D.hst,⟨f0,D.rest.ok,by rw [h01 _ (by omega)]; exact D.rest.two,by rw [h01 _ (by omega)]; exact D.rest.oth,fun i hi=>?_,fun i=>?_⟩,D.cnt.same hsame,by rw [eb]; exact D.wr,Nat.le_refl _,by simp,fun p hp'=>?_⟩
 ·by_cases hm:∀ p∈L.drop nf,p.1≠i
  ·rw [hmiss i hm]
   have hl:=D.wr.lt (m0:=baseI h sg st c f) f0.l1
   have:=D.le
   rw [D.ls] at hl
   have:=f0.l0
   exact Nat.lt_of_lt_of_le (D.rest.low i hi) (stN_le ⟨by omega,by omega⟩ f0.e0 (by omega) (.inr ⟨rfl,by omega⟩))
  ·obtain ⟨p,hp',rfl⟩:∃ p∈L.drop nf,p.1=i:=Decidable.byContradiction fun hn=>hm fun p hp e=>hn ⟨p,hp,e⟩
   have hL:=List.mem_of_mem_drop hp'
   obtain ⟨a,b,e⟩:=List.append_of_mem hL
   obtain ⟨w1,w2,w3,w4⟩:=D.wr.ls _ _ _ e
   rw [hhit p hp',← Lg.secB_eq,end_sec w3 w4,w2,w1]
   have e1:(baseI h sg st c f).ls=c.l:=rfl
   rw [e1]
   have e2:L.length=a.length+(b.length+1):=by rw [e]; simp
   have:=w3.l1
   rw [w1,e1] at this
   have:=f0.l0
   exact stN_lt ⟨by omega,by omega⟩ f0.e0 (by omega) (.inr ⟨rfl,by omega⟩)
 ·by_cases hm:∀ p∈L.drop nf,p.1≠i
  ·rw [hmiss i hm]; exact D.rest.sz i
  ·obtain ⟨p,hp',rfl⟩:∃ p∈L.drop nf,p.1=i:=Decidable.byContradiction fun hn=>hm fun p hp e=>hn ⟨p,hp,e⟩
   rw [hhit p hp']
   exact Lg.secB_size (D.fo p (List.mem_of_mem_drop hp')).2.1
 ·rw [List.take_length] at hp'
  rw [← List.take_append_drop nf L] at hp'
  rcases List.mem_append.1 hp' with hp'|hp'
  ·rw [hmiss p.1 fun q hq e=>?_]
   ·exact D.done p hp'
   ·have hn:=hp.2.2
    rw [← List.take_append_drop nf L,List.map_append,List.nodup_append] at hn
    exact hn.2.2 p.1 (List.mem_map_of_mem hp') q.1 (List.mem_map_of_mem hq) e.symm
  ·exact hhit p hp'
theorem Disk1.shut (D:Disk1 sg st h [] c f L m L.length):Shut sg st h c m:=by
 obtain ⟨L1,L2,m1,e,hl,_,W1,_,S⟩:=D.crash (h':=h) (fun _ _=>rfl) (fun p hp=>by simp at hp)
 have h2:L2=[]:=List.eq_nil_of_length_eq_zero (by rw [e,List.length_append] at hl; omega)
 subst h2
 rw [List.append_nil] at e
 subst e
 obtain ⟨_,W3,W4⟩:=D.wr.split (List.append_nil L).symm
 have e2:m1=m:=by
  have a:=W1.run D.okb (h:=h) fun p hp=>by
   rw [D.done p (by rw [List.take_length]; exact hp)]
   exact recOf_sec (D.fo p hp).1 (D.fo p hp).2.1
  have b:=D.wr.run D.okb (h:=h) fun p hp=>by
   rw [D.done p (by rw [List.take_length]; exact hp)]
   exact recOf_sec (D.fo p hp).1 (D.fo p hp).2.1
  have key:∀ {L:List (Int × Rc.Rec)} {m m' : Img},Wr c.e (baseI h sg st c f) L m→Wr c.e (baseI h sg st c f) L m'→m=m':=by
   intro L m m' W
   induction W generalizing m' with
   | nil=>intro W'; exact (W'.none rfl).symm
   | @snoc L m r W hr ih =>
     intro W'
     generalize hL:L++[(place m,r)]=L' at W'
     cases W' with
     | nil=>exact absurd hL (by simp)
     | snoc W2 hr2 =>
       obtain ⟨rfl,e3⟩:=List.append_inj' hL rfl
       injection e3 with e3
       injection e3 with _ e3
       subst e3
       rw [ih W2]
  exact key W1 D.wr
 subst e2
 exact S
theorem Disk1.slots (D:Disk1 sg st h pd c f L m nf) (hs:∀ i,2≤i→h' i=h i) (R:Rest h' c (c.l+nf) c.e):Disk1 sg st h' pd c f L m nf:=by
 have hsame:=D.sameAt (h':=h') fun i hi _=>hs i hi
 have eb:=base_same (sg:=sg) (f:=f) hsame
 refine ⟨D.hsg,D.hst,R,D.cnt.same hsame,by rw [eb]; exact D.wr,D.le,D.pend,fun p hp=>?_⟩
 rw [hs p.1 ((D.wr.past D.okb).2.1 p (List.mem_of_mem_take hp)).1]
 exact D.done p hp
theorem cnt_slots (hsg:4≤sg∧sg≤16) (hst:1≤st∧st≤30) (ho:Cp.okC c=true) (C:Cnt sg st h c f) (hs:∀ i,2≤i→h' i=h i):Cnt sg st h' c f:=by
 refine C.same fun i hi k hk=>?_
 have okb:=C.ok hsg hst ho
 have hp:=past_base okb hi hk
 have hb:=okb.2.2.2.1 _ hp.1
 unfold recAt
 rw [hs _ (sector_ge hst (by have:(baseI h sg st c f).t.sg=sg:=rfl; omega) hp.2.1)]
theorem Rest.start (hsg:4≤sg∧sg≤16) (hst:1≤st∧st≤30) (R:Rest h c c.l c.e) (C:Cnt sg st h c f):Disk1 sg st h [] c f [] (baseI h sg st c f) 0 :=
 ⟨hsg,hst,by simpa using R,C,.nil,Nat.le_refl _,rfl,by simp⟩
theorem Half.crash (H:Half sg st h pd c f L m c' f') (keep:Nat→Bool) (torn:Int) (n:Nat) :
 (∀ i,2≤i→Dk.crashTo keep torn n pd h pd.length i=h i)∧(Disk1 sg st (Dk.crashTo keep torn n pd h pd.length) [] c f L m L.length∨Disk1 sg st (Dk.crashTo keep torn n pd h pd.length) [] c' f' [] (baseI (Dk.crashTo keep torn n pd h pd.length) sg st c' f') 0):=by
 have D:=H.d
 have hmiss:∀ i,i≠(c.g+1)%2→Dk.crashTo keep torn n pd h pd.length i=h i:=fun i hi=>crash_miss (fun p hp=>by rw [H.pend,List.mem_singleton] at hp; rw [hp]; exact fun e=>hi e.symm) _
 obtain ⟨q,hq⟩:=crash_hit (keep:=keep) (torn:=torn) (n:=n) (l:=pd) (h:=h) (i:=(c.g+1)%2) (X:=secC c') (by rw [H.pend]; simp) (by rw [H.pend]; simp) (secC_size H.ok) (D.rest.sz _)
 generalize Dk.crashTo keep torn n pd h pd.length=h' at hmiss hq ⊢
 have h2:∀ i,2≤i→h' i=h i:=fun i hi=>hmiss i (by omega)
 refine ⟨h2,?_⟩
 have hle:stN (c.l+(L.length:Int)) c.e≤stN c'.l c'.e:=by rw [← D.ls]; exact H.le
 rcases D.rest.torn H.fs H.ok H.g hle hq hmiss with ⟨h3,R⟩|R
 ·exact .inr (R.start D.hsg D.hst (cnt_slots D.hsg D.hst H.ok H.cnt h2))
 ·exact .inl (D.slots h2 R)
theorem cnt_tied (hok:okP m.t) (hF:Faith h m) (hsg:m.t.sg=sg) (hst:m.t.st=st) (ho:c.o=m.t.o) (hn:c.n=m.t.l):Cnt sg st h c m.f:=by
 refine ⟨fun j hj=>?_,?_⟩
 ·rw [ho] at hj
  rw [ho,hn,← hsg,← hst]
  have h7:=hok.2.2.2.2.2.2.1
  exact ⟨(hok.2.2.2.1 _ (Tb.nth_mem hj)).2,(hok.2.2.2.2.2.1 _ (Tb.nth_mem (by omega))).2⟩
 ·rw [ho,hn,← hst]
  exact hF
theorem reads_iff {o l:List Int}:∀ {n:Nat},(∃ g,readsT h st o l n=some g)↔∀ i,i<n→∃ g,segF h st (nth o i) (nth l i).toNat=some g
 | 0=>⟨fun _ i hi=>by omega,fun _=>⟨[],rfl⟩⟩
 | n+1=>by
   have ih:=reads_iff (o:=o) (l:=l) (n:=n)
   constructor
   ·rintro ⟨g,hg⟩ i hi
    unfold readsT at hg
    split at hg
    ·cases hg
    ·rename_i a ha
     split at hg
     ·cases hg
     ·rename_i b hb
      by_cases e:i=n
      ·subst e; exact ⟨b,hb⟩
      ·exact ih.1 ⟨a,ha⟩ i (by omega)
   ·intro hA
    obtain ⟨a,ha⟩:=ih.2 fun i hi=>hA i (by omega)
    obtain ⟨b,hb⟩:=hA n (by omega)
    refine ⟨a++b,?_⟩
    unfold readsT
    rw [ha,hb]
end
end Go.Proofs.YtcnohlgigmmefaaGreat.Ro
namespace Go.Proofs.YtcnohlgigmmefaaGreat.Ro
open Go.RowKit Go.Lib Wd
open Tb (Tab okP lastN nth)
open Dk (St)
open Lg (appS sealS sealIf chkS dropS footB secB chkB dropB)
set_option linter.unusedVariables false
section
variable {sg st:Int} {s:St} {c c' : Cp.Chk} {f f' : List Fd} {L:List (Int × Rc.Rec)} {m:Img} {nf:Nat} {t:Tab} {ls e:Int}
theorem tied_place (T:Tied m t ls):Tb.sectorT t.st (lastN t.o) (lastN t.l)=place m:=by unfold place; rw [T.o,T.l,T.st]
theorem tied_free (T:Tied m t ls):Tb.freeT t=Tb.freeT m.t:=by unfold Tb.freeT; rw [T.o,T.sg]
theorem tied_rec {r:Rc.Rec} (T:Tied m t ls) (h:r.k≠3):Tied (putI m r) (Tb.countedT t) (ls+1):=by
 unfold putI
 rw [if_neg h]
 refine ⟨T.o,?_,T.sg,T.st,by rw [T.ls]⟩
 show t.l.set (t.l.length-1) (lastN t.l+1)=m.t.l.set (m.t.l.length-1) (lastN m.t.l+1)
 rw [T.l]
theorem tied_foot {r:Rc.Rec} (T:Tied m t ls) (h:r.k=3):Tied (putI m r) (Tb.openedT t r.d (ls+1)) (ls+1):=by
 unfold putI
 rw [if_pos h]
 refine ⟨?_,?_,T.sg,T.st,by rw [T.ls]⟩
 ·show t.o++[r.d]=m.t.o++[r.d]
  rw [T.o]
 ·show t.l++[0]=m.t.l++[0]
  rw [T.l]
theorem foot_w {f0:Int} {l:List Int} (T:Tied m t ls) (htk:okP t) (hfr:Tb.freeT t=f0 :: l) (hls:1≤ls∧ls+1<18446744073709551616) (he:0≤e∧e<4294967296):OkW e m ⟨ls,e,3,0,f0,[],[]⟩:=by
 have hi:=Tb.free_in (t:=t) (s:=f0) (by rw [hfr]; exact List.mem_cons_self ..) (by have:=htk.1; omega)
 have:=htk.1
 exact ⟨.inr ⟨rfl,l,by rw [← tied_free T]; exact hfr⟩,T.ls,rfl,⟨by simp only; omega,by simp only; omega,he.1,he.2,Int.le_refl 0,(by decide:(0:Int)<18446744073709551616),by simp only; omega,by simp only; omega⟩,Lg.foot_ok hls.1 (by omega),by rw [← T.ls]; exact hls.2⟩
theorem seal_on {er:Int} {s' : St} {t' : Tab} {ls' : Int} (D:Disk1 sg st s.held s.pend c f L m nf) (T:Tied m t ls) (htk:okP t) (hls:1≤ls∧ls+1<18446744073709551616) (he:0≤c.e∧c.e<4294967296) (hE:sealS t s ls (footB t ls c.e)=(s',t',ls',er)) :
 ∃ L' m',Disk1 sg st s'.held s'.pend c f (L++L') m' nf∧Tied m' t' ls'∧(L'.map (·.2)).filter (fun r=>decide (r.k≠3))=[]∧(er≠0→s' = s∧t' = t∧ls' = ls∧L' = []):=by
 unfold sealS at hE
 split at hE
 ·have e4:(10:Int)=er:=by injection hE with _ h; injection h with _ h; injection h
  subst e4
  injection hE with h1 h; injection h with h2 h; injection h with h3 h
  subst h1; subst h2; subst h3
  exact ⟨[],m,by rw [List.append_nil]; exact D,T,rfl,fun _=>⟨rfl,rfl,rfl,rfl⟩⟩
 ·rename_i f0 l hfr
  split at hE
  ·injection hE with h1 h; injection h with h2 h; injection h with h3 h
   subst h1; subst h2; subst h3
   exact ⟨[],m,by rw [List.append_nil]; exact D,T,rfl,fun _=>⟨rfl,rfl,rfl,rfl⟩⟩
  ·injection hE with h1 h; injection h with h2 h; injection h with h3 h
   subst h1; subst h2; subst h3
   have hw:=foot_w (e:=c.e) T htk hfr hls he
   have ef:footB t ls c.e=secB ⟨ls,c.e,3,0,f0,[],[]⟩:=by unfold footB; rw [hfr]
   refine ⟨[(place m,⟨ls,c.e,3,0,f0,[],[]⟩)],_,?_,tied_foot T (r:=⟨ls,c.e,3,0,f0,[],[]⟩) rfl,by simp,fun h0=>absurd h.symm h0⟩
   have:=D.write hw
   rw [← tied_place T,← ef] at this
   rw [tied_place T] at this ⊢
   exact this
theorem sealIf_on {er:Int} {s' : St} {t' : Tab} {ls' : Int} (D:Disk1 sg st s.held s.pend c f L m nf) (T:Tied m t ls) (htk:okP t) (hls:1≤ls∧ls+1<18446744073709551616) (he:0≤c.e∧c.e<4294967296) (hE:sealIf t s ls c.e=(s',t',ls',er)) :
 ∃ L' m',Disk1 sg st s'.held s'.pend c f (L++L') m' nf∧Tied m' t' ls'∧(L'.map (·.2)).filter (fun r=>decide (r.k≠3))=[]∧(er≠0→s' = s∧t' = t∧ls' = ls∧L' = []):=by
 unfold sealIf at hE
 split at hE
 ·exact seal_on D T htk hls he hE
 ·injection hE with h1 h; injection h with h2 h; injection h with h3 h
  subst h1; subst h2; subst h3
  exact ⟨[],m,by rw [List.append_nil]; exact D,T,rfl,fun _=>⟨rfl,rfl,rfl,rfl⟩⟩
theorem rec_w {K V D0:Int} {I X:ByteArray} (T:Tied m t ls) (htk:okP t) (hl:lastN t.l≠t.st) (hK:K≠3) (hls:1≤ls∧ls+1<18446744073709551616) (he:0≤e∧e<4294967296) (hV:0≤V∧V<18446744073709551616) (hD:0≤D0∧D0<18446744073709551616)
 (hR:Rc.okR ⟨ls,e,K,V,D0,I.data.toList,X.data.toList⟩=true):OkW e m ⟨ls,e,K,V,D0,I.data.toList,X.data.toList⟩:=by
 have hb:=(Lg.open_bd htk).2
 exact ⟨.inl ⟨hK,by rw [← T.l,← T.st]; omega⟩,T.ls,rfl,⟨by simp only; omega,by simp only; omega,he.1,he.2,hV.1,hV.2,hD.1,hD.2⟩,hR,by rw [← T.ls]; exact hls.2⟩
theorem app_on {K V D0 er sg' so:Int} {I X:ByteArray} {s' : St} {t' : Tab} {ls' : Int} (D:Disk1 sg st s.held s.pend c f L m nf) (T:Tied m t ls) (htk:okP t) (hls:1≤ls∧ls+2<18446744073709551616) (he:0≤c.e∧c.e<4294967296) (hV:0≤V∧V<18446744073709551616) (hD:0≤D0∧D0<18446744073709551616)
 (hE:appS t s ls c.e K V D0 I X=(s',t',ls',sg',so,er)) :
 ∃ L' m',Disk1 sg st s'.held s'.pend c f (L++L') m' nf∧Tied m' t' ls'∧(L'.map (·.2)).filter (fun r=>decide (r.k≠3))=(if er=0 then [⟨ls'-1,c.e,K,V,D0,I.data.toList,X.data.toList⟩] else []):=by
 unfold appS at hE
 split at hE
 ·injection hE with h1 h; injection h with h2 h; injection h with h3 h; injection h with h4 h; injection h with h5 h
  subst h1; subst h2; subst h3; subst h
  exact ⟨[],m,by rw [List.append_nil]; exact D,T,rfl⟩
 ·rename_i hk
  split at hE
  ·injection hE with h1 h; injection h with h2 h; injection h with h3 h; injection h with h4 h; injection h with h5 h
   subst h1; subst h2; subst h3; subst h
   exact ⟨[],m,by rw [List.append_nil]; exact D,T,rfl⟩
  ·have ho1:=Lg.sealIf_room (t:=t) (s:=s) (ls:=ls) (ep:=c.e) htk
   have hR:Rc.okR ⟨ls,c.e,K,V,D0,I.data.toList,X.data.toList⟩=true:=by
    cases hb:Rc.okR ⟨ls,c.e,K,V,D0,I.data.toList,X.data.toList⟩ with
    | true=>rfl
    | false=>exact absurd (.inr hb) hk
   obtain ⟨s1,t1,l1,e1,hS⟩:∃ s1 t1 l1 e1,sealIf t s ls c.e=(s1,t1,l1,e1):=⟨_,_,_,_,rfl⟩
   obtain ⟨L1,m1,D1,T1,hf1,hx1⟩:=sealIf_on D T htk ⟨hls.1,by omega⟩ he hS
   have hl1:ls≤l1∧l1≤ls+1:=by
    unfold sealIf at hS
    split at hS
    ·unfold sealS at hS
     split at hS
     ·injection hS with _ h; injection h with _ h; injection h with h _; omega
     ·split at hS
      ·injection hS with _ h; injection h with _ h; injection h with h _; omega
      ·injection hS with _ h; injection h with _ h; injection h with h _; omega
    ·injection hS with _ h; injection h with _ h; injection h with h _; omega
   rw [hS] at hE ho1
   simp only at hE ho1
   split at hE
   ·rename_i hne
    injection hE with h1 h; injection h with h2 h; injection h with h3 h; injection h with h4 h; injection h with h5 h
    subst h1; subst h2; subst h3; subst h
    exact ⟨L1,m1,D1,T1,by rw [if_neg hne,hf1]⟩
   ·rename_i he0
    have he0:e1=0:=Decidable.byContradiction he0
    subst he0
    have hro:=ho1 rfl
    have hok1:okP t1:=by
     unfold sealIf at hS
     split at hS
     ·unfold sealS at hS
      split at hS
      ·injection hS with _ h; injection h with _ h; injection h with _ h; cases h
      ·rename_i f0 l hfr
       split at hS
       ·injection hS with _ h; injection h with _ h; injection h with _ h; cases h
       ·injection hS with _ h; injection h with h _
        subst h
        exact opened_ok htk hfr
     ·injection hS with _ h; injection h with h _
      subst h
      exact htk
    unfold appS.putS at hE
    split at hE
    ·injection hE with h1 h; injection h with h2 h; injection h with h3 h; injection h with h4 h; injection h with h5 h
     subst h1; subst h2; subst h3; subst h
     exact ⟨L1,m1,D1,T1,by rw [hf1]; rfl⟩
    ·injection hE with h1 h; injection h with h2 h; injection h with h3 h; injection h with h4 h; injection h with h5 h
     subst h1; subst h2; subst h3; subst h
     have hw:=rec_w (e:=c.e) (K:=K) (V:=V) (D0:=D0) (I:=I) (X:=X) T1 hok1 hro (fun h=>hk (.inl h)) ⟨by omega,by omega⟩ he hV hD (Lg.okR_stamp (by omega) hR)
     refine ⟨L1++[(place m1,_)],_,by rw [← List.append_assoc]; rw [tied_place T1]; exact D1.write hw,tied_rec T1 (r:=⟨l1,c.e,K,V,D0,I.data.toList,X.data.toList⟩) (fun h=>hk (.inl h)),?_⟩
     have hk3:K≠3:=fun h=>hk (.inl h)
     rw [if_pos rfl,List.map_append,List.filter_append,hf1,show l1+1-1=l1 by omega]
     simp [hk3]
end
end Go.Proofs.YtcnohlgigmmefaaGreat.Ro
