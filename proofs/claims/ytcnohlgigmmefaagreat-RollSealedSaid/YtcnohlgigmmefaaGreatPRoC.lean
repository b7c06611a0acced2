/- A part. -/
import Derived.Test.YtcnohlgigmmefaaGreatPRoB
namespace Go.Proofs.YtcnohlgigmmefaaGreat.Ro
open Go.RowKit Go.Lib Wd
open Tb (Tab okP lastN nth)
open Dk (St)
set_option linter.unusedVariables false
section
variable {h h' : Held} {sg st seg ep:Int} {c:Cp.Chk} {f:List Fd} {m m0:Img} {L:List (Int × Rc.Rec)} {r:Rc.Rec}
theorem segF_congr:∀ n:Nat,(∀ k:Nat,k<n→recAt h' st seg k=recAt h st seg k)→segF h' st seg n=segF h st seg n
 | 0,_=>rfl
 | n+1,he=>by
   unfold segF
   rw [segF_congr n fun k hk=>he k (by omega),he n (by omega)]
theorem readsT_congr {o l o' l' : List Int}:∀ n:Nat,(∀ i,i<n→nth o' i=nth o i∧nth l' i=nth l i∧∀ k:Nat,k<(nth l i).toNat→recAt h' st (nth o i) k=recAt h st (nth o i) k)→readsT h' st o' l' n=readsT h st o l n
 | 0,_=>rfl
 | n+1,he=>by
   unfold readsT
   obtain ⟨h1,h2,h3⟩:=he n (by omega)
   rw [readsT_congr n fun i hi=>he i (by omega),h1,h2,segF_congr _ h3]
theorem segF_some:∀ {n:Nat} {l:List Fd},segF h st seg n=some l→l.length=n∧∀ k:Nat,k<n→∃ r,recAt h st seg k=some r∧r.k≠3
 | 0,l,hl=>by injection hl with hl; subst hl; exact ⟨rfl,fun k hk=>by omega⟩
 | n+1,l,hl=>by
   unfold segF at hl
   split at hl
   ·cases hl
   ·rename_i a ha
    split at hl
    ·cases hl
    ·rename_i r hr
     split at hl
     ·cases hl
     ·rename_i h3
      injection hl with hl
      subst hl
      obtain ⟨h1,h2⟩:=segF_some ha
      refine ⟨by simp [h1],fun k hk=>?_⟩
      by_cases e:k=n
      ·subst e; exact ⟨r,hr,h3⟩
      ·exact h2 k (by omega)
def SameAt (h h' : Held) (st:Int) (o l:List Int):Prop:=∀ i,i<o.length→∀ k:Nat,k<(nth l i).toNat→recAt h' st (nth o i) k=recAt h st (nth o i) k
theorem reads_same {o l:List Int} (hs:SameAt h h' st o l):readsT h' st o l o.length=readsT h st o l o.length:=readsT_congr _ fun i hi=>⟨rfl,rfl,hs i hi⟩
theorem first_same {n ls:Int} (hs:∀ k:Nat,k<n.toNat→recAt h' st seg k=recAt h st seg k):firstT h' st seg n ls=firstT h st seg n ls:=by
 unfold firstT
 split
 ·rfl
 ·rw [show (0:Int)=((0:Nat):Int) from rfl,hs 0 (by omega)]
theorem base_same (hs:SameAt h h' st c.o c.n):baseI h' sg st c f=baseI h sg st c f:=by
 have e:firstsT h' st c c.o.length=firstsT h st c c.o.length:=by
  unfold firstsT
  apply List.map_congr_left
  intro j hj
  exact first_same (hs j (List.mem_range.1 hj))
 unfold baseI
 rw [e]
theorem base_ok (hsg:4≤sg∧sg≤16) (hst:1≤st∧st≤30) (ho:Cp.okC c=true) (hi:inT sg st c c.o.length):okP (baseI h sg st c f).t:=by
 obtain ⟨h1,h2,h3,h4,h5,h6⟩:=(Cp.segB_iff _ _).1 ((Cp.okC_iff c).1 ho).2
 refine ⟨hsg,hst,h1,fun x hx=>?_,h6,fun x hx=>?_,h3,by simp [baseI,firstsT]⟩
 ·obtain ⟨i,hl,rfl⟩:=Lg.mem_at hx
  exact ⟨(h4 _ hx).1,(hi i hl).1⟩
 ·obtain ⟨i,hl,rfl⟩:=Lg.mem_at hx
  exact ⟨(h5 _ hx).1,(hi i (by have:i<c.n.length:=hl; omega)).2⟩
theorem past_base {i k:Nat} (hok:okP (baseI h sg st c f).t) (hi:i<c.o.length) (hk:k<(nth c.n i).toNat):Past (baseI h sg st c f) (nth c.o i,(k:Int)):=by
 have h7:c.n.length=c.o.length:=hok.2.2.2.2.2.2.1
 have hb:=hok.2.2.2.2.2.1 _ (Tb.nth_mem (l:=c.n) (i:=i) (by omega))
 have hb:0≤nth c.n i∧nth c.n i≤st:=hb
 refine ⟨Tb.nth_mem hi,⟨by simp only; omega,by show (k:Int)≤st; omega⟩,fun e=>?_⟩
 have e:nth c.o i=nth c.o (c.o.length-1):=e
 have hnd:c.o.Nodup:=hok.2.2.2.2.1
 have e2:i=c.o.length-1:=by
  rw [Tb.nth_lt hi,Tb.nth_lt (by omega)] at e
  have a1:c.o.idxOf c.o[i]=i:=List.Nodup.idxOf_getElem hnd ..
  have a2:c.o.idxOf (c.o[c.o.length-1]'(by omega))=c.o.length-1:=List.Nodup.idxOf_getElem hnd ..
  rw [← a1,e,a2]
 show (k:Int)<nth c.n (c.n.length-1)
 rw [h7,← e2]
 omega
def Faith (h:Held) (m:Img):Prop:=readsT h m.t.st m.t.o m.t.l m.t.o.length=some m.f
theorem faith_put (hok:okP m.t) (hr:OkW ep m r) (hF:Faith h m) (h1:recOf (h (place m))=some r):Faith h (putI m r):=by
 have h7:=hok.2.2.2.2.2.2.1
 have h3:=hok.2.2.1
 unfold Faith at hF ⊢
 unfold putI
 rcases hr.fit with ⟨h4,h5⟩ | ⟨h4,l,h5⟩
 ·rw [if_neg h4]
  show readsT h m.t.st m.t.o (m.t.l.set (m.t.l.length-1) (lastN m.t.l+1)) m.t.o.length=some (m.f++_)
  obtain ⟨n,hn⟩:∃ n,m.t.o.length=n+1:=⟨m.t.o.length-1,by omega⟩
  rw [hn] at hF ⊢
  have e1:readsT h m.t.st m.t.o (m.t.l.set (m.t.l.length-1) (lastN m.t.l+1)) n=readsT h m.t.st m.t.o m.t.l n:=readsT_congr _ fun i hi=>⟨rfl,Lg.nth_set_ne (by omega),fun _ _=>rfl⟩
  have e2:nth (m.t.l.set (m.t.l.length-1) (lastN m.t.l+1)) n=lastN m.t.l+1:=by
   rw [show n=m.t.l.length-1 by omega]
   exact Tb.nth_set (by omega)
  have e3:nth m.t.l n=lastN m.t.l:=by unfold lastN; congr 1; omega
  have e4:nth m.t.o n=lastN m.t.o:=by unfold lastN; congr 1; omega
  have hb:=(Lg.open_bd hok).2
  unfold readsT at hF ⊢
  rw [e1,e2,e4]
  rw [e3,e4] at hF
  split at hF
  ·cases hF
  ·rename_i a ha
   split at hF
   ·cases hF
   ·rename_i b hb'
    injection hF with hF
    have e5:segF h m.t.st (lastN m.t.o) (lastN m.t.l+1).toNat=some (b++[((lastN m.t.o,lastN m.t.l),r)]):=by
     rw [show (lastN m.t.l+1).toNat=(lastN m.t.l).toNat+1 by omega]
     unfold segF
     have e6:recAt h m.t.st (lastN m.t.o) ((lastN m.t.l).toNat:Nat)=some r:=by
      rw [Int.toNat_of_nonneg hb.1]
      exact h1
     rw [hb',e6]
     simp only
     rw [if_neg h4,Int.toNat_of_nonneg hb.1]
    rw [e5]
    simp only
    rw [← hF,List.append_assoc]
 ·rw [if_pos h4]
  show readsT h m.t.st (m.t.o++[r.d]) (m.t.l++[0]) (m.t.o++[r.d]).length=some m.f
  rw [List.length_append,List.length_singleton]
  have e1:readsT h m.t.st (m.t.o++[r.d]) (m.t.l++[0]) m.t.o.length=readsT h m.t.st m.t.o m.t.l m.t.o.length:=readsT_congr _ fun i hi=>⟨Tb.nth_app hi,Tb.nth_app (by omega),fun _ _=>rfl⟩
  have e2:nth (m.t.l++[0]) m.t.o.length=0:=by rw [← h7]; exact Tb.nth_last ..
  unfold readsT
  rw [e1,hF,e2]
  simp [segF]
theorem Wr.faith (W:Wr ep m0 L m) (hok:okP m0.t) (hF:Faith h m0) (hh:∀ p∈L,recOf (h p.1)=some p.2):Faith h m:=by
 induction W with
 | nil=>exact hF
 | snoc W hr ih=>exact faith_put (W.okT hok) hr (ih fun p hp=>hh p (List.mem_append_left _ hp)) (hh _ (List.mem_append_right _ (List.mem_singleton.2 rfl)))
theorem Wr.ls (W:Wr ep m0 L m):∀ L1 p L2,L=L1++p :: L2→p.2.l=m0.ls+L1.length∧p.2.e=ep∧Rc.Fits p.2∧Rc.okR p.2=true:=by
 intro L1 p L2 e
 obtain ⟨m1,W1,W2⟩:=W.split e
 have h1:=W1.same.2.2.2
 have h2:=(W2.head ⟨_,rfl⟩).2
 exact ⟨h2.l.trans h1,h2.e,h2.fs,h2.ok⟩
theorem Wr.lt (W:Wr ep m0 L m) (h0:m0.ls<18446744073709551616):m.ls<18446744073709551616:=by
 induction W with
 | nil=>exact h0
 | snoc W hr ih=>rw [put_same.2.2.2]; exact hr.lt
end
section
variable {keep:Nat→Bool} {torn:Int} {n:Nat} {h:Held} {i:Int} {X:ByteArray}
theorem crash_miss {l:List (Int × ByteArray)} (hm:∀ p∈l,p.1≠i):∀ k,Dk.crashTo keep torn n l h k i=h i
 | 0=>rfl
 | k+1=>by
   have ih:=crash_miss hm k
   cases hp:l[k]? with
   | none=>simp only [Dk.crashTo,hp]; exact ih
   | some p =>
     have hne:=hm p (List.mem_of_getElem? hp)
     have e:∀ q,Dk.do1 (Dk.crashTo keep torn n l h k) p q i=h i:=fun q=>by unfold Dk.do1; rw [if_neg (Ne.symm hne)]; exact ih
     simp only [Dk.crashTo,hp]
     split
     ·exact e _
     ·split
      ·exact e _
      ·exact ih
theorem crash_hit {l:List (Int × ByteArray)} (hd:(l.map (·.1)).Nodup) (hm:(i,X)∈l) (hX:X.size=128) (hh:(h i).size=128):∃ q,Dk.crashTo keep torn n l h l.length i=Dk.mix q X (h i):=by
 obtain ⟨l1,l2,rfl⟩:=List.append_of_mem hm
 have n1:∀ p∈l1,p.1≠i:=fun p hp e=>by
  rw [List.map_append,List.nodup_append] at hd
  exact hd.2.2 p.1 (List.mem_map_of_mem hp) i (by simp) e
 have n2:∀ p∈l2,p.1≠i:=fun p hp e=>by
  rw [List.map_append,List.nodup_append,List.map_cons,List.nodup_cons] at hd
  exact hd.2.1.1 (List.mem_map.2 ⟨p,hp,e⟩)
 have key:∀ k,k≤l2.length→∃ q,Dk.crashTo keep torn n (l1++(i,X) :: l2) h (l1.length+1+k) i=Dk.mix q X (h i):=by
  intro k
  induction k with
  | zero =>
    intro _
    have e1:(l1++(i,X) :: l2)[l1.length]? = some (i,X):=by simp
    have e0:Dk.crashTo keep torn n (l1++(i,X) :: l2) h l1.length i=h i:=by
     rw [Dk.crashTo_append l1 _ _ (Nat.le_refl _)]
     exact crash_miss n1 _
    have e5:∀ q,Dk.do1 (Dk.crashTo keep torn n (l1++(i,X) :: l2) h l1.length) (i,X) q i=Dk.mix q X (h i):=fun q=>by unfold Dk.do1; rw [if_pos rfl,e0]
    simp only [Dk.crashTo,e1]
    split
    ·exact ⟨128,e5 _⟩
    ·split
     ·exact ⟨n,e5 _⟩
     ·exact ⟨0,by rw [e0,Dk.mix_none]⟩
  | succ k ih =>
    intro hk
    obtain ⟨q,eq⟩:=ih (by omega)
    have e1:(l1++(i,X) :: l2)[l1.length+1+k]? = l2[k]?:=by
     rw [List.getElem?_append_right (by omega),show l1.length+1+k-l1.length=k+1 by omega,List.getElem?_cons_succ]
    have e2:l2[k]? = some l2[k]:=List.getElem?_eq_getElem (by omega)
    have hne:=n2 _ (List.getElem_mem (show k<l2.length by omega))
    have e5:∀ q',Dk.do1 (Dk.crashTo keep torn n (l1++(i,X) :: l2) h (l1.length+1+k)) l2[k] q' i=Dk.mix q X (h i):=fun q'=>by unfold Dk.do1; rw [if_neg (Ne.symm hne),eq]
    refine ⟨q,?_⟩
    rw [show l1.length+1+(k+1)=(l1.length+1+k)+1 by omega]
    simp only [Dk.crashTo,e1.trans e2]
    split
    ·exact e5 _
    ·split
     ·exact e5 _
     ·exact eq
 have:=key l2.length (Nat.le_refl _)
 rwa [show l1.length+1+l2.length=(l1++(i,X) :: l2).length by simp; omega] at this
end
end Go.Proofs.YtcnohlgigmmefaaGreat.Ro
namespace Go.Proofs.YtcnohlgigmmefaaGreat.Ro
open Go.RowKit Go.Lib Wd
open Tb (Tab okP lastN nth)
open Dk (St)
set_option linter.unusedVariables false
def secC (c:Cp.Chk):ByteArray:=⟨(Cp.secL c).toArray⟩
theorem secC_eq (c:Cp.Chk):(secC c).data.toList=Cp.secL c:=by simp [secC]
theorem secC_size {c:Cp.Chk} (h:Cp.okC c=true):(secC c).size=128:=(Lg.size_of (secC_eq c).symm).trans (Cp.secL_len h)
theorem mix_list (q:Nat) (a b:ByteArray):(Dk.mix q a b).data.toList=a.data.toList.take q++b.data.toList.drop q:=by simp [Dk.mix]
theorem len128 {x:ByteArray} (h:x.size=128):x.data.toList.length=128:=by rw [← h]; exact (Go.Lib.size_eq x).symm
theorem bytes_eq {x y:ByteArray} (h:x.data.toList=y.data.toList):x=y:=Go.WideShapes.bytes_inj h
structure Rest (h:Held) (c:Cp.Chk) (l e:Int):Prop where
 fs:Cp.Fits c
 ok:Cp.okC c=true
 two:(h (c.g%2)).data.toList=Cp.secL c
 oth:(endG (h ((c.g+1)%2)).data.toList:Int)<c.g
 low:∀ i,2≤i→endN (h i).data.toList<stN l e
 sz:∀ i,(h i).size=128
structure Cnt (sg st:Int) (h:Held) (c:Cp.Chk) (f:List Fd):Prop where
 inn:inT sg st c c.o.length
 rd:readsT h st c.o c.n c.o.length=some f
section
variable {h h' : Held} {sg st l e l' e' : Int} {c c' : Cp.Chk} {f f' : List Fd}
theorem Rest.mono (R:Rest h c l e) (hle:stN l e≤stN l' e'):Rest h c l' e':=⟨R.fs,R.ok,R.two,R.oth,fun i hi=>Nat.lt_of_lt_of_le (R.low i hi) hle,R.sz⟩
theorem Rest.best (R:Rest h c l e):Cp.bestC (h 0).data.toList (h 1).data.toList=c∧Cp.bestE (h 0).data.toList (h 1).data.toList=0:=by
 have h1:=R.two
 have h2:=R.oth
 rcases Int.emod_two_eq c.g with h0|h0
 ·rw [h0] at h1
  rw [show (c.g+1)%2=1 by omega] at h2
  exact best_is R.fs R.ok (.inl ⟨h0,h1,h2⟩)
 ·rw [h0] at h1
  rw [show (c.g+1)%2=0 by omega] at h2
  exact best_is R.fs R.ok (.inr ⟨h0,h1,h2⟩)
theorem Rest.next (R:Rest h c l e) (hf:Cp.Fits c') (ho:Cp.okC c' = true) (hg:c'.g=c.g+1) (hle:stN l e≤stN c'.l c'.e) (ha:h' ((c.g+1)%2)=secC c') (hs:∀ i,i≠(c.g+1)%2→h' i=h i):Rest h' c' c'.l c'.e:=by
 refine ⟨hf,ho,by rw [hg,ha,secC_eq],?_,fun i hi=>?_,fun i=>?_⟩
 ·rw [hg,show (c.g+1+1)%2=c.g%2 by omega,hs _ (by omega),R.two,endG_sec R.fs R.ok]
  have:=R.fs.g0
  omega
 ·rw [hs i (by omega)]
  exact Nat.lt_of_lt_of_le (R.low i hi) hle
 ·by_cases hi:i=(c.g+1)%2
  ·rw [hi,ha]; exact secC_size ho
  ·rw [hs i hi]; exact R.sz i
theorem Rest.torn (R:Rest h c l e) (hf:Cp.Fits c') (ho:Cp.okC c' = true) (hg:c'.g=c.g+1) (hle:stN l e≤stN c'.l c'.e) {q:Nat} (ha:h' ((c.g+1)%2)=Dk.mix q (secC c') (h ((c.g+1)%2))) (hs:∀ i,i≠(c.g+1)%2→h' i=h i) :
 (h' ((c.g+1)%2)=secC c'∧Rest h' c' c'.l c'.e)∨Rest h' c l e:=by
 have hx:=len128 (R.sz ((c.g+1)%2))
 rcases endG_mix hf ho hx (by have:=R.oth; omega) q with h1|h1
 ·have e1:h' ((c.g+1)%2)=secC c':=by
   rw [ha]
   exact bytes_eq (by rw [mix_list,secC_eq,h1])
  exact .inl ⟨e1,R.next hf ho hg hle e1 hs⟩
 ·right
  refine ⟨R.fs,R.ok,by rw [hs _ (by omega)]; exact R.two,?_,fun i hi=>by rw [hs i (by omega)]; exact R.low i hi,fun i=>?_⟩
  ·rw [ha,mix_list,secC_eq]
   omega
  ·by_cases hi:i=(c.g+1)%2
   ·rw [hi,ha]; exact Dk.mix_size _ _ _ (secC_size ho) (R.sz _)
   ·rw [hs i hi]; exact R.sz i
theorem Cnt.same (C:Cnt sg st h c f) (hs:SameAt h h' st c.o c.n):Cnt sg st h' c f:=⟨C.inn,(reads_same hs).trans C.rd⟩
theorem Cnt.ok (C:Cnt sg st h c f) (hsg:4≤sg∧sg≤16) (hst:1≤st∧st≤30) (ho:Cp.okC c=true):okP (baseI h sg st c f).t:=base_ok hsg hst ho C.inn
theorem Cnt.count (C:Cnt sg st h c f):cntI h sg st c=some f:=by unfold cntI; rw [if_pos C.inn]; exact C.rd
end
structure Disk1 (sg st:Int) (h:Held) (pd:List (Int × ByteArray)) (c:Cp.Chk) (f:List Fd) (L:List (Int × Rc.Rec)) (m:Img) (nf:Nat):Prop where
 hsg:4≤sg∧sg≤16
 hst:1≤st∧st≤30
 rest:Rest h c (c.l+nf) c.e
 cnt:Cnt sg st h c f
 wr:Wr c.e (baseI h sg st c f) L m
 le:nf≤L.length
 pend:pd=(L.drop nf).map fun p=>(p.1,Lg.secB p.2)
 done:∀ p∈L.take nf,h p.1=Lg.secB p.2
structure Shut (sg st:Int) (h:Held) (c:Cp.Chk) (m:Img):Prop where
 hsg:4≤sg∧sg≤16
 hst:1≤st∧st≤30
 rest:Rest h c 0 (c.e+1)
 scan:scanI h sg st=some m
 faith:Faith h m
 ok:okP m.t
 sg:m.t.sg=sg
 st:m.t.st=st
 mc:m.c=c
 ls:1≤m.ls∧m.ls<18446744073709551616
 v:0≤m.v∧m.v<18446744073709551616
section
variable {h h' : Held} {sg st:Int} {pd:List (Int × ByteArray)} {c c' : Cp.Chk} {f f' : List Fd} {L:List (Int × Rc.Rec)} {m:Img} {nf:Nat} {r:Rc.Rec}
theorem Disk1.okb (D:Disk1 sg st h pd c f L m nf):okP (baseI h sg st c f).t:=D.cnt.ok D.hsg D.hst D.rest.ok
theorem Disk1.ls (D:Disk1 sg st h pd c f L m nf):m.ls=c.l+L.length:=D.wr.same.2.2.2
theorem Wr.ver {ep:Int} {m0:Img} (W:Wr ep m0 L m) (h0:0≤m0.v∧m0.v<18446744073709551616):0≤m.v∧m.v<18446744073709551616:=by
 induction W with
 | nil=>exact h0
 | @snoc L m r W hr ih =>
   have:=hr.fs.v0
   have:=hr.fs.v1
   unfold putI
   split
   ·exact ih
   ·simp only; omega
theorem base_faith (C:Cnt sg st h c f):Faith h (baseI h sg st c f):=C.rd
theorem Disk1.write (D:Disk1 sg st h pd c f L m nf) (hr:OkW c.e m r):Disk1 sg st h (pd++[(place m,Lg.secB r)]) c f (L++[(place m,r)]) (putI m r) nf:=by
 have:=D.le
 refine ⟨D.hsg,D.hst,D.rest,D.cnt,.snoc D.wr hr,by simp; omega,?_,?_⟩
 ·rw [D.pend,List.drop_append_of_le_length D.le,List.map_append]
  rfl
 ·rw [List.take_append_of_le_length D.le]
  exact D.done
theorem Disk1.sameAt (D:Disk1 sg st h pd c f L m nf) (hs:∀ i,2≤i→(∀ p∈L.drop nf,p.1≠i)→h' i=h i):SameAt h h' st c.o c.n:=by
 intro i hi k hk
 have hp:=past_base D.okb hi hk
 have hq:=(D.wr.past D.okb).1 _ hp
 have hb:=D.okb.2.2.2.1 _ hp.1
 have hz:=D.hsg
 unfold recAt
 rw [hs _ (sector_ge D.hst (by have:(baseI h sg st c f).t.sg=sg:=rfl; omega) hp.2.1) fun p hp'=>(hq.2 p (List.mem_of_mem_drop hp')).symm]
theorem Disk1.low (D:Disk1 sg st h pd c f L m nf):∀ L1 p L2,L.drop nf=L1++p :: L2→endN (h p.1).data.toList<stN p.2.l c.e:=by
 intro L1 p L2 e
 have hl:L=(L.take nf++L1)++p :: L2:=by rw [List.append_assoc,← e,List.take_append_drop]
 have h1:=D.wr.ls _ _ _ hl
 have h2:=(D.wr.past D.okb).2.1 p (by rw [hl]; simp)
 refine Nat.lt_of_lt_of_le (D.rest.low _ h2.1) ?_
 have f0:=D.rest.fs
 have e1:(baseI h sg st c f).ls=c.l:=rfl
 have e2:(L.take nf++L1).length=nf+L1.length:=by rw [List.length_append,List.length_take,Nat.min_eq_left D.le]
 rw [e1,e2] at h1
 have h3:=h1.2.2.1.l1
 refine stN_le ⟨by have:=f0.l0; omega,by omega⟩ f0.e0 (by have:=f0.l0; omega) (.inr ⟨rfl,by omega⟩)
theorem split_first {α:Type} (P:α→Prop) [DecidablePred P]:∀ l:List α,∃ l1 l2,l=l1++l2∧(∀ x∈l1,P x)∧(l2=[]∨∃ x l3,l2=x :: l3∧¬ P x)
 | []=>⟨[],[],rfl,by simp,.inl rfl⟩
 | a :: l=>by
   by_cases ha:P a
   ·obtain ⟨l1,l2,h1,h2,h3⟩:=split_first P l
    refine ⟨a :: l1,l2,by rw [h1]; rfl,fun x hx=>?_,h3⟩
    rcases List.mem_cons.1 hx with rfl|hx
    ·exact ha
    ·exact h2 x hx
   ·exact ⟨[],a :: l,rfl,by simp,.inr ⟨a,l,rfl,ha⟩⟩
theorem Disk1.crash (D:Disk1 sg st h pd c f L m nf) (hs:∀ i,(∀ p∈L.drop nf,p.1≠i)→h' i=h i) (hw:∀ p∈L.drop nf,∃ q,h' p.1=Dk.mix q (Lg.secB p.2) (h p.1)) :
 ∃ L1 L2 m1,L=L1++L2∧nf≤L1.length∧baseI h' sg st c f=baseI h sg st c f∧Wr c.e (baseI h sg st c f) L1 m1∧(∀ p∈L1,h' p.1=Lg.secB p.2)∧Shut sg st h' c m1:=by
 have hsame:=D.sameAt (h':=h') fun i _=>hs i
 have eb:=base_same (sg:=sg) (f:=f) hsame
 have hC:=D.cnt.same hsame
 have okb:=D.okb
 have W:=D.wr
 obtain ⟨hp1,hp2,hp3⟩:=W.past okb
 have f0:=D.rest.fs
 have hc:=(Cp.okC_iff c).1 D.rest.ok
 have key:∀ L1 p L2,L.drop nf=L1++p :: L2→h' p.1=Lg.secB p.2∨endN (h' p.1).data.toList<stN p.2.l c.e:=by
  intro L1 p L2 e
  have hl:L=(L.take nf++L1)++p :: L2:=by rw [List.append_assoc,← e,List.take_append_drop]
  obtain ⟨w1,w2,w3,w4⟩:=W.ls _ _ _ hl
  obtain ⟨q,hq⟩:=hw p (by rw [e]; simp)
  have:=end_mix w3 w4 (len128 (D.rest.sz p.1)) (by rw [w2]; exact D.low _ _ _ e) q
  rw [hq,mix_list,← Lg.secB_eq,← w2]
  rcases this with h1|h1
  ·exact .inl (bytes_eq (by rw [mix_list,← Lg.secB_eq,h1]))
  ·exact .inr h1
 obtain ⟨l1,l2,e1,g1,g2⟩:=split_first (fun p:Int × Rc.Rec=>h' p.1=Lg.secB p.2) (L.drop nf)
 have eL:L=(L.take nf++l1)++l2:=by rw [List.append_assoc,← e1,List.take_append_drop]
 obtain ⟨m1,W1,W2⟩:=W.split eL
 have hd0:∀ p∈L.take nf,h' p.1=Lg.secB p.2:=by
  intro p hp
  rw [hs p.1 fun q hq e=>?_]
  ·exact D.done p hp
  ·have hn:=hp3
   rw [← List.take_append_drop nf L,List.map_append,List.nodup_append] at hn
   exact hn.2.2 p.1 (List.mem_map_of_mem hp) q.1 (List.mem_map_of_mem hq) e.symm
 have hd:∀ p∈L.take nf++l1,h' p.1=Lg.secB p.2:=fun p hp=>(List.mem_append.1 hp).elim (hd0 p) (g1 p)
 have fo:∀ p∈L,Rc.Fits p.2∧Rc.okR p.2=true∧p.2.e=c.e:=fun p hp=>by
  obtain ⟨a,b,e⟩:=List.append_of_mem hp
  have:=W.ls _ _ _ e
  exact ⟨this.2.2.1,this.2.2.2,this.2.1⟩
 have hrec:∀ p∈L.take nf++l1,recOf (h' p.1)=some p.2:=fun p hp=>by
  rw [hd p hp]
  have:=fo p (by rw [eL]; exact List.mem_append_left _ hp)
  exact recOf_sec this.1 this.2.1
 have ok1:=W1.okT okb
 have s1:=W1.same
 have eb' : (baseI h sg st c f).ls=c.l:=rfl
 have hls0:1≤c.l:=by have:=f0.l0; have:=hc.1.2; omega
 have hend:stepI h' c.e m1=none:=by
  have hlow:endN (h' (place m1)).data.toList<stN m1.ls c.e:=by
   rcases g2 with rfl | ⟨x,l3,rfl,hx⟩
   ·have hp:=W1.past okb
    rw [List.append_nil] at eL
    rw [hs _ fun p hp' e=>?_]
    ·refine Nat.lt_of_lt_of_le (D.rest.low _ (place_ge ok1)) ?_
     have hlt:=W1.lt (by rw [eb']; exact f0.l1)
     have hl:nf≤(L.take nf++l1).length:=by rw [← eL]; exact D.le
     rw [s1.2.2.2,eb'] at hlt ⊢
     exact stN_le ⟨by omega,by omega⟩ f0.e0 (by omega) (.inr ⟨rfl,by omega⟩)
    ·obtain ⟨_,q,h3,h4⟩:=hp.2.1 p (by rw [← eL]; exact List.mem_of_mem_drop hp')
     exact past_ne ok1 h3 (h4.symm.trans e)
   ·obtain ⟨w1,w2⟩:=W2.head ⟨_,rfl⟩
    rw [← w1,← w2.l]
    rcases key _ _ _ e1 with h1|h1
    ·exact absurd h1 hx
    ·exact h1
  cases hr:stepI h' c.e m1 with
  | none=>rfl
  | some m' =>
    obtain ⟨r,h1,h2,h3,_⟩:=step_cases hr
    exact absurd ⟨h2,h3⟩ (recOf_low (x:=h' (place m1)) h1 hlow)
 have h01:h' 0=h 0∧h' 1=h 1:=⟨hs 0 fun p hp e=>by have:=(hp2 p (List.mem_of_mem_drop hp)).1; omega,hs 1 fun p hp e=>by have:=(hp2 p (List.mem_of_mem_drop hp)).1; omega⟩
 have hR:Rest h' c 0 (c.e+1):=by
  refine ⟨f0,D.rest.ok,?_,?_,fun i hi=>?_,fun i=>?_⟩
  ·rcases Int.emod_two_eq c.g with h0|h0
   ·have:=D.rest.two; rw [h0] at this ⊢; rw [h01.1]; exact this
   ·have:=D.rest.two; rw [h0] at this ⊢; rw [h01.2]; exact this
  ·rcases Int.emod_two_eq c.g with h0|h0
   ·have:=D.rest.oth; rw [show (c.g+1)%2=1 by omega] at this ⊢; rw [h01.2]; exact this
   ·have:=D.rest.oth; rw [show (c.g+1)%2=0 by omega] at this ⊢; rw [h01.1]; exact this
  ·by_cases hm:∀ p∈L.drop nf,p.1≠i
   ·rw [hs i hm]
    refine Nat.lt_of_lt_of_le (D.rest.low i hi) (stN_le ⟨by omega,?_⟩ f0.e0 (by omega) (.inl (by omega)))
    have:=W.lt (by rw [eb']; exact f0.l1)
    rw [D.ls] at this
    have:=D.le
    omega
   ·obtain ⟨p,hp,rfl⟩:∃ p∈L.drop nf,p.1=i:=by
     refine Decidable.byContradiction fun hn=>hm fun p hp e=>hn ⟨p,hp,e⟩
    obtain ⟨a,b,e⟩:=List.append_of_mem hp
    obtain ⟨w1,w2,w3⟩:=fo p (List.mem_of_mem_drop hp)
    have l0:=w1.l0
    have l1':=w1.l1
    have:stN p.2.l c.e<stN 0 (c.e+1):=stN_lt ⟨l0,l1'⟩ f0.e0 (by omega) (.inl (by omega))
    rcases key _ _ _ e with h1|h1
    ·rw [h1,← Lg.secB_eq,end_sec w1 w2,w3]; exact this
    ·omega
  ·by_cases hm:∀ p∈L.drop nf,p.1≠i
   ·rw [hs i hm]; exact D.rest.sz i
   ·obtain ⟨p,hp,rfl⟩:∃ p∈L.drop nf,p.1=i:=by
     refine Decidable.byContradiction fun hn=>hm fun p hp e=>hn ⟨p,hp,e⟩
    obtain ⟨q,hq⟩:=hw p hp
    rw [hq]
    exact Dk.mix_size _ _ _ (Lg.secB_size (fo p (List.mem_of_mem_drop hp)).2.1) (D.rest.sz _)
 refine ⟨L.take nf++l1,l2,m1,eL,by rw [List.length_append,List.length_take,Nat.min_eq_left D.le]; omega,eb,W1,hd,D.hsg,D.hst,hR,?_,?_,ok1,s1.1,s1.2.1,s1.2.2.1,?_,W1.ver ⟨f0.v0,f0.v1⟩⟩
 ·unfold scanI
  obtain ⟨b1,b2⟩:=hR.best
  rw [b1,b2,if_pos rfl,hC.count]
  simp only
  rw [eb,W1.run okb hrec,run_stop hend]
 ·exact W1.faith okb (base_faith D.cnt |> fun hF=>by rw [← eb]; exact hC.rd) hrec
 ·have hlt:=W1.lt (by rw [eb']; exact f0.l1)
  rw [s1.2.2.2,eb'] at hlt ⊢
  exact ⟨by omega,by omega⟩
end
end Go.Proofs.YtcnohlgigmmefaaGreat.Ro
