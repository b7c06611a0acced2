/- A part. -/
import Derived.Test.YtdpmjlbkojhooaaGreatQLgX
import Derived.Test.YtdpmjlbkojhooaaGreatQLgY
namespace Go.Proofs.YtdpmjlbkojhooaaGreat.Lg
open Go.RowKit Go.Lib
open Tb (Tab TIn Sl okP csT lastN nth Fresh)
open Dk (St Only Grew)
set_option linter.unusedVariables false
set_option maxRecDepth 100000
def fT0:Tab:=⟨4,2,[0],[0],[1]⟩
def fT1:Tab:=⟨4,2,[0],[1],[1]⟩
def fT2:Tab:=⟨4,2,[0],[2],[1]⟩
def fT3:Tab:=⟨4,2,[0,1],[2,1],[1,4]⟩
def fT4:Tab:=⟨4,2,[1],[1],[4]⟩
def bC (x:UInt8):ByteArray:=⟨#[x]⟩
def bE:ByteArray:=⟨#[]⟩
structure Fix (S:ByteArray) (s0 s1 s2 s3 s4:St) (F S2:ByteArray):Prop where
 f1:fmtE (St.new 14) 4 2 4607182418800017408 0 S=0
 f2:fmtD (St.new 14) 4 2 4607182418800017408 0 S=s0
 f3:fmtE (St.new 13) 4 2 4607182418800017408 0 S=10
 f4:fmtE (St.new 14) 0 0 0 0 S=1
 a1:appS fT0 s0 1 1 1 1 9 (bC 97) (bC 118)=(s1,fT1,2,0,0,0)
 a2:appS fT1 s1 2 1 1 2 9 (bC 98) (bC 118)=(s2,fT2,3,0,1,0)
 a3:appS fT2 s2 3 1 1 3 9 (bC 99) (bC 118)=(s3,fT3,5,1,0,0)
 a4:appS fT3 s3 5 1 3 0 0 bE bE=(s3,fT3,5,0,0,5)
 l0:LogP 0 fT0 s0 1 1
 l1:LogP 2 fT1 s1 2 1
 l2:LogP 4 fT2 s2 3 1
 l3:LogP 6 fT3 s3 5 1
 l4:LogP 7 fT4 s4 5 2
 r1:readS fT3 s3 1 0=(#[.int .u64 4,.int .u32 1,.int .i64 1,.int .u64 3,.int .u64 9,.string (bC 99),.string (bC 118)],0)
 r2:readS fT3 s3 0 2=(zero7,3)
 c4:s3.cur 4=F
 k1:cutC F=#[.int .u64 3,.int .u32 1,.int .i64 3,.int .u64 0,.int .u64 1,.string ⟨#[]⟩,.string ⟨#[]⟩]
 k2:decE F=0
 p4:s3.pend.length=4
 d1:dropS fT3 1 s3 1 S2=(s3,fT3,1,1)
 d2:Tb.dropT fT3 0=some fT4
 d3:dropS fT3 0 s3 1 S2=(s4,fT4,2,0)
 e1:Cp.secL ⟨2,1,5,3,[1],[1]⟩=S2.data.toList
 c0:s4.cur 0=S2
 m1:Cp.decC S2.data.toList=⟨2,1,5,3,[1],[1]⟩
 m2:Cp.decE S2.data.toList=0
theorem fix_okR (l k v d:Int) (x:UInt8) (hl:l≠0) (h:Rc.okR ⟨1,1,k,v,d,[x],[118]⟩=true):Rc.okR ⟨l,1,k,v,d,(bC x).data.toList,(bC 118).data.toList⟩=true:=okR_lsn h hl
theorem fix_flush {s:St} {i:Int} {x:ByteArray} (h:(s.write i x).Good):((s.write i x).flush).cur i=x:=by
 have e:((s.write i x).flush).cur i=(s.write i x).flush.held i:=Dk.over_nil ..
 rw [e,Dk.flush_held h]
 exact (cur_write ..).trans (if_pos rfl)
theorem fix_any (S:ByteArray) (hS:Cp.secL ⟨1,1,1,0,[0],[0]⟩=S.data.toList):∃ s0 s1 s2 s3 s4 F S2,Fix S s0 s1 s2 s3 s4 F S2:=by
 have hm:Ck.MayC 4 2 4607182418800017408 0:=by decide
 have hsc:Ck.scC 4 2 4607182418800017408 0=14:=by unfold Ck.scC; rw [if_pos hm]; rfl
 have hS1:S.size=128:=(size_of hS).trans (by rw [Cp.secL_len]; exact okC_of (t:=fT0) (Tb.new_ok (sg:=4) (st:=2) (first:=1) rfl) (by decide) (by decide))
 have c0:∀ s:St,s.set=false→∀ gn S,chkS s gn S=((s.flush.write ((gn+1)%2) S).flush,gn+1,0):=fun s hs gn S=>by
  unfold chkS
  rw [if_neg (not_dead hs),if_neg (not_dead (s:=s.flush) hs),if_neg (not_dead (s:=s.flush.write ((gn+1)%2) S) hs)]
 have f1:fmtE (St.new 14) 4 2 4607182418800017408 0 S=0:=by
  unfold fmtE
  rw [if_pos hm,hsc,if_neg (by decide),c0 _ rfl]
 have f3:fmtE (St.new 13) 4 2 4607182418800017408 0 S=10:=by
  unfold fmtE
  rw [if_pos hm,hsc,if_pos (by decide)]
 have f4:fmtE (St.new 14) 0 0 0 0 S=1:=if_neg (by decide)
 have l0:=fmt_p (n:=14) ⟨by decide,by decide⟩ hS1 f1
 obtain ⟨s0,E0⟩:∃ z,fmtD (St.new 14) 4 2 4607182418800017408 0 S=z:=⟨_,rfl⟩
 have hs0:s0.set=false∧s0.pend=[]:=by
  rw [← E0]
  unfold fmtD
  rw [if_pos hm,hsc,if_neg (by decide),c0 _ rfl]
  exact ⟨rfl,rfl⟩
 rw [E0] at l0
 change LogP 0 fT0 s0 1 1 at l0
 have o1:=fix_okR 1 1 1 9 97 (by decide) (by decide)
 have a1:appS fT0 s0 1 1 1 1 9 (bC 97) (bC 118)=(s0.write 2 (secB ⟨1,1,1,1,9,(bC 97).data.toList,(bC 118).data.toList⟩),fT1,2,0,0,0):=app_same (t:=fT0) hs0.1 (by decide) (by decide) o1 (by decide)
 have l1:=app_p (ep:=1) (K:=1) (V:=1) (D:=9) (I:=bC 97) (X:=bC 118) l0
 obtain ⟨s1,E1⟩:∃ z,s0.write 2 (secB ⟨1,1,1,1,9,(bC 97).data.toList,(bC 118).data.toList⟩)=z:=⟨_,rfl⟩
 have hs1:s1.set=false∧s1.pend.length=1:=by rw [← E1]; exact ⟨hs0.1,by show (s0.pend++[_]).length=1; rw [hs0.2]; rfl⟩
 rw [E1] at a1
 rw [a1] at l1
 have o2:=fix_okR 2 1 2 9 98 (by decide) (by decide)
 have a2:appS fT1 s1 2 1 1 2 9 (bC 98) (bC 118)=(s1.write 3 (secB ⟨2,1,1,2,9,(bC 98).data.toList,(bC 118).data.toList⟩),fT2,3,0,1,0):=app_same (t:=fT1) hs1.1 (by decide) (by decide) o2 (by decide)
 have l2:=app_p (ep:=1) (K:=1) (V:=2) (D:=9) (I:=bC 98) (X:=bC 118) l1
 obtain ⟨s2,E2⟩:∃ z,s1.write 3 (secB ⟨2,1,1,2,9,(bC 98).data.toList,(bC 118).data.toList⟩)=z:=⟨_,rfl⟩
 have hs2:s2.set=false∧s2.pend.length=2:=by rw [← E2]; exact ⟨hs1.1,by show (s1.pend++[_]).length=2; simp [hs1.2]⟩
 rw [E2] at a2
 rw [a2] at l2
 have o3:=fix_okR 3 1 3 9 99 (by decide) (by decide)
 have o4:=fix_okR 4 1 3 9 99 (by decide) (by decide)
 have a3:appS fT2 s2 3 1 1 3 9 (bC 99) (bC 118)=((s2.write 4 (footB fT2 3 1)).write 5 (secB ⟨4,1,1,3,9,(bC 99).data.toList,(bC 118).data.toList⟩),fT3,5,1,0,0):=app_roll (t:=fT2) (f:=1) (l:=[2,3]) hs2.1 (by decide) (by decide) o3 (by decide) (by decide)
 have l3:=app_p (ep:=1) (K:=1) (V:=3) (D:=9) (I:=bC 99) (X:=bC 118) l2
 obtain ⟨F,EF⟩:∃ z,footB fT2 3 1=z:=⟨_,rfl⟩
 obtain ⟨G,EG⟩:∃ z,secB ⟨4,1,1,3,9,(bC 99).data.toList,(bC 118).data.toList⟩=z:=⟨_,rfl⟩
 obtain ⟨s3,E3⟩:∃ z,(s2.write 4 F).write 5 G=z:=⟨_,rfl⟩
 have hs3:s3.set=false∧s3.pend.length=4:=by rw [← E3]; exact ⟨hs2.1,by show ((s2.pend++[_])++[_]).length=4; simp [hs2.2]⟩
 rw [EF,EG,E3] at a3
 rw [a3] at l3
 have a4:appS fT3 s3 5 1 3 0 0 bE bE=(s3,fT3,5,0,0,5):=app_form (.inl rfl)
 have st:Stands fT3 s3 ((1,0),⟨4,1,1,3,9,(bC 99).data.toList,(bC 118).data.toList⟩):=⟨by decide,by decide,by decide,by
  rw [← E3,EG]
  exact (cur_write ..).trans (if_pos (by decide)),⟨by decide,by decide,by decide,by decide,by decide,by decide,by decide,by decide⟩,o4⟩
 have r1:=read_stands st
 have fo:Rc.okR ⟨3,1,3,0,1,[],[]⟩=true:=by decide
 have fF:F=secB ⟨3,1,3,0,1,[],[]⟩:=EF.symm.trans (by unfold footB; rw [show Tb.freeT fT2=[1,2,3] by decide])
 have ff:Rc.Fits ⟨3,1,3,0,1,[],[]⟩:=⟨by decide,by decide,by decide,by decide,by decide,by decide,by decide,by decide⟩
 have iF:Rc.isSec F.data.toList=true:=by rw [fF,← secB_eq]; exact Rc.isSec_secL ff fo
 have cF:Rc.cutR F.data.toList=⟨3,1,3,0,1,[],[]⟩:=by rw [fF,← secB_eq]; exact Rc.cutR_secL ff fo
 obtain ⟨S2,e1⟩:∃ S2:ByteArray,Cp.secL ⟨2,1,5,3,[1],[1]⟩=S2.data.toList:=⟨⟨(Cp.secL ⟨2,1,5,3,[1],[1]⟩).toArray⟩,by simp⟩
 have d2:Tb.dropT fT3 0=some fT4:=by decide
 have okc:Cp.okC ⟨2,1,5,3,[1],[1]⟩=true:=by decide
 have fc:Cp.Fits ⟨2,1,5,3,[1],[1]⟩:=⟨by decide,by decide,by decide,by decide,by decide,by decide,by decide,by decide⟩
 have iS:Cp.isSec S2.data.toList=true:=by rw [← e1]; exact Cp.isSec_secL fc okc
 have cS:Cp.cutC S2.data.toList=⟨2,1,5,3,[1],[1]⟩:=by rw [← e1]; exact Cp.cutC_secL fc okc
 have l4:=drop_p (x:=0) (S:=S2) l3 (fun u hu=>by rw [size_of e1,Cp.secL_len okc])
 have d3:dropS fT3 0 s3 1 S2=((s3.flush.write 0 S2).flush,fT4,2,0):=by
  unfold dropS
  rw [d2,c0 s3 hs3.1 1 S2]
  rfl
 rw [d3] at l4
 refine ⟨s0,s1,s2,s3,_,F,S2,⟨f1,E0,f3,f4,a1,a2,a3,a4,l0,l1,l2,l3,l4,r1,?_,?_,?_,?_,hs3.2,?_,d2,d3,e1,?_,?_,?_⟩⟩
 ·unfold readS
  rw [if_pos (.inr (by decide))]
 ·rw [← E3]
  exact (cur_write ..).trans ((if_neg (by decide)).trans ((cur_write ..).trans (if_pos rfl)))
 ·unfold cutC
  rw [if_pos iF,cF]
 ·unfold decE
  rw [if_pos iF]
 ·unfold dropS
  rw [show Tb.dropT fT3 1=none by decide]
 ·exact fix_flush ((l3.good.flush (not_dead hs3.1)).write (not_dead hs3.1) ⟨by decide,by have h2:2≤s3.size:=l3.size2; show 0<s3.size; omega⟩ (by rw [size_of e1,Cp.secL_len okc]))
 ·rw [(Cp.dec_yes iS).1,cS]
 ·rw [(Cp.dec_yes iS).2]
end Go.Proofs.YtdpmjlbkojhooaaGreat.Lg
