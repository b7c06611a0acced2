/- A part. -/
import Derived.Test.YtcnohlgigmmefaaGreatPLhE
namespace Go.Proofs.YtcnohlgigmmefaaGreat.Lg
open Go.RowKit Go.Lib
open Tb (Tab TIn Sl okP csT lastN nth Fresh)
open Dk (St Only Grew)
set_option linter.unusedVariables false
set_option maxRecDepth 100000
def addS (t:Tab) (s:St) (ls ep K V D:Int) (I X:ByteArray):St × Tab × Int × Int × Int × Int :=
 if (sealIf t s ls ep).2.2.2≠0 then ((sealIf t s ls ep).1,(sealIf t s ls ep).2.1,(sealIf t s ls ep).2.2.1,0,0,(sealIf t s ls ep).2.2.2) else
 appS.putS (sealIf t s ls ep).2.1 (sealIf t s ls ep).1 (sealIf t s ls ep).2.2.1 ep K V D I X
theorem appS_eq (t:Tab) (s:St) (ls ep K V D:Int) (I X:ByteArray):appS t s ls ep K V D I X=if K=3∨Rc.okR ⟨ls,ep,K,V,D,I.data.toList,X.data.toList⟩=false then (s,t,ls,0,0,5) else if Tb.roomT t=0 then (s,t,ls,0,0,10) else addS t s ls ep K V D I X:=rfl
theorem addS_put {t t1:Tab} {s s1:St} {ls ls1 ep K V D:Int} {I X:ByteArray} (h:sealIf t s ls ep=(s1,t1,ls1,0)):addS t s ls ep K V D I X=appS.putS t1 s1 ls1 ep K V D I X:=by
 unfold addS
 rw [h]
 exact if_neg (by simp)
def AddP (W0:World) (items:List Dk.Item) (k j d g:Nat) (ep gn:Int) (Kq:Kp) (R:St × Tab × Int × Int × Int × Int) (e:Ending) (w' : World):Prop :=
 (R.2.2.2.2.2=0∧e=.returned (.agg #[.int .i64 R.2.2.2.1,.int .i64 R.2.2.2.2.1])∧Dk.Sep W0 w' ((items.set k (Dk.diskI d R.1)).set j (logX 156 g d R.2.1 R.2.2.1 ep gn Kq))) ∨
 (R.2.2.2.2.2≠0∧e=.panicked (pan R.2.2.2.2.2)∧∃ t' ls',Dk.Sep W0 w' ((items.set k (Dk.diskI d R.1)).set j (logX 156 g d t' ls' ep gn Kq)))
set_option maxHeartbeats 8000000 in
theorem add_any {W0 w:World} {items:List Dk.Item} {k j g d:Nat} {s:St} {t:Tab} {ls ep gn:Int} {Kq:Kp} (h:Dk.Sep W0 w items) (hk:items[k]? = some (Dk.diskI d s)) (hj:items[j]? = some (logX 156 g d t ls ep gn Kq)) (hkj:k≠j) (l0 e0 K V D:Int) (I X:ByteArray)
 (hls:1≤ls∧ls+2<18446744073709551616) (hep:0≤ep∧ep<4294967296) (hV:0≤V∧V<18446744073709551616) (hD:0≤D∧D<18446744073709551616) (hfit:FitS t s) (hpl:s.pend.length+2<1048576) (hroom:0<Tb.roomT t) (hR0:Rc.okR ⟨ls,ep,K,V,D,I.data.toList,X.data.toList⟩=true) :
 Calls Tryz.prog 89 #[.pointer (some ⟨g,0,none⟩),.agg #[.int .u64 l0,.int .u32 e0,.int .i64 K,.int .u64 V,.int .u64 D,.string I,.string X]] w (AddP W0 items k j d g ep gn Kq (addS t s ls ep K V D I X)):=by
 have hvL:=Tryz.zeroValue93
 have HR0:=Lib.hid hR0
 have B0:Below w.heap.size w ((w.alloc (.cells #[.int .u64 l0,.int .u32 e0,.int .i64 K,.int .u64 V,.int .u64 D,.string I,.string X] 97)).alloc (.cells #[.int .i64 0,.int .i64 0] 93)):=NewC.geTrans (NewC.below1 _ _) (NewC.below1 _ _)
 have K3:Tb.Blk ((w.alloc (.cells #[.int .u64 l0,.int .u32 e0,.int .i64 K,.int .u64 V,.int .u64 D,.string I,.string X] 97)).alloc (.cells #[.int .i64 0,.int .i64 0] 93)) w.heap.size 97 #[.int .u64 l0,.int .u32 e0,.int .i64 K,.int .u64 V,.int .u64 D,.string I,.string X]:=(Tb.Blk.new w _ _).later (NewC.below1 _ _)
 have K4:Tb.Blk ((w.alloc (.cells #[.int .u64 l0,.int .u32 e0,.int .i64 K,.int .u64 V,.int .u64 D,.string I,.string X] 97)).alloc (.cells #[.int .i64 0,.int .i64 0] 93)) (w.heap.size+1) 93 #[.int .i64 0,.int .i64 0]:=Tb.Blk.at_ _ _ _ (by simp)
 have h1:Dk.Sep W0 ((w.alloc (.cells #[.int .u64 l0,.int .u32 e0,.int .i64 K,.int .u64 V,.int .u64 D,.string I,.string X] 97)).alloc (.cells #[.int .i64 0,.int .i64 0] 93)) (items++[locI [(w.heap.size,97,#[.int .u64 l0,.int .u32 e0,.int .i64 K,.int .u64 V,.int .u64 D,.string I,.string X]),((w.heap.size+1),93,#[.int .i64 0,.int .i64 0])]]):=loc_new h B0 (fun x hx=>by
  rcases List.mem_cons.1 hx with rfl|hx
  ·exact K3
  ·rcases List.mem_cons.1 hx with rfl|hx
   ·exact K4
   ·cases hx) (fun x hx=>by
  rcases List.mem_cons.1 hx with rfl|hx
  ·exact Nat.le_refl _
  ·rcases List.mem_cons.1 hx with rfl|hx
   ·exact Nat.le_succ _
   ·cases hx)
 have hk1:(items++[locI [(w.heap.size,97,#[.int .u64 l0,.int .u32 e0,.int .i64 K,.int .u64 V,.int .u64 D,.string I,.string X]),((w.heap.size+1),93,#[.int .i64 0,.int .i64 0])]])[k]? = some (Dk.diskI d s):=app_at hk
 have hj1:(items++[locI [(w.heap.size,97,#[.int .u64 l0,.int .u32 e0,.int .i64 K,.int .u64 V,.int .u64 D,.string I,.string X]),((w.heap.size+1),93,#[.int .i64 0,.int .i64 0])]])[j]? = some (logX 156 g d t ls ep gn Kq):=app_at hj
 clear h B0 K3 K4 hR0
 go_enter Tryz.func89,Tryz.ntmps89
 go_upto_region 1 with fail
 generalize ((w.alloc (.cells #[.int .u64 l0,.int .u32 e0,.int .i64 K,.int .u64 V,.int .u64 D,.string I,.string X] 97)).alloc (.cells #[.int .i64 0,.int .i64 0] 93))=w1 at *
 obtain ⟨A,m,p,B,k1,q,C,n,r1,hB,ht,_,hok⟩:=x_at h1 hj1
 obtain ⟨RR,ERR⟩:∃ z,decide (lastN t.l=t.st∧0<Tb.roomT t)=z:=⟨_,rfl⟩
 have HRL:=Lib.hid (rolls_is hB ht hok ERR)
 have HE:=Lib.hid ERR
 have HH:=Lib.hid h1
 clear h1 hB ht ERR
 go_wp2_with fail
 refine HRL.out.mono ?_
 rintro e' w2 ⟨rfl,hb2⟩
 have h2:=HH.out.later hb2
 clear HRL HH hb2
 by_cases hf:lastN t.l=t.st
 ·obtain rfl:RR=true:=by rw [← HE.out]; simp [hf,hroom]
  obtain ⟨s1,t1,ls1,e1,EZ⟩:∃ s1 t1 ls1 e1,sealS t s ls (footB t ls ep)=(s1,t1,ls1,e1):=⟨_,_,_,_,rfl⟩
  have HRO:=Lib.hid (roll_any h2 hk1 hj1 hkj ⟨hls.1,by omega⟩ hep hfit (by omega))
  rw [EZ] at HRO
  have HEZ:=Lib.hid EZ
  have hI:Hid (sealIf t s ls ep=(s1,t1,ls1,e1)):=Lib.hid ((if_pos hf).trans EZ)
  clear h2 EZ hf
  go_wp2_with fail
  refine HRO.out.mono ?_
  rintro e' w3 (⟨hy,rfl,h3⟩ | ⟨hy,rfl,h3⟩)
  rotate_left
  ·have E9:addS t s ls ep K V D I X=(s1,t1,ls1,0,0,e1):=by
    unfold addS
    rw [hI.out]
    exact if_pos hy
   have hq:s1=s:=by
    have:=HEZ.out
    unfold sealS at this
    split at this
    ·injection this with e1 e2; exact e1.symm
    ·split at this
     ·injection this with e1 e2; exact e1.symm
     ·injection this with e1 e2; injection e2 with e2 e3; injection e3 with e3 e4; exact absurd e4.symm hy
   exact ⟨rfl,.inr (by rw [E9,hq]; exact ⟨hy,rfl,t,ls,by
    have:=loc_drop h3
    rw [set_same hk,set_same hj]; exact this⟩)⟩
  obtain rfl:e1=0:=hy
  obtain ⟨f1,f2,f3,f4,f5⟩:=seal_facts hok hfit hls hpl HEZ.out rfl
  try simp only at h3
  rw [app_set hk,app_set (get_set hj hkj)] at h3
  have HT:=Lib.hid (addS_put (K:=K) (V:=V) (D:=D) (I:=I) (X:=X) hI.out)
  clear HRO HEZ hI
  have hk3:(((items.set k (Dk.diskI d s1)).set j (logX 156 g d t1 ls1 ep gn Kq))++[locI [(w.heap.size,97,#[.int .u64 l0,.int .u32 e0,.int .i64 K,.int .u64 V,.int .u64 D,.string I,.string X]),((w.heap.size+1),93,#[.int .i64 0,.int .i64 0])]])[k]? = some (Dk.diskI d s1):=app_at (get_set (get_self hk) hkj.symm)
  have hj3:(((items.set k (Dk.diskI d s1)).set j (logX 156 g d t1 ls1 ep gn Kq))++[locI [(w.heap.size,97,#[.int .u64 l0,.int .u32 e0,.int .i64 K,.int .u64 V,.int .u64 D,.string I,.string X]),((w.heap.size+1),93,#[.int .i64 0,.int .i64 0])]])[j]? = some (logX 156 g d t1 ls1 ep gn Kq):=app_at (get_self (get_set hj hkj))
  have hR1:=okR_stamp (l:=ls1) (e:=ep) (by omega) HR0.out
  obtain ⟨S1,ES1⟩:∃ z,secB ⟨ls1,ep,K,V,D,I.data.toList,X.data.toList⟩=z:=⟨_,rfl⟩
  have HWR:=Lib.hid (write_any h3 hk3 hj3 hkj l0 e0 K V D I X f4 ⟨by simp only; omega,by simp only; omega,hep.1,hep.2,hV.1,hV.2,hD.1,hD.2⟩ hR1 (has_open f1 f2) f5 S1 (by rw [← ES1]; exact secB_eq _))
  have N3:Tb.Blk w3 w.heap.size 97 #[.int .u64 l0,.int .u32 e0,.int .i64 K,.int .u64 V,.int .u64 D,.string I,.string X]:=loc_at h3 app_last _ (List.mem_cons_self ..)
  have HF:=Lib.hid (And.intro f1 (And.intro f3 ES1))
  clear h3 f1 f2 f3 f4 f5 hR1 ES1
  go_wp2_with (with_reducible refine load_rp rfl (.tmp 3) rfl w.heap.size rfl N3 ?_)
  refine HWR.out.mono ?_
  rintro e' w4 (⟨hd,rfl,h4⟩ | ⟨hd,rfl,h4⟩)
  rotate_left
  ·have E9:addS t s ls ep K V D I X=(s1,t1,ls1,0,0,9):=HT.out.trans (if_pos hd)
   exact ⟨rfl,.inr (by rw [E9]; exact ⟨by simp,rfl,t1,ls1,loc_drop h4⟩)⟩
  have E0:=Lib.hid (show addS t s ls ep K V D I X=(s1.write (Tb.sectorT t1.st (lastN t1.o) (lastN t1.l)) S1,Tb.countedT t1,ls1+1,lastN t1.o,lastN t1.l,0) by rw [← HF.out.2.2]; exact HT.out.trans (if_neg hd))
  obtain ⟨sg1,EG1⟩:∃ z,lastN t1.o=z:=⟨_,rfl⟩
  obtain ⟨so1,EO1⟩:∃ z,lastN t1.l=z:=⟨_,rfl⟩
  rw [EG1,EO1] at E0 h4 ⊢
  obtain ⟨s4,ES4⟩:∃ z,s1.write (Tb.sectorT t1.st sg1 so1) S1=z:=⟨_,rfl⟩
  rw [ES4] at E0 h4
  rw [app_set (get_set (get_self hk) hkj.symm),app_set (get_set (get_self (get_set hj hkj)) hkj),set4 hkj] at h4
  clear hd HWR N3 HT hk3 hj3 EG1 EO1 ES4
  have hj4:(((items.set k (Dk.diskI d s4)).set j (logX 156 g d t1 (ls1+1) ep gn Kq))++[locI [(w.heap.size,97,#[.int .u64 l0,.int .u32 e0,.int .i64 K,.int .u64 V,.int .u64 D,.string I,.string X]),((w.heap.size+1),93,#[.int .i64 0,.int .i64 0])]])[j]? = some (logX 156 g d t1 (ls1+1) ep gn Kq):=app_at (get_self (get_set hj hkj))
  have N4:Tb.Blk (w4.alloc (.cells #[.int .i64 0,.int .i64 0] 93)) w4.heap.size 93 #[.int .i64 0,.int .i64 0]:=Tb.Blk.new w4 _ _
  go_upto_region 4 with (with_reducible refine store_loc rfl (.tmp 5) (.tmp 12) rfl w4.heap.size rfl rfl N4 ?_; rw [World.setRow_alloc_new])
  have N5:Tb.Blk (w4.alloc (.cells #[.int .i64 sg1,.int .i64 so1] 93)) w4.heap.size 93 #[.int .i64 sg1,.int .i64 so1]:=Tb.Blk.new w4 _ _
  have h5:=h4.alloc (.cells #[.int .i64 sg1,.int .i64 so1] 93)
  have hz5:∀ x,x<w4.heap.size→w4.heap.size≠x:=fun x hx=>by omega
  have hge5:w4.heap.size≠g:=hz5 g (by obtain ⟨_,_,_,_,_,_,_,_,_,hB,_⟩:=x_at h4 hj4; exact hB.lt)
  have hg45:(w.heap.size+1)≠w4.heap.size:=fun e=>hz5 (w.heap.size+1) ((loc_at h4 app_last _ (List.mem_cons_of_mem _ (List.mem_cons_self ..))).lt) e.symm
  clear h4 N4 hz5
  generalize w4.alloc (.cells #[.int .i64 sg1,.int .i64 so1] 93)=w5 at *
  generalize w4.heap.size=b5 at *
  obtain ⟨A,m,p,B,k1,q,C,n,r1,hB,ht,_,hok⟩:=x_at h5 hj4
  have HCT:Hid (Calls Tryz.prog 117 #[.agg #[.int .i64 t1.sg,.int .i64 t1.st,.slice A m p,.slice B k1 q,.slice C n r1]] w5 (Tb.ResP (Tb.countedT t1) 0 w5)):=Lib.hid (by
   have:=Tb.count_any t1.sg t1.st A m p B k1 q C n r1 t1.o t1.l t1.f w5 ht hok
   have hc:Tb.countT ⟨t1.sg,t1.st,t1.o,t1.l,t1.f⟩=some (Tb.countedT t1):=count_yes HF.out.2.1
   rw [hc] at this
   exact this)
  have HH5:=Lib.hid h5
  have HOK1:=Lib.hid (Tb.count_ok hok (count_yes HF.out.2.1))
  clear ht h5 hok
  go_wp2_with (with_reducible refine load_pt rfl (.tmp 16) rfl g rfl hB ?_)
  refine HCT.out.mono ?_
  rintro e' w6 ⟨A1,m1,p1,B1,k2,q1,C1,n1,r2,rfl,ht1,_,hf1,hb1⟩
  clear HCT
  go_wp2_with fail
  refine (must_t _ _ _ _ _ _ _ _ _ _ _ w6).mono ?_
  rintro e' w7 ⟨rfl,hb2⟩
  have hb:=Tb.Ge.trans hb1 hb2
  have hB7:=hB.later hb
  have h8:=x_tab (p:=p1) (q:=q1) (r:=r2) HH5.out hj4 hb (ht1.later hb2) HOK1.out hf1
  rw [app_set (get_self (get_set hj hkj)),set_set] at h8
  have N7:=(N5.later hb).far hge5.symm (csL d (Tb.countedT t1).sg (Tb.countedT t1).st A1 m1 p1 B1 k2 q1 C1 n1 r2 (ls1+1) ep gn)
  clear ht1 hf1 hb1 hb2 hb N5 hB HOK1 HH5
  go_upto_region 5 with (with_reducible refine store_pt rfl (.tmp 23) (.tmp 21) rfl g rfl rfl hB7 ?_)
  generalize w7.setRow g (csL d (Tb.countedT t1).sg (Tb.countedT t1).st A1 m1 p1 B1 k2 q1 C1 n1 r2 (ls1+1) ep gn)=w8 at *
  have N8:Tb.Blk w8 (w.heap.size+1) 93 #[.int .i64 0,.int .i64 0]:=loc_at h8 app_last _ (List.mem_cons_of_mem _ (List.mem_cons_self ..))
  have N9:Tb.Blk w8 w.heap.size 97 #[.int .u64 l0,.int .u32 e0,.int .i64 K,.int .u64 V,.int .u64 D,.string I,.string X]:=loc_at h8 app_last _ (List.mem_cons_self ..)
  have H8:=Lib.hid h8
  clear h8 hB7
  go_wp2_with (first
   | (with_reducible refine load_loc rfl (.tmp 5) rfl b5 rfl N7 ?_)
   | (with_reducible refine store_loc rfl (.tmp 4) (.tmp 24) rfl (w.heap.size+1) rfl rfl N8 ?_))
  refine bodyPost_ret (res_loc1 rfl _ _ (w.heap.size+1) rfl (N8.row _)) rfl (.inl ?_)
  rw [E0.out]
  refine ⟨rfl,rfl,?_⟩
  have h9:=loc_row (l':=[(w.heap.size,97,#[.int .u64 l0,.int .u32 e0,.int .i64 K,.int .u64 V,.int .u64 D,.string I,.string X]),((w.heap.size+1),93,#[.int .i64 sg1,.int .i64 so1])]) H8.out app_last (w.heap.size+1) ⟨_,List.mem_cons_of_mem _ (List.mem_cons_self ..),rfl⟩ #[.int .i64 sg1,.int .i64 so1] (fun x hx=>by
   rcases List.mem_cons.1 hx with rfl|hx
   ·exact N9.far (show (w.heap.size+1)≠w.heap.size by omega) _
   ·rcases List.mem_cons.1 hx with rfl|hx
    ·exact N8.row _
    ·cases hx) (fun x hx=>by
   rcases List.mem_cons.1 hx with rfl|hx
   ·exact ⟨_,List.mem_cons_self ..,rfl⟩
   ·rcases List.mem_cons.1 hx with rfl|hx
    ·exact ⟨_,List.mem_cons_of_mem _ (List.mem_cons_self ..),rfl⟩
    ·cases hx)
  rw [app_set_last] at h9
  exact loc_drop h9
 ·obtain rfl:RR=false:=by rw [← HE.out]; simp [hf]
  have hI:sealIf t s ls ep=(s,t,ls,0):=if_neg hf
  have HT:=Lib.hid (addS_put (K:=K) (V:=V) (D:=D) (I:=I) (X:=X) hI)
  obtain ⟨s1,E1⟩:∃ z,s=z:=⟨_,rfl⟩
  obtain ⟨t1,E2⟩:∃ z,t=z:=⟨_,rfl⟩
  obtain ⟨ls1,E3⟩:∃ z,ls=z:=⟨_,rfl⟩
  have f1:okP t1:=E2 ▸ hok
  have f2:FitS t1 s1:=E1 ▸ E2 ▸ hfit
  have f3:lastN t1.l≠t1.st:=E2 ▸ hf
  have f4:1≤ls1∧ls1+1<18446744073709551616:=by omega
  have f5:s1.pend.length<1048576:=by rw [← E1]; omega
  have h3:Dk.Sep W0 w2 (((items.set k (Dk.diskI d s1)).set j (logX 156 g d t1 ls1 ep gn Kq))++[locI [(w.heap.size,97,#[.int .u64 l0,.int .u32 e0,.int .i64 K,.int .u64 V,.int .u64 D,.string I,.string X]),((w.heap.size+1),93,#[.int .i64 0,.int .i64 0])]]):=by
   rw [← E1,← E2,← E3,set_same hk,set_same hj]; exact h2
  have HT' : Hid (addS t s ls ep K V D I X=appS.putS t1 s1 ls1 ep K V D I X):=Lib.hid (by rw [← E1,← E2,← E3]; exact HT.out)
  clear HT h2 E1 E2 E3 hI hf
  have HT:=HT'
  clear HT'
  generalize w2=w3 at *
  have hk3:(((items.set k (Dk.diskI d s1)).set j (logX 156 g d t1 ls1 ep gn Kq))++[locI [(w.heap.size,97,#[.int .u64 l0,.int .u32 e0,.int .i64 K,.int .u64 V,.int .u64 D,.string I,.string X]),((w.heap.size+1),93,#[.int .i64 0,.int .i64 0])]])[k]? = some (Dk.diskI d s1):=app_at (get_set (get_self hk) hkj.symm)
  have hj3:(((items.set k (Dk.diskI d s1)).set j (logX 156 g d t1 ls1 ep gn Kq))++[locI [(w.heap.size,97,#[.int .u64 l0,.int .u32 e0,.int .i64 K,.int .u64 V,.int .u64 D,.string I,.string X]),((w.heap.size+1),93,#[.int .i64 0,.int .i64 0])]])[j]? = some (logX 156 g d t1 ls1 ep gn Kq):=app_at (get_self (get_set hj hkj))
  have hR1:=okR_stamp (l:=ls1) (e:=ep) (by omega) HR0.out
  obtain ⟨S1,ES1⟩:∃ z,secB ⟨ls1,ep,K,V,D,I.data.toList,X.data.toList⟩=z:=⟨_,rfl⟩
  have HWR:=Lib.hid (write_any h3 hk3 hj3 hkj l0 e0 K V D I X f4 ⟨by simp only; omega,by simp only; omega,hep.1,hep.2,hV.1,hV.2,hD.1,hD.2⟩ hR1 (has_open f1 f2) f5 S1 (by rw [← ES1]; exact secB_eq _))
  have N3:Tb.Blk w3 w.heap.size 97 #[.int .u64 l0,.int .u32 e0,.int .i64 K,.int .u64 V,.int .u64 D,.string I,.string X]:=loc_at h3 app_last _ (List.mem_cons_self ..)
  have HF:=Lib.hid (And.intro f1 (And.intro f3 ES1))
  clear h3 f1 f2 f3 f4 f5 hR1 ES1
  go_wp2_with (with_reducible refine load_rp rfl (.tmp 3) rfl w.heap.size rfl N3 ?_)
  refine HWR.out.mono ?_
  rintro e' w4 (⟨hd,rfl,h4⟩ | ⟨hd,rfl,h4⟩)
  rotate_left
  ·have E9:addS t s ls ep K V D I X=(s1,t1,ls1,0,0,9):=HT.out.trans (if_pos hd)
   exact ⟨rfl,.inr (by rw [E9]; exact ⟨by simp,rfl,t1,ls1,loc_drop h4⟩)⟩
  have E0:=Lib.hid (show addS t s ls ep K V D I X=(s1.write (Tb.sectorT t1.st (lastN t1.o) (lastN t1.l)) S1,Tb.countedT t1,ls1+1,lastN t1.o,lastN t1.l,0) by rw [← HF.out.2.2]; exact HT.out.trans (if_neg hd))
  obtain ⟨sg1,EG1⟩:∃ z,lastN t1.o=z:=⟨_,rfl⟩
  obtain ⟨so1,EO1⟩:∃ z,lastN t1.l=z:=⟨_,rfl⟩
  rw [EG1,EO1] at E0 h4 ⊢
  obtain ⟨s4,ES4⟩:∃ z,s1.write (Tb.sectorT t1.st sg1 so1) S1=z:=⟨_,rfl⟩
  rw [ES4] at E0 h4
  rw [app_set (get_set (get_self hk) hkj.symm),app_set (get_set (get_self (get_set hj hkj)) hkj),set4 hkj] at h4
  clear hd HWR N3 HT hk3 hj3 EG1 EO1 ES4
  have hj4:(((items.set k (Dk.diskI d s4)).set j (logX 156 g d t1 (ls1+1) ep gn Kq))++[locI [(w.heap.size,97,#[.int .u64 l0,.int .u32 e0,.int .i64 K,.int .u64 V,.int .u64 D,.string I,.string X]),((w.heap.size+1),93,#[.int .i64 0,.int .i64 0])]])[j]? = some (logX 156 g d t1 (ls1+1) ep gn Kq):=app_at (get_self (get_set hj hkj))
  have N4:Tb.Blk (w4.alloc (.cells #[.int .i64 0,.int .i64 0] 93)) w4.heap.size 93 #[.int .i64 0,.int .i64 0]:=Tb.Blk.new w4 _ _
  go_upto_region 4 with (with_reducible refine store_loc rfl (.tmp 5) (.tmp 12) rfl w4.heap.size rfl rfl N4 ?_; rw [World.setRow_alloc_new])
  have N5:Tb.Blk (w4.alloc (.cells #[.int .i64 sg1,.int .i64 so1] 93)) w4.heap.size 93 #[.int .i64 sg1,.int .i64 so1]:=Tb.Blk.new w4 _ _
  have h5:=h4.alloc (.cells #[.int .i64 sg1,.int .i64 so1] 93)
  have hz5:∀ x,x<w4.heap.size→w4.heap.size≠x:=fun x hx=>by omega
  have hge5:w4.heap.size≠g:=hz5 g (by obtain ⟨_,_,_,_,_,_,_,_,_,hB,_⟩:=x_at h4 hj4; exact hB.lt)
  have hg45:(w.heap.size+1)≠w4.heap.size:=fun e=>hz5 (w.heap.size+1) ((loc_at h4 app_last _ (List.mem_cons_of_mem _ (List.mem_cons_self ..))).lt) e.symm
  clear h4 N4 hz5
  generalize w4.alloc (.cells #[.int .i64 sg1,.int .i64 so1] 93)=w5 at *
  generalize w4.heap.size=b5 at *
  obtain ⟨A,m,p,B,k1,q,C,n,r1,hB,ht,_,hok⟩:=x_at h5 hj4
  have HCT:Hid (Calls Tryz.prog 117 #[.agg #[.int .i64 t1.sg,.int .i64 t1.st,.slice A m p,.slice B k1 q,.slice C n r1]] w5 (Tb.ResP (Tb.countedT t1) 0 w5)):=Lib.hid (by
   have:=Tb.count_any t1.sg t1.st A m p B k1 q C n r1 t1.o t1.l t1.f w5 ht hok
   have hc:Tb.countT ⟨t1.sg,t1.st,t1.o,t1.l,t1.f⟩=some (Tb.countedT t1):=count_yes HF.out.2.1
   rw [hc] at this
   exact this)
  have HH5:=Lib.hid h5
  have HOK1:=Lib.hid (Tb.count_ok hok (count_yes HF.out.2.1))
  clear ht h5 hok
  go_wp2_with (with_reducible refine load_pt rfl (.tmp 16) rfl g rfl hB ?_)
  refine HCT.out.mono ?_
  rintro e' w6 ⟨A1,m1,p1,B1,k2,q1,C1,n1,r2,rfl,ht1,_,hf1,hb1⟩
  clear HCT
  go_wp2_with fail
  refine (must_t _ _ _ _ _ _ _ _ _ _ _ w6).mono ?_
  rintro e' w7 ⟨rfl,hb2⟩
  have hb:=Tb.Ge.trans hb1 hb2
  have hB7:=hB.later hb
  have h8:=x_tab (p:=p1) (q:=q1) (r:=r2) HH5.out hj4 hb (ht1.later hb2) HOK1.out hf1
  rw [app_set (get_self (get_set hj hkj)),set_set] at h8
  have N7:=(N5.later hb).far hge5.symm (csL d (Tb.countedT t1).sg (Tb.countedT t1).st A1 m1 p1 B1 k2 q1 C1 n1 r2 (ls1+1) ep gn)
  clear ht1 hf1 hb1 hb2 hb N5 hB HOK1 HH5
  go_upto_region 5 with (with_reducible refine store_pt rfl (.tmp 23) (.tmp 21) rfl g rfl rfl hB7 ?_)
  generalize w7.setRow g (csL d (Tb.countedT t1).sg (Tb.countedT t1).st A1 m1 p1 B1 k2 q1 C1 n1 r2 (ls1+1) ep gn)=w8 at *
  have N8:Tb.Blk w8 (w.heap.size+1) 93 #[.int .i64 0,.int .i64 0]:=loc_at h8 app_last _ (List.mem_cons_of_mem _ (List.mem_cons_self ..))
  have N9:Tb.Blk w8 w.heap.size 97 #[.int .u64 l0,.int .u32 e0,.int .i64 K,.int .u64 V,.int .u64 D,.string I,.string X]:=loc_at h8 app_last _ (List.mem_cons_self ..)
  have H8:=Lib.hid h8
  clear h8 hB7
  go_wp2_with (first
   | (with_reducible refine load_loc rfl (.tmp 5) rfl b5 rfl N7 ?_)
   | (with_reducible refine store_loc rfl (.tmp 4) (.tmp 24) rfl (w.heap.size+1) rfl rfl N8 ?_))
  refine bodyPost_ret (res_loc1 rfl _ _ (w.heap.size+1) rfl (N8.row _)) rfl (.inl ?_)
  rw [E0.out]
  refine ⟨rfl,rfl,?_⟩
  have h9:=loc_row (l':=[(w.heap.size,97,#[.int .u64 l0,.int .u32 e0,.int .i64 K,.int .u64 V,.int .u64 D,.string I,.string X]),((w.heap.size+1),93,#[.int .i64 sg1,.int .i64 so1])]) H8.out app_last (w.heap.size+1) ⟨_,List.mem_cons_of_mem _ (List.mem_cons_self ..),rfl⟩ #[.int .i64 sg1,.int .i64 so1] (fun x hx=>by
   rcases List.mem_cons.1 hx with rfl|hx
   ·exact N9.far (show (w.heap.size+1)≠w.heap.size by omega) _
   ·rcases List.mem_cons.1 hx with rfl|hx
    ·exact N8.row _
    ·cases hx) (fun x hx=>by
   rcases List.mem_cons.1 hx with rfl|hx
   ·exact ⟨_,List.mem_cons_self ..,rfl⟩
   ·rcases List.mem_cons.1 hx with rfl|hx
    ·exact ⟨_,List.mem_cons_of_mem _ (List.mem_cons_self ..),rfl⟩
    ·cases hx)
  rw [app_set_last] at h9
  exact loc_drop h9
end Go.Proofs.YtcnohlgigmmefaaGreat.Lg
