/- A part. -/
import Derived.Test.YtdpmjlbkojhooaaGreatQLgE
namespace Go.Proofs.YtdpmjlbkojhooaaGreat.Lg
open Go.RowKit Go.Lib
open Tb (Tab TIn Sl okP csT lastN nth Fresh)
open Dk (St Only Grew)
set_option linter.unusedVariables false
set_option maxRecDepth 100000
def secB (r:Rc.Rec):ByteArray:=⟨(Rc.secL r).toArray⟩
theorem secB_eq (r:Rc.Rec):Rc.secL r=(secB r).data.toList:=by simp [secB]
def footB (t:Tab) (ls ep:Int):ByteArray:=match Tb.freeT t with
 | []=>ByteArray.empty
 | f :: _=>secB ⟨ls,ep,3,0,f,[],[]⟩
theorem footB_eq {t:Tab} {ls ep f:Int} {l:List Int} (h:Tb.freeT t=f :: l):Rc.secL ⟨ls,ep,3,0,f,[],[]⟩=(footB t ls ep).data.toList:=by
 unfold footB; rw [h]; exact secB_eq _
def FitS (t:Tab) (s:St):Prop:=2+t.sg*(t.st+1)≤s.size
theorem has_sector {t:Tab} {s:St} (hok:okP t) (hf:FitS t s) {seg slot:Int} (h1:0≤seg∧seg<t.sg) (h2:0≤slot∧slot≤t.st):s.has (Tb.sectorT t.st seg slot):=by
 have hs:=hok.1
 have ht:=hok.2.1
 unfold Tb.sectorT
 rw [if_pos ⟨ht.1,ht.2,h1.1,by omega,h2.1,h2.2⟩]
 unfold FitS at hf
 have e1:seg*(t.st+1)≤(t.sg-1)*(t.st+1):=Int.mul_le_mul_of_nonneg_right (by omega) (by omega)
 have e2:(t.sg-1)*(t.st+1)=t.sg*(t.st+1)-(t.st+1):=by rw [Int.sub_mul,Int.one_mul]
 have e3:0≤seg*(t.st+1):=Int.mul_nonneg h1.1 (by omega)
 exact ⟨by omega,by omega⟩
theorem open_bd {t:Tab} (hok:okP t):(0≤lastN t.o∧lastN t.o<t.sg)∧(0≤lastN t.l∧lastN t.l≤t.st):=by
 have hb:=Tb.ok_bd hok
 exact ⟨hok.2.2.2.1 _ (Tb.last_mem (by omega)),hok.2.2.2.2.2.1 _ (Tb.last_mem (by omega))⟩
theorem has_open {t:Tab} {s:St} (hok:okP t) (hf:FitS t s):s.has (Tb.sectorT t.st (lastN t.o) (lastN t.l)):=has_sector hok hf (open_bd hok).1 (open_bd hok).2
theorem set4 {items:List Dk.Item} {k j:Nat} {a b c d:Dk.Item} (hkj:k≠j):((((items.set k a).set j b).set k c).set j d)=(items.set k c).set j d:=by
 rw [List.set_comm _ _ hkj.symm,set_set,set_set]
def sealIf (t:Tab) (s:St) (ls ep:Int):St × Tab × Int × Int:=if lastN t.l=t.st then sealS t s ls (footB t ls ep) else (s,t,ls,0)
def appS (t:Tab) (s:St) (ls ep K V D:Int) (I X:ByteArray):St × Tab × Int × Int × Int × Int :=
 if K=3∨Rc.okR ⟨ls,ep,K,V,D,I.data.toList,X.data.toList⟩=false then (s,t,ls,0,0,5) else
 if Tb.roomT t=0 then (s,t,ls,0,0,10) else
 if (sealIf t s ls ep).2.2.2≠0 then ((sealIf t s ls ep).1,(sealIf t s ls ep).2.1,(sealIf t s ls ep).2.2.1,0,0,(sealIf t s ls ep).2.2.2) else
 putS (sealIf t s ls ep).2.1 (sealIf t s ls ep).1 (sealIf t s ls ep).2.2.1 ep K V D I X
where
 putS (t:Tab) (s:St) (ls ep K V D:Int) (I X:ByteArray):St × Tab × Int × Int × Int × Int :=
  if s.dead then (s,t,ls,0,0,9) else (s.write (Tb.sectorT t.st (lastN t.o) (lastN t.l)) (secB ⟨ls,ep,K,V,D,I.data.toList,X.data.toList⟩),Tb.countedT t,ls+1,lastN t.o,lastN t.l,0)
theorem blk_ne {W:World} {b c:Nat} {T T' : TypeId} {vs us:Array Value} (h:Tb.Blk W b T vs) (h' : Tb.Blk W c T' us) (hne:T≠T'):b≠c:=by
 intro e
 subst e
 unfold Tb.Blk at h h'
 rw [h] at h'
 injection h' with h'
 injection h' with _ h'
 exact hne h'
theorem okR_lsn {l l' e k v d:Int} {i a:List UInt8} (h:Rc.okR ⟨l,e,k,v,d,i,a⟩=true) (hl:l'≠0):Rc.okR ⟨l',e,k,v,d,i,a⟩=true:=by
 rw [Rc.okR_iff] at h ⊢
 exact ⟨hl,h.2⟩
theorem count_yes {t:Tab} (h:lastN t.l≠t.st):Tb.countT t=some (Tb.countedT t):=if_neg h
theorem opened_count {t:Tab} {f x:Int} (hok:okP t):lastN (Tb.openedT t f x).l≠(Tb.openedT t f x).st:=by
 have h1:lastN (t.l++[0])=0:=by unfold lastN; rw [List.length_append,List.length_singleton,Nat.add_sub_cancel]; exact Tb.nth_last t.l 0
 have:=hok.2.1
 show lastN (t.l++[0])≠t.st
 rw [h1]; omega
theorem seal_facts {t t1:Tab} {s s1:St} {ls ls1 e1:Int} {S:ByteArray} (hok:okP t) (hf:FitS t s) (hls:1≤ls∧ls+2<18446744073709551616) (hpl:s.pend.length+2<1048576) (EZ:sealS t s ls S=(s1,t1,ls1,e1)) (he:e1=0) :
 okP t1∧FitS t1 s1∧lastN t1.l≠t1.st∧(1≤ls1∧ls1+1<18446744073709551616)∧s1.pend.length<1048576:=by
 unfold sealS at EZ
 split at EZ
 ·injection EZ with _ EZ; injection EZ with _ EZ; injection EZ with _ EZ; omega
 ·rename_i f l hfr
  split at EZ
  ·injection EZ with _ EZ; injection EZ with _ EZ; injection EZ with _ EZ; omega
  ·injection EZ with E1 EZ; injection EZ with E2 EZ; injection EZ with E3 EZ
   subst E1 E2 E3
   refine ⟨Tb.opened_ok hok (by rw [hfr]; exact List.mem_cons_self ..),hf,opened_count hok,⟨by omega,by omega⟩,?_⟩
   show (s.pend++[_]).length<_
   simp; omega
set_option maxHeartbeats 32000000 in
theorem rapp_any {W0 w:World} {items:List Dk.Item} {k j g r:Nat} {s:St} {t:Tab} {ls ep gn:Int} (h:Dk.Sep W0 w items) (hk:items[k]? = some (Dk.refI r s)) (hj:items[j]? = some (logI 121 g r t ls ep gn)) (hkj:k≠j) (l0 e0 K V D:Int) (I X:ByteArray)
 (hls:1≤ls∧ls+2<18446744073709551616) (hep:0≤ep∧ep<4294967296) (hV:0≤V∧V<18446744073709551616) (hD:0≤D∧D<18446744073709551616) (hI:I.size≤maxLen) (hX:X.size≤maxLen) (hf:FitS t s) (hpl:s.pend.length+2<1048576) :
 Calls Tryz.prog 59 #[.pointer (some ⟨g,0,none⟩),.agg #[.int .u64 l0,.int .u32 e0,.int .i64 K,.int .u64 V,.int .u64 D,.string I,.string X]] w fun e w'=>e=.returned (.tuple #[.agg #[.int .i64 (appS t s ls ep K V D I X).2.2.2.1,.int .i64 (appS t s ls ep K V D I X).2.2.2.2.1],.int .i64 (appS t s ls ep K V D I X).2.2.2.2.2])∧Dk.Sep W0 w' ((items.set k (Dk.refI r (appS t s ls ep K V D I X).1)).set j (logI 121 g r (appS t s ls ep K V D I X).2.1 (appS t s ls ep K V D I X).2.2.1 ep gn)):=by
 have hvL:=Tryz.zeroValue67
 have hvT:=Tryz.zeroValue100
 have HH:=Lib.hid h
 have HOK:=log_ok h hj
 have HGL:Hid (g<w.heap.size):=Lib.hid (by obtain ⟨_,_,_,_,_,_,_,_,_,hB,_⟩:=log_at h hj; exact hB.lt)
 obtain ⟨RR,HRR⟩:∃ z,Hid (appS t s ls ep K V D I X=z):=⟨_,Lib.hid rfl⟩
 rw [HRR.out]
 have B0:Below w.heap.size w ((w.alloc (.cells #[.int .u64 l0,.int .u32 e0,.int .i64 K,.int .u64 V,.int .u64 D,.string I,.string X] 70)).alloc (.cells #[.int .i64 0,.int .i64 0] 67)):=NewC.geTrans (NewC.below1 _ _) (NewC.below1 _ _)
 have K3:Tb.Blk ((w.alloc (.cells #[.int .u64 l0,.int .u32 e0,.int .i64 K,.int .u64 V,.int .u64 D,.string I,.string X] 70)).alloc (.cells #[.int .i64 0,.int .i64 0] 67)) w.heap.size 70 #[.int .u64 l0,.int .u32 e0,.int .i64 K,.int .u64 V,.int .u64 D,.string I,.string X]:=(Tb.Blk.new w _ _).later (NewC.below1 _ _)
 have K4:Tb.Blk ((w.alloc (.cells #[.int .u64 l0,.int .u32 e0,.int .i64 K,.int .u64 V,.int .u64 D,.string I,.string X] 70)).alloc (.cells #[.int .i64 0,.int .i64 0] 67)) (w.heap.size+1) 67 #[.int .i64 0,.int .i64 0]:=Tb.Blk.at_ _ _ _ (by simp)
 have h1:=h.later B0
 clear h
 go_enter Tryz.func59,Tryz.ntmps59
 go_upto_region 1 with fail
 generalize ((w.alloc (.cells #[.int .u64 l0,.int .u32 e0,.int .i64 K,.int .u64 V,.int .u64 D,.string I,.string X] 70)).alloc (.cells #[.int .i64 0,.int .i64 0] 67))=W1 at *
 obtain ⟨A,m,p,B,k1,q,C,n,r1,hB,ht,_,hok⟩:=log_at h1 hj
 have hgl:g<w.heap.size:=HGL.out
 have BW:=B0
 clear h1 B0
 have c6:W1.cell? ⟨g,6,none⟩=some (.int .u64 ls):=hB.cell 6
 have x0:W1.cell? ⟨w.heap.size,0,none⟩=some (.int .u64 l0):=K3.cell 0
 have y0:=K3.frozen 0
 go_upto_region 2 with fail
 clear c6 x0 y0
 replace hB:=Tb.blk_far (i:=0) (u:=.int .u64 ls) hB (show g≠w.heap.size by omega)
 replace K4:=Tb.blk_far (i:=0) (u:=.int .u64 ls) K4 (show w.heap.size+1≠w.heap.size by omega)
 have K3b:Tb.Blk (W1.setCell ⟨w.heap.size,0,none⟩ (.int .u64 ls)) w.heap.size 70 #[.int .u64 ls,.int .u32 e0,.int .i64 K,.int .u64 V,.int .u64 D,.string I,.string X]:=K3.set_ 0 _
 replace BW:=Below.setCell (p:=⟨w.heap.size,0,none⟩) BW (Nat.le_refl _) (.int .u64 ls)
 clear K3 ht
 generalize W1.setCell ⟨w.heap.size,0,none⟩ (.int .u64 ls)=W2 at *
 have c7:W2.cell? ⟨g,7,none⟩=some (.int .u32 ep):=hB.cell 7
 have x1:W2.cell? ⟨w.heap.size,1,none⟩=some (.int .u32 e0):=K3b.cell 1
 have y1:=K3b.frozen 1
 go_upto_region 3 with fail
 clear c7 x1 y1
 replace hB:=Tb.blk_far (i:=1) (u:=.int .u32 ep) hB (show g≠w.heap.size by omega)
 replace K4:=Tb.blk_far (i:=1) (u:=.int .u32 ep) K4 (show w.heap.size+1≠w.heap.size by omega)
 have K3:Tb.Blk (W2.setCell ⟨w.heap.size,1,none⟩ (.int .u32 ep)) w.heap.size 70 #[.int .u64 ls,.int .u32 ep,.int .i64 K,.int .u64 V,.int .u64 D,.string I,.string X]:=K3b.set_ 1 _
 replace BW:=Below.setCell (p:=⟨w.heap.size,1,none⟩) BW (Nat.le_refl _) (.int .u32 ep)
 clear K3b
 generalize W2.setCell ⟨w.heap.size,1,none⟩ (.int .u32 ep)=W3 at *
 have x0:W3.cell? ⟨w.heap.size,0,none⟩=some (.int .u64 ls):=K3.cell 0
 have x1:W3.cell? ⟨w.heap.size,1,none⟩=some (.int .u32 ep):=K3.cell 1
 have x2:W3.cell? ⟨w.heap.size,2,none⟩=some (.int .i64 K):=K3.cell 2
 have x3:W3.cell? ⟨w.heap.size,3,none⟩=some (.int .u64 V):=K3.cell 3
 have x4:W3.cell? ⟨w.heap.size,4,none⟩=some (.int .u64 D):=K3.cell 4
 have x5:W3.cell? ⟨w.heap.size,5,none⟩=some (.string I):=K3.cell 5
 have x6:W3.cell? ⟨w.heap.size,6,none⟩=some (.string X):=K3.cell 6
 by_cases hk3:K=3
 ·have EE:=Lib.hid (show RR=(s,t,ls,0,0,5) by rw [← HRR.out]; exact if_pos (.inl hk3))
  subst hk3
  have BB:=Lib.hid (Tb.below_row BW (show w.heap.size≤w.heap.size+1 by omega) #[.int .i64 0,.int .i64 0])
  go_wp2_with (with_reducible refine store_loc rfl (.tmp 4) (.tmp 29) rfl (w.heap.size+1) rfl rfl K4 ?_)
  exact bodyPost_ret (res_loc rfl _ _ (w.heap.size+1) rfl rfl (K4.row _)) rfl ⟨by rw [EE.out]; rfl,by rw [EE.out,keep2 hk hj]; exact HH.out.later BB.out⟩
 have q3:(K == 3)=false:=by simp [hk3]
 obtain ⟨bR,HbR⟩:∃ b,Hid (Rc.okR ⟨ls,ep,K,V,D,I.data.toList,X.data.toList⟩=b):=⟨_,Lib.hid rfl⟩
 go_wp2_with fail
 refine (Rc.R6.right_any ls ep K V D I X bR _ hI hX HbR.out).mono ?_
 rintro e' W4 ⟨rfl,hb⟩
 replace hB:=hB.later hb
 replace K3:=K3.later hb
 replace K4:=K4.later hb
 replace BW:=NewC.geTrans BW hb
 clear hb x0 x1 x2 x3 x4 x5 x6
 cases bR with
 | false =>
   have EE:=Lib.hid (show RR=(s,t,ls,0,0,5) by rw [← HRR.out]; exact if_pos (.inr HbR.out))
   have BB:=Lib.hid (Tb.below_row BW (show w.heap.size≤w.heap.size+1 by omega) #[.int .i64 0,.int .i64 0])
   go_wp2_with (with_reducible refine store_loc rfl (.tmp 4) (.tmp 29) rfl (w.heap.size+1) rfl rfl K4 ?_)
   exact bodyPost_ret (res_loc rfl _ _ (w.heap.size+1) rfl rfl (K4.row _)) rfl ⟨by rw [EE.out]; rfl,by rw [EE.out,keep2 hk hj]; exact HH.out.later BB.out⟩
 | true =>
 have HE1:=Lib.hid (show RR=_ from HRR.out.symm.trans (if_neg (by rw [HbR.out]; simp [hk3])))
 have hx:=loc_new (l:=[(w.heap.size,70,#[.int .u64 ls,.int .u32 ep,.int .i64 K,.int .u64 V,.int .u64 D,.string I,.string X]),(w.heap.size+1,67,#[.int .i64 0,.int .i64 0])]) HH.out BW (fun x hx=>by
  rcases List.mem_cons.1 hx with rfl|hx
  ·exact K3
  ·rcases List.mem_cons.1 hx with rfl|hx
   ·exact K4
   ·cases hx) (fun x hx=>by
  rcases List.mem_cons.1 hx with rfl|hx
  ·exact Nat.le_refl _
  ·rcases List.mem_cons.1 hx with rfl|hx
   ·exact Nat.le_succ _
   ·cases hx)
 clear BW hB K3
 obtain ⟨A,m,p,B,k1,q,C,n,r1,hB,ht,_,_⟩:=log_at hx (app_at hj)
 obtain ⟨R,HR⟩:∃ z,Hid (Tb.roomT t=z):=⟨_,Lib.hid rfl⟩
 go_wp2_with (with_reducible refine load_lt rfl (.tmp 32) rfl g rfl hB ?_)
 refine (Tb.rroom_is t.sg t.st A m p B k1 q C n r1 t.o t.l t.f R _ ht hok HR.out).mono ?_
 rintro e' W5 ⟨rfl,hb⟩
 replace hx:=hx.later hb
 replace hB:=hB.later hb
 replace ht:=ht.later hb
 replace K4:=K4.later hb
 clear hb
 by_cases hR0:R=0
 ·have EE:=Lib.hid (show RR=(s,t,ls,0,0,10) by rw [HE1.out]; exact if_pos (HR.out.trans hR0))
  subst hR0
  have hx9:=loc_row (l':=[(w.heap.size+1,67,#[.int .i64 0,.int .i64 0])]) hx app_last (w.heap.size+1) ⟨_,List.mem_cons_of_mem _ (List.mem_cons_self ..),rfl⟩ #[.int .i64 0,.int .i64 0] (fun x hx=>by
   rcases List.mem_cons.1 hx with rfl|hx
   ·exact K4.row _
   ·cases hx) (fun x hx=>⟨_,List.mem_cons_of_mem _ (List.mem_cons_self ..),by rcases List.mem_cons.1 hx with rfl|hx; rfl; cases hx⟩)
  rw [app_set_last] at hx9
  have H9:=Lib.hid (loc_drop hx9)
  clear hx9 hx hB ht
  go_wp2_with (with_reducible refine store_loc rfl (.tmp 4) (.tmp 36) rfl (w.heap.size+1) rfl rfl K4 ?_)
  exact bodyPost_ret (res_loc rfl _ _ (w.heap.size+1) rfl rfl (K4.row _)) rfl ⟨by rw [EE.out]; rfl,by rw [EE.out,keep2 hk hj]; exact H9.out⟩
 have qR:(R == 0)=false:=by simp [hR0]
 have HE2:=Lib.hid (show RR=_ from HE1.out.trans (if_neg (by rw [HR.out]; exact hR0)))
 have HE3a:=Lib.hid HE2.out
 have hmx:=(Tb.ok_full hok ht).2.2.2.2.1
 have hlx:t.l.length=t.o.length:=hok.2.2.2.2.2.2.1
 obtain ⟨sg1,H1⟩:∃ z,Hid (lastN t.o=z):=⟨_,Lib.hid rfl⟩
 obtain ⟨so1,H2⟩:∃ z,Hid (lastN t.l=z):=⟨_,Lib.hid rfl⟩
 have Q1:Hid (∀ W,Below W5.heap.size W5 W→Calls Tryz.prog 103 #[.pointer (some ⟨g,0,none⟩)] W fun e w'=>e=.returned (.int .i64 sg1)∧Below W.heap.size W w'):=Lib.hid (fun W hb=>by rw [← H1.out]; exact ropen_is (hB.later hb) (ht.later hb) hok)
 have Q2:Hid (∀ W,Below W5.heap.size W5 W→Calls Tryz.prog 102 #[.agg #[.int .i64 t.sg,.int .i64 t.st,.slice A m p,.slice B k1 q,.slice C n r1],.int .i64 sg1] W fun e w'=>e=.returned (.int .i64 so1)∧Below W.heap.size W w'):=Lib.hid (fun W hb=>Tb.rlen_is t.sg t.st A m p B k1 q C n r1 t.o t.l t.f sg1 so1 W (ht.later hb) hmx hlx (by rw [← H1.out,← H2.out]; exact len_open hok))
 have I:Below W5.heap.size W5 { W5 with drawn:=W5.drawn+1 }:=(Below.refl _ _).drew
 have hne:Nonempty (In (fun W=>Below W5.heap.size W5 W)):=⟨⟨_,I⟩⟩
 have f1:∀ jj:In (fun W=>Below W5.heap.size W5 W),jj.W.cell? ⟨g,1,none⟩=some (.int .i64 t.sg):=fun jj=>(hB.later jj.h).cell 1
 have f2:∀ jj:In (fun W=>Below W5.heap.size W5 W),jj.W.cell? ⟨g,2,none⟩=some (.int .i64 t.st):=fun jj=>(hB.later jj.h).cell 2
 have f3:∀ jj:In (fun W=>Below W5.heap.size W5 W),jj.W.cell? ⟨g,3,none⟩=some (.slice A m p):=fun jj=>(hB.later jj.h).cell 3
 have f4:∀ jj:In (fun W=>Below W5.heap.size W5 W),jj.W.cell? ⟨g,4,none⟩=some (.slice B k1 q):=fun jj=>(hB.later jj.h).cell 4
 have f5:∀ jj:In (fun W=>Below W5.heap.size W5 W),jj.W.cell? ⟨g,5,none⟩=some (.slice C n r1):=fun jj=>(hB.later jj.h).cell 5
 have HX:=Lib.hid hx
 clear hx hB ht hmx hlx K4 HE2
 go_wp2_with fail
 refine region_class (fun W=>Below W5.heap.size W5 W) (by kernel_rfl) (by kernel_rfl) I ?_
 repeat (go_big_quiet_step (first
  | (go_at_call 103; with_reducible exact class_call _ (fun hi=>(Q1.out _ hi).mono fun e w' ⟨he,hb⟩=>⟨he,hi.trans (hb.mono hi.size)⟩))
  | (go_at_call 102; with_reducible exact class_call _ (fun hi=>(Q2.out _ hi).mono fun e w' ⟨he,hb⟩=>⟨he,hi.trans (hb.mono hi.size)⟩))))
 refine wpQuiet_nil ?_
 rintro _ ⟨jj,rfl⟩
 have hx:=HX.out.later jj.h
 clear Q1 Q2 I hne f1 f2 f3 f4 f5 HX
 generalize jj.W=W6 at *
 clear jj
 by_cases hfull:so1=t.st
 ·have q4:(so1 == t.st)=true:=by simp [hfull]
  have ESI:sealIf t s ls ep=sealS t s ls (footB t ls ep):=if_pos (H2.out.trans hfull)
  obtain ⟨s1,t1,ls1,e1,EZ⟩:∃ s1 t1 ls1 e1,sealS t s ls (footB t ls ep)=(s1,t1,ls1,e1):=⟨_,_,_,_,rfl⟩
  have HE3b:=HE3a.out
  rw [ESI,EZ] at HE3b
  have HE3c:=Lib.hid HE3b
  have hSF:=seal_facts hok hf hls hpl EZ
  clear hfull ESI HE3b
  go_wp2_with fail
  refine (rseal_any hx (app_at hk) (app_at hj) hkj ⟨hls.1,by omega⟩ hep (has_open hok hf) (by omega) (footB t ls ep) (fun f l h=>footB_eq h)).mono ?_
  rintro e' w7 ⟨rfl,h7⟩
  rw [EZ] at h7 ⊢
  rw [app_set hk,app_set (get_set hj hkj)] at h7
  by_cases he:e1=0
  ·obtain ⟨hok1,hf1,hfree1,hls1,hpl1⟩:=hSF he
   have HE3:=Lib.hid (show RR=_ from HE3c.out.trans (if_neg (by simp [he])))
   subst he
   clear hSF hx EZ
   have hx:=h7
   clear h7
   go_upto_region 11 with fail
   have hk1:((items.set k (Dk.refI r s1)).set j (logI 121 g r t1 ls1 ep gn))[k]? = some (Dk.refI r s1):=get_set (get_self hk) hkj.symm
   have hj1:((items.set k (Dk.refI r s1)).set j (logI 121 g r t1 ls1 ep gn))[j]? = some (logI 121 g r t1 ls1 ep gn):=get_self (get_set hj hkj)
   have hall:=loc_at hx app_last
   have K3:Tb.Blk w7 w.heap.size 70 #[.int .u64 ls,.int .u32 ep,.int .i64 K,.int .u64 V,.int .u64 D,.string I,.string X]:=hall _ (List.mem_cons_self ..)
   have K4:Tb.Blk w7 (w.heap.size+1) 67 #[.int .i64 0,.int .i64 0]:=hall _ (List.mem_cons_of_mem _ (List.mem_cons_self ..))
   have hfit1:Rc.Fits ⟨ls1,ep,K,V,D,I.data.toList,X.data.toList⟩:=⟨by simp only; omega,by simp only; omega,hep.1,hep.2,hV.1,hV.2,hD.1,hD.2⟩
   have hR1:=okR_lsn (l':=ls1) HbR.out (by omega)
   clear hall
   go_wp2_with (with_reducible refine load_rr rfl (.tmp 3) rfl w.heap.size rfl K3 ?_)
   refine (rwr_any hx (app_at hk1) (app_at hj1) hkj ls ep K V D I X hls1 hfit1 hR1 (has_open hok1 hf1) hpl1 (secB ⟨ls1,ep,K,V,D,I.data.toList,X.data.toList⟩) (secB_eq _)).mono ?_
   rintro e' w8 ⟨rfl,h8⟩
   by_cases hd1:s1.dead
   ·have EW:wrS t1 s1 ls1 (secB ⟨ls1,ep,K,V,D,I.data.toList,X.data.toList⟩)=(s1,ls1,0,0,9):=if_pos hd1
    have EE:=Lib.hid (show RR=(s1,t1,ls1,0,0,9) by rw [HE3.out]; exact if_pos hd1)
    rw [EW] at h8 ⊢
    rw [keep2 (app_at hk1) (app_at hj1)] at h8
    have K4' : Tb.Blk w8 (w.heap.size+1) 67 #[.int .i64 0,.int .i64 0]:=loc_at h8 app_last _ (List.mem_cons_of_mem _ (List.mem_cons_self ..))
    have N7:Tb.Blk (w8.alloc (.cells #[.int .i64 0,.int .i64 0] 67)) w8.heap.size 67 #[.int .i64 0,.int .i64 0]:=Tb.Blk.new w8 _ _
    have hb3:Below w8.heap.size w8 ((w8.alloc (.cells #[.int .i64 0,.int .i64 0] 67)).setRow w8.heap.size #[.int .i64 0,.int .i64 0]):=Tb.below_row (Tb.below1 w8 _) (Nat.le_refl _) _
    clear EW
    go_upto_region 12 with (with_reducible refine store_loc rfl (.tmp 7) (.tmp 60) rfl w8.heap.size rfl rfl N7 ?_)
    replace h8:=h8.later hb3
    replace K4':=K4'.later hb3
    clear hb3 N7
    generalize (w8.alloc (.cells #[.int .i64 0,.int .i64 0] 67)).setRow w8.heap.size #[.int .i64 0,.int .i64 0]=w9 at *
    have hx9:=loc_row (l':=[(w.heap.size+1,67,#[.int .i64 0,.int .i64 0])]) h8 app_last (w.heap.size+1) ⟨_,List.mem_cons_of_mem _ (List.mem_cons_self ..),rfl⟩ #[.int .i64 0,.int .i64 0] (fun x hx=>by
     rcases List.mem_cons.1 hx with rfl|hx
     ·exact K4'.row _
     ·cases hx) (fun x hx=>⟨_,List.mem_cons_of_mem _ (List.mem_cons_self ..),by rcases List.mem_cons.1 hx with rfl|hx; rfl; cases hx⟩)
    rw [app_set_last] at hx9
    have H9:=Lib.hid (loc_drop hx9)
    clear hx9 h8
    go_wp2_with (with_reducible refine store_loc rfl (.tmp 4) (.tmp 64) rfl (w.heap.size+1) rfl rfl K4' ?_)
    exact bodyPost_ret (res_loc rfl _ _ (w.heap.size+1) rfl rfl (K4'.row _)) rfl ⟨by rw [EE.out]; rfl,by rw [EE.out]; exact H9.out⟩
   ·obtain ⟨L2,EL⟩:∃ x,ls1+1=x:=⟨_,rfl⟩
    obtain ⟨s2,Es2⟩:∃ x,s1.write (Tb.sectorT t1.st (lastN t1.o) (lastN t1.l)) (secB ⟨ls1,ep,K,V,D,I.data.toList,X.data.toList⟩)=x:=⟨_,rfl⟩
    obtain ⟨seg0,E1⟩:∃ x,lastN t1.o=x:=⟨_,rfl⟩
    obtain ⟨slo0,E2⟩:∃ x,lastN t1.l=x:=⟨_,rfl⟩
    obtain ⟨t2,Et2⟩:∃ x,Tb.countedT t1=x:=⟨_,rfl⟩
    have EW:wrS t1 s1 ls1 (secB ⟨ls1,ep,K,V,D,I.data.toList,X.data.toList⟩)=(s2,L2,seg0,slo0,0):=by rw [← EL,← Es2,← E1,← E2]; exact if_neg hd1
    have EE:=Lib.hid (show RR=(s2,t2,L2,seg0,slo0,0) by rw [HE3.out,← EL,← Es2,← E1,← E2,← Et2]; exact if_neg hd1)
    have hct:Tb.countT t1=some t2:=by rw [← Et2]; exact count_yes hfree1
    have hct' : Tb.countT ⟨t1.sg,t1.st,t1.o,t1.l,t1.f⟩=some t2:=hct
    have hok2:=Tb.count_ok hok1 hct
    rw [EW] at h8 ⊢
    have N7:Tb.Blk (w8.alloc (.cells #[.int .i64 0,.int .i64 0] 67)) w8.heap.size 67 #[.int .i64 0,.int .i64 0]:=Tb.Blk.new w8 _ _
    have hb3:Below w8.heap.size w8 ((w8.alloc (.cells #[.int .i64 0,.int .i64 0] 67)).setRow w8.heap.size #[.int .i64 seg0,.int .i64 slo0]):=Tb.below_row (Tb.below1 w8 _) (Nat.le_refl _) _
    have K7:Tb.Blk ((w8.alloc (.cells #[.int .i64 0,.int .i64 0] 67)).setRow w8.heap.size #[.int .i64 seg0,.int .i64 slo0]) w8.heap.size 67 #[.int .i64 seg0,.int .i64 slo0]:=N7.row _
    clear EW E1 E2 Es2 EL Et2
    go_upto_region 12 with (with_reducible refine store_loc rfl (.tmp 7) (.tmp 60) rfl w8.heap.size rfl rfl N7 ?_)
    replace h8:=h8.later hb3
    clear hb3 N7
    generalize (w8.alloc (.cells #[.int .i64 0,.int .i64 0] 67)).setRow w8.heap.size #[.int .i64 seg0,.int .i64 slo0]=w9 at *
    generalize w8.heap.size=b7 at *
    have hj8:(((((items.set k (Dk.refI r s1)).set j (logI 121 g r t1 ls1 ep gn))++[locI [(w.heap.size,70,#[.int .u64 ls,.int .u32 ep,.int .i64 K,.int .u64 V,.int .u64 D,.string I,.string X]),(w.heap.size+1,67,#[.int .i64 0,.int .i64 0])]]).set k (Dk.refI r s2)).set j (logI 121 g r t1 L2 ep gn))[j]? = some (logI 121 g r t1 L2 ep gn):=get_self (get_set (app_at hj1) hkj)
    obtain ⟨A8,m8,p8,B8,k8,q8,C8,n8,r8,hB8,ht8,_,_⟩:=log_at h8 hj8
    have HCO:=Lib.hid (Tb.refv (sg:=t2.sg) (st:=t2.st) (o:=t2.o) (l:=t2.l) (f':=t2.f) (y':=0) (Tb.rcount_any t1.sg t1.st A8 m8 p8 B8 k8 q8 C8 n8 r8 t1.o t1.l t1.f _ ht8 hok1) (by rw [hct']; rfl) (by rw [hct']; rfl))
    go_wp2_with (with_reducible refine load_lt rfl (.tmp 69) rfl g rfl hB8 ?_)
    refine HCO.out.mono ?_
    rintro e' w10 ⟨A9,m9,p9,B9,k9,q9,C9,n9,r9,rfl,t9,f9,hb⟩
    have N9:Tb.Blk (w10.alloc (.cells #[.int .i64 0,.int .i64 0,.slice none 0 0,.slice none 0 0,.slice none 0 0] 100)) w10.heap.size 100 (csT 0 0 none 0 0 none 0 0 none 0 0):=Tb.Blk.new w10 _ _
    go_upto_region 15 with (with_reducible refine Tb.store_r rfl (.tmp 9) (.tmp 72) rfl w10.heap.size rfl rfl N9 ?_)
    have hb3:Below w10.heap.size w10 ((w10.alloc (.cells #[.int .i64 0,.int .i64 0,.slice none 0 0,.slice none 0 0,.slice none 0 0] 100)).setRow w10.heap.size (csT t2.sg t2.st A9 m9 p9 B9 k9 q9 C9 n9 r9)):=Tb.below_row (Tb.below1 w10 _) (Nat.le_refl _) _
    have K9:Tb.Blk ((w10.alloc (.cells #[.int .i64 0,.int .i64 0,.slice none 0 0,.slice none 0 0,.slice none 0 0] 100)).setRow w10.heap.size (csT t2.sg t2.st A9 m9 p9 B9 k9 q9 C9 n9 r9)) w10.heap.size 100 (csT t2.sg t2.st A9 m9 p9 B9 k9 q9 C9 n9 r9):=N9.row _
    replace t9:=t9.later hb3
    have B2:=NewC.geTrans hb hb3
    replace hB8:=hB8.later B2
    replace K7:=K7.later B2
    clear hb hb3 N9 HCO
    generalize (w10.alloc (.cells #[.int .i64 0,.int .i64 0,.slice none 0 0,.slice none 0 0,.slice none 0 0] 100)).setRow w10.heap.size (csT t2.sg t2.st A9 m9 p9 B9 k9 q9 C9 n9 r9)=w11 at *
    generalize w10.heap.size=b9 at *
    have hA:=log_tab (p:=p9) (q:=q9) (r:=r9) h8 hj8 B2 t9 hok2 f9
    have hg7:g≠b7:=Ne.symm (blk_ne K7 hB8 (by decide))
    have K7' : Tb.Blk (w11.setRow g (csL r t2.sg t2.st A9 m9 p9 B9 k9 q9 C9 n9 r9 L2 ep gn)) b7 67 #[.int .i64 seg0,.int .i64 slo0]:=Tb.Blk.far K7 hg7 _
    clear t9 f9 B2 h8 ht8
    go_upto_region 16 with (first
     | (with_reducible refine Tb.load_r rfl (.tmp 9) rfl b9 rfl K9 ?_)
     | (with_reducible refine store_lt rfl (.tmp 77) (.tmp 75) rfl g rfl rfl hB8 ?_))
    clear K7 K9 hB8
    generalize w11.setRow g (csL r t2.sg t2.st A9 m9 p9 B9 k9 q9 C9 n9 r9 L2 ep gn)=w12 at *
    have hL:((((((items.set k (Dk.refI r s1)).set j (logI 121 g r t1 ls1 ep gn))++[locI [(w.heap.size,70,#[.int .u64 ls,.int .u32 ep,.int .i64 K,.int .u64 V,.int .u64 D,.string I,.string X]),(w.heap.size+1,67,#[.int .i64 0,.int .i64 0])]]).set k (Dk.refI r s2)).set j (logI 121 g r t1 L2 ep gn)).set j (logI 121 g r t2 L2 ep gn))=((items.set k (Dk.refI r s2)).set j (logI 121 g r t2 L2 ep gn))++[locI [(w.heap.size,70,#[.int .u64 ls,.int .u32 ep,.int .i64 K,.int .u64 V,.int .u64 D,.string I,.string X]),(w.heap.size+1,67,#[.int .i64 0,.int .i64 0])]]:=by
     rw [set_set,app_set hk1,app_set (get_set hj1 hkj),set4 hkj]
    rw [hL] at hA
    have K4' : Tb.Blk w12 (w.heap.size+1) 67 #[.int .i64 0,.int .i64 0]:=loc_at hA app_last _ (List.mem_cons_of_mem _ (List.mem_cons_self ..))
    have hx9:=loc_row (l':=[(w.heap.size+1,67,#[.int .i64 seg0,.int .i64 slo0])]) hA app_last (w.heap.size+1) ⟨_,List.mem_cons_of_mem _ (List.mem_cons_self ..),rfl⟩ #[.int .i64 seg0,.int .i64 slo0] (fun x hx=>by
     rcases List.mem_cons.1 hx with rfl|hx
     ·exact K4'.row _
     ·cases hx) (fun x hx=>⟨_,List.mem_cons_of_mem _ (List.mem_cons_self ..),by rcases List.mem_cons.1 hx with rfl|hx; rfl; cases hx⟩)
    rw [app_set_last] at hx9
    have H9:=Lib.hid (loc_drop hx9)
    clear hx9 hA hL
    go_wp2_with (first
     | (with_reducible refine load_loc rfl (.tmp 7) rfl b7 rfl K7' ?_)
     | (with_reducible refine store_loc rfl (.tmp 4) (.tmp 78) rfl (w.heap.size+1) rfl rfl K4' ?_))
    exact bodyPost_ret (res_loc rfl _ _ (w.heap.size+1) rfl rfl (K4'.row _)) rfl ⟨by rw [EE.out]; rfl,by rw [EE.out]; exact H9.out⟩
  ·have EE:=Lib.hid (show RR=(s1,t1,ls1,0,0,e1) from HE3c.out.trans (if_pos he))
   have q5:(e1 != 0)=true:=by simp [he]
   have K4' : Tb.Blk w7 (w.heap.size+1) 67 #[.int .i64 0,.int .i64 0]:=loc_at h7 app_last _ (List.mem_cons_of_mem _ (List.mem_cons_self ..))
   have hx9:=loc_row (l':=[(w.heap.size+1,67,#[.int .i64 0,.int .i64 0])]) h7 app_last (w.heap.size+1) ⟨_,List.mem_cons_of_mem _ (List.mem_cons_self ..),rfl⟩ #[.int .i64 0,.int .i64 0] (fun x hx=>by
    rcases List.mem_cons.1 hx with rfl|hx
    ·exact K4'.row _
    ·cases hx) (fun x hx=>⟨_,List.mem_cons_of_mem _ (List.mem_cons_self ..),by rcases List.mem_cons.1 hx with rfl|hx; rfl; cases hx⟩)
   rw [app_set_last] at hx9
   have H9:=Lib.hid (loc_drop hx9)
   clear hx9 h7 hx hSF EZ
   go_wp2_with (with_reducible refine store_loc rfl (.tmp 4) (.tmp 54) rfl (w.heap.size+1) rfl rfl K4' ?_)
   exact bodyPost_ret (res_loc rfl _ _ (w.heap.size+1) rfl rfl (K4'.row _)) rfl ⟨by rw [EE.out]; rfl,by rw [EE.out]; exact H9.out⟩
 ·have q4:(so1 == t.st)=false:=by simp [hfull]
  have ESI:sealIf t s ls ep=(s,t,ls,0):=if_neg (by rw [H2.out]; exact hfull)
  have HE3b:=HE3a.out
  rw [ESI] at HE3b
  have HE3:=Lib.hid (show RR=_ from HE3b.trans (if_neg (by simp)))
  have hfree1:lastN t.l≠t.st:=by rw [H2.out]; exact hfull
  have hpl1:s.pend.length<1048576:=by omega
  have hls1:1≤ls∧ls+1<18446744073709551616:=⟨hls.1,by omega⟩
  have hok1:=hok
  have hf1:=hf
  rw [← keep2 hk hj] at hx
  clear hfull ESI HE3b HE3a
  go_upto_region 11 with fail
  have hk1:((items.set k (Dk.refI r s)).set j (logI 121 g r t ls ep gn))[k]? = some (Dk.refI r s):=get_set (get_self hk) hkj.symm
  have hj1:((items.set k (Dk.refI r s)).set j (logI 121 g r t ls ep gn))[j]? = some (logI 121 g r t ls ep gn):=get_self (get_set hj hkj)
  have hall:=loc_at hx app_last
  have K3:Tb.Blk W6 w.heap.size 70 #[.int .u64 ls,.int .u32 ep,.int .i64 K,.int .u64 V,.int .u64 D,.string I,.string X]:=hall _ (List.mem_cons_self ..)
  have K4:Tb.Blk W6 (w.heap.size+1) 67 #[.int .i64 0,.int .i64 0]:=hall _ (List.mem_cons_of_mem _ (List.mem_cons_self ..))
  have hfit1:Rc.Fits ⟨ls,ep,K,V,D,I.data.toList,X.data.toList⟩:=⟨by simp only; omega,by simp only; omega,hep.1,hep.2,hV.1,hV.2,hD.1,hD.2⟩
  have hR1:=okR_lsn (l':=ls) HbR.out (by omega)
  clear hall
  go_wp2_with (with_reducible refine load_rr rfl (.tmp 3) rfl w.heap.size rfl K3 ?_)
  refine (rwr_any hx (app_at hk1) (app_at hj1) hkj ls ep K V D I X hls1 hfit1 hR1 (has_open hok1 hf1) hpl1 (secB ⟨ls,ep,K,V,D,I.data.toList,X.data.toList⟩) (secB_eq _)).mono ?_
  rintro e' w8 ⟨rfl,h8⟩
  by_cases hd1:s.dead
  ·have EW:wrS t s ls (secB ⟨ls,ep,K,V,D,I.data.toList,X.data.toList⟩)=(s,ls,0,0,9):=if_pos hd1
   have EE:=Lib.hid (show RR=(s,t,ls,0,0,9) by rw [HE3.out]; exact if_pos hd1)
   rw [EW] at h8 ⊢
   rw [keep2 (app_at hk1) (app_at hj1)] at h8
   have K4' : Tb.Blk w8 (w.heap.size+1) 67 #[.int .i64 0,.int .i64 0]:=loc_at h8 app_last _ (List.mem_cons_of_mem _ (List.mem_cons_self ..))
   have N7:Tb.Blk (w8.alloc (.cells #[.int .i64 0,.int .i64 0] 67)) w8.heap.size 67 #[.int .i64 0,.int .i64 0]:=Tb.Blk.new w8 _ _
   have hb3:Below w8.heap.size w8 ((w8.alloc (.cells #[.int .i64 0,.int .i64 0] 67)).setRow w8.heap.size #[.int .i64 0,.int .i64 0]):=Tb.below_row (Tb.below1 w8 _) (Nat.le_refl _) _
   clear EW
   go_upto_region 12 with (with_reducible refine store_loc rfl (.tmp 7) (.tmp 60) rfl w8.heap.size rfl rfl N7 ?_)
   replace h8:=h8.later hb3
   replace K4':=K4'.later hb3
   clear hb3 N7
   generalize (w8.alloc (.cells #[.int .i64 0,.int .i64 0] 67)).setRow w8.heap.size #[.int .i64 0,.int .i64 0]=w9 at *
   have hx9:=loc_row (l':=[(w.heap.size+1,67,#[.int .i64 0,.int .i64 0])]) h8 app_last (w.heap.size+1) ⟨_,List.mem_cons_of_mem _ (List.mem_cons_self ..),rfl⟩ #[.int .i64 0,.int .i64 0] (fun x hx=>by
    rcases List.mem_cons.1 hx with rfl|hx
    ·exact K4'.row _
    ·cases hx) (fun x hx=>⟨_,List.mem_cons_of_mem _ (List.mem_cons_self ..),by rcases List.mem_cons.1 hx with rfl|hx; rfl; cases hx⟩)
   rw [app_set_last] at hx9
   have H9:=Lib.hid (loc_drop hx9)
   clear hx9 h8
   go_wp2_with (with_reducible refine store_loc rfl (.tmp 4) (.tmp 64) rfl (w.heap.size+1) rfl rfl K4' ?_)
   exact bodyPost_ret (res_loc rfl _ _ (w.heap.size+1) rfl rfl (K4'.row _)) rfl ⟨by rw [EE.out]; rfl,by rw [EE.out]; exact H9.out⟩
  ·obtain ⟨L2,EL⟩:∃ x,ls+1=x:=⟨_,rfl⟩
   obtain ⟨s2,Es2⟩:∃ x,s.write (Tb.sectorT t.st (lastN t.o) (lastN t.l)) (secB ⟨ls,ep,K,V,D,I.data.toList,X.data.toList⟩)=x:=⟨_,rfl⟩
   obtain ⟨seg0,E1⟩:∃ x,lastN t.o=x:=⟨_,rfl⟩
   obtain ⟨slo0,E2⟩:∃ x,lastN t.l=x:=⟨_,rfl⟩
   obtain ⟨t2,Et2⟩:∃ x,Tb.countedT t=x:=⟨_,rfl⟩
   have EW:wrS t s ls (secB ⟨ls,ep,K,V,D,I.data.toList,X.data.toList⟩)=(s2,L2,seg0,slo0,0):=by rw [← EL,← Es2,← E1,← E2]; exact if_neg hd1
   have EE:=Lib.hid (show RR=(s2,t2,L2,seg0,slo0,0) by rw [HE3.out,← EL,← Es2,← E1,← E2,← Et2]; exact if_neg hd1)
   have hct:Tb.countT t=some t2:=by rw [← Et2]; exact count_yes hfree1
   have hct' : Tb.countT ⟨t.sg,t.st,t.o,t.l,t.f⟩=some t2:=hct
   have hok2:=Tb.count_ok hok1 hct
   rw [EW] at h8 ⊢
   have N7:Tb.Blk (w8.alloc (.cells #[.int .i64 0,.int .i64 0] 67)) w8.heap.size 67 #[.int .i64 0,.int .i64 0]:=Tb.Blk.new w8 _ _
   have hb3:Below w8.heap.size w8 ((w8.alloc (.cells #[.int .i64 0,.int .i64 0] 67)).setRow w8.heap.size #[.int .i64 seg0,.int .i64 slo0]):=Tb.below_row (Tb.below1 w8 _) (Nat.le_refl _) _
   have K7:Tb.Blk ((w8.alloc (.cells #[.int .i64 0,.int .i64 0] 67)).setRow w8.heap.size #[.int .i64 seg0,.int .i64 slo0]) w8.heap.size 67 #[.int .i64 seg0,.int .i64 slo0]:=N7.row _
   clear EW E1 E2 Es2 EL Et2
   go_upto_region 12 with (with_reducible refine store_loc rfl (.tmp 7) (.tmp 60) rfl w8.heap.size rfl rfl N7 ?_)
   replace h8:=h8.later hb3
   clear hb3 N7
   generalize (w8.alloc (.cells #[.int .i64 0,.int .i64 0] 67)).setRow w8.heap.size #[.int .i64 seg0,.int .i64 slo0]=w9 at *
   generalize w8.heap.size=b7 at *
   have hj8:(((((items.set k (Dk.refI r s)).set j (logI 121 g r t ls ep gn))++[locI [(w.heap.size,70,#[.int .u64 ls,.int .u32 ep,.int .i64 K,.int .u64 V,.int .u64 D,.string I,.string X]),(w.heap.size+1,67,#[.int .i64 0,.int .i64 0])]]).set k (Dk.refI r s2)).set j (logI 121 g r t L2 ep gn))[j]? = some (logI 121 g r t L2 ep gn):=get_self (get_set (app_at hj1) hkj)
   obtain ⟨A8,m8,p8,B8,k8,q8,C8,n8,r8,hB8,ht8,_,_⟩:=log_at h8 hj8
   have HCO:=Lib.hid (Tb.refv (sg:=t2.sg) (st:=t2.st) (o:=t2.o) (l:=t2.l) (f':=t2.f) (y':=0) (Tb.rcount_any t.sg t.st A8 m8 p8 B8 k8 q8 C8 n8 r8 t.o t.l t.f _ ht8 hok1) (by rw [hct']; rfl) (by rw [hct']; rfl))
   go_wp2_with (with_reducible refine load_lt rfl (.tmp 69) rfl g rfl hB8 ?_)
   refine HCO.out.mono ?_
   rintro e' w10 ⟨A9,m9,p9,B9,k9,q9,C9,n9,r9,rfl,t9,f9,hb⟩
   have N9:Tb.Blk (w10.alloc (.cells #[.int .i64 0,.int .i64 0,.slice none 0 0,.slice none 0 0,.slice none 0 0] 100)) w10.heap.size 100 (csT 0 0 none 0 0 none 0 0 none 0 0):=Tb.Blk.new w10 _ _
   go_upto_region 15 with (with_reducible refine Tb.store_r rfl (.tmp 9) (.tmp 72) rfl w10.heap.size rfl rfl N9 ?_)
   have hb3:Below w10.heap.size w10 ((w10.alloc (.cells #[.int .i64 0,.int .i64 0,.slice none 0 0,.slice none 0 0,.slice none 0 0] 100)).setRow w10.heap.size (csT t2.sg t2.st A9 m9 p9 B9 k9 q9 C9 n9 r9)):=Tb.below_row (Tb.below1 w10 _) (Nat.le_refl _) _
   have K9:Tb.Blk ((w10.alloc (.cells #[.int .i64 0,.int .i64 0,.slice none 0 0,.slice none 0 0,.slice none 0 0] 100)).setRow w10.heap.size (csT t2.sg t2.st A9 m9 p9 B9 k9 q9 C9 n9 r9)) w10.heap.size 100 (csT t2.sg t2.st A9 m9 p9 B9 k9 q9 C9 n9 r9):=N9.row _
   replace t9:=t9.later hb3
   have B2:=NewC.geTrans hb hb3
   replace hB8:=hB8.later B2
   replace K7:=K7.later B2
   clear hb hb3 N9 HCO
   generalize (w10.alloc (.cells #[.int .i64 0,.int .i64 0,.slice none 0 0,.slice none 0 0,.slice none 0 0] 100)).setRow w10.heap.size (csT t2.sg t2.st A9 m9 p9 B9 k9 q9 C9 n9 r9)=w11 at *
   generalize w10.heap.size=b9 at *
   have hA:=log_tab (p:=p9) (q:=q9) (r:=r9) h8 hj8 B2 t9 hok2 f9
   have hg7:g≠b7:=Ne.symm (blk_ne K7 hB8 (by decide))
   have K7' : Tb.Blk (w11.setRow g (csL r t2.sg t2.st A9 m9 p9 B9 k9 q9 C9 n9 r9 L2 ep gn)) b7 67 #[.int .i64 seg0,.int .i64 slo0]:=Tb.Blk.far K7 hg7 _
   clear t9 f9 B2 h8 ht8
   go_upto_region 16 with (first
    | (with_reducible refine Tb.load_r rfl (.tmp 9) rfl b9 rfl K9 ?_)
    | (with_reducible refine store_lt rfl (.tmp 77) (.tmp 75) rfl g rfl rfl hB8 ?_))
   clear K7 K9 hB8
   generalize w11.setRow g (csL r t2.sg t2.st A9 m9 p9 B9 k9 q9 C9 n9 r9 L2 ep gn)=w12 at *
   have hL:((((((items.set k (Dk.refI r s)).set j (logI 121 g r t ls ep gn))++[locI [(w.heap.size,70,#[.int .u64 ls,.int .u32 ep,.int .i64 K,.int .u64 V,.int .u64 D,.string I,.string X]),(w.heap.size+1,67,#[.int .i64 0,.int .i64 0])]]).set k (Dk.refI r s2)).set j (logI 121 g r t L2 ep gn)).set j (logI 121 g r t2 L2 ep gn))=((items.set k (Dk.refI r s2)).set j (logI 121 g r t2 L2 ep gn))++[locI [(w.heap.size,70,#[.int .u64 ls,.int .u32 ep,.int .i64 K,.int .u64 V,.int .u64 D,.string I,.string X]),(w.heap.size+1,67,#[.int .i64 0,.int .i64 0])]]:=by
    rw [set_set,app_set hk1,app_set (get_set hj1 hkj),set4 hkj]
   rw [hL] at hA
   have K4' : Tb.Blk w12 (w.heap.size+1) 67 #[.int .i64 0,.int .i64 0]:=loc_at hA app_last _ (List.mem_cons_of_mem _ (List.mem_cons_self ..))
   have hx9:=loc_row (l':=[(w.heap.size+1,67,#[.int .i64 seg0,.int .i64 slo0])]) hA app_last (w.heap.size+1) ⟨_,List.mem_cons_of_mem _ (List.mem_cons_self ..),rfl⟩ #[.int .i64 seg0,.int .i64 slo0] (fun x hx=>by
    rcases List.mem_cons.1 hx with rfl|hx
    ·exact K4'.row _
    ·cases hx) (fun x hx=>⟨_,List.mem_cons_of_mem _ (List.mem_cons_self ..),by rcases List.mem_cons.1 hx with rfl|hx; rfl; cases hx⟩)
   rw [app_set_last] at hx9
   have H9:=Lib.hid (loc_drop hx9)
   clear hx9 hA hL
   go_wp2_with (first
    | (with_reducible refine load_loc rfl (.tmp 7) rfl b7 rfl K7' ?_)
    | (with_reducible refine store_loc rfl (.tmp 4) (.tmp 78) rfl (w.heap.size+1) rfl rfl K4' ?_))
   exact bodyPost_ret (res_loc rfl _ _ (w.heap.size+1) rfl rfl (K4'.row _)) rfl ⟨by rw [EE.out]; rfl,by rw [EE.out]; exact H9.out⟩
end Go.Proofs.YtdpmjlbkojhooaaGreat.Lg
namespace Go.Proofs.YtdpmjlbkojhooaaGreat.Lg
open Go.RowKit Go.Lib
open Tb (Tab TIn Sl okP csT lastN nth Fresh)
open Dk (St Only Grew)
set_option linter.unusedVariables false
set_option maxRecDepth 100000
def zero7:Array Value:=#[.int .u64 0,.int .u32 0,.int .i64 0,.int .u64 0,.int .u64 0,.string ⟨#[]⟩,.string ⟨#[]⟩]
def cutC (s:ByteArray):Array Value :=
 if Rc.isSec s.data.toList=true then #[.int .u64 (Rc.cutR s.data.toList).l,.int .u32 (Rc.cutR s.data.toList).e,.int .i64 (Rc.cutR s.data.toList).k,.int .u64 (Rc.cutR s.data.toList).v,.int .u64 (Rc.cutR s.data.toList).d,.string ⟨(Rc.cutR s.data.toList).i.toArray⟩,.string ⟨(Rc.cutR s.data.toList).a.toArray⟩] else zero7
def decE (s:ByteArray):Int:=if Rc.isSec s.data.toList=true then 0 else 5
theorem cutC_one (s:ByteArray):(cutC s).all (·.oneCell')=true:=by
 unfold cutC zero7
 split <;> simp [Value.oneCell']
theorem cutC_size (s:ByteArray):(cutC s).size=7:=by
 unfold cutC zero7
 split <;> rfl
theorem rdecode_any (s:ByteArray) (w:World) (hs:s.size≤maxLen):Calls Tryz.prog 106 #[.string s] w fun e' w'=>e' = .returned (.tuple #[.agg (cutC s),.int .i64 (decE s)])∧Below w.heap.size w w':=by
 refine Rc.R6.decode_is s (Rc.cutR s.data.toList).l (Rc.cutR s.data.toList).e (Rc.cutR s.data.toList).k (Rc.cutR s.data.toList).v (Rc.cutR s.data.toList).d ⟨(Rc.cutR s.data.toList).i.toArray⟩ ⟨(Rc.cutR s.data.toList).a.toArray⟩ w hs (by simp) (.agg (cutC s)) (decE s) ?_
 cases h:Rc.isSec s.data.toList with
 | true=>exact .inl ⟨rfl,by unfold cutC; rw [if_pos h],by unfold decE; rw [if_pos h]⟩
 | false=>exact .inr ⟨rfl,by unfold cutC; rw [if_neg (by rw [h]; decide)]; rfl,by unfold decE; rw [if_neg (by rw [h]; decide)]⟩
def readS (t:Tab) (s:St) (seg slot:Int):Array Value × Int :=
 if slot<0∨Tb.lenT t seg≤slot then (zero7,3) else (cutC (s.cur (Tb.sectorT t.st seg slot)),decE (s.cur (Tb.sectorT t.st seg slot)))
theorem info_rec:(Tryz.prog.info? 70).map (·.size)=some 7:=by kernel_rfl
section
variable {ops:Array Oper} {rest:List Oper} {o:Oper} {a:Act} {w:World} {Q:Exit→Act→World→Prop}
theorem store_rec (hgd:o.guard=none) (x y:Operand) (ho:o.op=.store 70 x y) (b:Nat) (hx:a.eval x=.pointer (some ⟨b,0,none⟩)) {cs old:Array Value} (hy:a.eval y=.agg cs) {t:TypeId} (hg:Tb.Blk w b t old) (hs:cs.size=7) (hz:old.size=7) (h1:cs.all (·.oneCell')=true)
 (h:wpList Tryz.prog ops Q rest (a.put o.dst undef) (w.setRow b cs)):wpList Tryz.prog ops Q (o :: rest) a w :=
 wpList_store_row hgd _ x y ho b cs hx hy _ _ hg (by rw [hs]; exact info_rec) (by rw [hs,hz]) h1 h
end
theorem res_rec {fn:Func} {p' q' : Tmp} (h:fn.results=#[.cell p' 70,.tmp q']) (tmps:Array Value) (W:World) (b:Nat) {cs:Array Value} {t:TypeId} {y:Value} (hp:tmps.getD p' undef=.pointer (some ⟨b,0,none⟩)) (hq:tmps.getD q' undef=y) (L:Tb.Blk W b t cs) (hs:cs.size=7) :
 (results fn tmps).run Tryz.prog W=.ok (.tuple #[.agg cs,y]) W:=by
 have hp' : tmps[p']?.getD undef=.pointer (some ⟨b,0,none⟩):=by simpa using hp
 have hq' : tmps[q']?.getD undef=y:=by simpa using hq
 have h1:(loadVar 70 ⟨b,0,none⟩).run Tryz.prog W=.ok (.agg cs) W:=run_loadVar_row W b t 70 cs (0,0) _ L Tryz.underlying70 rfl (by rw [hs]; exact info_rec)
 simp [results,h,hp',hq',asAddr,h1]
theorem len_in {t:Tab} {seg slot:Int} (h0:0≤slot) (h:slot<Tb.lenT t seg):seg∈t.o:=by
 unfold Tb.lenT at h
 split at h
 ·omega
 ·rename_i hn
  exact Decidable.byContradiction fun hm=>hn (Tb.idx_neg.2 hm)
theorem len_le {t:Tab} {seg:Int} (hok:okP t):Tb.lenT t seg≤t.st:=by
 unfold Tb.lenT
 split
 ·have:=hok.2.1; omega
 ·have hi:=Tb.idx_lt (l:=t.o) (x:=seg)
  have:=hok.2.2.2.2.2.1 (nth t.l (Tb.idx t.o seg).toNat) (Tb.nth_mem (by have:=hok.2.2.2.2.2.2.1; omega))
  omega
set_option maxHeartbeats 16000000 in
theorem rread_any {W0 w:World} {items:List Dk.Item} {k j g r:Nat} {s:St} {t:Tab} {ls ep gn:Int} (h:Dk.Sep W0 w items) (hk:items[k]? = some (Dk.refI r s)) (hj:items[j]? = some (logI 121 g r t ls ep gn)) (seg slot:Int) (hgood:s.Good) (hf:FitS t s) (hpl:s.pend.length<1048576) :
 Calls Tryz.prog 60 #[.pointer (some ⟨g,0,none⟩),.agg #[.int .i64 seg,.int .i64 slot]] w fun e w'=>e=.returned (.tuple #[.agg (readS t s seg slot).1,.int .i64 (readS t s seg slot).2])∧Below w.heap.size w w':=by
 have hvR:=Tryz.zeroValue70
 have HH:=Lib.hid h
 have HOK:=log_ok h hj
 obtain ⟨RR,HRR⟩:∃ z,Hid (readS t s seg slot=z):=⟨_,Lib.hid rfl⟩
 rw [HRR.out]
 have B0:Below w.heap.size w ((w.alloc (.cells #[.int .i64 seg,.int .i64 slot] 67)).alloc (.cells #[.int .u64 0,.int .u32 0,.int .i64 0,.int .u64 0,.int .u64 0,.string ⟨#[]⟩,.string ⟨#[]⟩] 70)):=NewC.geTrans (NewC.below1 _ _) (NewC.below1 _ _)
 have K3:Tb.Blk ((w.alloc (.cells #[.int .i64 seg,.int .i64 slot] 67)).alloc (.cells #[.int .u64 0,.int .u32 0,.int .i64 0,.int .u64 0,.int .u64 0,.string ⟨#[]⟩,.string ⟨#[]⟩] 70)) w.heap.size 67 #[.int .i64 seg,.int .i64 slot]:=(Tb.Blk.new w _ _).later (NewC.below1 _ _)
 have K4:Tb.Blk ((w.alloc (.cells #[.int .i64 seg,.int .i64 slot] 67)).alloc (.cells #[.int .u64 0,.int .u32 0,.int .i64 0,.int .u64 0,.int .u64 0,.string ⟨#[]⟩,.string ⟨#[]⟩] 70)) (w.heap.size+1) 70 #[.int .u64 0,.int .u32 0,.int .i64 0,.int .u64 0,.int .u64 0,.string ⟨#[]⟩,.string ⟨#[]⟩]:=Tb.Blk.at_ _ _ _ (by simp)
 clear h
 go_enter Tryz.func60,Tryz.ntmps60
 go_upto_region 1 with fail
 generalize ((w.alloc (.cells #[.int .i64 seg,.int .i64 slot] 67)).alloc (.cells #[.int .u64 0,.int .u32 0,.int .i64 0,.int .u64 0,.int .u64 0,.string ⟨#[]⟩,.string ⟨#[]⟩] 70))=W1 at *
 obtain ⟨A,m,p,B,k1,q,C,n,r1,hB,ht,_,hok⟩:=log_at (HH.out.later B0) hj
 have hm:=(Tb.ok_full hok ht).2.2.2.2.1
 have hlo:t.l.length=t.o.length:=hok.2.2.2.2.2.2.1
 obtain ⟨L,HL⟩:∃ z,Hid (Tb.lenT t seg=z):=⟨_,Lib.hid rfl⟩
 have Q1:Hid (∀ W,Below W1.heap.size W1 W→Calls Tryz.prog 102 #[.agg #[.int .i64 t.sg,.int .i64 t.st,.slice A m p,.slice B k1 q,.slice C n r1],.int .i64 seg] W fun e w'=>e=.returned (.int .i64 L)∧Below W.heap.size W w'):=Lib.hid (fun W hb=>Tb.rlen_is t.sg t.st A m p B k1 q C n r1 t.o t.l t.f seg L W (ht.later hb) hm hlo HL.out)
 have I:Below W1.heap.size W1 { W1 with drawn:=W1.drawn+1 }:=(Below.refl _ _).drew
 have hne:Nonempty (In (fun W=>Below W1.heap.size W1 W)):=⟨⟨_,I⟩⟩
 have f0:∀ jj:In (fun W=>Below W1.heap.size W1 W),jj.W.cell? ⟨g,0,none⟩=some (.pointer (some ⟨r,0,none⟩)):=fun jj=>(hB.later jj.h).cell 0
 have f1:∀ jj:In (fun W=>Below W1.heap.size W1 W),jj.W.cell? ⟨g,1,none⟩=some (.int .i64 t.sg):=fun jj=>(hB.later jj.h).cell 1
 have f2:∀ jj:In (fun W=>Below W1.heap.size W1 W),jj.W.cell? ⟨g,2,none⟩=some (.int .i64 t.st):=fun jj=>(hB.later jj.h).cell 2
 have f3:∀ jj:In (fun W=>Below W1.heap.size W1 W),jj.W.cell? ⟨g,3,none⟩=some (.slice A m p):=fun jj=>(hB.later jj.h).cell 3
 have f4:∀ jj:In (fun W=>Below W1.heap.size W1 W),jj.W.cell? ⟨g,4,none⟩=some (.slice B k1 q):=fun jj=>(hB.later jj.h).cell 4
 have f5:∀ jj:In (fun W=>Below W1.heap.size W1 W),jj.W.cell? ⟨g,5,none⟩=some (.slice C n r1):=fun jj=>(hB.later jj.h).cell 5
 have fl0:∀ jj:In (fun W=>Below W1.heap.size W1 W),jj.W.cell? ⟨w.heap.size,0,none⟩=some (.int .i64 seg):=fun jj=>(K3.later jj.h).cell 0
 have fl1:∀ jj:In (fun W=>Below W1.heap.size W1 W),jj.W.cell? ⟨w.heap.size,1,none⟩=some (.int .i64 slot):=fun jj=>(K3.later jj.h).cell 1
 by_cases h0:slot<0
 ·have EE:=Lib.hid (show RR=(zero7,3) by rw [← HRR.out]; exact if_pos (.inl h0))
  refine region_class (fun W=>Below W1.heap.size W1 W) (by kernel_rfl) (by kernel_rfl) I ?_
  repeat (go_big_quiet_step (first
   | (go_at_call 102; with_reducible exact class_call _ (fun hi=>(Q1.out _ hi).mono fun e w' ⟨he,hb⟩=>⟨he,hi.trans (hb.mono hi.size)⟩))))
  refine wpQuiet_nil ?_
  rintro _ ⟨jj,rfl⟩
  have BB:=Lib.hid (Tb.below_row (NewC.geTrans B0 jj.h) (show w.heap.size≤w.heap.size+1 by omega) #[.int .u64 0,.int .u32 0,.int .i64 0,.int .u64 0,.int .u64 0,.string ⟨#[]⟩,.string ⟨#[]⟩])
  replace K4:=K4.later jj.h
  clear Q1 I hne f0 f1 f2 f3 f4 f5 fl0 fl1
  generalize jj.W=W2 at *
  go_wp2_with (with_reducible refine store_rec rfl (.tmp 4) (.tmp 23) rfl (w.heap.size+1) rfl rfl K4 rfl rfl ?_ ?_)
  ·simp [Value.oneCell']
  exact bodyPost_ret (res_rec rfl _ _ (w.heap.size+1) rfl rfl (K4.row _) rfl) rfl ⟨by rw [EE.out]; rfl,BB.out⟩
 by_cases h1:L≤slot
 ·have EE:=Lib.hid (show RR=(zero7,3) by rw [← HRR.out]; exact if_pos (.inr (by rw [HL.out]; exact h1)))
  refine region_class (fun W=>Below W1.heap.size W1 W) (by kernel_rfl) (by kernel_rfl) I ?_
  repeat (go_big_quiet_step (first
   | (go_at_call 102; with_reducible exact class_call _ (fun hi=>(Q1.out _ hi).mono fun e w' ⟨he,hb⟩=>⟨he,hi.trans (hb.mono hi.size)⟩))))
  refine wpQuiet_nil ?_
  rintro _ ⟨jj,rfl⟩
  have BB:=Lib.hid (Tb.below_row (NewC.geTrans B0 jj.h) (show w.heap.size≤w.heap.size+1 by omega) #[.int .u64 0,.int .u32 0,.int .i64 0,.int .u64 0,.int .u64 0,.string ⟨#[]⟩,.string ⟨#[]⟩])
  replace K4:=K4.later jj.h
  clear Q1 I hne f0 f1 f2 f3 f4 f5 fl0 fl1
  generalize jj.W=W2 at *
  go_wp2_with (with_reducible refine store_rec rfl (.tmp 4) (.tmp 23) rfl (w.heap.size+1) rfl rfl K4 rfl rfl ?_ ?_)
  ·simp [Value.oneCell']
  exact bodyPost_ret (res_rec rfl _ _ (w.heap.size+1) rfl rfl (K4.row _) rfl) rfl ⟨by rw [EE.out]; rfl,BB.out⟩
 ·obtain ⟨i0,Hi⟩:∃ z,Hid (Tb.sectorT t.st seg slot=z):=⟨_,Lib.hid rfl⟩
  obtain ⟨S,HS⟩:∃ z,Hid (s.cur i0=z):=⟨_,Lib.hid rfl⟩
  have EE:=Lib.hid (show RR=(cutC S,decE S) by rw [← HRR.out,← HS.out,← Hi.out]; exact if_neg (by rw [HL.out]; omega))
  have hseg:=len_in (t:=t) (seg:=seg) (slot:=slot) (by omega) (by rw [HL.out]; omega)
  have hhas:s.has i0:=by
   rw [← Hi.out]
   have:=len_le (seg:=seg) hok
   rw [HL.out] at this
   exact has_sector hok hf (hok.2.2.2.1 _ hseg) ⟨by omega,by omega⟩
  have hS:S.size≤maxLen:=by rw [← HS.out,Dk.cur_size hgood]; unfold maxLen; omega
  have Q2:Hid (∀ W,Calls Tryz.prog 105 #[.int .i64 t.st,.agg #[.int .i64 seg,.int .i64 slot]] W fun e w'=>e=.returned (.int .i64 i0)∧Below W.heap.size W w'):=Lib.hid (fun W=>by rw [← Hi.out]; exact Tb.rsector_any t.st seg slot W)
  have Q3:Hid (∀ W,Below w.heap.size w W→Calls Tryz.prog 61 #[.pointer (some ⟨r,0,none⟩),.int .i64 i0] W fun e w'=>e=.returned (.tuple #[.string S,.int .i64 0])∧W=w'):=Lib.hid (fun W hb=>by rw [← HS.out]; exact Dk.rread_s (HH.out.later hb) hk i0 hhas hpl)
  have HB1:=Lib.hid hB
  have HK3:=Lib.hid K3
  refine region_class (fun W=>Below W1.heap.size W1 W) (by kernel_rfl) (by kernel_rfl) I ?_
  repeat (go_big_quiet_step (first
   | (go_at_call 102; with_reducible exact class_call _ (fun hi=>(Q1.out _ hi).mono fun e w' ⟨he,hb⟩=>⟨he,hi.trans (hb.mono hi.size)⟩))))
  refine wpQuiet_nil ?_
  rintro _ ⟨jj,rfl⟩
  have hb2:=jj.h
  generalize jj.W=W2 at *
  clear jj
  have I2:Below W1.heap.size W1 { W2 with drawn:=W2.drawn+1 }:=hb2.drew
  go_wp2_with fail
  refine region_class (fun W=>Below W1.heap.size W1 W) (by kernel_rfl) (by kernel_rfl) I2 ?_
  repeat (go_big_quiet_step (first
   | (go_at_call 105; with_reducible exact class_call _ (fun hi=>(Q2.out _).mono fun e w' ⟨he,hb⟩=>⟨he,hi.trans (hb.mono hi.size)⟩))
   | (go_at_call 61; with_reducible exact class_call _ (fun hi=>(Q3.out _ (NewC.geTrans B0 hi)).mono fun e w' ⟨he,hb⟩=>⟨he,hb ▸ hi⟩))))
  refine wpQuiet_nil ?_
  rintro _ ⟨jj,rfl⟩
  have hb3:=jj.h
  generalize jj.W=W3 at *
  clear jj Q1 Q2 Q3 I I2 hne f0 f1 f2 f3 f4 f5 fl0 fl1 hb2
  go_wp2_with fail
  refine (rdecode_any S _ hS).mono ?_
  rintro e' W4 ⟨rfl,hb⟩
  replace K4:=(K4.later hb3).later hb
  have BB:=Lib.hid (Tb.below_row (NewC.geTrans (NewC.geTrans B0 hb3) hb) (show w.heap.size≤w.heap.size+1 by omega) (cutC S))
  clear hb hb3
  obtain ⟨cc,Hcc⟩:∃ z,Hid (cutC S=z):=⟨_,Lib.hid rfl⟩
  have hc7:cc.size=7:=by rw [← Hcc.out]; exact cutC_size S
  have hc1:cc.all (·.oneCell')=true:=by rw [← Hcc.out]; exact cutC_one S
  rw [Hcc.out]
  go_wp2_with (with_reducible refine store_rec rfl (.tmp 4) (.tmp 41) rfl (w.heap.size+1) rfl rfl K4 hc7 rfl hc1 ?_)
  exact bodyPost_ret (res_rec rfl _ _ (w.heap.size+1) rfl rfl (K4.row _) hc7) rfl ⟨by rw [EE.out,← Hcc.out]; rfl,by rw [← Hcc.out]; exact BB.out⟩
end Go.Proofs.YtdpmjlbkojhooaaGreat.Lg
