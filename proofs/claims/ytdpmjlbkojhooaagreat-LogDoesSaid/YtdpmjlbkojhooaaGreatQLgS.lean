/- A part. -/
import Derived.Test.YtdpmjlbkojhooaaGreatQLgO
namespace Go.Proofs.YtdpmjlbkojhooaaGreat.Lg
open Go.RowKit Go.Lib
open Tb (Tab TIn Sl okP csT lastN nth Fresh)
open Dk (St Only Grew)
set_option linter.unusedVariables false
set_option maxRecDepth 100000
set_option maxHeartbeats 64000000 in
theorem step_all {PL:Nat→Nat→Tab→Int→Int→Int→Dk.Item} (P:Prg PL) {W w:World} {d g r g2:Nat} {s:St} {t:Tab} {ls ep gn:Int} {c:Nat} (h:Dk.Sep W w (four PL d g r g2 s t ls ep gn)) (hP:LogP c t s ls gn) (hep:0≤ep∧ep<4294967296) (hc:c≤1000)
 (K l0 e0 k0 V D N U:Int) (I X:ByteArray) (hV:0≤V∧V<18446744073709551616) (hD:0≤D∧D<18446744073709551616) (hU:0≤U∧U<18446744073709551616) (hI:I.size≤maxLen) (hX:X.size≤maxLen) :
 Calls Tryz.prog 17 #[.pointer (some ⟨g,0,none⟩),.pointer (some ⟨g2,0,none⟩),.agg #[.int .i64 K,.int .u64 l0,.int .u32 e0,.int .i64 k0,.int .u64 V,.int .u64 D,.string I,.string X,.int .i64 N,.int .u64 U]] w (StepR PL c W d g r g2 ep):=by
 have hvL:=Tryz.zeroValue67
 have hvP:=Tryz.zeroValue46
 have hvR:=Tryz.zeroValue70
 have N5:Tb.Blk (w.alloc (.cells #[.int .i64 K,.int .u64 l0,.int .u32 e0,.int .i64 k0,.int .u64 V,.int .u64 D,.string I,.string X,.int .i64 N,.int .u64 U] 48)) w.heap.size 48 #[.int .i64 K,.int .u64 l0,.int .u32 e0,.int .i64 k0,.int .u64 V,.int .u64 D,.string I,.string X,.int .i64 N,.int .u64 U]:=Tb.Blk.new w _ _
 have h1:=loc_new (l:=[(w.heap.size,48,#[.int .i64 K,.int .u64 l0,.int .u32 e0,.int .i64 k0,.int .u64 V,.int .u64 D,.string I,.string X,.int .i64 N,.int .u64 U])]) h (Tb.below1 w (.cells #[.int .i64 K,.int .u64 l0,.int .u32 e0,.int .i64 k0,.int .u64 V,.int .u64 D,.string I,.string X,.int .i64 N,.int .u64 U] 48)) (by intro x hx; rcases List.mem_cons.1 hx with rfl|hx; exact N5; cases hx) (by intro x hx; rcases List.mem_cons.1 hx with rfl|hx; exact Nat.le_refl _; cases hx)
 clear h
 go_enter Tryz.func17,Tryz.ntmps17
 go_upto_region 1 with fail
 obtain ⟨b,Eb⟩:∃ z,w.heap.size=z:=⟨_,rfl⟩
 rw [Eb] at N5 h1 ⊢
 clear Eb
 generalize w.alloc (.cells #[.int .i64 K,.int .u64 l0,.int .u32 e0,.int .i64 k0,.int .u64 V,.int .u64 D,.string I,.string X,.int .i64 N,.int .u64 U] 48)=w1 at *
 change Dk.Sep W w1 [Dk.diskI d s,PL g d t ls ep gn,Dk.refI r s,logI 121 g2 r t ls ep gn,locI [(b,48,#[.int .i64 K,.int .u64 l0,.int .u32 e0,.int .i64 k0,.int .u64 V,.int .u64 D,.string I,.string X,.int .i64 N,.int .u64 U])]] at h1
 have c0:w1.cell? ⟨b,0,none⟩=some (.int .i64 K):=N5.cell 0
 go_upto_block 0 with fail
 go_cut [7,8] from 9 to 72 (fun s7 s8 wx=>∃ (er:Int) (s1:St) (t1:Tab) (l1 g1:Int) (it:Dk.Item),s7=.int .i64 er∧s8=.int .i64 er∧Hid (LogP (c+2) t1 s1 l1 g1)∧(er≠9→it=PL g d t1 l1 ep g1)∧Dk.Sep W wx [Dk.diskI d s1,it,Dk.refI r s1,logI 121 g2 r t1 l1 ep g1,locI [(b,48,#[.int .i64 K,.int .u64 l0,.int .u32 e0,.int .i64 k0,.int .u64 V,.int .u64 D,.string I,.string X,.int .i64 N,.int .u64 U])]])
 case first =>
  by_cases hq0:bits .and .i64 K 7=0
  ·have hq:=hq0
   clear hq0
   clear N5
   have EZ:∃ z,sealS t s ls (footB t ls ep)=z:=⟨_,rfl⟩
   obtain ⟨⟨s1,t1,l1,er⟩,EZ⟩:=EZ
   obtain ⟨g1,Eg⟩:∃ z,gn=z:=⟨_,rfl⟩
   have HN:Hid (LogP (c+2) t1 s1 l1 g1):=Lib.hid (by have:=seal_p (S:=footB t ls ep) hP (fun f l hf=>footB_size hP.ok hP.ls1 hf); rw [EZ,Eg] at this; exact this.le (by omega))
   have HC:=Lib.hid (P.sealc h1 (k:=0) (j:=1) rfl rfl (by decide) ⟨hP.ls1,by have:=hP.ls2; omega⟩ hep hP.ok hP.fit (by have:=hP.pend; omega))
   have HD:=Lib.hid (fun W1 w1 (it:Dk.Item) (h:Dk.Sep W1 w1 [Dk.diskI d s1,it,Dk.refI r s,logI 121 g2 r t ls ep gn,locI [(b,48,#[.int .i64 K,.int .u64 l0,.int .u32 e0,.int .i64 k0,.int .u64 V,.int .u64 D,.string I,.string X,.int .i64 N,.int .u64 U])]])=>rseal_any h (k:=2) (j:=3) rfl rfl (by decide) ⟨hP.ls1,by have:=hP.ls2; omega⟩ hep (has_open hP.ok hP.fit) (by have:=hP.pend; omega) (footB t ls ep) (fun f l hf=>footB_eq hf))
   rw [EZ] at HC
   simp only [EZ] at HD
   rw [Eg] at HC
   rw [Eg] at HD
   clear EZ Eg hP
   go_wp2_with fail
   refine HC.out.mono ?_
   rintro e' w2 ⟨rfl,it,h2,hit⟩
   go_wp2_with fail
   refine (HD.out W w2 it h2).mono ?_
   rintro e' w3 ⟨rfl,h3⟩
   change Dk.Sep W w3 [Dk.diskI d s1,it,Dk.refI r s1,logI 121 g2 r t1 l1 ep g1,locI [(b,48,#[.int .i64 K,.int .u64 l0,.int .u32 e0,.int .i64 k0,.int .u64 V,.int .u64 D,.string I,.string X,.int .i64 N,.int .u64 U])]] at h3
   clear HC HD h1 h2 c0
   go_wp2_with fail
   go_meet
   exact ⟨er,s1,t1,l1,g1,it,rfl,rfl,HN,hit,h3⟩
  by_cases hq1:bits .and .i64 K 7=1
  ·have hq:=hq1
   clear hq0 hq1
   have c8:w1.cell? ⟨b,8,none⟩=some (.int .i64 N):=N5.cell 8
   have c9:w1.cell? ⟨b,9,none⟩=some (.int .u64 U):=N5.cell 9
   clear N5
   obtain ⟨⟨s1,t1,g1,er⟩,EZ⟩:∃ z,dropS t N s gn (dropB t N gn ep ls U)=z:=⟨_,rfl⟩
   obtain ⟨l1,Eg⟩:∃ z,ls=z:=⟨_,rfl⟩
   have HN:Hid (LogP (c+2) t1 s1 l1 g1):=Lib.hid (by have:=drop_p (x:=N) (S:=dropB t N gn ep ls U) hP (fun u hu=>dropB_size hP.ok hP.gn1 hP.ls1 hu); rw [EZ,Eg] at this; exact this.le (by omega))
   have HC:=Lib.hid (P.drop h1 (k:=0) (j:=1) rfl rfl (by decide) N U hU ⟨hP.ls1,by have:=hP.ls2; omega⟩ hep ⟨hP.gn1,by have:=hP.gn2; omega⟩ hP.ok hP.size2 (by have:=hP.pend; omega) (dropB t N gn ep ls U) (fun t' ht=>dropB_eq ht))
   have HD:=Lib.hid (fun W1 w1 (it:Dk.Item) (h:Dk.Sep W1 w1 [Dk.diskI d s1,it,Dk.refI r s,logI 121 g2 r t ls ep gn,locI [(b,48,#[.int .i64 K,.int .u64 l0,.int .u32 e0,.int .i64 k0,.int .u64 V,.int .u64 D,.string I,.string X,.int .i64 N,.int .u64 U])]])=>rdrop_l h (k:=2) (j:=3) rfl rfl (by decide) N U hU ⟨hP.ls1,by have:=hP.ls2; omega⟩ hep ⟨hP.gn1,by have:=hP.gn2; omega⟩ hP.size2 (by have:=hP.pend; omega) (dropB t N gn ep ls U) (fun t' ht=>dropB_eq ht))
   rw [EZ] at HC
   simp only [EZ] at HD
   rw [Eg] at HC
   rw [Eg] at HD
   clear EZ Eg hP
   go_wp2_with fail
   refine HC.out.mono ?_
   rintro e' w2 ⟨rfl,it,h2,hit⟩
   have N5:=loc_at h2 (k:=4) rfl _ (List.mem_cons_self ..)
   clear c8 c9
   have c8:w2.cell? ⟨b,8,none⟩=some (.int .i64 N):=N5.cell 8
   have c9:w2.cell? ⟨b,9,none⟩=some (.int .u64 U):=N5.cell 9
   clear N5
   go_wp2_with fail
   refine (HD.out W w2 it h2).mono ?_
   rintro e' w3 ⟨rfl,h3⟩
   change Dk.Sep W w3 [Dk.diskI d s1,it,Dk.refI r s1,logI 121 g2 r t1 l1 ep g1,locI [(b,48,#[.int .i64 K,.int .u64 l0,.int .u32 e0,.int .i64 k0,.int .u64 V,.int .u64 D,.string I,.string X,.int .i64 N,.int .u64 U])]] at h3
   clear HC HD h1 h2 c0 c8 c9
   go_wp2_with fail
   go_meet
   exact ⟨er,s1,t1,l1,g1,it,rfl,rfl,HN,hit,h3⟩
  by_cases hq2:bits .and .i64 K 7=2
  ·have hq:=hq2
   clear hq0 hq1 hq2
   have c9:w1.cell? ⟨b,9,none⟩=some (.int .u64 U):=N5.cell 9
   clear N5
   obtain ⟨⟨s1,g1,er⟩,EZ⟩:∃ z,chkS s gn (chkB t gn ep ls U)=z:=⟨_,rfl⟩
   obtain ⟨l1,Eg⟩:∃ z,ls=z:=⟨_,rfl⟩
   obtain ⟨t1,Et⟩:∃ z,t=z:=⟨_,rfl⟩
   have HN:Hid (LogP (c+2) t1 s1 l1 g1):=Lib.hid (by have:=chk_p (S:=chkB t gn ep ls U) hP (chkB_size hP.ok hP.gn1 hP.ls1); rw [EZ,Eg,Et] at this; exact this.le (by omega))
   have HC:=Lib.hid (P.chk h1 (k:=0) (j:=1) rfl rfl (by decide) U hU ⟨hP.ls1,by have:=hP.ls2; omega⟩ hep ⟨hP.gn1,by have:=hP.gn2; omega⟩ hP.ok hP.size2 (by have:=hP.pend; omega) (chkB t gn ep ls U) (chkB_eq ..))
   have HD:=Lib.hid (fun W1 w1 (it:Dk.Item) (h:Dk.Sep W1 w1 [Dk.diskI d s1,it,Dk.refI r s,logI 121 g2 r t ls ep gn,locI [(b,48,#[.int .i64 K,.int .u64 l0,.int .u32 e0,.int .i64 k0,.int .u64 V,.int .u64 D,.string I,.string X,.int .i64 N,.int .u64 U])]])=>rchk_any h (k:=2) (j:=3) rfl rfl (by decide) U hU ⟨hP.ls1,by have:=hP.ls2; omega⟩ hep ⟨hP.gn1,by have:=hP.gn2; omega⟩ hP.size2 (by have:=hP.pend; omega) (chkB t gn ep ls U) (chkB_eq ..))
   rw [EZ] at HC
   simp only [EZ] at HD
   rw [Eg,Et] at HC
   rw [Eg,Et] at HD
   clear EZ Eg Et hP
   go_wp2_with fail
   refine HC.out.mono ?_
   rintro e' w2 ⟨rfl,it,h2,hit⟩
   have N5:=loc_at h2 (k:=4) rfl _ (List.mem_cons_self ..)
   clear c9
   have c9:w2.cell? ⟨b,9,none⟩=some (.int .u64 U):=N5.cell 9
   clear N5
   go_wp2_with fail
   refine (HD.out W w2 it h2).mono ?_
   rintro e' w3 ⟨rfl,h3⟩
   change Dk.Sep W w3 [Dk.diskI d s1,it,Dk.refI r s1,logI 121 g2 r t1 l1 ep g1,locI [(b,48,#[.int .i64 K,.int .u64 l0,.int .u32 e0,.int .i64 k0,.int .u64 V,.int .u64 D,.string I,.string X,.int .i64 N,.int .u64 U])]] at h3
   clear HC HD h1 h2 c0 c9
   go_wp2_with fail
   go_meet
   exact ⟨er,s1,t1,l1,g1,it,rfl,rfl,HN,hit,h3⟩
  have hq:bits .and .i64 K 7≠0∧bits .and .i64 K 7≠1∧bits .and .i64 K 7≠2:=⟨hq0,hq1,hq2⟩
  clear hq0 hq1 hq2
  obtain ⟨kk0,Ek⟩:∃ z,bits .and .i64 K 7=z:=⟨_,rfl⟩
  rw [Ek] at hq
  have q0:(kk0 == 0)=false:=by simpa using hq.1
  have q1:(kk0 == 1)=false:=by simpa using hq.2.1
  have q2:(kk0 == 2)=false:=by simpa using hq.2.2
  have c1:w1.cell? ⟨b,1,none⟩=some (.int .u64 l0):=N5.cell 1
  have c2:w1.cell? ⟨b,2,none⟩=some (.int .u32 e0):=N5.cell 2
  have c3:w1.cell? ⟨b,3,none⟩=some (.int .i64 k0):=N5.cell 3
  have c4:w1.cell? ⟨b,4,none⟩=some (.int .u64 V):=N5.cell 4
  have c5:w1.cell? ⟨b,5,none⟩=some (.int .u64 D):=N5.cell 5
  have c6:w1.cell? ⟨b,6,none⟩=some (.string I):=N5.cell 6
  have c7:w1.cell? ⟨b,7,none⟩=some (.string X):=N5.cell 7
  clear N5
  have HU:=Lib.hid (Rc.lawcut_any l0 e0 k0 V D I X w1 hI hX)
  obtain ⟨I8,EI⟩:∃ z,Rc.cut80 I=z:=⟨_,rfl⟩
  obtain ⟨X8,EX⟩:∃ z,Rc.cut80 X=z:=⟨_,rfl⟩
  have hI8:I8.size≤80:=by rw [← EI]; exact Rc.cut80_size I
  have hX8:X8.size≤80:=by rw [← EX]; exact Rc.cut80_size X
  rw [EI,EX] at HU
  clear EI EX hI hX
  obtain ⟨⟨s1,t1,l1,sg1,so1,er⟩,EZ⟩:∃ z,appS t s ls ep k0 V D I8 X8=z:=⟨_,rfl⟩
  obtain ⟨g1,Eg⟩:∃ z,gn=z:=⟨_,rfl⟩
  have HN:Hid (LogP (c+2) t1 s1 l1 g1):=Lib.hid (by have:=app_p (ep:=ep) (K:=k0) (V:=V) (D:=D) (I:=I8) (X:=X8) hP; rw [EZ,Eg] at this; exact this)
  go_wp2_with fail
  refine HU.out.mono ?_
  rintro e' v2 ⟨rfl,hb⟩
  have h2:=h1.later hb
  clear h1 hb HU c0 c1 c2 c3 c4 c5 c6 c7
  have N9:Tb.Blk (v2.alloc (.cells #[.int .u64 0,.int .u32 0,.int .i64 0,.int .u64 0,.int .u64 0,.string ⟨#[]⟩,.string ⟨#[]⟩] 46)) v2.heap.size 46 (cs7 0 0 0 0 0 ⟨#[]⟩ ⟨#[]⟩):=Tb.Blk.new v2 _ _
  go_upto_region 4 with (with_reducible refine store_pr rfl (.tmp 9) (.tmp 24) rfl v2.heap.size rfl rfl N9 ?_)
  have hb3:Below v2.heap.size v2 ((v2.alloc (.cells #[.int .u64 0,.int .u32 0,.int .i64 0,.int .u64 0,.int .u64 0,.string ⟨#[]⟩,.string ⟨#[]⟩] 46)).setRow v2.heap.size (cs7 l0 e0 k0 V D I8 X8)):=Tb.below_row (Tb.below1 v2 _) (Nat.le_refl _) _
  have M9:=N9.row (cs7 l0 e0 k0 V D I8 X8)
  generalize (v2.alloc (.cells #[.int .u64 0,.int .u32 0,.int .i64 0,.int .u64 0,.int .u64 0,.string ⟨#[]⟩,.string ⟨#[]⟩] 46)).setRow v2.heap.size (cs7 l0 e0 k0 V D I8 X8)=v3 at *
  have h3:=loc_new (l:=[(v2.heap.size,46,cs7 l0 e0 k0 V D I8 X8)]) h2 hb3 (by intro x hx; rcases List.mem_cons.1 hx with rfl|hx; exact M9; cases hx) (by intro x hx; rcases List.mem_cons.1 hx with rfl|hx; exact Nat.le_refl _; cases hx)
  clear h2 hb3 N9
  obtain ⟨b9,Eb⟩:∃ z,v2.heap.size=z:=⟨_,rfl⟩
  rw [Eb] at M9 h3 ⊢
  clear Eb
  change Dk.Sep W v3 [Dk.diskI d s,PL g d t ls ep gn,Dk.refI r s,logI 121 g2 r t ls ep gn,locI [(b,48,#[.int .i64 K,.int .u64 l0,.int .u32 e0,.int .i64 k0,.int .u64 V,.int .u64 D,.string I,.string X,.int .i64 N,.int .u64 U])],locI [(b9,46,cs7 l0 e0 k0 V D I8 X8)]] at h3
  have HC:=Lib.hid (P.app h3 (k:=0) (j:=1) rfl rfl (by decide) l0 e0 k0 V D I8 X8 ⟨hP.ls1,by have:=hP.ls2; omega⟩ hep hV hD (by unfold maxLen; omega) (by unfold maxLen; omega) hP.ok hP.fit (by have:=hP.pend; omega))
  have HD:=Lib.hid (fun (b10:Nat) W1 w1 (it:Dk.Item) (h:Dk.Sep W1 w1 [Dk.diskI d s1,it,Dk.refI r s,logI 121 g2 r t ls ep gn,locI [(b,48,#[.int .i64 K,.int .u64 l0,.int .u32 e0,.int .i64 k0,.int .u64 V,.int .u64 D,.string I,.string X,.int .i64 N,.int .u64 U])],locI [(b9,46,cs7 l0 e0 k0 V D I8 X8)],locI [(b10,67,#[.int .i64 sg1,.int .i64 so1])]])=>rapp_any h (k:=2) (j:=3) rfl rfl (by decide) l0 e0 k0 V D I8 X8 ⟨hP.ls1,by have:=hP.ls2; omega⟩ hep hV hD (by unfold maxLen; omega) (by unfold maxLen; omega) hP.fit (by have:=hP.pend; omega))
  rw [EZ] at HC
  simp only [EZ] at HD
  rw [Eg] at HC
  rw [Eg] at HD
  clear EZ Eg hP
  go_wp2_with (with_reducible refine load_pr rfl (.tmp 9) rfl b9 rfl M9 ?_)
  refine HC.out.mono ?_
  rintro e' v4 ⟨rfl,it,h4,hit⟩
  change Dk.Sep W v4 [Dk.diskI d s1,it,Dk.refI r s,logI 121 g2 r t ls ep g1,locI [(b,48,#[.int .i64 K,.int .u64 l0,.int .u32 e0,.int .i64 k0,.int .u64 V,.int .u64 D,.string I,.string X,.int .i64 N,.int .u64 U])],locI [(b9,46,cs7 l0 e0 k0 V D I8 X8)]] at h4
  clear h3 M9 HC
  have N10:Tb.Blk (v4.alloc (.cells #[.int .i64 0,.int .i64 0] 67)) v4.heap.size 67 #[.int .i64 0,.int .i64 0]:=Tb.Blk.new v4 _ _
  go_upto_region 5 with (with_reducible refine store_loc rfl (.tmp 10) (.tmp 29) rfl v4.heap.size rfl rfl N10 ?_)
  have hb5:Below v4.heap.size v4 ((v4.alloc (.cells #[.int .i64 0,.int .i64 0] 67)).setRow v4.heap.size #[.int .i64 sg1,.int .i64 so1]):=Tb.below_row (Tb.below1 v4 _) (Nat.le_refl _) _
  have M10:=N10.row #[.int .i64 sg1,.int .i64 so1]
  generalize (v4.alloc (.cells #[.int .i64 0,.int .i64 0] 67)).setRow v4.heap.size #[.int .i64 sg1,.int .i64 so1]=v5 at *
  have h5:=loc_new (l:=[(v4.heap.size,67,#[.int .i64 sg1,.int .i64 so1])]) h4 hb5 (by intro x hx; rcases List.mem_cons.1 hx with rfl|hx; exact M10; cases hx) (by intro x hx; rcases List.mem_cons.1 hx with rfl|hx; exact Nat.le_refl _; cases hx)
  clear h4 hb5 N10 M10
  obtain ⟨b10,Eb⟩:∃ z,v4.heap.size=z:=⟨_,rfl⟩
  rw [Eb] at h5 ⊢
  clear Eb
  change Dk.Sep W v5 [Dk.diskI d s1,it,Dk.refI r s,logI 121 g2 r t ls ep g1,locI [(b,48,#[.int .i64 K,.int .u64 l0,.int .u32 e0,.int .i64 k0,.int .u64 V,.int .u64 D,.string I,.string X,.int .i64 N,.int .u64 U])],locI [(b9,46,cs7 l0 e0 k0 V D I8 X8)],locI [(b10,67,#[.int .i64 sg1,.int .i64 so1])]] at h5
  have M9:=loc_at h5 (k:=5) rfl _ (List.mem_cons_self ..)
  go_wp2_with (with_reducible refine load_pr rfl (.tmp 9) rfl b9 rfl M9 ?_)
  refine (Rc.ref_any l0 e0 k0 V D I8 X8 v5).mono ?_
  rintro e' v6 ⟨rfl,hb6⟩
  have h6:=h5.later hb6
  clear h5 hb6 M9
  go_wp2_with fail
  refine (HD.out b10 W v6 it h6).mono ?_
  rintro e' v7 ⟨rfl,h7⟩
  change Dk.Sep W v7 [Dk.diskI d s1,it,Dk.refI r s1,logI 121 g2 r t1 l1 ep g1,locI [(b,48,#[.int .i64 K,.int .u64 l0,.int .u32 e0,.int .i64 k0,.int .u64 V,.int .u64 D,.string I,.string X,.int .i64 N,.int .u64 U])],locI [(b9,46,cs7 l0 e0 k0 V D I8 X8)],locI [(b10,67,#[.int .i64 sg1,.int .i64 so1])]] at h7
  clear h6 HD
  have N12:Tb.Blk (v7.alloc (.cells #[.int .i64 0,.int .i64 0] 67)) v7.heap.size 67 #[.int .i64 0,.int .i64 0]:=Tb.Blk.new v7 _ _
  go_upto_region 6 with (with_reducible refine store_loc rfl (.tmp 12) (.tmp 36) rfl v7.heap.size rfl rfl N12 ?_)
  have hb8:Below v7.heap.size v7 ((v7.alloc (.cells #[.int .i64 0,.int .i64 0] 67)).setRow v7.heap.size #[.int .i64 sg1,.int .i64 so1]):=Tb.below_row (Tb.below1 v7 _) (Nat.le_refl _) _
  have M12:=N12.row #[.int .i64 sg1,.int .i64 so1]
  generalize (v7.alloc (.cells #[.int .i64 0,.int .i64 0] 67)).setRow v7.heap.size #[.int .i64 sg1,.int .i64 so1]=w3 at *
  have h8:=h7.later hb8
  clear h7 hb8 N12
  obtain ⟨b12,Eb⟩:∃ z,v7.heap.size=z:=⟨_,rfl⟩
  rw [Eb] at M12 ⊢
  clear Eb
  have M10:=loc_at h8 (k:=6) rfl _ (List.mem_cons_self ..)
  go_wp2_with (first
   | (with_reducible refine load_loc rfl (.tmp 10) rfl b10 rfl M10 ?_)
   | (with_reducible refine load_loc rfl (.tmp 12) rfl b12 rfl M12 ?_))
  have h3:=loc_drop (items:=[Dk.diskI d s1,it,Dk.refI r s1,logI 121 g2 r t1 l1 ep g1,locI [(b,48,#[.int .i64 K,.int .u64 l0,.int .u32 e0,.int .i64 k0,.int .u64 V,.int .u64 D,.string I,.string X,.int .i64 N,.int .u64 U])]]) (loc_drop (items:=[Dk.diskI d s1,it,Dk.refI r s1,logI 121 g2 r t1 l1 ep g1,locI [(b,48,#[.int .i64 K,.int .u64 l0,.int .u32 e0,.int .i64 k0,.int .u64 V,.int .u64 D,.string I,.string X,.int .i64 N,.int .u64 U])],locI [(b9,46,cs7 l0 e0 k0 V D I8 X8)]]) h8)
  clear h8 M10 M12 hI8 hX8
  go_meet
  exact ⟨er,s1,t1,l1,g1,it,rfl,rfl,HN,hit,h3⟩
 case rest =>
 clear h1 c0 N5 hP
 obtain ⟨er,s1,t1,l1,g1,it,rfl,rfl,HN,hit,h3⟩:=hcut
 by_cases h9:er=9
 ·subst h9
  have H3:=Lib.hid h3
  clear h3
  go_wp2_with fail
  go_ret
  exact ⟨s1,t1,l1,g1,HN.out,.inr ⟨rfl,_,_,loc_drop (items:=[Dk.diskI d s1,it,Dk.refI r s1,logI 121 g2 r t1 l1 ep g1]) H3.out⟩⟩
 obtain rfl:=hit h9
 have q9:(er == 9)=false:=by simpa using h9
 have hok:=HN.out.ok
 have HM:Hid (t1.o.length≤16∧t1.l.length≤16∧t1.f.length≤16):=Lib.hid (by have:=Tb.ok_bd hok; have h1:=hok.1; have h2:=hok.2.2.2.2.2.2; have h3:=Tb.ok_bounds hok; have h4:=h3.f; omega)
 obtain ⟨J,EJ⟩:∃ z,U.tmod 7=z:=⟨_,rfl⟩
 have bJ:0≤J∧J<7:=by rw [← EJ,Int.tmod_eq_emod_of_nonneg hU.1]; omega
 have EJ2:IntKind.i64.wrap J=J:=IntWalk.i64_in _ (by omega)
 obtain ⟨rl,re,rk,rv,rd,ri,ra,y2,ER⟩:=read_cells t1 s1 N J
 have hN5:=loc_at h3 (k:=4) rfl _ (List.mem_cons_self ..)
 have c8:wc.cell? ⟨b,8,none⟩=some (.int .i64 N):=hN5.cell 8
 have c9:wc.cell? ⟨b,9,none⟩=some (.int .u64 U):=hN5.cell 9
 have N14:Tb.Blk (wc.alloc (.cells #[.int .i64 0,.int .i64 0] 67)) wc.heap.size 67 #[.int .i64 0,.int .i64 0]:=Tb.Blk.new wc _ _
 go_upto_region 24 with (with_reducible refine store_loc rfl (.tmp 14) (.tmp 84) rfl wc.heap.size rfl rfl N14 ?_)
 have hb4:Below wc.heap.size wc ((wc.alloc (.cells #[.int .i64 0,.int .i64 0] 67)).setRow wc.heap.size #[.int .i64 N,.int .i64 J]):=Tb.below_row (Tb.below1 wc _) (Nat.le_refl _) _
 have M14:=N14.row #[.int .i64 N,.int .i64 J]
 generalize (wc.alloc (.cells #[.int .i64 0,.int .i64 0] 67)).setRow wc.heap.size #[.int .i64 N,.int .i64 J]=w4 at *
 have h4:=h3.later hb4
 clear h3 N14 hb4 hN5 c8 c9 hit
 obtain ⟨b14,Eb⟩:∃ z,wc.heap.size=z:=⟨_,rfl⟩
 rw [Eb] at M14 ⊢
 clear Eb
 have HR:=Lib.hid (P.read h4 (k:=0) (j:=1) rfl rfl (by decide) N J hok HN.out.good HN.out.fit (by have:=HN.out.pend; omega))
 rw [ER] at HR
 go_wp2_with (with_reducible refine load_loc rfl (.tmp 14) rfl b14 rfl M14 ?_)
 refine HR.out.mono ?_
 rintro e' w5 ⟨rfl,hb5⟩
 have h5:=h4.later hb5
 replace M14:=M14.later hb5
 clear HR h4 hb5
 have N15:Tb.Blk (w5.alloc (.cells #[.int .u64 0,.int .u32 0,.int .i64 0,.int .u64 0,.int .u64 0,.string ⟨#[]⟩,.string ⟨#[]⟩] 46)) w5.heap.size 46 (cs7 0 0 0 0 0 ⟨#[]⟩ ⟨#[]⟩):=Tb.Blk.new w5 _ _
 go_upto_region 25 with (with_reducible refine store_pr rfl (.tmp 15) (.tmp 89) rfl w5.heap.size rfl rfl N15 ?_)
 have hb6:Below w5.heap.size w5 ((w5.alloc (.cells #[.int .u64 0,.int .u32 0,.int .i64 0,.int .u64 0,.int .u64 0,.string ⟨#[]⟩,.string ⟨#[]⟩] 46)).setRow w5.heap.size (cs7 rl re rk rv rd ri ra)):=Tb.below_row (Tb.below1 w5 _) (Nat.le_refl _) _
 have M15:=N15.row (cs7 rl re rk rv rd ri ra)
 generalize (w5.alloc (.cells #[.int .u64 0,.int .u32 0,.int .i64 0,.int .u64 0,.int .u64 0,.string ⟨#[]⟩,.string ⟨#[]⟩] 46)).setRow w5.heap.size (cs7 rl re rk rv rd ri ra)=w6 at *
 have h6:=h5.later hb6
 replace M14:=M14.later hb6
 clear h5 N15 hb6
 obtain ⟨b15,Eb⟩:∃ z,w5.heap.size=z:=⟨_,rfl⟩
 rw [Eb] at M15 ⊢
 clear Eb
 have HR:=Lib.hid (rread_any h6 (k:=2) (j:=3) rfl rfl N J HN.out.good HN.out.fit (by have:=HN.out.pend; omega))
 rw [ER] at HR
 go_wp2_with (with_reducible refine load_loc rfl (.tmp 14) rfl b14 rfl M14 ?_)
 refine HR.out.mono ?_
 rintro e' w7 ⟨rfl,hb7⟩
 have h7:=h6.later hb7
 replace M15:=M15.later hb7
 clear HR h6 hb7 M14
 have N17:Tb.Blk (w7.alloc (.cells #[.int .u64 0,.int .u32 0,.int .i64 0,.int .u64 0,.int .u64 0,.string ⟨#[]⟩,.string ⟨#[]⟩] 70)) w7.heap.size 70 (cs7 0 0 0 0 0 ⟨#[]⟩ ⟨#[]⟩):=Tb.Blk.new w7 _ _
 go_upto_region 26 with (with_reducible refine store_qr rfl (.tmp 17) (.tmp 95) rfl w7.heap.size rfl rfl N17 ?_)
 have hb8:Below w7.heap.size w7 ((w7.alloc (.cells #[.int .u64 0,.int .u32 0,.int .i64 0,.int .u64 0,.int .u64 0,.string ⟨#[]⟩,.string ⟨#[]⟩] 70)).setRow w7.heap.size (cs7 rl re rk rv rd ri ra)):=Tb.below_row (Tb.below1 w7 _) (Nat.le_refl _) _
 have M17:=N17.row (cs7 rl re rk rv rd ri ra)
 generalize (w7.alloc (.cells #[.int .u64 0,.int .u32 0,.int .i64 0,.int .u64 0,.int .u64 0,.string ⟨#[]⟩,.string ⟨#[]⟩] 70)).setRow w7.heap.size (cs7 rl re rk rv rd ri ra)=w8 at *
 have H6:=Lib.hid (h7.later hb8)
 replace M15:=M15.later hb8
 clear h7 N17 hb8
 obtain ⟨b17,Eb⟩:∃ z,w7.heap.size=z:=⟨_,rfl⟩
 rw [Eb] at M17 ⊢
 clear Eb
 obtain ⟨A,m,p,B,kk,q,C,nn,rr,hB,ht,_,_⟩:=log_at H6.out (j:=3) rfl
 have I4:=(((Tb.Its.nil (Below.refl w8.heap.size w8)).scons ht.c).scons ht.b).scons ht.a
 replace I4:=((I4.cons hB).cons M17).cons M15
 refine wp_cn [.is (.agg #[.int .u64 rl,.int .u32 re,.int .i64 rk,.int .u64 rv,.int .u64 rd,.string ri,.string ra]),.is (.agg #[.int .u64 rl,.int .u32 re,.int .i64 rk,.int .u64 rv,.int .u64 rd,.string ri,.string ra]),.is (.agg #[.int .u64 rl,.int .u32 re,.int .i64 rk,.int .u64 rv,.int .u64 rd,.string ri,.string ra]),.is (.bool false),.is (.bool false),.is (.int .i64 (y2)),.is (.int .i64 (y2)),.is (.bool false),.is (.bool false),.is (.bool false),.is (.pointer (some ⟨g,0,none⟩)),.tab t1,.tab t1,.is (.pointer (some ⟨g2,0,none⟩)),.is (.pointer (some ⟨g2,0,none⟩)),.is (.pointer (some ⟨g2,1,none⟩)),.is (.agg #[.int .i64 (t1.sg),.int .i64 (t1.st),.slice A m p,.slice B kk q,.slice C nn rr]),.is (.bool true),.is (.bool false),.is (.bool false),.is (.bool false),.is (.pointer (some ⟨g,0,none⟩)),.is (.int .u64 l1),.is (.pointer (some ⟨g2,0,none⟩)),.is (.pointer (some ⟨g2,0,none⟩)),.is (.pointer (some ⟨g2,6,none⟩)),.is (.int .u64 l1),.is (.bool false),.is (.bool false),.is (.bool false),.is (.pointer (some ⟨g,0,none⟩)),.is (.int .u32 ep),.is (.pointer (some ⟨g2,0,none⟩)),.is (.pointer (some ⟨g2,0,none⟩)),.is (.pointer (some ⟨g2,7,none⟩)),.is (.int .u32 ep),.is (.bool false),.is (.bool false),.is (.bool false),.is (.pointer (some ⟨g,0,none⟩)),.is (.int .u64 g1),.is (.pointer (some ⟨g2,0,none⟩)),.is (.pointer (some ⟨g2,0,none⟩)),.is (.pointer (some ⟨g2,8,none⟩)),.is (.int .u64 g1),.is (.bool false),.is (.bool false)] [(b15,46,cs7 rl re rk rv rd ri ra),(b17,70,cs7 rl re rk rv rd ri ra),(g2,121,csL r t1.sg t1.st A m p B kk q C nn rr l1 ep g1)] [(.i64,A,m,t1.o),(.i64,B,kk,t1.l),(.u64,C,nn,t1.f)] (by kernel_rfl) (by kernel_rfl) I4 ?_ ?_
 ·refine ⟨?_,?_,?_,?_,?_,?_,?_,?_,?_,?_,?_,?_,?_,?_,?_,?_,?_,?_,?_,?_,?_,?_,?_,?_,?_,?_,?_,?_,?_,?_,?_,?_,?_,?_,?_,?_,?_,?_,?_,?_,?_,?_,?_,?_,?_,?_,?_,trivial⟩
  ·intro listed A0 W hA hr K hK
   have e15:A0.tmps[15]?.getD undef=.pointer (some ⟨b15,0,none⟩):=slot_is ((hA.kept 15 (Free.not_dst (by kernel_rfl))).trans rfl)
   have f0:W.cell? ⟨b15,0,none⟩=some (.int .u64 rl):=(hA.c.at_ 0 rfl).cell 0
   have f1:W.cell? ⟨b15,1,none⟩=some (.int .u32 re):=(hA.c.at_ 0 rfl).cell 1
   have f2:W.cell? ⟨b15,2,none⟩=some (.int .i64 rk):=(hA.c.at_ 0 rfl).cell 2
   have f3:W.cell? ⟨b15,3,none⟩=some (.int .u64 rv):=(hA.c.at_ 0 rfl).cell 3
   have f4:W.cell? ⟨b15,4,none⟩=some (.int .u64 rd):=(hA.c.at_ 0 rfl).cell 4
   have f5:W.cell? ⟨b15,5,none⟩=some (.string ri):=(hA.c.at_ 0 rfl).cell 5
   have f6:W.cell? ⟨b15,6,none⟩=some (.string ra):=(hA.c.at_ 0 rfl).cell 6
   rw [if_pos (FreeG.wanted_plain rfl)]
   simp [go_sem,e15,f0,f1,f2,f3,f4,f5,f6]
   exact hK _ _ (Below.refl _ _) rfl
  ·intro listed A0 W hA hr K hK
   have e97:A0.tmps[97]?.getD undef=.agg #[.int .u64 rl,.int .u32 re,.int .i64 rk,.int .u64 rv,.int .u64 rd,.string ri,.string ra]:=slot_is (hA.val 0 _ rfl (hr ⟨0,.data⟩ (by simp) rfl))
   rw [if_pos (FreeG.wanted_plain rfl)]
   simp [go_sem,e97]
   refine (Rc.ref_any rl re rk rv rd ri ra W).mono ?_
   rintro e' w' ⟨rfl,hb⟩
   exact hK _ _ hb rfl
  ·intro listed A0 W hA hr K hK
   have e17:A0.tmps[17]?.getD undef=.pointer (some ⟨b17,0,none⟩):=slot_is ((hA.kept 17 (Free.not_dst (by kernel_rfl))).trans rfl)
   have f0:W.cell? ⟨b17,0,none⟩=some (.int .u64 rl):=(hA.c.at_ 1 rfl).cell 0
   have f1:W.cell? ⟨b17,1,none⟩=some (.int .u32 re):=(hA.c.at_ 1 rfl).cell 1
   have f2:W.cell? ⟨b17,2,none⟩=some (.int .i64 rk):=(hA.c.at_ 1 rfl).cell 2
   have f3:W.cell? ⟨b17,3,none⟩=some (.int .u64 rv):=(hA.c.at_ 1 rfl).cell 3
   have f4:W.cell? ⟨b17,4,none⟩=some (.int .u64 rd):=(hA.c.at_ 1 rfl).cell 4
   have f5:W.cell? ⟨b17,5,none⟩=some (.string ri):=(hA.c.at_ 1 rfl).cell 5
   have f6:W.cell? ⟨b17,6,none⟩=some (.string ra):=(hA.c.at_ 1 rfl).cell 6
   rw [if_pos (FreeG.wanted_plain rfl)]
   simp [go_sem,e17,f0,f1,f2,f3,f4,f5,f6]
   exact hK _ _ (Below.refl _ _) rfl
  ·intro listed A0 W hA hr K hK
   have e98:A0.tmps[98]?.getD undef=.agg #[.int .u64 rl,.int .u32 re,.int .i64 rk,.int .u64 rv,.int .u64 rd,.string ri,.string ra]:=slot_is (hA.val 1 _ rfl (hr ⟨1,.data⟩ (by simp) rfl))
   have e99:A0.tmps[99]?.getD undef=.agg #[.int .u64 rl,.int .u32 re,.int .i64 rk,.int .u64 rv,.int .u64 rd,.string ri,.string ra]:=slot_is (hA.val 2 _ rfl (hr ⟨2,.data⟩ (by simp) rfl))
   rw [if_pos (FreeG.wanted_plain rfl)]
   simp [go_sem,e98,e99]
   exact hK _ _ (Below.refl _ _) rfl
  ·intro listed A0 W hA hr K hK
   have e100:A0.tmps[100]?.getD undef=.bool false:=slot_is (hA.val 3 _ rfl (hr ⟨3,.data⟩ (by simp) rfl))
   rw [if_pos (FreeG.wanted_plain rfl)]
   simp [go_sem,e100]
   exact hK _ _ (Below.refl _ _) rfl
  ·intro listed A0 W hA hr K hK
   have eg:A0.tmps[101]?.getD undef=.bool false:=slot_is (hA.val 4 _ rfl (hr ⟨4,.guard⟩ (by simp) rfl))
   have e16:A0.tmps[16]?.getD undef=.int .i64 (y2):=slot_is ((hA.kept 16 (Free.not_dst (by kernel_rfl))).trans rfl)
   rw [if_pos (FreeG.wanted_yes rfl rfl rfl eg)]
   simp [go_sem,e16]
   exact hK _ _ (Below.refl _ _) rfl
  ·intro listed A0 W hA hr K hK
   have eg:A0.tmps[101]?.getD undef=.bool false:=slot_is (hA.val 4 _ rfl (hr ⟨4,.guard⟩ (by simp) rfl))
   have e18:A0.tmps[18]?.getD undef=.int .i64 (y2):=slot_is ((hA.kept 18 (Free.not_dst (by kernel_rfl))).trans rfl)
   rw [if_pos (FreeG.wanted_yes rfl rfl rfl eg)]
   simp [go_sem,e18]
   exact hK _ _ (Below.refl _ _) rfl
  ·intro listed A0 W hA hr K hK
   have eg:A0.tmps[101]?.getD undef=.bool false:=slot_is (hA.val 4 _ rfl (hr ⟨4,.guard⟩ (by simp) rfl))
   have e102:A0.tmps[102]?.getD undef=.int .i64 (y2):=slot_is (hA.val 5 _ rfl (hr ⟨5,.data⟩ (by simp) rfl))
   have e103:A0.tmps[103]?.getD undef=.int .i64 (y2):=slot_is (hA.val 6 _ rfl (hr ⟨6,.data⟩ (by simp) rfl))
   rw [if_pos (FreeG.wanted_yes rfl rfl rfl eg)]
   simp [go_sem,e102,e103]
   exact hK _ _ (Below.refl _ _) rfl
  ·intro listed A0 W hA hr K hK
   have e101:A0.tmps[101]?.getD undef=.bool false:=slot_is (hA.val 4 _ rfl (hr ⟨4,.data⟩ (by simp) rfl))
   have e104:A0.tmps[104]?.getD undef=.bool false:=slot_is (hA.val 7 _ rfl (hr ⟨7,.data⟩ (by simp) rfl))
   rw [if_pos (FreeG.wanted_plain rfl)]
   simp [go_sem,e101,e104]
   exact hK _ _ (Below.refl _ _) rfl
  ·intro listed A0 W hA hr K hK
   have e105:A0.tmps[105]?.getD undef=.bool false:=slot_is (hA.val 8 _ rfl (hr ⟨8,.data⟩ (by simp) rfl))
   rw [if_pos (FreeG.wanted_plain rfl)]
   simp [go_sem,e105]
   exact hK _ _ (Below.refl _ _) rfl
  ·intro listed A0 W hA hr K hK
   have eg:A0.tmps[106]?.getD undef=.bool false:=slot_is (hA.val 9 _ rfl (hr ⟨9,.guard⟩ (by simp) rfl))
   have e0:A0.tmps[0]?.getD undef=.pointer (some ⟨g,0,none⟩):=slot_is ((hA.kept 0 (Free.not_dst (by kernel_rfl))).trans rfl)
   rw [if_pos (FreeG.wanted_yes rfl rfl rfl eg)]
   simp [go_sem,e0]
   exact hK _ _ (Below.refl _ _) rfl
  ·intro listed A0 W hA hr K hK
   have eg:A0.tmps[106]?.getD undef=.bool false:=slot_is (hA.val 9 _ rfl (hr ⟨9,.guard⟩ (by simp) rfl))
   have e107:A0.tmps[107]?.getD undef=.pointer (some ⟨g,0,none⟩):=slot_is (hA.val 10 _ rfl (hr ⟨10,.data⟩ (by simp) rfl))
   rw [if_pos (FreeG.wanted_yes rfl rfl rfl eg)]
   simp [go_sem,e107]
   refine (P.tab (H6.out.later (hA.c.b)) (j:=1) rfl).mono ?_
   rintro e' w' ⟨A1,m1,p1,B1,k1,q1,C1,n1,r1,W1,rfl,ht1,_,hb⟩
   exact hK _ _ hb ⟨A1,m1,p1,B1,k1,q1,C1,n1,r1,rfl,ht1⟩
  ·intro listed A0 W hA hr K hK
   have eg:A0.tmps[106]?.getD undef=.bool false:=slot_is (hA.val 9 _ rfl (hr ⟨9,.guard⟩ (by simp) rfl))
   rw [if_pos (FreeG.wanted_yes rfl rfl rfl eg)]
   have e108:=slot_tab (hA.val 11 _ rfl (hr ⟨11,.data⟩ (by simp) rfl))
   obtain ⟨A1,m1,p1,B1,k1,q1,C1,n1,r1,e108,ht1⟩:=e108
   simp [go_sem,e108]
   refine (Tb.ref_any t1.sg t1.st A1 m1 p1 B1 k1 q1 C1 n1 r1 W).mono ?_
   rintro e' w' ⟨rfl,hb⟩
   exact hK _ _ hb ⟨A1,m1,p1,B1,k1,q1,C1,n1,r1,rfl,ht1.later hb⟩
  ·intro listed A0 W hA hr K hK
   have eg:A0.tmps[106]?.getD undef=.bool false:=slot_is (hA.val 9 _ rfl (hr ⟨9,.guard⟩ (by simp) rfl))
   have e1:A0.tmps[1]?.getD undef=.pointer (some ⟨g2,0,none⟩):=slot_is ((hA.kept 1 (Free.not_dst (by kernel_rfl))).trans rfl)
   rw [if_pos (FreeG.wanted_yes rfl rfl rfl eg)]
   simp [go_sem,e1]
   exact hK _ _ (Below.refl _ _) rfl
  ·intro listed A0 W hA hr K hK
   have eg:A0.tmps[106]?.getD undef=.bool false:=slot_is (hA.val 9 _ rfl (hr ⟨9,.guard⟩ (by simp) rfl))
   have e110:A0.tmps[110]?.getD undef=.pointer (some ⟨g2,0,none⟩):=slot_is (hA.val 13 _ rfl (hr ⟨13,.data⟩ (by simp) rfl))
   rw [if_pos (FreeG.wanted_yes rfl rfl rfl eg)]
   simp [go_sem,e110]
   exact hK _ _ (Below.refl _ _) rfl
  ·intro listed A0 W hA hr K hK
   have eg:A0.tmps[106]?.getD undef=.bool false:=slot_is (hA.val 9 _ rfl (hr ⟨9,.guard⟩ (by simp) rfl))
   have e111:A0.tmps[111]?.getD undef=.pointer (some ⟨g2,0,none⟩):=slot_is (hA.val 14 _ rfl (hr ⟨14,.data⟩ (by simp) rfl))
   rw [if_pos (FreeG.wanted_yes rfl rfl rfl eg)]
   simp [go_sem,e111]
   exact hK _ _ (Below.refl _ _) rfl
  ·intro listed A0 W hA hr K hK
   have eg:A0.tmps[106]?.getD undef=.bool false:=slot_is (hA.val 9 _ rfl (hr ⟨9,.guard⟩ (by simp) rfl))
   have e112:A0.tmps[112]?.getD undef=.pointer (some ⟨g2,1,none⟩):=slot_is (hA.val 15 _ rfl (hr ⟨15,.data⟩ (by simp) rfl))
   have f0:W.cell? ⟨g2,1,none⟩=some (.int .i64 (t1.sg)):=(hA.c.at_ 2 rfl).cell 1
   have f1:W.cell? ⟨g2,2,none⟩=some (.int .i64 (t1.st)):=(hA.c.at_ 2 rfl).cell 2
   have f2:W.cell? ⟨g2,3,none⟩=some (.slice A m p):=(hA.c.at_ 2 rfl).cell 3
   have f3:W.cell? ⟨g2,4,none⟩=some (.slice B kk q):=(hA.c.at_ 2 rfl).cell 4
   have f4:W.cell? ⟨g2,5,none⟩=some (.slice C nn rr):=(hA.c.at_ 2 rfl).cell 5
   rw [if_pos (FreeG.wanted_yes rfl rfl rfl eg)]
   simp [go_sem,e112,f0,f1,f2,f3,f4]
   exact hK _ _ (Below.refl _ _) rfl
  ·intro listed A0 W hA hr K hK
   have eg:A0.tmps[106]?.getD undef=.bool false:=slot_is (hA.val 9 _ rfl (hr ⟨9,.guard⟩ (by simp) rfl))
   have e113:A0.tmps[113]?.getD undef=.agg #[.int .i64 (t1.sg),.int .i64 (t1.st),.slice A m p,.slice B kk q,.slice C nn rr]:=slot_is (hA.val 16 _ rfl (hr ⟨16,.data⟩ (by simp) rfl))
   rw [if_pos (FreeG.wanted_yes rfl rfl rfl eg)]
   have e109:=slot_tab (hA.val 12 _ rfl (hr ⟨12,.data⟩ (by simp) rfl))
   obtain ⟨A1,m1,p1,B1,k1,q1,C1,n1,r1,e109,ht1⟩:=e109
   simp [go_sem,e109,e113]
   have hf:=Tb.ok_full hok ht1
   refine (Tb.same_yes t1.sg t1.st A1 m1 p1 B1 k1 q1 C1 n1 r1 A m p B kk q C nn rr t1.o t1.l t1.f W ht1 ⟨hA.c.sl 0 rfl,hA.c.sl 1 rfl,hA.c.sl 2 rfl⟩ (by have:=HM.out; have:=ht1.a.len; unfold maxLen; omega) (by have:=HM.out; have:=ht1.b.len; unfold maxLen; omega) (by have:=HM.out; have:=ht1.c.len; unfold maxLen; omega)).mono ?_
   rintro e' w' ⟨rfl,hb⟩
   exact hK _ _ hb rfl
  ·intro listed A0 W hA hr K hK
   have eg:A0.tmps[106]?.getD undef=.bool false:=slot_is (hA.val 9 _ rfl (hr ⟨9,.guard⟩ (by simp) rfl))
   have e114:A0.tmps[114]?.getD undef=.bool true:=slot_is (hA.val 17 _ rfl (hr ⟨17,.data⟩ (by simp) rfl))
   rw [if_pos (FreeG.wanted_yes rfl rfl rfl eg)]
   simp [go_sem,e114]
   exact hK _ _ (Below.refl _ _) rfl
  ·intro listed A0 W hA hr K hK
   have e106:A0.tmps[106]?.getD undef=.bool false:=slot_is (hA.val 9 _ rfl (hr ⟨9,.data⟩ (by simp) rfl))
   have e115:A0.tmps[115]?.getD undef=.bool false:=slot_is (hA.val 18 _ rfl (hr ⟨18,.data⟩ (by simp) rfl))
   rw [if_pos (FreeG.wanted_plain rfl)]
   simp [go_sem,e106,e115]
   exact hK _ _ (Below.refl _ _) rfl
  ·intro listed A0 W hA hr K hK
   have e116:A0.tmps[116]?.getD undef=.bool false:=slot_is (hA.val 19 _ rfl (hr ⟨19,.data⟩ (by simp) rfl))
   rw [if_pos (FreeG.wanted_plain rfl)]
   simp [go_sem,e116]
   exact hK _ _ (Below.refl _ _) rfl
  ·intro listed A0 W hA hr K hK
   have eg:A0.tmps[117]?.getD undef=.bool false:=slot_is (hA.val 20 _ rfl (hr ⟨20,.guard⟩ (by simp) rfl))
   have e0:A0.tmps[0]?.getD undef=.pointer (some ⟨g,0,none⟩):=slot_is ((hA.kept 0 (Free.not_dst (by kernel_rfl))).trans rfl)
   rw [if_pos (FreeG.wanted_yes rfl rfl rfl eg)]
   simp [go_sem,e0]
   exact hK _ _ (Below.refl _ _) rfl
  ·intro listed A0 W hA hr K hK
   have eg:A0.tmps[117]?.getD undef=.bool false:=slot_is (hA.val 20 _ rfl (hr ⟨20,.guard⟩ (by simp) rfl))
   have e118:A0.tmps[118]?.getD undef=.pointer (some ⟨g,0,none⟩):=slot_is (hA.val 21 _ rfl (hr ⟨21,.data⟩ (by simp) rfl))
   rw [if_pos (FreeG.wanted_yes rfl rfl rfl eg)]
   simp [go_sem,e118]
   refine (P.lsn (H6.out.later (hA.c.b)) (j:=1) rfl).mono ?_
   rintro e' w' ⟨rfl,hb⟩
   exact hK _ _ hb rfl
  ·intro listed A0 W hA hr K hK
   have eg:A0.tmps[117]?.getD undef=.bool false:=slot_is (hA.val 20 _ rfl (hr ⟨20,.guard⟩ (by simp) rfl))
   have e1:A0.tmps[1]?.getD undef=.pointer (some ⟨g2,0,none⟩):=slot_is ((hA.kept 1 (Free.not_dst (by kernel_rfl))).trans rfl)
   rw [if_pos (FreeG.wanted_yes rfl rfl rfl eg)]
   simp [go_sem,e1]
   exact hK _ _ (Below.refl _ _) rfl
  ·intro listed A0 W hA hr K hK
   have eg:A0.tmps[117]?.getD undef=.bool false:=slot_is (hA.val 20 _ rfl (hr ⟨20,.guard⟩ (by simp) rfl))
   have e120:A0.tmps[120]?.getD undef=.pointer (some ⟨g2,0,none⟩):=slot_is (hA.val 23 _ rfl (hr ⟨23,.data⟩ (by simp) rfl))
   rw [if_pos (FreeG.wanted_yes rfl rfl rfl eg)]
   simp [go_sem,e120]
   exact hK _ _ (Below.refl _ _) rfl
  ·intro listed A0 W hA hr K hK
   have eg:A0.tmps[117]?.getD undef=.bool false:=slot_is (hA.val 20 _ rfl (hr ⟨20,.guard⟩ (by simp) rfl))
   have e121:A0.tmps[121]?.getD undef=.pointer (some ⟨g2,0,none⟩):=slot_is (hA.val 24 _ rfl (hr ⟨24,.data⟩ (by simp) rfl))
   rw [if_pos (FreeG.wanted_yes rfl rfl rfl eg)]
   simp [go_sem,e121]
   exact hK _ _ (Below.refl _ _) rfl
  ·intro listed A0 W hA hr K hK
   have eg:A0.tmps[117]?.getD undef=.bool false:=slot_is (hA.val 20 _ rfl (hr ⟨20,.guard⟩ (by simp) rfl))
   have e122:A0.tmps[122]?.getD undef=.pointer (some ⟨g2,6,none⟩):=slot_is (hA.val 25 _ rfl (hr ⟨25,.data⟩ (by simp) rfl))
   have f0:W.cell? ⟨g2,6,none⟩=some (.int .u64 l1):=(hA.c.at_ 2 rfl).cell 6
   rw [if_pos (FreeG.wanted_yes rfl rfl rfl eg)]
   simp [go_sem,e122,f0]
   exact hK _ _ (Below.refl _ _) rfl
  ·intro listed A0 W hA hr K hK
   have eg:A0.tmps[117]?.getD undef=.bool false:=slot_is (hA.val 20 _ rfl (hr ⟨20,.guard⟩ (by simp) rfl))
   have e119:A0.tmps[119]?.getD undef=.int .u64 l1:=slot_is (hA.val 22 _ rfl (hr ⟨22,.data⟩ (by simp) rfl))
   have e123:A0.tmps[123]?.getD undef=.int .u64 l1:=slot_is (hA.val 26 _ rfl (hr ⟨26,.data⟩ (by simp) rfl))
   rw [if_pos (FreeG.wanted_yes rfl rfl rfl eg)]
   simp [go_sem,e119,e123]
   exact hK _ _ (Below.refl _ _) rfl
  ·intro listed A0 W hA hr K hK
   have e117:A0.tmps[117]?.getD undef=.bool false:=slot_is (hA.val 20 _ rfl (hr ⟨20,.data⟩ (by simp) rfl))
   have e124:A0.tmps[124]?.getD undef=.bool false:=slot_is (hA.val 27 _ rfl (hr ⟨27,.data⟩ (by simp) rfl))
   rw [if_pos (FreeG.wanted_plain rfl)]
   simp [go_sem,e117,e124]
   exact hK _ _ (Below.refl _ _) rfl
  ·intro listed A0 W hA hr K hK
   have e125:A0.tmps[125]?.getD undef=.bool false:=slot_is (hA.val 28 _ rfl (hr ⟨28,.data⟩ (by simp) rfl))
   rw [if_pos (FreeG.wanted_plain rfl)]
   simp [go_sem,e125]
   exact hK _ _ (Below.refl _ _) rfl
  ·intro listed A0 W hA hr K hK
   have eg:A0.tmps[126]?.getD undef=.bool false:=slot_is (hA.val 29 _ rfl (hr ⟨29,.guard⟩ (by simp) rfl))
   have e0:A0.tmps[0]?.getD undef=.pointer (some ⟨g,0,none⟩):=slot_is ((hA.kept 0 (Free.not_dst (by kernel_rfl))).trans rfl)
   rw [if_pos (FreeG.wanted_yes rfl rfl rfl eg)]
   simp [go_sem,e0]
   exact hK _ _ (Below.refl _ _) rfl
  ·intro listed A0 W hA hr K hK
   have eg:A0.tmps[126]?.getD undef=.bool false:=slot_is (hA.val 29 _ rfl (hr ⟨29,.guard⟩ (by simp) rfl))
   have e127:A0.tmps[127]?.getD undef=.pointer (some ⟨g,0,none⟩):=slot_is (hA.val 30 _ rfl (hr ⟨30,.data⟩ (by simp) rfl))
   rw [if_pos (FreeG.wanted_yes rfl rfl rfl eg)]
   simp [go_sem,e127]
   refine (P.epoch (H6.out.later (hA.c.b)) (j:=1) rfl).mono ?_
   rintro e' w' ⟨rfl,hb⟩
   exact hK _ _ hb rfl
  ·intro listed A0 W hA hr K hK
   have eg:A0.tmps[126]?.getD undef=.bool false:=slot_is (hA.val 29 _ rfl (hr ⟨29,.guard⟩ (by simp) rfl))
   have e1:A0.tmps[1]?.getD undef=.pointer (some ⟨g2,0,none⟩):=slot_is ((hA.kept 1 (Free.not_dst (by kernel_rfl))).trans rfl)
   rw [if_pos (FreeG.wanted_yes rfl rfl rfl eg)]
   simp [go_sem,e1]
   exact hK _ _ (Below.refl _ _) rfl
  ·intro listed A0 W hA hr K hK
   have eg:A0.tmps[126]?.getD undef=.bool false:=slot_is (hA.val 29 _ rfl (hr ⟨29,.guard⟩ (by simp) rfl))
   have e129:A0.tmps[129]?.getD undef=.pointer (some ⟨g2,0,none⟩):=slot_is (hA.val 32 _ rfl (hr ⟨32,.data⟩ (by simp) rfl))
   rw [if_pos (FreeG.wanted_yes rfl rfl rfl eg)]
   simp [go_sem,e129]
   exact hK _ _ (Below.refl _ _) rfl
  ·intro listed A0 W hA hr K hK
   have eg:A0.tmps[126]?.getD undef=.bool false:=slot_is (hA.val 29 _ rfl (hr ⟨29,.guard⟩ (by simp) rfl))
   have e130:A0.tmps[130]?.getD undef=.pointer (some ⟨g2,0,none⟩):=slot_is (hA.val 33 _ rfl (hr ⟨33,.data⟩ (by simp) rfl))
   rw [if_pos (FreeG.wanted_yes rfl rfl rfl eg)]
   simp [go_sem,e130]
   exact hK _ _ (Below.refl _ _) rfl
  ·intro listed A0 W hA hr K hK
   have eg:A0.tmps[126]?.getD undef=.bool false:=slot_is (hA.val 29 _ rfl (hr ⟨29,.guard⟩ (by simp) rfl))
   have e131:A0.tmps[131]?.getD undef=.pointer (some ⟨g2,7,none⟩):=slot_is (hA.val 34 _ rfl (hr ⟨34,.data⟩ (by simp) rfl))
   have f0:W.cell? ⟨g2,7,none⟩=some (.int .u32 ep):=(hA.c.at_ 2 rfl).cell 7
   rw [if_pos (FreeG.wanted_yes rfl rfl rfl eg)]
   simp [go_sem,e131,f0]
   exact hK _ _ (Below.refl _ _) rfl
  ·intro listed A0 W hA hr K hK
   have eg:A0.tmps[126]?.getD undef=.bool false:=slot_is (hA.val 29 _ rfl (hr ⟨29,.guard⟩ (by simp) rfl))
   have e128:A0.tmps[128]?.getD undef=.int .u32 ep:=slot_is (hA.val 31 _ rfl (hr ⟨31,.data⟩ (by simp) rfl))
   have e132:A0.tmps[132]?.getD undef=.int .u32 ep:=slot_is (hA.val 35 _ rfl (hr ⟨35,.data⟩ (by simp) rfl))
   rw [if_pos (FreeG.wanted_yes rfl rfl rfl eg)]
   simp [go_sem,e128,e132]
   exact hK _ _ (Below.refl _ _) rfl
  ·intro listed A0 W hA hr K hK
   have e126:A0.tmps[126]?.getD undef=.bool false:=slot_is (hA.val 29 _ rfl (hr ⟨29,.data⟩ (by simp) rfl))
   have e133:A0.tmps[133]?.getD undef=.bool false:=slot_is (hA.val 36 _ rfl (hr ⟨36,.data⟩ (by simp) rfl))
   rw [if_pos (FreeG.wanted_plain rfl)]
   simp [go_sem,e126,e133]
   exact hK _ _ (Below.refl _ _) rfl
  ·intro listed A0 W hA hr K hK
   have e134:A0.tmps[134]?.getD undef=.bool false:=slot_is (hA.val 37 _ rfl (hr ⟨37,.data⟩ (by simp) rfl))
   rw [if_pos (FreeG.wanted_plain rfl)]
   simp [go_sem,e134]
   exact hK _ _ (Below.refl _ _) rfl
  ·intro listed A0 W hA hr K hK
   have eg:A0.tmps[135]?.getD undef=.bool false:=slot_is (hA.val 38 _ rfl (hr ⟨38,.guard⟩ (by simp) rfl))
   have e0:A0.tmps[0]?.getD undef=.pointer (some ⟨g,0,none⟩):=slot_is ((hA.kept 0 (Free.not_dst (by kernel_rfl))).trans rfl)
   rw [if_pos (FreeG.wanted_yes rfl rfl rfl eg)]
   simp [go_sem,e0]
   exact hK _ _ (Below.refl _ _) rfl
  ·intro listed A0 W hA hr K hK
   have eg:A0.tmps[135]?.getD undef=.bool false:=slot_is (hA.val 38 _ rfl (hr ⟨38,.guard⟩ (by simp) rfl))
   have e136:A0.tmps[136]?.getD undef=.pointer (some ⟨g,0,none⟩):=slot_is (hA.val 39 _ rfl (hr ⟨39,.data⟩ (by simp) rfl))
   rw [if_pos (FreeG.wanted_yes rfl rfl rfl eg)]
   simp [go_sem,e136]
   refine (P.gen (H6.out.later (hA.c.b)) (j:=1) rfl).mono ?_
   rintro e' w' ⟨rfl,hb⟩
   exact hK _ _ hb rfl
  ·intro listed A0 W hA hr K hK
   have eg:A0.tmps[135]?.getD undef=.bool false:=slot_is (hA.val 38 _ rfl (hr ⟨38,.guard⟩ (by simp) rfl))
   have e1:A0.tmps[1]?.getD undef=.pointer (some ⟨g2,0,none⟩):=slot_is ((hA.kept 1 (Free.not_dst (by kernel_rfl))).trans rfl)
   rw [if_pos (FreeG.wanted_yes rfl rfl rfl eg)]
   simp [go_sem,e1]
   exact hK _ _ (Below.refl _ _) rfl
  ·intro listed A0 W hA hr K hK
   have eg:A0.tmps[135]?.getD undef=.bool false:=slot_is (hA.val 38 _ rfl (hr ⟨38,.guard⟩ (by simp) rfl))
   have e138:A0.tmps[138]?.getD undef=.pointer (some ⟨g2,0,none⟩):=slot_is (hA.val 41 _ rfl (hr ⟨41,.data⟩ (by simp) rfl))
   rw [if_pos (FreeG.wanted_yes rfl rfl rfl eg)]
   simp [go_sem,e138]
   exact hK _ _ (Below.refl _ _) rfl
  ·intro listed A0 W hA hr K hK
   have eg:A0.tmps[135]?.getD undef=.bool false:=slot_is (hA.val 38 _ rfl (hr ⟨38,.guard⟩ (by simp) rfl))
   have e139:A0.tmps[139]?.getD undef=.pointer (some ⟨g2,0,none⟩):=slot_is (hA.val 42 _ rfl (hr ⟨42,.data⟩ (by simp) rfl))
   rw [if_pos (FreeG.wanted_yes rfl rfl rfl eg)]
   simp [go_sem,e139]
   exact hK _ _ (Below.refl _ _) rfl
  ·intro listed A0 W hA hr K hK
   have eg:A0.tmps[135]?.getD undef=.bool false:=slot_is (hA.val 38 _ rfl (hr ⟨38,.guard⟩ (by simp) rfl))
   have e140:A0.tmps[140]?.getD undef=.pointer (some ⟨g2,8,none⟩):=slot_is (hA.val 43 _ rfl (hr ⟨43,.data⟩ (by simp) rfl))
   have f0:W.cell? ⟨g2,8,none⟩=some (.int .u64 g1):=(hA.c.at_ 2 rfl).cell 8
   rw [if_pos (FreeG.wanted_yes rfl rfl rfl eg)]
   simp [go_sem,e140,f0]
   exact hK _ _ (Below.refl _ _) rfl
  ·intro listed A0 W hA hr K hK
   have eg:A0.tmps[135]?.getD undef=.bool false:=slot_is (hA.val 38 _ rfl (hr ⟨38,.guard⟩ (by simp) rfl))
   have e137:A0.tmps[137]?.getD undef=.int .u64 g1:=slot_is (hA.val 40 _ rfl (hr ⟨40,.data⟩ (by simp) rfl))
   have e141:A0.tmps[141]?.getD undef=.int .u64 g1:=slot_is (hA.val 44 _ rfl (hr ⟨44,.data⟩ (by simp) rfl))
   rw [if_pos (FreeG.wanted_yes rfl rfl rfl eg)]
   simp [go_sem,e137,e141]
   exact hK _ _ (Below.refl _ _) rfl
  ·intro listed A0 W hA hr K hK
   have e135:A0.tmps[135]?.getD undef=.bool false:=slot_is (hA.val 38 _ rfl (hr ⟨38,.data⟩ (by simp) rfl))
   have e142:A0.tmps[142]?.getD undef=.bool false:=slot_is (hA.val 45 _ rfl (hr ⟨45,.data⟩ (by simp) rfl))
   rw [if_pos (FreeG.wanted_plain rfl)]
   simp [go_sem,e135,e142]
   exact hK _ _ (Below.refl _ _) rfl
 ·intro A0 W9 hA
  have s143:A0.tmps.getD 143 undef=.bool false:=hA.val 46 _ rfl rfl
  have hsz:=hA.slots
  have hde:=hA.defers
  have H9:=Lib.hid (H6.out.later hA.c.b)
  clear hA
  obtain ⟨tm,de⟩:=A0
  simp only at s143 hsz hde
  obtain ⟨y,hy,ee⟩:=arrF144 hsz
  have t143:y 143=.bool false:=(hy 143).symm.trans s143
  rw [t143] at ee
  clear s143 hsz hy t143
  subst ee hde
  go_wp2_with fail
  go_ret
  exact ⟨s1,t1,l1,g1,HN.out,.inl ⟨rfl,loc_drop (items:=four PL d g r g2 s1 t1 l1 ep g1) H9.out⟩⟩
end Go.Proofs.YtdpmjlbkojhooaaGreat.Lg
