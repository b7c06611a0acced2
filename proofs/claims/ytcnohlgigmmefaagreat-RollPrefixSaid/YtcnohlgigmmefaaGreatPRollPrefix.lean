/- A part. -/
import Derived.Test.YtcnohlgigmmefaaGreatPRpP
import Derived.Deep.DeepCutAuto
import Derived.Deep.LoopGhost
import Derived.Deep.RegionWith
import Derived.StillTailTactics
import Derived.WalkSmall
import Derived.IntWalk
import Derived.ProofKit
import Derived.OpenShut
import Derived.ShutString
import Derived.SizedLaws
namespace Go.Proofs.YtcnohlgigmmefaaGreat.rollPrefix
open Go.ChangeShapes Go.WideShapes Go.ChangeAt Go.RowKit Go.Lib Go.MapKept
open Go.ChangeMaps (open_string shut_string)
set_option linter.unusedVariables false
theorem own:ownKnob Tryz.prog.godebug=none:=by kernel_rfl
theorem laid:laidOutB Tryz.prog=true:=by kernel_rfl
set_option maxRecDepth 100000
open Ro
open Lg (locI loc_whole loc_alloc loc_blk PLog prg csF load_cf store_cf small_any smG smL small_may small_not)
open Lg.Lg (bC S0 S0_eq nD new_yes sc_may sc_bd app_live)
open Tb (Tab TIn Sl okP csT lastN nth Fresh)
open Dk (St Only Grew)
set_option maxHeartbeats 32000000 in
theorem walk (sg sl:Int) (x:Nat) (rt:Int) (n0 n1:Int) (lim:Int) (KA:Option Addr) (KN kc:Nat) (kp:Nat→Bool) (torn pos:Int) (w:World) (hx:x<18446744073709551616) (h0:0≤n0∧n0≤255) (h1:0≤n1∧n1≤255) (hKN:KN≤maxLen) (hKC:CellsIn w KA KN (fun j=>.bool (kp j))) (hKF:∀ j,KN≤j→kp j=false) :
 Calls Tryz.prog 5 #[.agg #[.int .i64 sg,.int .i64 sl,.float .f64 x,.int .i64 rt],.agg #[.int .u8 n0,.int .u8 n1],.agg #[.int .i64 lim,.slice KA KN kc,.int .i64 torn,.int .i64 pos]] w fun e w'=>e=.returned (.bool true)∧Below w.heap.size w w':=by
 have hvI:=Tryz.zeroValue48
 have hvL:=Tryz.zeroValue93
 have HK:=Lib.hid (And.intro hKN (And.intro hKC hKF))
 clear hKN hKC hKF
 have N3:Tb.Blk (((w.alloc (.cells (csF sg sl x rt) 24)).alloc (.cells #[.int .u8 n0,.int .u8 n1] 85)).alloc (.cells #[.int .i64 lim,.slice KA KN kc,.int .i64 torn,.int .i64 pos] 87)) w.heap.size 24 (csF sg sl x rt):=((Tb.Blk.new w _ _).later (NewC.below1 _ _)).later (NewC.below1 _ _)
 have N4:Tb.Blk (((w.alloc (.cells (csF sg sl x rt) 24)).alloc (.cells #[.int .u8 n0,.int .u8 n1] 85)).alloc (.cells #[.int .i64 lim,.slice KA KN kc,.int .i64 torn,.int .i64 pos] 87)) (w.heap.size+1) 85 #[.int .u8 n0,.int .u8 n1]:=(Tb.Blk.at_ _ _ _ (by simp)).later (NewC.below1 _ _)
 have N5:Tb.Blk (((w.alloc (.cells (csF sg sl x rt) 24)).alloc (.cells #[.int .u8 n0,.int .u8 n1] 85)).alloc (.cells #[.int .i64 lim,.slice KA KN kc,.int .i64 torn,.int .i64 pos] 87)) (w.heap.size+2) 87 #[.int .i64 lim,.slice KA KN kc,.int .i64 torn,.int .i64 pos]:=Tb.Blk.at_ _ _ _ (by simp)
 have BBA:Hid (Below w.heap.size w (((w.alloc (.cells (csF sg sl x rt) 24)).alloc (.cells #[.int .u8 n0,.int .u8 n1] 85)).alloc (.cells #[.int .i64 lim,.slice KA KN kc,.int .i64 torn,.int .i64 pos] 87))):=Lib.hid (NewC.geTrans (NewC.geTrans (NewC.below1 _ _) (NewC.below1 _ _)) (NewC.below1 _ _))
 go_enter Tryz.func5,Tryz.ntmps5
 go_upto_region 1 with fail
 change Code.wp _ _ _ _ (((w.alloc (.cells (csF sg sl x rt) 24)).alloc (.cells #[.int .u8 n0,.int .u8 n1] 85)).alloc (.cells #[.int .i64 lim,.slice KA KN kc,.int .i64 torn,.int .i64 pos] 87))
 obtain ⟨b,Eb⟩:∃ z,w.heap.size=z:=⟨_,rfl⟩
 have HWB:Hid (w.heap.size=b):=Lib.hid Eb
 rw [Eb] at N3 N4 N5 ⊢
 clear Eb
 generalize (((w.alloc (.cells (csF sg sl x rt) 24)).alloc (.cells #[.int .u8 n0,.int .u8 n1] 85)).alloc (.cells #[.int .i64 lim,.slice KA KN kc,.int .i64 torn,.int .i64 pos] 87))=wA at *
 have HSM:=Lib.hid (small_any sg sl rt x wA hx)
 obtain ⟨G,EG⟩:∃ z,smG sg sl x rt=z:=⟨_,rfl⟩
 obtain ⟨Z,EZ⟩:∃ z,smL sg sl x rt=z:=⟨_,rfl⟩
 have HSB:Hid (Ck.MayC G Z x rt→G≤6∧Z≤5):=Lib.hid (fun h=>by
  by_cases hm:Ck.MayC sg sl x rt
  ·have:=small_may hm
   rw [EG,EZ] at this
   exact this.2
  ·exact absurd (by rw [EG,EZ]; exact h) (small_not hm))
 rw [EG,EZ] at HSM
 clear EG EZ
 go_wp2_with (with_reducible refine load_cf rfl (.tmp 3) rfl b rfl N3 ?_)
 refine HSM.out.mono ?_
 rintro e' w1 ⟨rfl,hb1⟩
 replace N3:=N3.later hb1
 replace N4:=N4.later hb1
 replace N5:=N5.later hb1
 replace BBA:=Lib.hid (BBA.out.trans (hb1.mono BBA.out.size))
 clear HSM hb1
 go_upto_region 2 with (with_reducible refine store_cf rfl (.tmp 3) (.tmp 20) rfl b rfl rfl N3 ?_)
 replace N4:Tb.Blk (w1.setRow b (csF G Z x rt)) (b+1) 85 #[.int .u8 n0,.int .u8 n1]:=N4.far (by omega) _
 replace N5:Tb.Blk (w1.setRow b (csF G Z x rt)) (b+2) 87 #[.int .i64 lim,.slice KA KN kc,.int .i64 torn,.int .i64 pos]:=N5.far (by omega) _
 replace N3:=N3.row (csF G Z x rt)
 replace BBA:=Lib.hid (Tb.below_row BBA.out (show w.heap.size≤b by have:=HWB.out; omega) (csF G Z x rt))
 generalize w1.setRow b (csF G Z x rt)=wB at *
 by_cases hm:Ck.MayC G Z x rt
 case neg =>
  have HC:=Lib.hid (fun w=>Ck.R4.may_no G Z rt x w hx hm)
  go_wp2_with (with_reducible refine load_cf rfl (.tmp 3) rfl b rfl N3 ?_)
  refine (HC.out _).mono ?_
  rintro e' w2 ⟨rfl,hb⟩
  have BB2:=Lib.hid (BBA.out.trans (hb.mono BBA.out.size))
  clear hb HC N3 N4 N5
  go_wp2_with fail
  refine (fixed_any _).mono ?_
  rintro e' w3 ⟨rfl,hb⟩
  have BB3:=Lib.hid (BB2.out.trans (hb.mono BB2.out.size))
  clear hb
  go_wp2_with fail
  go_ret
  exact ⟨rfl,BB3.out⟩
 have HB6:=HSB.out hm
 have HPN:=Lib.hid (fun fl=>pre_new (rt:=rt) hm HB6.1 HB6.2 fl)
 have HFM:=Lib.hid (new_yes (x:=x) (rt:=rt) hm HB6.1 HB6.2).1
 have HMY:=Lib.hid hm
 have HC:=Lib.hid (fun w=>Ck.R4.may_yes G Z rt x w hm)
 have HSC:=Lib.hid (fun w=>Ck.R4.sectors_any G Z rt x w hx)
 have HSE:=Lib.hid (sc_may hm)
 have HSD:=Lib.hid (sc_bd hm HB6.1 HB6.2)
 have HG:=Lib.hid (Lg.Lg.may_bd hm HB6.1 HB6.2)
 clear hm HB6 HSB
 have HB3:=Lib.hid N3
 have HB4:=Lib.hid N4
 have HB5:=Lib.hid N5
 clear N4 N5
 go_wp2_with (with_reducible refine load_cf rfl (.tmp 3) rfl b rfl N3 ?_)
 refine (HC.out _).mono ?_
 rintro e' w2 ⟨rfl,hb⟩
 have h1:Dk.Sep wB w2 []:=Dk.Sep.nil hb
 replace N3:=N3.later hb
 clear hb HC
 go_wp2_with (with_reducible refine load_cf rfl (.tmp 3) rfl b rfl N3 ?_)
 refine (HSC.out _).mono ?_
 rintro e' w3 ⟨rfl,hb⟩
 replace h1:=h1.later hb
 have HN:=Lib.hid (Dk.new_s h1 (Ck.scC G Z x rt) HSD.out.1 HSD.out.2)
 clear hb HSC h1 N3
 go_wp2_with fail
 refine HN.out.mono ?_
 rintro e' w4 ⟨d,rfl,h2⟩
 have h1:Dk.Sep wB w4 [Dk.diskI d (Dk.St.new (Ck.scC G Z x rt))]:=h2
 have N3:=HB3.out.later h1.below
 have HF:=Lib.hid (prg.fmt h1 (k:=0) rfl G Z rt x hx (by show (0:Nat)<1048576; decide) S0 S0_eq)
 clear HN h2 h1
 go_upto_region 7 with fail
 go_wp2_with (with_reducible refine load_cf rfl (.tmp 3) rfl b rfl N3 ?_)
 refine HF.out.mono ?_
 rintro e' w5 (⟨_,g,rfl,h2⟩ | ⟨hn,_⟩)
 rotate_left
 ·exact absurd HFM.out hn
 have h1:Dk.Sep wB w5 [Dk.diskI d (nD G Z x rt),PLog g d (Tb.newT G Z 1) 1 1 1]:=h2
 clear HF h2 N3
 have N3:=HB3.out.later h1.below
 have N4:=HB4.out.later h1.below
 have f0:w5.cell? ⟨b,0,none⟩=some (.int .i64 G):=N3.cell 0
 have f1:w5.cell? ⟨b,1,none⟩=some (.int .i64 Z):=N3.cell 1
 have f2:w5.cell? ⟨b+1,0,none⟩=some (.int .u8 n0):=N4.cell 0
 have f3:w5.cell? ⟨b+1,1,none⟩=some (.int .u8 n1):=N4.cell 1
 clear N3 N4
 obtain ⟨m,Em⟩:∃ z,G*Z=z:=⟨_,rfl⟩
 have hZ5:=HG.out.1
 have hG6:=HG.out.2
 have hm30:0≤m∧m≤30:=by
  rw [← Em]
  exact ⟨Int.mul_nonneg (by omega) (by omega),Int.mul_le_mul (show G≤6 by omega) (show Z≤5 by omega) (by omega) (by omega)⟩
 have HGZ:=Lib.hid Em
 have H1:=Lib.hid h1
 clear h1
 obtain ⟨many,Emy⟩:∃ z,n0%(min 30 m+1)=z:=⟨_,rfl⟩
 have hmy:0≤many∧many≤m:=by
  have e1:min 30 m=m:=by omega
  rw [e1] at Emy
  have h2:=Int.emod_nonneg n0 (show m+1≠0 by omega)
  have h3:=Int.emod_lt_of_pos n0 (show 0<m+1 by omega)
  omega
 obtain ⟨flz,Efl⟩:∃ z,n1%(many+1)=z:=⟨_,rfl⟩
 have hfz:0≤flz∧flz≤many:=by
  have h2:=Int.emod_nonneg n1 (show many+1≠0 by omega)
  have h3:=Int.emod_lt_of_pos n1 (show 0<many+1 by omega)
  omega
 go_upto_region 11 with fail
 try rw [Emy]
 clear Emy f0 f1 f2
 go_upto_region 12 with fail
 try rw [Efl]
 clear Efl f3
 obtain ⟨fl,rfl⟩:∃ k:Nat,(k:Int)=flz:=⟨flz.toNat,by omega⟩
 have HP0:=Lib.hid (HPN.out fl)
 go_wp2_with fail
 go_loopg [13] 31 (fun gk s13 wr=>∃ (i:Nat) (s1:St) (t1:Tab) (l1:Int),(i:Int)≤many∧gk=31-i∧s13=.int .i64 (i:Nat)∧Hid (Pre G Z i fl t1 s1 l1)∧Hid (Dk.Sep wB wr [Dk.diskI d s1,PLog g d t1 l1 1 1]))
 case atStart=>exact ⟨0,_,_,_,by omega,rfl,rfl,HP0,H1⟩
 case round =>
  obtain ⟨i,s1,t1,l1,hi,hgk,rfl,HR,HI⟩:=hrel
  have HGK:=Lib.hid hgk
  clear hgk H1 HP0
  by_cases hlt:(i:Int)<many
  ·by_cases hif:(i:Int)=(fl:Int)
   case pos =>
    obtain rfl:fl=i:=by omega
    clear hif
    have q0:((fl:Int) == (fl:Int))=true:=by simp
    have HFL:=Lib.hid (Dk.flush_s HI.out 0 rfl (Lg.not_dead HR.out.run.set) (by have:=HR.out.run.p.pend; omega))
    have HS2:Hid (Pre G Z fl fl t1 s1.flush l1∧(s1.flush.pend=[]∨fl=0)):=Lib.hid ⟨HR.out.flush,.inl rfl⟩
    go_upto_if 15 with fail
    refine HFL.out.mono ?_
    rintro e' w6 ⟨rfl,h6⟩
    have HS7:Hid (Dk.Sep wB w6 [Dk.diskI d s1.flush,PLog g d t1 l1 1 1]):=Lib.hid h6
    clear h6 HFL
    generalize s1.flush=s2 at *
    have HLS:Hid (2*fl≤1000):=Lib.hid (by omega)
    obtain ⟨s3,t3,l3,p1,p2,E,HR3⟩:=(HS2.out).1.next (by rw [HGZ.out]; omega) (by omega) (fun _=>HS2.out.2)
    have HE:=Lib.hid E
    have HPR:=Lib.hid HR3
    have hq1:(1:Int)≤(fl:Int)+1:=by omega
    have HI2:Hid (0≤(fl:Int)+1∧(fl:Int)+1<18446744073709551616):=Lib.hid ⟨by omega,by omega⟩
    clear E HR3
    go_wp2_with fail
    refine (live_is ⟨#[97]⟩ ((fl:Int)+1) w6).mono ?_
    rintro e' w7 ⟨rfl,hb⟩
    have h7:=HS7.out.later hb
    have HA:=Lib.hid (app_live h7 HS2.out.1.run.p HLS.out HE.out (by decide) HI2.out)
    clear hb h7
    go_wp2_with fail
    refine HA.out.mono ?_
    rintro e' w8 ⟨rfl,h8⟩
    have K14:Tb.Blk (w8.alloc (.cells #[.int .i64 0,.int .i64 0] 93)) w8.heap.size 93 #[.int .i64 0,.int .i64 0]:=Tb.Blk.new w8 _ _
    have h9:=h8.later (Tb.below_row (NewC.below1 w8 (.cells #[.int .i64 0,.int .i64 0] 93)) (Nat.le_refl _) #[.int .i64 p1,.int .i64 p2])
    clear h8 HA
    go_upto_region 18 with (with_reducible refine Lg.store_loc rfl (.tmp 14) (.tmp 86) rfl w8.heap.size rfl rfl K14 ?_)
    clear K14
    generalize (w8.alloc (.cells #[.int .i64 0,.int .i64 0] 93)).setRow w8.heap.size #[.int .i64 p1,.int .i64 p2]=w9 at *
    have H9:=Lib.hid h9
    clear h9
    go_wp2_with fail
    go_roundg (31-(fl+1))
    case measure=>have:=HGK.out; omega
    case rel=>exact ⟨fl+1,s3,t3,l3,by omega,by have:=HGK.out; omega,by go_num,HPR,H9⟩
   case neg =>
    have HS2:Hid (Pre G Z i fl t1 s1 l1∧(fl=i→s1.pend=[]∨fl=0)):=Lib.hid ⟨HR.out,fun h=>absurd (by omega) hif⟩
    have HS7:=Lib.hid HI.out
    have HLS:Hid (2*i≤1000):=Lib.hid (by omega)
    obtain ⟨s3,t3,l3,p1,p2,E,HR3⟩:=(HS2.out).1.next (by rw [HGZ.out]; omega) (by omega) HS2.out.2
    have HE:=Lib.hid E
    have HPR:=Lib.hid HR3
    have hq1:(1:Int)≤(i:Int)+1:=by omega
    have HI2:Hid (0≤(i:Int)+1∧(i:Int)+1<18446744073709551616):=Lib.hid ⟨by omega,by omega⟩
    clear E HR3
    go_wp2_with fail
    refine (live_is ⟨#[97]⟩ ((i:Int)+1) wr).mono ?_
    rintro e' w7 ⟨rfl,hb⟩
    have h7:=HS7.out.later hb
    have HA:=Lib.hid (app_live h7 HS2.out.1.run.p HLS.out HE.out (by decide) HI2.out)
    clear hb h7
    go_wp2_with fail
    refine HA.out.mono ?_
    rintro e' w8 ⟨rfl,h8⟩
    have K14:Tb.Blk (w8.alloc (.cells #[.int .i64 0,.int .i64 0] 93)) w8.heap.size 93 #[.int .i64 0,.int .i64 0]:=Tb.Blk.new w8 _ _
    have h9:=h8.later (Tb.below_row (NewC.below1 w8 (.cells #[.int .i64 0,.int .i64 0] 93)) (Nat.le_refl _) #[.int .i64 p1,.int .i64 p2])
    clear h8 HA
    go_upto_region 18 with (with_reducible refine Lg.store_loc rfl (.tmp 14) (.tmp 86) rfl w8.heap.size rfl rfl K14 ?_)
    clear K14
    generalize (w8.alloc (.cells #[.int .i64 0,.int .i64 0] 93)).setRow w8.heap.size #[.int .i64 p1,.int .i64 p2]=w9 at *
    have H9:=Lib.hid h9
    clear h9
    go_wp2_with fail
    go_roundg (31-(i+1))
    case measure=>have:=HGK.out; omega
    case rel=>exact ⟨i+1,s3,t3,l3,by omega,by have:=HGK.out; omega,by go_num,HPR,H9⟩
  ·obtain rfl:many=(i:Int):=by omega
   have hfi:fl≤i:=by omega
   have hi30:i≤30:=by omega
   have HB30:=Lib.hid hi30
   clear hlt
   go_upto_region 20 with fail
   go_cut [97] from 90 to 97 (fun s97 wx=>s97=.bool false∧∃ s2,Hid (Pre G Z i fl t1 s2 l1∧(fl=i→s2.pend=[]∨fl=0))∧Hid (Dk.Sep wB wx [Dk.diskI d s2,PLog g d t1 l1 1 1]))
   case first =>
    by_cases hfe:(fl:Int)=(i:Int)
    ·have HFL:=Lib.hid (Dk.flush_s HI.out 0 rfl (Lg.not_dead HR.out.run.set) (by have:=HR.out.run.p.pend; omega))
     have HS2:Hid (Pre G Z i fl t1 s1.flush l1∧(fl=i→s1.flush.pend=[]∨fl=0)):=Lib.hid ⟨HR.out.flush,fun _=>.inl rfl⟩
     have hd1:decide ((fl:Int)=(i:Int))=true:=by simpa using hfe
     have hd2:((fl:Int) == (i:Int))=true:=by simpa using hfe
     clear hfe
     go_wp2_with fail
     refine HFL.out.mono ?_
     rintro e' w6 ⟨rfl,h6⟩
     have HX:=Lib.hid h6
     clear h6 HFL
     generalize s1.flush=s2 at *
     go_wp2_with fail
     go_meet
     exact ⟨rfl,s2,HS2,HX⟩
    ·have HS2:Hid (Pre G Z i fl t1 s1 l1∧(fl=i→s1.pend=[]∨fl=0)):=Lib.hid ⟨HR.out,fun h=>absurd (by omega) hfe⟩
     go_wp2_with fail
     go_meet
     exact ⟨rfl,s1,HS2,HI⟩
   case rest =>
   obtain ⟨rfl,s2,HS2,HI2⟩:=hcut
   obtain ⟨hpre,hfl⟩:=HS2.out
   have c1:wc.cell? ⟨b+1+1,1,none⟩=some (.slice KA KN kc):=(HB5.out.later HI2.out.below).cell 1
   have c2:wc.cell? ⟨b+1+1,2,none⟩=some (.int .i64 torn):=(HB5.out.later HI2.out.below).cell 2
   have c3:wc.cell? ⟨b+1+1,3,none⟩=some (.int .i64 pos):=(HB5.out.later HI2.out.below).cell 3
   have HCR:=Lib.hid (Dk.crash_arg_s HI2.out 0 rfl KA KN kc HK.out.1 kp torn pos (HK.out.2.1.later BBA.out) HK.out.2.2 (by have:=hpre.run.p.pend; omega))
   obtain ⟨m1,FD⟩:=hpre.crash hfi hfl kp torn (Dk.clampN pos)
   have HFD:=Lib.hid FD
   have HGD:=Lib.hid (hpre.run.p.good.crash kp torn (Dk.clampN pos))
   have HZ:Hid ((s2.crash kp torn (Dk.clampN pos)).pend=[]∧(s2.crash kp torn (Dk.clampN pos)).size=s2.size):=Lib.hid ⟨rfl,rfl⟩
   have HSZ:Hid (Ck.scC G Z x rt≤s2.size):=Lib.hid (by
    have h2:=hpre.run.p.fit
    obtain ⟨s',_,R⟩:=hpre.run.run
    unfold Lg.FitS at h2
    rw [R.sg,R.st] at h2
    rw [HSE.out]
    omega)
   clear hpre hfl FD HI2
   go_upto_region 23 with fail
   refine HCR.out.mono ?_
   rintro e' w6 ⟨rfl,h6⟩
   generalize s2.crash kp torn (Dk.clampN pos)=sc at *
   have h7:Dk.Sep wB w6 [Dk.diskI d sc,PLog g d t1 l1 1 1]:=h6
   have N3:=HB3.out.later h7.below
   have HQ:=Lib.hid (pscan_any h7 (kk:=0) rfl HGD.out G Z rt x hx)
   have H7:=Lib.hid h7
   clear c1 c2 c3 HCR h6 h7
   go_wp2_with (with_reducible refine load_cf rfl (.tmp 3) rfl b rfl N3 ?_)
   refine HQ.out.mono ?_
   rintro e' w7 hq
   obtain ⟨y,rfl,h8⟩:=scan_ok hq HMY.out (by rw [HZ.out.2]; exact HSZ.out) (by rw [cur_rest HZ.out.1]; exact HFD.out.shut.scan)
   have h9:=Lg.sep_join H7.out h8
   clear h8 hq HQ N3 H7
   have K16:Tb.Blk (w7.alloc (.cells #[.int .u64 0,.int .u32 0,.int .u64 0,.int .u64 0,.slice none 0 0,.slice none 0 0,.int .i64 0,.int .i64 0,.slice none 0 0,.slice none 0 0,.slice none 0 0,.int .u64 0,.int .u64 0,.slice none 0 0] 48)) w7.heap.size 48 #[.int .u64 0,.int .u32 0,.int .u64 0,.int .u64 0,.slice none 0 0,.slice none 0 0,.int .i64 0,.int .i64 0,.slice none 0 0,.slice none 0 0,.slice none 0 0,.int .u64 0,.int .u64 0,.slice none 0 0]:=Tb.Blk.new w7 _ _
   have h10:=loc_whole (loc_front h9 48 #[.int .u64 0,.int .u32 0,.int .u64 0,.int .u64 0,.slice none 0 0,.slice none 0 0,.int .i64 0,.int .i64 0,.slice none 0 0,.slice none 0 0,.slice none 0 0,.int .u64 0,.int .u64 0,.slice none 0 0]) (k:=0) rfl (y.cs m1)
   clear h9
   go_upto_region 24 with (with_reducible refine store_pi rfl (.tmp 16) (.tmp 110) rfl w7.heap.size rfl rfl K16 rfl rfl (cs_one y m1) ?_)
   clear K16
   obtain ⟨b16,e16⟩:∃ z,w7.heap.size=z:=⟨_,rfl⟩
   rw [e16] at h10 ⊢
   clear e16
   generalize (w7.alloc (.cells #[.int .u64 0,.int .u32 0,.int .u64 0,.int .u64 0,.slice none 0 0,.slice none 0 0,.int .i64 0,.int .i64 0,.slice none 0 0,.slice none 0 0,.slice none 0 0,.int .u64 0,.int .u64 0,.slice none 0 0] 48)).setRow b16 (y.cs m1)=w8 at *
   have h11:Dk.Sep wB w8 [locI [(b16,48,y.cs m1)],Dk.diskI d sc,PLog g d t1 l1 1 1,y.fI 101 m1,y.kI m1,y.tI m1]:=h10
   clear h10
   obtain ⟨n,hn⟩:∃ n,m1.f.length=n:=⟨_,rfl⟩
   have c13:w8.cell? ⟨b16,13,none⟩=some (.slice y.F n y.fp):=by
    rw [← hn]
    exact (loc_blk h11 (k:=0) rfl).cell 13
   have c12:w8.cell? ⟨b16,12,none⟩=some (.int .u64 n):=by
    rw [← hn,← HFD.out.v]
    exact (loc_blk h11 (k:=0) rfl).cell 12
   have hn1:(fl:Int)≤n:=by have:=HFD.out.ge; omega
   have hn2:(n:Int)≤i:=by have:=HFD.out.le; omega
   have HN:=Lib.hid hn
   have H11:=Lib.hid h11
   clear hn h11
   go_upto_region 26 with fail
   go_wp2_with fail
   go_loopg [18] 31 (fun gk s18 wr=>∃ (j:Nat),(j:Int)≤n∧gk=31-j∧s18=.int .i64 (j:Nat)∧wr=w8)
   case atStart=>exact ⟨0,by omega,rfl,rfl,rfl⟩
   case round =>
    obtain ⟨j,hj,hgk2,rfl,rfl⟩:=hrel
    have HGK2:=Lib.hid hgk2
    clear hgk2
    by_cases hjn:(j:Int)<n
    ·have hjm:j<m1.f.length:=by rw [HN.out]; omega
     obtain ⟨gF,eF,hcF⟩:=found_cell H11.out (k:=3) rfl (by omega)
     have hup:=HFD.out.up j (by rw [List.length_map]; exact hjm)
     rw [List.getElem_map] at hup
     have cv:wr.cell? ⟨gF,j*9+5,none⟩=some (.int .u64 ((j:Int)+1)):=by
      rw [hcF j 5 hjm (by decide),← hup.1]
      rfl
     have ci:wr.cell? ⟨gF,j*9+7,none⟩=some (.string ⟨#[97]⟩):=by
      rw [hcF j 7 hjm (by decide)]
      show some (Value.string ⟨(m1.f[j]).2.i.toArray⟩)=_
      rw [hup.2]
     rw [eF] at c13
     clear hcF hup hjm
     go_wp2_with fail
     go_roundg (31-(j+1))
     case measure=>have:=HGK2.out; omega
     case rel=>exact ⟨j+1,by omega,rfl,by go_num,rfl⟩
    ·obtain rfl:n=j:=by omega
     have BW:Hid (Below w.heap.size w wr):=Lib.hid (BBA.out.trans (H11.out.below.mono BBA.out.size))
     have K16:Tb.Blk wr b16 48 (y.cs m1):=loc_blk H11.out (k:=0) rfl
     have HT:=Lib.hid (tab_tin H11.out (j:=5) (A:=y.A2) (m:=y.m2) (B:=y.B2) (k:=y.k2) (C:=y.C2) (n:=y.n2) (o:=m1.t.o) (l:=m1.t.l) (f:=m1.t.f) rfl)
     have HU:Hid (∀ W,Below wr.heap.size wr W→Calls Tryz.prog 40 #[.agg #[.int .i64 m1.t.sg,.int .i64 m1.t.st,.slice y.A2 y.m2 y.p2,.slice y.B2 y.k2 y.q2,.slice y.C2 y.n2 y.r2]] W fun e w'=>e=.returned (.int .i64 n)∧Below W.heap.size W w'):=Lib.hid (fun W hb=>by
      have hok:=HFD.out.shut.ok
      refine Tb.rused_is m1.t.sg m1.t.st _ _ _ _ _ _ _ _ _ m1.t.o m1.t.l m1.t.f _ W (HT.out.later hb) ⟨by have:=Tb.ok_bd hok; omega,fun x hx=>by have h1:=hok.2.2.2.2.2.1 x hx; have h2:=hok.2.1; omega⟩ ?_
      rw [← HN.out]
      exact HFD.out.used)
     have HRF:Hid (∀ W,Calls Tryz.prog 27 #[.agg #[.int .i64 m1.t.sg,.int .i64 m1.t.st,.slice y.A2 y.m2 y.p2,.slice y.B2 y.k2 y.q2,.slice y.C2 y.n2 y.r2]] W fun e w'=>e=.returned (.agg #[.int .i64 m1.t.sg,.int .i64 m1.t.st,.slice y.A2 y.m2 y.p2,.slice y.B2 y.k2 y.q2,.slice y.C2 y.n2 y.r2])∧Below W.heap.size W w'):=Lib.hid (fun W=>Tb.ref_any _ _ _ _ _ _ _ _ _ _ _ W)
     have qn:((n:Int) == (n:Int))=true:=by simp
     clear c12 hjn HGK2
     go_upto_region 31 with fail
     clear c13
     have I:Below wr.heap.size wr { wr with drawn:=wr.drawn+1 }:=(Below.refl _ _).drew
     have hne:Nonempty (In (fun W=>Below wr.heap.size wr W)):=⟨⟨_,I⟩⟩
     have f6:∀ jj:In (fun W=>Below wr.heap.size wr W),jj.W.cell? ⟨b16,6,none⟩=some (.int .i64 m1.t.sg):=fun jj=>(K16.later jj.h).cell 6
     have f7:∀ jj:In (fun W=>Below wr.heap.size wr W),jj.W.cell? ⟨b16,7,none⟩=some (.int .i64 m1.t.st):=fun jj=>(K16.later jj.h).cell 7
     have f8:∀ jj:In (fun W=>Below wr.heap.size wr W),jj.W.cell? ⟨b16,8,none⟩=some (.slice y.A2 y.m2 y.p2):=fun jj=>(K16.later jj.h).cell 8
     have f9:∀ jj:In (fun W=>Below wr.heap.size wr W),jj.W.cell? ⟨b16,9,none⟩=some (.slice y.B2 y.k2 y.q2):=fun jj=>(K16.later jj.h).cell 9
     have f10:∀ jj:In (fun W=>Below wr.heap.size wr W),jj.W.cell? ⟨b16,10,none⟩=some (.slice y.C2 y.n2 y.r2):=fun jj=>(K16.later jj.h).cell 10
     have f13:∀ jj:In (fun W=>Below wr.heap.size wr W),jj.W.cell? ⟨b16,13,none⟩=some (.slice y.F n y.fp):=fun jj=>by
      rw [← HN.out]
      exact (K16.later jj.h).cell 13
     clear K16
     refine region_class (fun W=>Below wr.heap.size wr W) (by kernel_rfl) (by kernel_rfl) I ?_
     repeat (go_big_quiet_step (first
      | (go_at_call 27; with_reducible exact class_call _ (fun hi=>(HRF.out _).mono fun e w' ⟨he,hb⟩=>⟨he,hi.trans (hb.mono hi.size)⟩))
      | (go_at_call 40; with_reducible exact class_call _ (fun hi=>(HU.out _ hi).mono fun e w' ⟨he,hb⟩=>⟨he,hi.trans (hb.mono hi.size)⟩))
      | (go_at_call 12; with_reducible exact class_call _ (fun hi=>(fixed_any _).mono fun e w' ⟨he,hb⟩=>⟨he,hi.trans (hb.mono hi.size)⟩))))
     refine wpQuiet_nil ?_
     rintro _ ⟨jj,rfl⟩
     have hbj:=jj.h
     clear I hne f6 f7 f8 f9 f10 f13
     generalize jj.W=wf at *
     clear jj
     go_wp2_with fail
     go_ret
     exact ⟨rfl,BW.out.trans (hbj.mono BW.out.size)⟩
set_option maxRecDepth 100000 in
theorem lifted (os:Os) (started:os.Started) (H:Type) (enc:TypeId × Value→H) :
 ReturnsInHanded {} Tryz.checked os 5 .any (Rows.rollPrefixSpec.pre6 enc Tryz.prog Tryz.f5 Rows.rollPrefixRow.domain false) (Rows.rollPrefixSpec.post enc Tryz.prog Tryz.f5 false true false false):=by
 refine returnsInHanded_of_change (C:=Tryz.checked) own started (by kernel_rfl) Tryz.func5
  (ChangeSpec.witness6 (enc:=enc) (C:=Tryz.checked) false ⟨#[],#[.agg #[.int .i64 0,.int .i64 0,.float .f64 0,.int .i64 0],.agg #[.int .u8 0,.int .u8 0],.agg #[.int .i64 0,.slice none 0 0,.int .i64 0,.int .i64 0]],[]⟩ 8 (by kernel_rfl) (by kernel_rfl) (by kernel_rfl) (by kernel_rfl)) ?_
 intro W base args ds gs before hval0 hW hcnd _
 have hval:∀ (j:Nat) t v,Tryz.f5.params[j]? = some t→args[j]? = some v→Value.okWide Tryz.prog W .any base t v:=hval0
 have hW':=hW
 obtain ⟨p,q,hA0,hV,rfl,hfz,hnd⟩:=hW
 have hA:DataW.TrodAll enc Tryz.prog W 0 (fun _=>true) true Tryz.f5.params.toList args.toList ds p:=hA0
 rw [Tryz.params5] at hA hval
 obtain ⟨v0,vs0,d0,ds0,p0,q0,hargs,rfl,rfl,h0,r0⟩:=trodAll_cons hA
 obtain ⟨v1,vs1,d1,ds1,p1,q1,rfl,rfl,rfl,h1,r1⟩:=trodAll_cons r0
 obtain ⟨v2,vs2,d2,ds2,p2,q2,rfl,rfl,rfl,h2,r2⟩:=trodAll_cons r1
 obtain ⟨rfl,rfl,rfl⟩:=trodAll_nil r2
 obtain rfl:args=#[v0,v1,v2]:=by cases args; simp_all
 obtain ⟨rfl,rfl⟩:=trodVars_none hV
 obtain ⟨sg0,sl0,x0,rt0,rfl,hx0⟩:=Lg.Lg.open_conf (hval 0 24 v0 rfl rfl) h0
 obtain ⟨a1,b1,rfl,ha1,hb1⟩:=Ro.open_pair (hval 1 85 v1 rfl rfl) h1
 obtain ⟨lim2,A2,N2,c2,kp2,torn2,pos2,rfl,hlim2,hN2,hK2,hKf2⟩:=Ro.open_crash (hval 2 87 v2 rfl rfl) h2
 clear hA0 hval0
 try simp only [List.append_nil] at hW'
 try simp only [List.nil_append] at hW'
 have hlt:=fun x hx=>hW'.lt x hx
 refine (walk sg0 sl0 x0 rt0 a1 b1 lim2 A2 N2 c2 kp2 torn2 pos2 W hx0 ha1 hb1 hN2 hK2 hKf2).mono fun e W' ⟨he,hg⟩=>?_
 subst he
 refine ⟨_,rfl,post_mem hW' (fun _ _ _=>(trodAll_cons_mk (shut_bool Tryz.underlying4 _) trodAll_mk0)) (fun sp hsp=>?_) (fun _=>rfl) hg (ok_one (by kernel_rfl) rfl (okWide_bool_mk Tryz.underlying4 _))⟩
 have hall:=(trodAll_cons_mk (arg_same (sp:=sp) laid (by kernel_rfl) (of_decide_eq_true (by kernel_rfl)) h0 hg (by intro x hx; simp_all) hlt hsp) (trodAll_cons_mk (arg_same (sp:=sp) laid (by kernel_rfl) (of_decide_eq_true (by kernel_rfl)) h1 hg (by intro x hx; simp_all) hlt hsp) (trodAll_cons_mk (arg_same (sp:=sp) laid (by kernel_rfl) (of_decide_eq_true (by kernel_rfl)) h2 hg (by intro x hx; simp_all) hlt hsp) trodAll_mk0)))
 try simp only [List.append_nil] at hall
 try simp only [List.nil_append] at hall
 exact hall
theorem over:Rows.rollPrefixRow.holds Tryz.pinned (OpenSpec.ofChange Rows.rollPrefixSpec) :=
 OpenClaim.holds_of_wide 5 Tryz.f5 rfl rfl rfl rfl rfl rfl rfl ⟨rfl,rfl,rfl,rfl,rfl⟩ rfl rfl rfl rfl rfl (by kernel_rfl) Tryz.func5 (by kernel_rfl)
  (of_decide_eq_true (by kernel_rfl)) (by unfold Func.isWrapper; first|(rw [if_pos (by decide +kernel)]; kernel_rfl)|(rw [if_neg (by decide +kernel)]; exact ⟨rfl,rfl⟩))
  (fun os started H enc _=>lifted os started H enc)
theorem proved:Rows.RollPrefixSaid:=over
#print axioms proved
end Go.Proofs.YtcnohlgigmmefaaGreat.rollPrefix
