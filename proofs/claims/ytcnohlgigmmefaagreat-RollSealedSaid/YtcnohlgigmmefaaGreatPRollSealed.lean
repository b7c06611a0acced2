/- A part. -/
import Derived.Test.YtcnohlgigmmefaaGreatPRpS
import Derived.BigQuiet
import Derived.Deep.DeepCutAuto
import Derived.Deep.LoopGhost
import Derived.Deep.RegionWith
import Derived.StillTailTactics
import Derived.WalkSmall
import Derived.IntWalk
import Derived.ProofKit
import Derived.OpenShut
import Derived.ShutString
import Derived.SizedLaws
namespace Go.Proofs.YtcnohlgigmmefaaGreat.rollSealed
open Go.ChangeShapes Go.WideShapes Go.ChangeAt Go.RowKit Go.Lib Go.MapKept
open Go.ChangeMaps (open_string shut_string)
set_option linter.unusedVariables false
theorem own:ownKnob Tryz.prog.godebug=none:=by kernel_rfl
theorem laid:laidOutB Tryz.prog=true:=by kernel_rfl
set_option maxRecDepth 100000
open Ro
open Lg (locI loc_whole loc_alloc loc_blk PLog prg csF load_cf store_cf small_any smG smL small_may small_not)
open Lg.Lg (bC S0 S0_eq nD new_yes sc_may sc_bd app_live seal_fix)
open Tb (Tab TIn Sl okP csT lastN nth Fresh)
open Dk (St Only Grew)
set_option maxHeartbeats 32000000 in
theorem walk (sg sl:Int) (x:Nat) (rt:Int) (LA:Option Addr) (LN lc:Nat) (lf:Nat→Int) (w:World) (hx:x<18446744073709551616) (hLN:LN≤maxLen) (hLC:CellsIn w LA LN (fun j=>.int .u8 (lf j))) (hLF:∀ j,j<LN→0≤lf j∧lf j≤255) :
 Calls Tryz.prog 9 #[.agg #[.int .i64 sg,.int .i64 sl,.float .f64 x,.int .i64 rt],.slice LA LN lc] w fun e w'=>e=.returned (.bool true)∧Below w.heap.size w w':=by
 have hvI:=Tryz.zeroValue48
 have hvL:=Tryz.zeroValue93
 have HK:=Lib.hid (And.intro hLN (And.intro hLC hLF))
 clear hLN hLC hLF
 have N3:Tb.Blk (w.alloc (.cells (csF sg sl x rt) 24)) w.heap.size 24 (csF sg sl x rt):=Tb.Blk.new w _ _
 have BBA:Hid (Below w.heap.size w (w.alloc (.cells (csF sg sl x rt) 24))):=Lib.hid (NewC.below1 _ _)
 go_enter Tryz.func9,Tryz.ntmps9
 go_upto_region 1 with fail
 change Code.wp _ _ _ _ (w.alloc (.cells (csF sg sl x rt) 24))
 obtain ⟨b,Eb⟩:∃ z,w.heap.size=z:=⟨_,rfl⟩
 have HWB:Hid (w.heap.size=b):=Lib.hid Eb
 rw [Eb] at N3 ⊢
 clear Eb
 generalize (w.alloc (.cells (csF sg sl x rt) 24))=wA at *
 have HSM:=Lib.hid (small_any sg sl rt x wA hx)
 obtain ⟨G,EG⟩:∃ z,smG sg sl x rt=z:=⟨_,rfl⟩
 obtain ⟨Z,EZ⟩:∃ z,smL sg sl x rt=z:=⟨_,rfl⟩
 have HSB:Hid (Ck.MayC G Z x rt→G≤6∧Z≤5):=Lib.hid (fun h=>by
  by_cases hm:Ck.MayC sg sl x rt
  ·have:=small_may hm
   rw [EG,EZ] at this
   exact this.2
  ·exact absurd (by rw [EG,EZ]; exact h) (small_not hm))
 rw [EG,EZ] at HSM
 clear EG EZ
 go_wp2_with (with_reducible refine load_cf rfl (.tmp 2) rfl b rfl N3 ?_)
 refine HSM.out.mono ?_
 rintro e' w1 ⟨rfl,hb1⟩
 replace N3:=N3.later hb1
 replace BBA:=Lib.hid (BBA.out.trans (hb1.mono BBA.out.size))
 clear HSM hb1
 go_upto_region 2 with (with_reducible refine store_cf rfl (.tmp 2) (.tmp 19) rfl b rfl rfl N3 ?_)
 replace N3:=N3.row (csF G Z x rt)
 replace BBA:=Lib.hid (Tb.below_row BBA.out (show w.heap.size≤b by have:=HWB.out; omega) (csF G Z x rt))
 generalize w1.setRow b (csF G Z x rt)=wB at *
 by_cases hm:Ck.MayC G Z x rt
 case neg =>
  have HC:=Lib.hid (fun w=>Ck.R4.may_no G Z rt x w hx hm)
  go_wp2_with (with_reducible refine load_cf rfl (.tmp 2) rfl b rfl N3 ?_)
  refine (HC.out _).mono ?_
  rintro e' w2 ⟨rfl,hb⟩
  have BB2:=Lib.hid (BBA.out.trans (hb.mono BBA.out.size))
  clear hb HC N3
  go_wp2_with fail
  refine (fixed_any _).mono ?_
  rintro e' w3 ⟨rfl,hb⟩
  have BB3:=Lib.hid (BB2.out.trans (hb.mono BB2.out.size))
  clear hb
  go_wp2_with fail
  go_ret
  exact ⟨rfl,BB3.out⟩
 have HB6:=HSB.out hm
 have HPN:=Lib.hid (fun f=>sld_new (f:=f) (rt:=rt) hm HB6.1 HB6.2)
 have HFM:=Lib.hid (new_yes (x:=x) (rt:=rt) hm HB6.1 HB6.2).1
 have HMY:=Lib.hid hm
 have HC:=Lib.hid (fun w=>Ck.R4.may_yes G Z rt x w hm)
 have HSC:=Lib.hid (fun w=>Ck.R4.sectors_any G Z rt x w hx)
 have HSE:=Lib.hid (sc_may hm)
 have HSD:=Lib.hid (sc_bd hm HB6.1 HB6.2)
 have HG:=Lib.hid (Lg.Lg.may_bd hm HB6.1 HB6.2)
 clear hm HB6 HSB
 have HB3:=Lib.hid N3
 go_wp2_with (with_reducible refine load_cf rfl (.tmp 2) rfl b rfl N3 ?_)
 refine (HC.out _).mono ?_
 rintro e' w2 ⟨rfl,hb⟩
 have h1:Dk.Sep wB w2 []:=Dk.Sep.nil hb
 replace N3:=N3.later hb
 clear hb HC
 go_wp2_with (with_reducible refine load_cf rfl (.tmp 2) rfl b rfl N3 ?_)
 refine (HSC.out _).mono ?_
 rintro e' w3 ⟨rfl,hb⟩
 replace h1:=h1.later hb
 have HN:=Lib.hid (Dk.new_s h1 (Ck.scC G Z x rt) HSD.out.1 HSD.out.2)
 clear hb HSC h1 N3
 go_wp2_with fail
 refine HN.out.mono ?_
 rintro e' w4 ⟨d,rfl,h2⟩
 have h1:Dk.Sep wB w4 [Dk.diskI d (Dk.St.new (Ck.scC G Z x rt))]:=h2
 have N3:=HB3.out.later h1.below
 have HF:=Lib.hid (prg.fmt h1 (k:=0) rfl G Z rt x hx (by show (0:Nat)<1048576; decide) S0 S0_eq)
 clear HN h2 h1
 go_upto_region 7 with fail
 go_wp2_with (with_reducible refine load_cf rfl (.tmp 2) rfl b rfl N3 ?_)
 refine HF.out.mono ?_
 rintro e' w5 (⟨_,g,rfl,h2⟩ | ⟨hn,_⟩)
 rotate_left
 ·exact absurd HFM.out hn
 have h1:Dk.Sep wB w5 [Dk.diskI d (nD G Z x rt),PLog g d (Tb.newT G Z 1) 1 1 1]:=h2
 clear HF h2 N3
 have f0:w5.cell? ⟨b,0,none⟩=some (.int .i64 G):=(HB3.out.later h1.below).cell 0
 have hZ5:=HG.out.1
 have hG6:=HG.out.2
 have hLN2:LN≤9223372036854775807:=by have:=HK.out.1; unfold maxLen at this; omega
 obtain ⟨many,Emy⟩:∃ z,min (LN:Int) (G-1)=z:=⟨_,rfl⟩
 have hmy:0≤many∧many≤LN∧many<G:=by omega
 obtain ⟨kf,Ekf⟩:∃ kf:Nat→Int,kf=fun j=>lf j%(Z+1):=⟨_,rfl⟩
 have HKF:Hid (∀ j,j<LN→kf j=lf j%(Z+1)∧0≤kf j∧kf j≤Z):=Lib.hid (fun j hj=>by
  rw [Ekf]
  have h2:=Int.emod_nonneg (lf j) (show Z+1≠0 by omega)
  have h3:=Int.emod_lt_of_pos (lf j) (show 0<Z+1 by omega)
  refine ⟨rfl,h2,?_⟩
  show lf j%(Z+1)≤Z
  omega)
 have HP0:=Lib.hid (HPN.out kf)
 clear Ekf HPN
 have H1:=Lib.hid h1
 clear h1
 go_upto_region 11 with fail
 try rw [Emy]
 clear Emy f0
 go_wp2_with fail
 go_loopg [10,11] 7 (fun gk s10 s11 wr=>∃ (a all:Nat) (s1:St) (t1:Tab) (l1:Int),(a:Int)≤many∧gk=7-a∧s10=.int .i64 (all:Nat)∧s11=.int .i64 (a:Nat)∧Hid (Sld G Z kf a 0 all t1 s1 l1)∧Hid (Dk.Sep wB wr [Dk.diskI d s1,PLog g d t1 l1 1 1]))
 case atStart=>exact ⟨0,0,_,_,_,by omega,rfl,rfl,rfl,HP0,H1⟩
 case round =>
  obtain ⟨a,all,s1,t1,l1,ha,hgk,rfl,rfl,HR,HI⟩:=hrel
  have HGK:=Lib.hid hgk
  clear hgk H1 HP0
  by_cases hlt:(a:Int)<many
  ·have haL:a<LN:=by omega
   have HKA:=Lib.hid (HKF.out a haL)
   obtain ⟨ka,Eka⟩:∃ z,kf a=z:=⟨_,rfl⟩
   rw [Eka] at HKA
   have HEK:=Lib.hid Eka
   have hka:0≤ka∧ka≤Z:=HKA.out.2
   clear Eka
   go_wp2_with fail
   go_loopg [10,12] 6 (fun gk s10 s12 wr=>∃ (x1 all:Nat) (s1:St) (t1:Tab) (l1:Int),(x1:Int)≤ka∧gk=6-x1∧s10=.int .i64 (all:Nat)∧s12=.int .i64 (x1:Nat)∧Hid (Sld G Z kf a x1 all t1 s1 l1)∧Hid (Dk.Sep wB wr [Dk.diskI d s1,PLog g d t1 l1 1 1]))
   case atStart=>exact ⟨0,all,_,_,_,by omega,rfl,rfl,rfl,HR,HI⟩
   case round =>
    obtain ⟨x1,all,s2,t2,l2,hx1,hgk2,rfl,rfl,HR2,HI2⟩:=hrel
    have HGK2:=Lib.hid hgk2
    clear hgk2
    obtain ⟨bl,o,rfl,_,hcl⟩:=(HK.out.2.1.later (BBA.out.trans (HI2.out.below.mono BBA.out.size))) (show 0<LN by omega)
    have fc:=hcl a haL
    have fZ:wr.cell? ⟨b,1,none⟩=some (.int .i64 Z):=(HB3.out.later HI2.out.below).cell 1
    have hla:=HK.out.2.2 a haL
    have hm1:lf a%(Z+1)=ka:=HKA.out.1.symm
    have hm2:(lf a).tmod (Z+1)=ka:=by rw [Int.tmod_eq_emod_of_nonneg hla.1]; exact hm1
    clear hcl
    have HLS:Hid (12*a+2*x1≤1000):=Lib.hid (by omega)
    have hal:=HR2.out.al
    have hq0:0≤(all:Int)∧(all:Int)≤31:=by omega
    by_cases hxk:(x1:Int)<ka
    ·obtain ⟨s3,t3,l3,p1,p2,E,R3⟩:=HR2.out.next (by omega)
     have HE:=Lib.hid E
     have HR3:=Lib.hid R3
     have HV:Hid (0≤(all:Int)∧(all:Int)<18446744073709551616):=Lib.hid ⟨by omega,by omega⟩
     have h6:Hid (∀ n,Dk.Sep wB (wr.drewN n) [Dk.diskI d s2,PLog g d t2 l2 1 1]):=Lib.hid (fun n=>HI2.out.later (below_drewN (Below.refl _ _) n))
     clear E R3
     go_upto_if 69 with (go_quiet (fail))
     clear fc fZ hm1 hm2 hla
     go_wp2_with fail
     refine (live_is ⟨#[97]⟩ (all:Int) _).mono ?_
     rintro e' w7 ⟨rfl,hb⟩
     have h7:=(h6.out _).later hb
     have HA:=Lib.hid (app_live h7 HR2.out.p HLS.out HE.out (by decide) HV.out)
     clear hb h7 h6
     go_wp2_with fail
     refine HA.out.mono ?_
     rintro e' w8 ⟨rfl,h8⟩
     have K14:Tb.Blk (w8.alloc (.cells #[.int .i64 0,.int .i64 0] 93)) w8.heap.size 93 #[.int .i64 0,.int .i64 0]:=Tb.Blk.new w8 _ _
     have h9:=h8.later (Tb.below_row (NewC.below1 w8 (.cells #[.int .i64 0,.int .i64 0] 93)) (Nat.le_refl _) #[.int .i64 p1,.int .i64 p2])
     clear h8 HA
     go_upto_region 19 with (with_reducible refine Lg.store_loc rfl (.tmp 13) (.tmp 78) rfl w8.heap.size rfl rfl K14 ?_)
     clear K14
     generalize (w8.alloc (.cells #[.int .i64 0,.int .i64 0] 93)).setRow w8.heap.size #[.int .i64 p1,.int .i64 p2]=w9 at *
     have H9:=Lib.hid h9
     clear h9
     go_wp2_with fail
     go_roundg (6-(x1+1))
     case measure=>have:=HGK2.out; omega
     case rel=>exact ⟨x1+1,all+1,s3,t3,l3,by omega,by have:=HGK2.out; omega,by go_num,by go_num,HR3,H9⟩
    ·obtain rfl:ka=x1:=by omega
     obtain ⟨s3,t3,l3,E,R3⟩:=HR2.out.seal (by omega) HEK.out
     have HE:=Lib.hid E
     have HR3:=Lib.hid R3
     have HA:=Lib.hid (fun n=>seal_fix (HI2.out.later (below_drewN (Below.refl wr.heap.size wr) n)) HR2.out.p HLS.out HE.out (by decide))
     clear E R3
     go_upto_if 69 with (go_quiet (fail))
     clear fc fZ hm1 hm2 hla
     go_wp2_with fail
     refine (HA.out _).mono ?_
     rintro e' w7 ⟨rfl,h7⟩
     have H7:=Lib.hid h7
     clear h7 HA
     go_wp2_with fail
     go_roundg (7-(a+1))
     case measure=>have:=HGK.out; omega
     case rel=>exact ⟨a+1,all,s3,t3,l3,by omega,by have:=HGK.out; omega,rfl,by go_num,HR3,H7⟩
  ·obtain rfl:many=(a:Int):=by omega
   clear hlt
   have HFL:=Lib.hid (Dk.flush_s HI.out 0 rfl (Lg.not_dead HR.out.set) (by have:=HR.out.p.pend; omega))
   obtain ⟨m1,SH,EO,EL,EF⟩:=HR.out.done (fun _=>false) (-1) (Dk.clampN 0)
   have HSH:=Lib.hid SH
   have HE:=Lib.hid (And.intro (EO.trans HR.out.o) (And.intro (EL.trans HR.out.l) EF))
   have HGD:=Lib.hid ((HR.out.p.good.flush (Lg.not_dead HR.out.set)).crash (fun _=>false) (-1) (Dk.clampN 0))
   have HSZ:Hid (Ck.scC G Z x rt≤s1.size):=Lib.hid (by
    have h2:=HR.out.p.fit
    unfold Lg.FitS at h2
    rw [HR.out.sg,HR.out.st] at h2
    rw [HSE.out]
    omega)
   have hal:=HR.out.al
   have ha31:(all:Int)≤31:=by omega
   clear SH EO EL EF hal
   go_wp2_with fail
   refine HFL.out.mono ?_
   rintro e' w6 ⟨rfl,h6⟩
   have h7:Dk.Sep wB w6 [Dk.diskI d s1.flush,PLog g d t1 l1 1 1]:=h6
   have HCR:=Lib.hid (Dk.crash_arg_s h7 0 rfl none 0 0 (Nat.zero_le _) (fun _=>false) (-1) 0 (fun h=>absurd h (by omega)) (fun _ _=>rfl) (by show (0:Nat)<1048576; decide))
   have HZ:Hid ((s1.flush.crash (fun _=>false) (-1) (Dk.clampN 0)).pend=[]∧(s1.flush.crash (fun _=>false) (-1) (Dk.clampN 0)).size=s1.size):=Lib.hid ⟨rfl,rfl⟩
   clear h6 h7 HFL
   generalize s1.flush.crash (fun _=>false) (-1) (Dk.clampN 0)=sc at *
   go_wp2_with fail
   refine HCR.out.mono ?_
   rintro e' w7 ⟨rfl,h6⟩
   have h7:Dk.Sep wB w7 [Dk.diskI d sc,PLog g d t1 l1 1 1]:=h6
   have N3:=HB3.out.later h7.below
   have HQ:=Lib.hid (pscan_any h7 (kk:=0) rfl HGD.out G Z rt x hx)
   have H7:=Lib.hid h7
   clear h6 h7 HCR
   go_wp2_with (with_reducible refine load_cf rfl (.tmp 2) rfl b rfl N3 ?_)
   refine HQ.out.mono ?_
   rintro e' w8 hq
   obtain ⟨y,rfl,h8⟩:=scan_ok hq HMY.out (by rw [HZ.out.2]; exact HSZ.out) (by rw [cur_rest HZ.out.1]; exact HSH.out.scan)
   have h9:=Lg.sep_join H7.out h8
   clear h8 hq HQ N3 H7
   have K16:Tb.Blk (w8.alloc (.cells #[.int .u64 0,.int .u32 0,.int .u64 0,.int .u64 0,.slice none 0 0,.slice none 0 0,.int .i64 0,.int .i64 0,.slice none 0 0,.slice none 0 0,.slice none 0 0,.int .u64 0,.int .u64 0,.slice none 0 0] 48)) w8.heap.size 48 #[.int .u64 0,.int .u32 0,.int .u64 0,.int .u64 0,.slice none 0 0,.slice none 0 0,.int .i64 0,.int .i64 0,.slice none 0 0,.slice none 0 0,.slice none 0 0,.int .u64 0,.int .u64 0,.slice none 0 0]:=Tb.Blk.new w8 _ _
   have h10:=loc_whole (loc_front h9 48 #[.int .u64 0,.int .u32 0,.int .u64 0,.int .u64 0,.slice none 0 0,.slice none 0 0,.int .i64 0,.int .i64 0,.slice none 0 0,.slice none 0 0,.slice none 0 0,.int .u64 0,.int .u64 0,.slice none 0 0]) (k:=0) rfl (y.cs m1)
   clear h9
   go_upto_region 28 with (with_reducible refine store_pi rfl (.tmp 15) (.tmp 96) rfl w8.heap.size rfl rfl K16 rfl rfl (cs_one y m1) ?_)
   clear K16
   obtain ⟨b16,e16⟩:∃ z,w8.heap.size=z:=⟨_,rfl⟩
   rw [e16] at h10 ⊢
   clear e16
   generalize (w8.alloc (.cells #[.int .u64 0,.int .u32 0,.int .u64 0,.int .u64 0,.slice none 0 0,.slice none 0 0,.int .i64 0,.int .i64 0,.slice none 0 0,.slice none 0 0,.slice none 0 0,.int .u64 0,.int .u64 0,.slice none 0 0] 48)).setRow b16 (y.cs m1)=w9 at *
   have h11:Dk.Sep wB w9 [locI [(b16,48,y.cs m1)],Dk.diskI d sc,PLog g d t1 l1 1 1,y.fI 101 m1,y.kI m1,y.tI m1]:=h10
   clear h10
   have hT:=tab_tin h11 (j:=5) (A:=y.A2) (m:=y.m2) (B:=y.B2) (k:=y.k2) (C:=y.C2) (n:=y.n2) (o:=m1.t.o) (l:=m1.t.l) (f:=m1.t.f) rfl
   have ho:m1.t.o.length=a+1:=by rw [HE.out.1]; simp [Tb.upto]
   have hl:m1.t.l.length=a+1:=by rw [HE.out.2.1]; simp
   have hm2:y.m2=a+1:=by rw [← ho]; exact hT.a.len
   have hk2:y.k2=a+1:=by rw [← hl]; exact hT.b.len
   have c13:w9.cell? ⟨b16,13,none⟩=some (.slice y.F all y.fp):=by
    rw [← HE.out.2.2]
    exact (loc_blk h11 (k:=0) rfl).cell 13
   have c8:w9.cell? ⟨b16,8,none⟩=some (.slice y.A2 (a+1) y.p2):=by
    rw [← hm2]
    exact (loc_blk h11 (k:=0) rfl).cell 8
   have c9:w9.cell? ⟨b16,9,none⟩=some (.slice y.B2 (a+1) y.q2):=by
    rw [← hk2]
    exact (loc_blk h11 (k:=0) rfl).cell 9
   have HT:=Lib.hid hT
   have H11:=Lib.hid h11
   have HM2:=Lib.hid (And.intro hm2 hk2)
   clear h11 hT ho hl hm2 hk2
   obtain ⟨ga,oa,eA,_,hca⟩:=HT.out.a.cells (by rw [HM2.out.1]; omega)
   obtain ⟨gb,ob,eB,_,hcb⟩:=HT.out.b.cells (by rw [HM2.out.2]; omega)
   rw [eA] at c8
   rw [eB] at c9
   have HCA:Hid (∀ p,p<a+1→w9.cell? ⟨ga,oa+p,none⟩=some (.int .i64 p)):=Lib.hid (fun p hp=>by
    rw [hca p (by rw [HM2.out.1]; exact hp),HE.out.1]
    congr 2
    simp [nth,Tb.upto,List.getD_eq_getElem?_getD,hp])
   have HCB:Hid (∀ p,p<a→w9.cell? ⟨gb,ob+p,none⟩=some (.int .i64 (kf p))):=Lib.hid (fun p hp=>by
    rw [hcb p (by rw [HM2.out.2]; omega),HE.out.2.1]
    congr 2
    simp [nth,List.getD_eq_getElem?_getD,List.getElem?_append_left,hp])
   have cl:w9.cell? ⟨gb,ob+a,none⟩=some (.int .i64 0):=by
    rw [hcb a (by rw [HM2.out.2]; omega),HE.out.2.1]
    congr 2
    simp [nth,List.getD_eq_getElem?_getD]
   have HCL:=Lib.hid (And.intro c8 (And.intro c9 cl))
   have BW:Hid (Below w.heap.size w w9):=Lib.hid (BBA.out.trans (H11.out.below.mono BBA.out.size))
   clear hca hcb
   go_upto_region 30 with fail
   clear c8 c9 c13 cl
   go_wp2_with fail
   go_loopg [17] 7 (fun gk s17 wr=>∃ (p:Nat),(p:Int)≤a∧gk=7-p∧s17=.int .i64 (p:Nat)∧Hid (Below w9.heap.size w9 wr))
   case atStart=>exact ⟨0,by omega,rfl,rfl,Lib.hid (Below.refl _ _)⟩
   case round =>
    obtain ⟨p,hp,hgk3,rfl,HBW⟩:=hrel
    have HGK3:=Lib.hid hgk3
    clear hgk3
    have keep:∀ (q:Addr) (v:Value),w9.cell? q=some v→wr.cell? q=some v:=fun q v h=>(HBW.out.cell (World.block_lt_of_cell? _ _ h)).trans h
    have c8:=keep _ _ HCL.out.1
    have c9:=keep _ _ HCL.out.2.1
    by_cases hpa:(p:Int)<a
    ·have hpL:p<LN:=by omega
     obtain ⟨bl,o,rfl,_,hcl⟩:=(HK.out.2.1.later (BW.out.trans (HBW.out.mono BW.out.size))) (show 0<LN by omega)
     have fc:=hcl p hpL
     have fZ:wr.cell? ⟨b,1,none⟩=some (.int .i64 Z):=keep _ _ ((HB3.out.later H11.out.below).cell 1)
     have hla:=HK.out.2.2 p hpL
     obtain ⟨kp,Ekp⟩:∃ z,kf p=z:=⟨_,rfl⟩
     have hkp:=HKF.out p hpL
     rw [Ekp] at hkp
     have hm1:lf p%(Z+1)=kp:=hkp.1.symm
     have hm2:(lf p).tmod (Z+1)=kp:=by rw [Int.tmod_eq_emod_of_nonneg hla.1]; exact hm1
     have ca:=keep _ _ (HCA.out p (by omega))
     have cb:=keep _ _ (HCB.out p (by omega))
     rw [Ekp] at cb
     have h6:Hid (∀ n,Below w9.heap.size w9 (wr.drewN n)):=Lib.hid (fun n=>below_drewN HBW.out n)
     have qp:((p:Int) != (p:Int))=false:=by simp
     have qk:(kp != kp)=false:=by simp
     have dp:decide ((p:Int)=(p:Int))=true:=by simp
     have hb1:p<a+1:=by omega
     have hb2:(p:Int)<(a:Int)+1:=by omega
     have hb3:(p:Int)<((a+1:Nat):Int):=by omega
     clear hcl keep Ekp hkp
     go_upto_region 33 with fail
     go_quiet (fail)
     clear fc fZ hm1 hm2 hla ca cb c8 c9
     go_wp2_with fail
     go_roundg (7-(p+1))
     case measure=>have:=HGK3.out; omega
     case rel=>exact ⟨p+1,by omega,by have:=HGK3.out; omega,by go_num,Lib.hid (h6.out _)⟩
    ·obtain rfl:p=a:=by omega
     have cl:=keep _ _ HCL.out.2.2
     have BR:=Lib.hid (BW.out.trans (HBW.out.mono BW.out.size))
     clear keep hpa
     go_wp2_with fail
     refine (fixed_any _).mono ?_
     rintro e' w11 ⟨rfl,hb⟩
     have BF:=Lib.hid (BR.out.trans (hb.mono BR.out.size))
     clear hb
     go_wp2_with fail
     go_ret
     exact ⟨rfl,BF.out⟩
set_option maxRecDepth 100000 in
theorem lifted (os:Os) (started:os.Started) (H:Type) (enc:TypeId × Value→H) :
 ReturnsInHanded {} Tryz.checked os 9 .any (Rows.rollSealedSpec.pre6 enc Tryz.prog Tryz.f9 Rows.rollSealedRow.domain false) (Rows.rollSealedSpec.post enc Tryz.prog Tryz.f9 false true false false):=by
 refine returnsInHanded_of_change (C:=Tryz.checked) own started (by kernel_rfl) Tryz.func9
  (ChangeSpec.witness6 (enc:=enc) (C:=Tryz.checked) false ⟨#[],#[.agg #[.int .i64 0,.int .i64 0,.float .f64 0,.int .i64 0],.slice none 0 0],[]⟩ 8 (by kernel_rfl) (by kernel_rfl) (by kernel_rfl) (by kernel_rfl)) ?_
 intro W base args ds gs before hval0 hW hcnd _
 have hval:∀ (j:Nat) t v,Tryz.f9.params[j]? = some t→args[j]? = some v→Value.okWide Tryz.prog W .any base t v:=hval0
 have hW':=hW
 obtain ⟨p,q,hA0,hV,rfl,hfz,hnd⟩:=hW
 have hA:DataW.TrodAll enc Tryz.prog W 0 (fun _=>true) true Tryz.f9.params.toList args.toList ds p:=hA0
 rw [Tryz.params9] at hA hval
 obtain ⟨v0,vs0,d0,ds0,p0,q0,hargs,rfl,rfl,h0,r0⟩:=trodAll_cons hA
 obtain ⟨v1,vs1,d1,ds1,p1,q1,rfl,rfl,rfl,h1,r1⟩:=trodAll_cons r0
 obtain ⟨rfl,rfl,rfl⟩:=trodAll_nil r1
 obtain rfl:args=#[v0,v1]:=by cases args; simp_all
 obtain ⟨rfl,rfl⟩:=trodVars_none hV
 obtain ⟨sg0,sl0,x0,rt0,rfl,hx0⟩:=Lg.Lg.open_conf (hval 0 24 v0 rfl rfl) h0
 obtain ⟨A2,N2,c2,f2,rfl,hN2,hK2,hw2⟩:=open_nums Tryz.underlying115 Tryz.underlying5 (by kernel_rfl) (hval 1 115 v1 rfl rfl) h1
 clear hA0 hval0
 try simp only [List.append_nil] at hW'
 try simp only [List.nil_append] at hW'
 have hlt:=fun x hx=>hW'.lt x hx
 refine (walk sg0 sl0 x0 rt0 A2 N2 c2 f2 W hx0 hN2 hK2 (fun j hj=>by have h:=hw2 j hj; simp [Lit.wf] at h; exact h)).mono fun e W' ⟨he,hg⟩=>?_
 subst he
 refine ⟨_,rfl,post_mem hW' (fun _ _ _=>(trodAll_cons_mk (shut_bool Tryz.underlying4 _) trodAll_mk0)) (fun sp hsp=>?_) (fun _=>rfl) hg (ok_one (by kernel_rfl) rfl (okWide_bool_mk Tryz.underlying4 _))⟩
 have hall:=(trodAll_cons_mk (arg_same (sp:=sp) laid (by kernel_rfl) (of_decide_eq_true (by kernel_rfl)) h0 hg (by intro x hx; simp_all) hlt hsp) (trodAll_cons_mk (arg_same (sp:=sp) laid (by kernel_rfl) (of_decide_eq_true (by kernel_rfl)) h1 hg (by intro x hx; simp_all) hlt hsp) trodAll_mk0))
 try simp only [List.append_nil] at hall
 try simp only [List.nil_append] at hall
 exact hall
theorem over:Rows.rollSealedRow.holds Tryz.pinned (OpenSpec.ofChange Rows.rollSealedSpec) :=
 OpenClaim.holds_of_wide 9 Tryz.f9 rfl rfl rfl rfl rfl rfl rfl ⟨rfl,rfl,rfl,rfl,rfl⟩ rfl rfl rfl rfl rfl (by kernel_rfl) Tryz.func9 (by kernel_rfl)
  (of_decide_eq_true (by kernel_rfl)) (by unfold Func.isWrapper; first|(rw [if_pos (by decide +kernel)]; kernel_rfl)|(rw [if_neg (by decide +kernel)]; exact ⟨rfl,rfl⟩))
  (fun os started H enc _=>lifted os started H enc)
theorem proved:Rows.RollSealedSaid:=over
#print axioms proved
end Go.Proofs.YtcnohlgigmmefaaGreat.rollSealed
