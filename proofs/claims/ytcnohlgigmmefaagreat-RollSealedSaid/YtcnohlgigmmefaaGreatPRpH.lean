/- A part. -/
import Derived.Test.YtcnohlgigmmefaaGreatPRpG
namespace Go.Proofs.YtcnohlgigmmefaaGreat.Ro
open Go.RowKit Go.Lib
open Tb (Tab TIn Sl okP csT lastN nth Fresh)
open Dk (St Only Grew clampN)
open Lg (sep_tail locI rowS loc_cell loc_whole loc_alloc loc_blk logI chkS PLog prg fmtE fmtD)
open Lg.Lg (bC bE app_fix S0 S0_eq)
set_option linter.unusedVariables false
set_option maxRecDepth 100000
theorem scan_err {T:TypeId} {sg st rt:Int} {x:Nat} {s:St} {w w' : World} {e:Ending} {z:Int} (h:ScanQ T sg st rt x s w e w')
 (hz:(¬ Ck.MayC sg st x rt∧z=1)∨(Ck.MayC sg st x rt∧s.size<Ck.scC sg st x rt∧z=10)∨(Ck.MayC sg st x rt∧Ck.scC sg st x rt≤s.size∧scanI s.cur sg st=none∧z=5)):e=.returned (.tuple #[.agg zeroI,.int .i64 z])∧Below w.heap.size w w':=by
 rcases h with ⟨hm,e,hb⟩ | ⟨hm,hlt,e,hb⟩ | ⟨hm,hle,⟨hno,e,hb⟩ | ⟨m,y,ho,e,S7⟩⟩
 ·rcases hz with ⟨_,rfl⟩ | ⟨h1,_⟩ | ⟨h1,_⟩
  ·exact ⟨e,hb⟩
  ·exact absurd h1 hm
  ·exact absurd h1 hm
 ·rcases hz with ⟨h1,_⟩ | ⟨_,_,rfl⟩ | ⟨_,h1,_⟩
  ·exact absurd hm h1
  ·exact ⟨e,hb⟩
  ·omega
 ·rcases hz with ⟨h1,_⟩ | ⟨_,h1,_⟩ | ⟨_,_,_,rfl⟩
  ·exact absurd hm h1
  ·omega
  ·exact ⟨e,hb⟩
 ·rcases hz with ⟨h1,_⟩ | ⟨_,h1,_⟩ | ⟨_,_,h1,_⟩
  ·exact absurd hm h1
  ·omega
  ·rw [ho] at h1; cases h1
theorem scan_ok {T:TypeId} {sg st rt:Int} {x:Nat} {s:St} {w w' : World} {e:Ending} {m:Img} (h:ScanQ T sg st rt x s w e w') (hm:Ck.MayC sg st x rt) (hz:Ck.scC sg st x rt≤s.size) (ho:scanI s.cur sg st=some m) :
 ∃ y:IL,e=.returned (.tuple #[.agg (y.cs m),.int .i64 0])∧Dk.Sep w w' [y.fI T m,y.kI m,y.tI m]:=by
 rcases h with ⟨h1,_⟩ | ⟨_,h1,_⟩ | ⟨_,_,⟨h1,_⟩ | ⟨m',y,h1,e,S7⟩⟩
 ·exact absurd hm h1
 ·omega
 ·rw [ho] at h1; cases h1
 ·rw [ho] at h1
  injection h1 with h1
  subst h1
  exact ⟨y,e,S7⟩
theorem cs_one (y:IL) (m:Img):(y.cs m).all (·.oneCell')=true:=csI_one ..
theorem copy_s {W w:World} {items:List Dk.Item} (h:Dk.Sep W w items) {k d:Nat} {s:St} (hk:items[k]? = some (Dk.diskI d s)) (hpl:s.pend.length<1048576) :
 Calls Tryz.prog 51 #[.pointer (some ⟨d,0,none⟩)] w fun e w'=>∃ c,e=.returned (.pointer (some ⟨c,0,none⟩))∧Dk.Sep W w' (items++[Dk.diskI c s]):=by
 obtain ⟨G,D,_⟩:=h.at_ k hk
 exact (Dk.copy_any D hpl).mono fun e w' ⟨c,F',he,hD,hn,hb⟩=>⟨c,he,h.new (Dk.diskI c s) hD hn hb⟩
theorem may2:Ck.MayC 4 2 4607182418800017408 0∧Ck.scC 4 2 4607182418800017408 0=14:=by
 have hm:Ck.MayC 4 2 4607182418800017408 0:=by decide
 exact ⟨hm,by unfold Ck.scC; rw [if_pos hm]; rfl⟩
set_option maxHeartbeats 16000000 in
theorem fixed_any (w0:World):Calls Tryz.prog 12 #[] w0 fun e w'=>e=.returned (.bool true)∧Below w0.heap.size w0 w':=by
 have hvI:=Tryz.zeroValue48
 have hvC:=Tryz.zeroValue24
 obtain ⟨s0,s1,s2,FX⟩:=fixd_any
 have X:=Lib.hid FX
 clear FX
 have C1:=Lib.hid (Dk.new_s (Dk.Sep.nil (Below.refl w0.heap.size w0)) 14 (by decide) (by decide))
 go_enter Tryz.func12,Tryz.ntmps12
 go_wp2_with fail
 refine C1.out.mono ?_
 rintro e' w1 ⟨d,rfl,h1⟩
 change Dk.Sep w0 w1 [Dk.diskI d (St.new 14)] at h1
 clear C1
 go_wp2_with fail
 refine (two_is w1).mono ?_
 rintro e' w2 ⟨rfl,hb⟩
 replace h1:=h1.later hb
 clear hb
 have C1:=Lib.hid (pscan_any h1 (kk:=0) rfl (Dk.St.Good.new (by decide) (by decide)) 4 2 0 4607182418800017408 (by decide))
 go_wp2_with fail
 refine C1.out.mono ?_
 rintro e' w3 hq
 obtain ⟨rfl,hb⟩:=scan_err (z:=5) hq (.inr (.inr ⟨may2.1,by rw [may2.2]; decide,scan_new _ _ _,rfl⟩))
 replace h1:=h1.later hb
 clear hb hq C1
 have K3:Tb.Blk (w3.alloc (.cells #[.int .u64 0,.int .u32 0,.int .u64 0,.int .u64 0,.slice none 0 0,.slice none 0 0,.int .i64 0,.int .i64 0,.slice none 0 0,.slice none 0 0,.slice none 0 0,.int .u64 0,.int .u64 0,.slice none 0 0] 48)) w3.heap.size 48 #[.int .u64 0,.int .u32 0,.int .u64 0,.int .u64 0,.slice none 0 0,.slice none 0 0,.int .i64 0,.int .i64 0,.slice none 0 0,.slice none 0 0,.slice none 0 0,.int .u64 0,.int .u64 0,.slice none 0 0]:=Tb.Blk.new w3 _ _
 have hz1:Hid (zeroI.all (·.oneCell')=true):=Lib.hid (by simp [zeroI,csI,Value.oneCell'])
 replace h1:=h1.later (Tb.below_row (NewC.below1 w3 (.cells #[.int .u64 0,.int .u32 0,.int .u64 0,.int .u64 0,.slice none 0 0,.slice none 0 0,.int .i64 0,.int .i64 0,.slice none 0 0,.slice none 0 0,.slice none 0 0,.int .u64 0,.int .u64 0,.slice none 0 0] 48)) (Nat.le_refl _) zeroI)
 go_upto_region 5 with (with_reducible refine store_pi (cs:=zeroI) rfl (.tmp 3) (.tmp 35) rfl w3.heap.size rfl rfl K3 rfl rfl hz1.out ?_)
 clear K3
 generalize (w3.alloc (.cells #[.int .u64 0,.int .u32 0,.int .u64 0,.int .u64 0,.slice none 0 0,.slice none 0 0,.int .i64 0,.int .i64 0,.slice none 0 0,.slice none 0 0,.slice none 0 0,.int .u64 0,.int .u64 0,.slice none 0 0] 48)).setRow w3.heap.size zeroI=w4 at *
 have C1:=Lib.hid (pscan_any h1 (kk:=0) rfl (Dk.St.Good.new (by decide) (by decide)) 0 0 0 0 (by decide))
 go_wp2_with fail
 refine C1.out.mono ?_
 rintro e' w5 hq
 obtain ⟨rfl,hb⟩:=scan_err (z:=1) hq (.inl ⟨by decide,rfl⟩)
 replace h1:=h1.later hb
 clear hb hq C1
 have K3:Tb.Blk (w5.alloc (.cells #[.int .u64 0,.int .u32 0,.int .u64 0,.int .u64 0,.slice none 0 0,.slice none 0 0,.int .i64 0,.int .i64 0,.slice none 0 0,.slice none 0 0,.slice none 0 0,.int .u64 0,.int .u64 0,.slice none 0 0] 48)) w5.heap.size 48 #[.int .u64 0,.int .u32 0,.int .u64 0,.int .u64 0,.slice none 0 0,.slice none 0 0,.int .i64 0,.int .i64 0,.slice none 0 0,.slice none 0 0,.slice none 0 0,.int .u64 0,.int .u64 0,.slice none 0 0]:=Tb.Blk.new w5 _ _
 replace h1:=h1.later (Tb.below_row (NewC.below1 w5 (.cells #[.int .u64 0,.int .u32 0,.int .u64 0,.int .u64 0,.slice none 0 0,.slice none 0 0,.int .i64 0,.int .i64 0,.slice none 0 0,.slice none 0 0,.slice none 0 0,.int .u64 0,.int .u64 0,.slice none 0 0] 48)) (Nat.le_refl _) zeroI)
 go_upto_region 6 with (with_reducible refine store_pi (cs:=zeroI) rfl (.tmp 5) (.tmp 41) rfl w5.heap.size rfl rfl K3 rfl rfl hz1.out ?_)
 clear K3
 generalize (w5.alloc (.cells #[.int .u64 0,.int .u32 0,.int .u64 0,.int .u64 0,.slice none 0 0,.slice none 0 0,.int .i64 0,.int .i64 0,.slice none 0 0,.slice none 0 0,.slice none 0 0,.int .u64 0,.int .u64 0,.slice none 0 0] 48)).setRow w5.heap.size zeroI=w6 at *
 have C1:=Lib.hid (pscan_any h1 (kk:=0) rfl (Dk.St.Good.new (by decide) (by decide)) 5 2 0 0 (by decide))
 go_wp2_with fail
 refine C1.out.mono ?_
 rintro e' w7 hq
 obtain ⟨rfl,hb⟩:=scan_err (z:=10) hq (.inr (.inl ⟨by decide,by decide,rfl⟩))
 replace h1:=h1.later hb
 clear hb hq C1
 have K3:Tb.Blk (w7.alloc (.cells #[.int .u64 0,.int .u32 0,.int .u64 0,.int .u64 0,.slice none 0 0,.slice none 0 0,.int .i64 0,.int .i64 0,.slice none 0 0,.slice none 0 0,.slice none 0 0,.int .u64 0,.int .u64 0,.slice none 0 0] 48)) w7.heap.size 48 #[.int .u64 0,.int .u32 0,.int .u64 0,.int .u64 0,.slice none 0 0,.slice none 0 0,.int .i64 0,.int .i64 0,.slice none 0 0,.slice none 0 0,.slice none 0 0,.int .u64 0,.int .u64 0,.slice none 0 0]:=Tb.Blk.new w7 _ _
 replace h1:=h1.later (Tb.below_row (NewC.below1 w7 (.cells #[.int .u64 0,.int .u32 0,.int .u64 0,.int .u64 0,.slice none 0 0,.slice none 0 0,.int .i64 0,.int .i64 0,.slice none 0 0,.slice none 0 0,.slice none 0 0,.int .u64 0,.int .u64 0,.slice none 0 0] 48)) (Nat.le_refl _) zeroI)
 go_upto_region 7 with (with_reducible refine store_pi (cs:=zeroI) rfl (.tmp 7) (.tmp 47) rfl w7.heap.size rfl rfl K3 rfl rfl hz1.out ?_)
 clear K3
 generalize (w7.alloc (.cells #[.int .u64 0,.int .u32 0,.int .u64 0,.int .u64 0,.slice none 0 0,.slice none 0 0,.int .i64 0,.int .i64 0,.slice none 0 0,.slice none 0 0,.slice none 0 0,.int .u64 0,.int .u64 0,.slice none 0 0] 48)).setRow w7.heap.size zeroI=w8 at *
 go_wp2_with fail
 refine (two_is w8).mono ?_
 rintro e' w9 ⟨rfl,hb⟩
 replace h1:=h1.later hb
 clear hb
 have C1:=Lib.hid (prg.fmt h1 (k:=0) rfl 4 2 0 4607182418800017408 (by decide) (by decide) S0 S0_eq)
 go_wp2_with fail
 refine C1.out.mono ?_
 rintro e' w10 (⟨_,g,rfl,h2⟩ | ⟨hn,_⟩)
 rotate_left
 ·exact absurd X.out.f1 hn
 rw [X.out.f2] at h2
 clear h1 C1
 have h1:Dk.Sep w0 w10 [Dk.diskI d s0,PLog g d fT0 1 1 1]:=h2
 clear h2
 go_wp2_with fail
 refine (live_is ⟨#[97]⟩ 1 w10).mono ?_
 rintro e' w11 ⟨rfl,hb⟩
 replace h1:=h1.later hb
 clear hb
 have C1:=Lib.hid (app_fix h1 1 1 9 (bC 97) (bC 118) X.out.l0 (by decide) X.out.a1 (by decide) 0 0 ⟨by decide,by decide⟩ ⟨by decide,by decide⟩ (by decide) (by decide))
 go_wp2_with fail
 refine C1.out.mono ?_
 rintro e' w12 ⟨rfl,h2⟩
 clear C1 h1
 have h1:Dk.Sep w0 w12 [Dk.diskI d s1,PLog g d fT1 2 1 1]:=h2
 clear h2
 go_wp2_with fail
 refine (live_is ⟨#[98]⟩ 2 w12).mono ?_
 rintro e' w13 ⟨rfl,hb⟩
 replace h1:=h1.later hb
 clear hb
 have C1:=Lib.hid (app_fix h1 1 2 9 (bC 98) (bC 118) X.out.l1 (by decide) X.out.a2 (by decide) 0 0 ⟨by decide,by decide⟩ ⟨by decide,by decide⟩ (by decide) (by decide))
 go_wp2_with fail
 refine C1.out.mono ?_
 rintro e' w14 ⟨rfl,h2⟩
 clear C1 h1
 have h1:Dk.Sep w0 w14 [Dk.diskI d s2,PLog g d fT2 3 1 1]:=h2
 clear h2
 have hp2:Hid (s2.pend.length<1048576):=Lib.hid (by rw [X.out.pend]; decide)
 have C1:=Lib.hid (copy_s h1 (k:=0) rfl hp2.out)
 go_wp2_with fail
 refine C1.out.mono ?_
 rintro e' w15 ⟨c,rfl,h2⟩
 clear C1 h1
 have h1:Dk.Sep w0 w15 [Dk.diskI d s2,PLog g d fT2 3 1 1,Dk.diskI c s2]:=h2
 clear h2
 have C1:=Lib.hid (crash_lit_s h1 (k:=0) rfl [false,true] 2 rfl (by decide) 4 #[.bool false,.bool true] rfl (-1) 0 hp2.out)
 go_wp2_with fail
 refine C1.out.mono ?_
 rintro e' w16 ⟨rfl,h2⟩
 obtain ⟨kd,hkd⟩:∃ kd:Nat→Bool,kd=fun j=>[false,true].getD j false:=⟨_,rfl⟩
 rw [← hkd] at h2
 have HS:=Lib.hid (X.out.first (keep:=kd) (by rw [hkd]; rfl) (clampN 0))
 have HG2:=Lib.hid (X.out.l2.good.crash kd (-1) (clampN 0))
 have HZ2:Hid ((s2.crash kd (-1) (clampN 0)).pend=[]∧(s2.crash kd (-1) (clampN 0)).size=14):=Lib.hid ⟨rfl,X.out.size⟩
 generalize s2.crash kd (-1) (clampN 0)=sd at *
 clear C1 h1 hkd
 have h1:Dk.Sep w0 w16 [Dk.diskI d sd,PLog g d fT2 3 1 1,Dk.diskI c s2]:=h2
 clear h2
 have C1:=Lib.hid (crash_lit_s h1 (k:=2) rfl [true] 1 rfl (by decide) 4 #[.bool true] rfl 1 100 hp2.out)
 go_wp2_with fail
 refine C1.out.mono ?_
 rintro e' w17 ⟨rfl,h2⟩
 obtain ⟨kc,hkc⟩:∃ kc:Nat→Bool,kc=fun j=>[true].getD j false:=⟨_,rfl⟩
 rw [← hkc,show clampN 100=100 from rfl] at h2
 have HSc:=Lib.hid (X.out.second (keep:=kc) (by rw [hkc]; rfl) (by rw [hkc]; rfl))
 have HO:=Lib.hid (fun S hS=>X.out.opens (keep:=kc) (by rw [hkc]; rfl) (by rw [hkc]; rfl) (S:=S) hS)
 have HGc:=Lib.hid (X.out.l2.good.crash kc 1 100)
 have HZc:Hid ((s2.crash kc 1 100).pend=[]∧(s2.crash kc 1 100).size=14):=Lib.hid ⟨rfl,X.out.size⟩
 generalize s2.crash kc 1 100=sc at *
 clear C1 h1 hkc
 have h1:Dk.Sep w0 w17 [Dk.diskI d sd,PLog g d fT2 3 1 1,Dk.diskI c sc]:=h2
 clear h2
 go_wp2_with fail
 refine (two_is w17).mono ?_
 rintro e' w18 ⟨rfl,hb⟩
 replace h1:=h1.later hb
 clear hb
 have C1:=Lib.hid (pscan_any h1 (kk:=0) rfl HG2.out 4 2 0 4607182418800017408 (by decide))
 go_wp2_with fail
 refine C1.out.mono ?_
 rintro e' w19 hq
 obtain ⟨y1,rfl,h2⟩:=scan_ok hq may2.1 (by rw [HZ2.out.2,may2.2]; decide) (by rw [cur_rest HZ2.out.1]; exact HS.out.scan)
 have h3:=Lg.sep_join h1 h2
 clear h1 h2 hq C1
 have K3:Tb.Blk (w19.alloc (.cells #[.int .u64 0,.int .u32 0,.int .u64 0,.int .u64 0,.slice none 0 0,.slice none 0 0,.int .i64 0,.int .i64 0,.slice none 0 0,.slice none 0 0,.slice none 0 0,.int .u64 0,.int .u64 0,.slice none 0 0] 48)) w19.heap.size 48 #[.int .u64 0,.int .u32 0,.int .u64 0,.int .u64 0,.slice none 0 0,.slice none 0 0,.int .i64 0,.int .i64 0,.slice none 0 0,.slice none 0 0,.slice none 0 0,.int .u64 0,.int .u64 0,.slice none 0 0]:=Tb.Blk.new w19 _ _
 have h4:=loc_whole (loc_front h3 48 #[.int .u64 0,.int .u32 0,.int .u64 0,.int .u64 0,.slice none 0 0,.slice none 0 0,.int .i64 0,.int .i64 0,.slice none 0 0,.slice none 0 0,.slice none 0 0,.int .u64 0,.int .u64 0,.slice none 0 0]) (k:=0) rfl (y1.cs fM0)
 clear h3
 go_upto_region 18 with (with_reducible refine store_pi rfl (.tmp 12) (.tmp 81) rfl w19.heap.size rfl rfl K3 rfl rfl (cs_one y1 fM0) ?_)
 clear K3
 obtain ⟨b12,eb12⟩:∃ z,w19.heap.size=z:=⟨_,rfl⟩
 rw [eb12] at h4 ⊢
 clear eb12
 generalize (w19.alloc (.cells #[.int .u64 0,.int .u32 0,.int .u64 0,.int .u64 0,.slice none 0 0,.slice none 0 0,.int .i64 0,.int .i64 0,.slice none 0 0,.slice none 0 0,.slice none 0 0,.int .u64 0,.int .u64 0,.slice none 0 0] 48)).setRow b12 (y1.cs fM0)=w20 at *
 have h1:Dk.Sep w0 w20 (locI [(b12,48,y1.cs fM0)] :: [Dk.diskI d sd,PLog g d fT2 3 1 1,Dk.diskI c sc]++[y1.fI 101 fM0,y1.kI fM0,y1.tI fM0]):=h4
 clear h4
 go_wp2_with fail
 refine (two_is w20).mono ?_
 rintro e' w21 ⟨rfl,hb⟩
 replace h1:=h1.later hb
 clear hb
 have C1:=Lib.hid (pscan_any h1 (kk:=3) rfl HGc.out 4 2 0 4607182418800017408 (by decide))
 go_wp2_with fail
 refine C1.out.mono ?_
 rintro e' w22 hq
 obtain ⟨y2,rfl,h2⟩:=scan_ok hq may2.1 (by rw [HZc.out.2,may2.2]; decide) (by rw [cur_rest HZc.out.1]; exact HSc.out.scan)
 have h3:=Lg.sep_join h1 h2
 clear h1 h2 hq C1
 have K3:Tb.Blk (w22.alloc (.cells #[.int .u64 0,.int .u32 0,.int .u64 0,.int .u64 0,.slice none 0 0,.slice none 0 0,.int .i64 0,.int .i64 0,.slice none 0 0,.slice none 0 0,.slice none 0 0,.int .u64 0,.int .u64 0,.slice none 0 0] 48)) w22.heap.size 48 #[.int .u64 0,.int .u32 0,.int .u64 0,.int .u64 0,.slice none 0 0,.slice none 0 0,.int .i64 0,.int .i64 0,.slice none 0 0,.slice none 0 0,.slice none 0 0,.int .u64 0,.int .u64 0,.slice none 0 0]:=Tb.Blk.new w22 _ _
 have h4:=loc_whole (loc_front h3 48 #[.int .u64 0,.int .u32 0,.int .u64 0,.int .u64 0,.slice none 0 0,.slice none 0 0,.int .i64 0,.int .i64 0,.slice none 0 0,.slice none 0 0,.slice none 0 0,.int .u64 0,.int .u64 0,.slice none 0 0]) (k:=0) rfl (y2.cs fM1)
 clear h3
 go_upto_region 19 with (with_reducible refine store_pi rfl (.tmp 14) (.tmp 87) rfl w22.heap.size rfl rfl K3 rfl rfl (cs_one y2 fM1) ?_)
 clear K3
 obtain ⟨b14,eb14⟩:∃ z,w22.heap.size=z:=⟨_,rfl⟩
 rw [eb14] at h4 ⊢
 clear eb14
 generalize (w22.alloc (.cells #[.int .u64 0,.int .u32 0,.int .u64 0,.int .u64 0,.slice none 0 0,.slice none 0 0,.int .i64 0,.int .i64 0,.slice none 0 0,.slice none 0 0,.slice none 0 0,.int .u64 0,.int .u64 0,.slice none 0 0] 48)).setRow b14 (y2.cs fM1)=w23 at *
 have h1:Dk.Sep w0 w23 (locI [(b14,48,y2.cs fM1)] :: (locI [(b12,48,y1.cs fM0)] :: [Dk.diskI d sd,PLog g d fT2 3 1 1,Dk.diskI c sc]++[y1.fI 101 fM0,y1.kI fM0,y1.tI fM0])++[y2.fI 101 fM1,y2.kI fM1,y2.tI fM1]):=h4
 clear h4
 go_wp2_with fail
 refine (two_is w23).mono ?_
 rintro e' w24 ⟨rfl,hb⟩
 replace h1:=h1.later hb
 clear hb
 have hgo:∀ m,scanI sc.cur 4 2=some m→Goes m:=fun m hm=>by
  have h5:=HSc.out.scan
  rw [cur_rest HZc.out.1,h5] at hm
  injection hm with hm
  rw [← hm]
  exact goes_of HSc.out (by decide) (by decide)
 have C1:=Lib.hid (popen_any h1 (k:=4) rfl HGc.out (by rw [HZc.out.1]; decide) 4 2 0 4607182418800017408 (by decide) hgo)
 clear hgo
 go_wp2_with fail
 refine C1.out.mono ?_
 rintro e' w25 (⟨hn,_⟩ | ⟨_,hn,_⟩ | ⟨_,_,hn,_⟩ | ⟨_,_,m,S,hm,hS,h2⟩)
 ·exact absurd may2.1 hn
 ·rw [may2.2,HZc.out.2] at hn; exact absurd hn (by decide)
 ·rw [cur_rest HZc.out.1,HSc.out.scan] at hn; cases hn
 rw [cur_rest HZc.out.1,HSc.out.scan] at hm
 injection hm with hm
 subst hm
 obtain ⟨hc0,m2,o1,o2,o3,o4,o5,o6⟩:=HO.out S hS
 rcases h2 with ⟨hn,_⟩ | ⟨_,y3,g2,rfl,h2⟩
 ·exact absurd hc0 hn
 have HO1:=Lib.hid (And.intro o1 (And.intro o2 o3))
 have HO2:=Lib.hid (And.intro o4 (And.intro o5 o6))
 generalize (chkS sc fM1.c.g S).1=so at *
 clear C1 HO HGc HZc HSc hc0 o1 o2 o3 o4 o5 o6
 have K3:Tb.Blk (w25.alloc (.cells #[.int .u64 0,.int .u32 0,.int .u64 0,.int .u64 0,.slice none 0 0,.slice none 0 0,.int .i64 0,.int .i64 0,.slice none 0 0,.slice none 0 0,.slice none 0 0,.int .u64 0,.int .u64 0,.slice none 0 0] 48)) w25.heap.size 48 #[.int .u64 0,.int .u32 0,.int .u64 0,.int .u64 0,.slice none 0 0,.slice none 0 0,.int .i64 0,.int .i64 0,.slice none 0 0,.slice none 0 0,.slice none 0 0,.int .u64 0,.int .u64 0,.slice none 0 0]:=Tb.Blk.new w25 _ _
 have h4:=loc_whole (loc_front h2 48 #[.int .u64 0,.int .u32 0,.int .u64 0,.int .u64 0,.slice none 0 0,.slice none 0 0,.int .i64 0,.int .i64 0,.slice none 0 0,.slice none 0 0,.slice none 0 0,.int .u64 0,.int .u64 0,.slice none 0 0]) (k:=0) rfl (y3.cs fM1)
 clear h2 h1
 go_upto_region 20 with (with_reducible refine store_pi rfl (.tmp 17) (.tmp 94) rfl w25.heap.size rfl rfl K3 rfl rfl (cs_one y3 fM1) ?_)
 clear K3
 obtain ⟨b17,eb17⟩:∃ z,w25.heap.size=z:=⟨_,rfl⟩
 rw [eb17] at h4 ⊢
 clear eb17
 generalize (w25.alloc (.cells #[.int .u64 0,.int .u32 0,.int .u64 0,.int .u64 0,.slice none 0 0,.slice none 0 0,.int .i64 0,.int .i64 0,.slice none 0 0,.slice none 0 0,.slice none 0 0,.int .u64 0,.int .u64 0,.slice none 0 0] 48)).setRow b17 (y3.cs fM1)=w26 at *
 have h1:Dk.Sep w0 w26 [locI [(b17,48,y3.cs fM1)],locI [(b14,48,y2.cs fM1)],locI [(b12,48,y1.cs fM0)],Dk.diskI d sd,PLog g d fT2 3 1 1,Dk.diskI c so,y1.fI 101 fM0,y1.kI fM0,y1.tI fM0,y2.fI 101 fM1,y2.kI fM1,y2.tI fM1,y3.fI 101 fM1,y3.kI fM1,y3.tI fM1,PLog g2 c fM1.t 2 2 2]:=h4
 clear h4
 have c17:w26.cell? ⟨b17,13,none⟩=some (.slice y3.F 1 y3.fp):=(loc_blk h1 (k:=0) rfl).cell 13
 have c14:w26.cell? ⟨b14,13,none⟩=some (.slice y2.F 1 y2.fp):=(loc_blk h1 (k:=1) rfl).cell 13
 go_upto_region 22 with fail
 clear c17 c14
 go_wp2_with fail
 refine (two_is w26).mono ?_
 rintro e' w27 ⟨rfl,hb⟩
 replace h1:=h1.later hb
 clear hb
 have C1:=Lib.hid (pscan_any h1 (kk:=5) rfl HO2.out.1 4 2 0 4607182418800017408 (by decide))
 go_wp2_with fail
 refine C1.out.mono ?_
 rintro e' w28 hq
 obtain ⟨y4,rfl,h2⟩:=scan_ok hq may2.1 (by rw [HO2.out.2.1,may2.2]; decide) HO1.out.1
 have h3:=Lg.sep_join h1 h2
 clear h1 h2 hq C1
 have K3:Tb.Blk (w28.alloc (.cells #[.int .u64 0,.int .u32 0,.int .u64 0,.int .u64 0,.slice none 0 0,.slice none 0 0,.int .i64 0,.int .i64 0,.slice none 0 0,.slice none 0 0,.slice none 0 0,.int .u64 0,.int .u64 0,.slice none 0 0] 48)) w28.heap.size 48 #[.int .u64 0,.int .u32 0,.int .u64 0,.int .u64 0,.slice none 0 0,.slice none 0 0,.int .i64 0,.int .i64 0,.slice none 0 0,.slice none 0 0,.slice none 0 0,.int .u64 0,.int .u64 0,.slice none 0 0]:=Tb.Blk.new w28 _ _
 have h1:=loc_whole (loc_front h3 48 #[.int .u64 0,.int .u32 0,.int .u64 0,.int .u64 0,.slice none 0 0,.slice none 0 0,.int .i64 0,.int .i64 0,.slice none 0 0,.slice none 0 0,.slice none 0 0,.int .u64 0,.int .u64 0,.slice none 0 0]) (k:=0) rfl (y4.cs m2)
 clear h3
 obtain ⟨b19,eb19⟩:∃ z,w28.heap.size=z:=⟨_,rfl⟩
 rw [eb19] at h1 K3
 obtain ⟨V,eV⟩:∃ z,(w28.alloc (.cells #[.int .u64 0,.int .u32 0,.int .u64 0,.int .u64 0,.slice none 0 0,.slice none 0 0,.int .i64 0,.int .i64 0,.slice none 0 0,.slice none 0 0,.slice none 0 0,.int .u64 0,.int .u64 0,.slice none 0 0] 48)).setRow b19 (y4.cs m2)=z:=⟨_,rfl⟩
 rw [eV] at h1
 have HV:=Lib.hid h1
 have c12:V.cell? ⟨b12,13,none⟩=some (.slice y1.F 0 y1.fp):=(loc_blk h1 (k:=3) rfl).cell 13
 have d12:V.cell? ⟨b12,11,none⟩=some (.int .u64 1):=(loc_blk h1 (k:=3) rfl).cell 11
 have d14:V.cell? ⟨b14,11,none⟩=some (.int .u64 2):=(loc_blk h1 (k:=2) rfl).cell 11
 have f14:V.cell? ⟨b14,12,none⟩=some (.int .u64 1):=(loc_blk h1 (k:=2) rfl).cell 12
 have hrow:=rows_own h1 (k:=10) rfl
 obtain ⟨gF,eF⟩:∃ g,y2.F=some ⟨g,0,none⟩:=by
  rcases hrow.2 with ⟨_,h0⟩ | ⟨g,cap,cur,hv,_⟩
  ·exact absurd h0 (by decide)
  ·injection hv with hv
   exact ⟨g,hv⟩
 have c14:V.cell? ⟨b14,13,none⟩=some (.slice (some ⟨gF,0,none⟩) 1 y2.fp):=by
  rw [← eF]
  exact (loc_blk h1 (k:=2) rfl).cell 13
 have cF:V.cell? ⟨gF,7,none⟩=some (.string ⟨#[97]⟩):=by
  have h5:=hrow.cells (g:=gF) (by rw [eF]; rfl) 7 (.string ⟨#[97]⟩) rfl
  rw [Addr.add_mid] at h5
  exact h5
 clear h1 hrow
 go_wp2_with (with_reducible refine store_pi rfl (.tmp 19) (.tmp 114) rfl b19 rfl rfl K3 rfl rfl (cs_one y4 m2) ?_)
 clear c12 d12 d14 f14 c14 cF eV K3
 refine (prg.epoch HV.out (j:=16) rfl).mono ?_
 rintro e' v1 ⟨rfl,hb⟩
 have HV1:=Lib.hid (HV.out.later hb)
 clear hb
 go_wp2_with fail
 refine (prg.gen HV1.out (j:=16) rfl).mono ?_
 rintro e' v2 ⟨rfl,hb⟩
 have HV2:=Lib.hid (HV1.out.later hb)
 clear hb
 go_wp2_with fail
 refine (prg.lsn HV2.out (j:=16) rfl).mono ?_
 rintro e' v3 ⟨rfl,hb⟩
 have h5:=HV2.out.later hb
 have c1:v3.cell? ⟨b19,1,none⟩=some (.int .u32 2):=by
  have h6:v3.cell? ⟨b19,1,none⟩=some (.int .u32 m2.c.e):=(loc_blk h5 (k:=0) rfl).cell 1
  rw [HO1.out.2.1] at h6
  exact h6
 have c13:v3.cell? ⟨b19,13,none⟩=some (.slice y4.F 1 y4.fp):=by
  have h6:v3.cell? ⟨b19,13,none⟩=some (.slice y4.F m2.f.length y4.fp):=(loc_blk h5 (k:=0) rfl).cell 13
  rw [HO1.out.2.2] at h6
  exact h6
 have BB:=Lib.hid h5.below
 clear hb h5
 go_wp2_with fail
 go_ret
 exact ⟨rfl,BB.out⟩
end Go.Proofs.YtcnohlgigmmefaaGreat.Ro
