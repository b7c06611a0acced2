/- A part. -/
import Derived.Test.YtcnohlgigmmefaaGreatPRoV
namespace Go.Proofs.YtcnohlgigmmefaaGreat.Ro
open Go.RowKit Go.Lib
open Tb (Tab TIn Sl okP csT lastN nth Fresh)
open Dk (St Only Grew)
open Lg (locI rowS loc_cell loc_whole loc_alloc loc_blk)
set_option linter.unusedVariables false
set_option maxRecDepth 100000
theorem sum_le {l:List Int} {st:Int} (h:∀ x∈l,0≤x∧x≤st):∀ i,i≤l.length→Tb.sumTo l i≤st*i
 | 0,_=>by rw [Tb.sumTo_zero]; simp
 | i+1,hi=>by
   have h1:=sum_le h i (by omega)
   have h2:=(h _ (Tb.nth_mem (l:=l) (i:=i) (by omega))).2
   rw [Tb.sumTo_succ (by omega),Int.natCast_succ,Int.mul_add,Int.mul_one]
   omega
theorem used_room {t:Tab} (hok:okP t):Tb.usedT t+Tb.roomT t≤480:=by
 have h7:=hok.2.2.2.2.2.2.1
 have h3:=hok.2.2.1
 obtain ⟨n,hn⟩:∃ n,t.l.length=n+1:=⟨t.l.length-1,by omega⟩
 have h1:=sum_le hok.2.2.2.2.2.1 n (by omega)
 have h2:Tb.usedT t=Tb.sumTo t.l n+lastN t.l:=by
  unfold Tb.usedT lastN
  rw [hn,Tb.sumTo_succ (by omega)]
  rfl
 have e:(t.o.length:Int)=(n:Int)+1:=by omega
 have hp:t.st*t.sg≤480:=Int.le_trans (Int.mul_le_mul hok.2.1.2 hok.1.2 (by have:=hok.1; omega) (by decide)) (by decide)
 unfold Tb.roomT
 rw [h2,e,show t.sg-((n:Int)+1)=t.sg-(n:Int)-1 by omega,Int.mul_sub,Int.mul_sub,Int.mul_one]
 omega
theorem fine_base {h:Held} {sg st:Int} {c:Cp.Chk} {f:List Fd} (hok:okP (baseI h sg st c f).t) (hF:Cp.Fits c) (hf:readsT h st c.o c.n c.o.length=some f):Fine sg st c (baseI h sg st c f):=by
 refine ⟨hok,rfl,rfl,rfl,⟨hF.l0,hF.l1⟩,⟨hF.v0,hF.v1⟩,?_⟩
 have h1:=faith_used (h:=h) hok hf
 have h2:=used_room hok
 rw [h1]
 exact h2
theorem Fine.run {h:Held} {sg st ep:Int} {c:Cp.Chk}:∀ (n:Nat) {m:Img},Fine sg st c m→Fine sg st c (runI h ep n m)
 | 0,m,F=>F
 | n+1,m,F=>by
   unfold runI
   split
   ·exact F
   ·rename_i m' hs
    exact Fine.run n (F.step hs)
def ScanQ (T:TypeId) (sg st rt:Int) (x:Nat) (s:St) (w:World) (e:Ending) (w' : World):Prop :=
 (¬ Ck.MayC sg st x rt∧e=.returned (.tuple #[.agg zeroI,.int .i64 1])∧Below w.heap.size w w') ∨
 (Ck.MayC sg st x rt∧s.size<Ck.scC sg st x rt∧e=.returned (.tuple #[.agg zeroI,.int .i64 10])∧Below w.heap.size w w') ∨
 (Ck.MayC sg st x rt∧Ck.scC sg st x rt≤s.size∧ScanP T (scanI s.cur sg st) w e w')
theorem scan_none {h:Held} {sg st:Int} (hh:¬ (Cp.bestE (h 0).data.toList (h 1).data.toList=0∧∃ f,cntI h sg st (Cp.bestC (h 0).data.toList (h 1).data.toList)=some f)):scanI h sg st=none:=by
 unfold scanI
 split
 ·rename_i h1
  cases hc:cntI h sg st (Cp.bestC (h 0).data.toList (h 1).data.toList) with
  | none=>rfl
  | some f=>exact absurd ⟨h1,f,hc⟩ hh
 ·rfl
set_option maxHeartbeats 16000000 in
theorem pscan_any {W0 w:World} {its0:List Dk.Item} {kk d:Nat} {s:St} (hD:Dk.Sep W0 w its0) (hk:its0[kk]? = some (Dk.diskI d s)) (hg:s.Good) (sg st rt:Int) (x:Nat) (hx:x<18446744073709551616) :
 Calls Tryz.prog 14 #[.pointer (some ⟨d,0,none⟩),.agg #[.int .i64 sg,.int .i64 st,.float .f64 x,.int .i64 rt]] w (ScanQ 101 sg st rt x s w):=by
 have hvI:=Tryz.zeroValue48
 have hmf:∀ (fn:Fn) (first cap:Array Value) (w:World),(Instr.makeFunc fn first cap).run Tryz.prog w=.ok (.func fn first cap) w:=fun _ _ _ _=>rfl
 have K3:Tb.Blk ((w.alloc (.cells (Lg.csF sg st x rt) 24)).alloc (.cells zeroI 48)) w.heap.size 24 (Lg.csF sg st x rt):=(Tb.Blk.new w _ _).later (NewC.below1 _ _)
 have K4:Tb.Blk ((w.alloc (.cells (Lg.csF sg st x rt) 24)).alloc (.cells zeroI 48)) (w.heap.size+1) 48 zeroI:=Tb.Blk.at_ _ _ _ (by simp)
 have B0:=NewC.geTrans (NewC.below1 w (.cells (Lg.csF sg st x rt) 24)) (NewC.below1 _ (.cells zeroI 48))
 obtain ⟨ce,hce⟩:∃ z,Ck.ceC sg st x rt=z:=⟨_,rfl⟩
 have HC:=Lib.hid (fun W=>Ck.conf_any sg st rt x W hx)
 rw [hce] at HC
 have HD:=Lib.hid hD
 obtain ⟨b3,e3⟩:∃ z,w.heap.size=z:=⟨_,rfl⟩
 have HB3:=Lib.hid e3
 rw [e3] at K3 K4
 clear hD
 go_enter Tryz.func14,Tryz.ntmps14
 go_upto_region 1 with fail
 change Code.wp _ _ _ _ ((w.alloc (.cells (Lg.csF sg st x rt) 24)).alloc (.cells zeroI 48))
 generalize ((w.alloc (.cells (Lg.csF sg st x rt) 24)).alloc (.cells zeroI 48))=w0 at *
 clear e3
 go_wp2_with (with_reducible refine Lg.load_cf rfl (.tmp 3) rfl b3 rfl K3 ?_)
 refine (HC.out _).mono ?_
 rintro e' w1 ⟨rfl,hb⟩
 replace K3:=K3.later hb
 replace K4:=K4.later hb
 have B1:=Lib.hid (NewC.geTrans B0 hb)
 clear B0 hb HC
 by_cases hm:Ck.MayC sg st x rt
 case neg =>
  obtain rfl:(1:Int)=ce:=by rw [← hce]; unfold Ck.ceC; rw [if_neg hm]
  have HM:=Lib.hid hm
  clear hm hce
  go_wp2_with (with_reducible refine store_pi rfl (.tmp 4) (.tmp 15) rfl (b3+1) rfl rfl K4 rfl rfl (by simp [Value.oneCell']) ?_)
  refine bodyPost_ret (res_pi rfl _ _ (b3+1) rfl rfl (K4.row _) rfl) rfl (.inl ⟨HM.out,rfl,Tb.below_row B1.out (by have:=HB3.out; omega) _⟩)
 obtain rfl:(0:Int)=ce:=by rw [← hce]; unfold Ck.ceC; rw [if_pos hm]
 have HM:=Lib.hid hm
 have HSC:=Lib.hid (fun W=>Ck.sectors_any sg st rt x W hx)
 obtain ⟨sc,hsc⟩:∃ z,Ck.scC sg st x rt=z:=⟨_,rfl⟩
 rw [hsc] at HSC
 have HSE:=Lib.hid hsc
 obtain ⟨n0,hn0⟩:∃ z,s.size=z:=⟨_,rfl⟩
 have HN0:=Lib.hid hn0
 have HLEN:Hid (∀ W,Below w1.heap.size w1 W→Calls Tryz.prog 56 #[.pointer (some ⟨d,0,none⟩)] W fun e w'=>e=.returned (.int .i64 n0)∧Below W.heap.size W w'):=Lib.hid (fun W hb=>by
  obtain ⟨G,D,_⟩:=(HD.out.later (NewC.geTrans B1.out hb)).at_ kk hk
  rw [← hn0]
  exact (Dk.len_any D).mono fun e w' ⟨he,hw⟩=>⟨he,hw ▸ Below.refl _ _⟩)
 clear hm hce hsc hn0
 go_upto_region 4 with fail
 have I:Below w1.heap.size w1 { w1 with drawn:=w1.drawn+1 }:=(Below.refl _ _).drew
 have hne:Nonempty (In (fun W=>Below w1.heap.size w1 W)):=⟨⟨_,I⟩⟩
 have f1:∀ jj:In (fun W=>Below w1.heap.size w1 W),jj.W.cell? ⟨b3,0,none⟩=some (.int .i64 sg):=fun jj=>(K3.later jj.h).cell 0
 have f2:∀ jj:In (fun W=>Below w1.heap.size w1 W),jj.W.cell? ⟨b3,1,none⟩=some (.int .i64 st):=fun jj=>(K3.later jj.h).cell 1
 have f3:∀ jj:In (fun W=>Below w1.heap.size w1 W),jj.W.cell? ⟨b3,2,none⟩=some (.float .f64 x):=fun jj=>(K3.later jj.h).cell 2
 have f4:∀ jj:In (fun W=>Below w1.heap.size w1 W),jj.W.cell? ⟨b3,3,none⟩=some (.int .i64 rt):=fun jj=>(K3.later jj.h).cell 3
 refine region_class (fun W=>Below w1.heap.size w1 W) (by kernel_rfl) (by kernel_rfl) I ?_
 repeat (go_big_quiet_step (first
  | (go_at_call 56; with_reducible exact class_call _ (fun hi=>(HLEN.out _ hi).mono fun e w' ⟨he,hb⟩=>⟨he,hi.trans (hb.mono hi.size)⟩))
  | (go_at_call 57; with_reducible exact class_call _ (fun hi=>(HSC.out _).mono fun e w' ⟨he,hb⟩=>⟨he,hi.trans (hb.mono hi.size)⟩))))
 refine wpQuiet_nil ?_
 rintro _ ⟨jj,rfl⟩
 have hb2:=jj.h
 clear HSC I hne f1 f2 f3 f4 HLEN
 generalize jj.W=w2 at *
 clear jj
 replace K3:=K3.later hb2
 replace K4:=K4.later hb2
 have B2:=Lib.hid (NewC.geTrans B1.out hb2)
 clear hb2 B1
 by_cases hlt:n0<sc
 case pos =>
  have HLT:=Lib.hid hlt
  go_wp2_with (with_reducible refine store_pi rfl (.tmp 4) (.tmp 22) rfl (b3+1) rfl rfl K4 rfl rfl (by simp [Value.oneCell']) ?_)
  refine bodyPost_ret (res_pi rfl _ _ (b3+1) rfl rfl (K4.row _) rfl) rfl (.inr (.inl ⟨HM.out,by rw [HN0.out,HSE.out]; exact HLT.out,rfl,Tb.below_row B2.out (by have:=HB3.out; omega) _⟩))
 have hfit:2+sg*(st+1)≤s.size:=by
  have h1:=HSE.out
  unfold Ck.scC at h1
  rw [if_pos HM.out] at h1
  rw [h1,HN0.out]
  omega
 have hz2:2≤s.size:=by
  have h1:=HM.out.1
  have h2:=HM.out.2.1
  have:=Int.mul_nonneg (show 0≤sg by omega) (show 0≤st+1 by omega)
  omega
 have HGE:=Lib.hid (show Ck.scC sg st x rt≤s.size by rw [HSE.out,HN0.out]; omega)
 have HBG:=Lib.hid (pbegun_any (HD.out.later B2.out) hk hg hz2 sg st rt x)
 have S2:Hid (Dk.Sep w w2 [locI [(b3+1,48,zeroI)]]):=Lib.hid (Lg.loc_new (Dk.Sep.nil (Below.refl _ _)) B2.out (fun x hx=>by rcases List.mem_cons.1 hx with rfl|hx; exact K4; cases hx) (fun x hx=>by rcases List.mem_cons.1 hx with rfl|hx; (show w.heap.size≤b3+1; have:=HB3.out; omega); cases hx))
 clear HN0
 go_upto_region 6 with fail
 clear hlt
 go_wp2_with (with_reducible refine Lg.load_cf rfl (.tmp 3) rfl b3 rfl K3 ?_)
 refine HBG.out.mono ?_
 rintro e' w3 (⟨hno,rfl,hb⟩ | ⟨c,hc,hbe,hok,A,p,B,q,A2,p2,B2,q2,G,rfl,S3⟩)
 ·have HNO:Hid (scanI s.cur sg st=none):=Lib.hid (scan_none fun ⟨h1,f,h2⟩=>hno ⟨h1,by
   have ho:=(best_ok h1).1
   have hi:inT sg st (Cp.bestC (s.cur 0).data.toList (s.cur 1).data.toList) (Cp.bestC (s.cur 0).data.toList (s.cur 1).data.toList).o.length:=by
    unfold cntI at h2
    split at h2
    ·assumption
    ·cases h2
   exact (ok_in HM.out.1 HM.out.2.1 ho (by simp)).2 hi⟩)
  replace K4:=K4.later hb
  have B3:=Lib.hid (NewC.geTrans B2.out hb)
  clear hno hb HBG
  have K7:Tb.Blk (w3.alloc (.cells #[.int .u64 0,.int .u32 0,.int .u64 0,.int .u64 0,.slice none 0 0,.slice none 0 0,.int .i64 0,.int .i64 0,.slice none 0 0,.slice none 0 0,.slice none 0 0,.int .u64 0,.int .u64 0,.slice none 0 0] 48)) w3.heap.size 48 #[.int .u64 0,.int .u32 0,.int .u64 0,.int .u64 0,.slice none 0 0,.slice none 0 0,.int .i64 0,.int .i64 0,.slice none 0 0,.slice none 0 0,.slice none 0 0,.int .u64 0,.int .u64 0,.slice none 0 0]:=Tb.Blk.new w3 _ _
  have B4:Hid (Below w.heap.size w ((w3.alloc (.cells #[.int .u64 0,.int .u32 0,.int .u64 0,.int .u64 0,.slice none 0 0,.slice none 0 0,.int .i64 0,.int .i64 0,.slice none 0 0,.slice none 0 0,.slice none 0 0,.int .u64 0,.int .u64 0,.slice none 0 0] 48)).setRow w3.heap.size zeroI)):=Lib.hid (Tb.below_row (NewC.geTrans B3.out (NewC.below1 _ _)) B3.out.size _)
  have K5:Tb.Blk ((w3.alloc (.cells #[.int .u64 0,.int .u32 0,.int .u64 0,.int .u64 0,.slice none 0 0,.slice none 0 0,.int .i64 0,.int .i64 0,.slice none 0 0,.slice none 0 0,.slice none 0 0,.int .u64 0,.int .u64 0,.slice none 0 0] 48)).setRow w3.heap.size zeroI) (b3+1) 48 zeroI:=(K4.later (NewC.below1 w3 _)).far (by have:=K4.lt; omega) _
  have hz1:zeroI.all (·.oneCell')=true:=by simp [zeroI,csI,Value.oneCell']
  go_upto_region 7 with (with_reducible refine store_pi (cs:=zeroI) rfl (.tmp 7) (.tmp 27) rfl w3.heap.size rfl rfl K7 rfl rfl hz1 ?_)
  clear hz1
  clear K7 K4 B3
  generalize (w3.alloc (.cells #[.int .u64 0,.int .u32 0,.int .u64 0,.int .u64 0,.slice none 0 0,.slice none 0 0,.int .i64 0,.int .i64 0,.slice none 0 0,.slice none 0 0,.slice none 0 0,.int .u64 0,.int .u64 0,.slice none 0 0] 48)).setRow w3.heap.size zeroI=w4 at *
  have K4:=K5
  have B3:=B4
  go_wp2_with (with_reducible refine store_pi rfl (.tmp 4) (.tmp 31) rfl (b3+1) rfl rfl K4 rfl rfl (by simp [Value.oneCell']) ?_)
  refine bodyPost_ret (res_pi rfl _ _ (b3+1) rfl rfl (K4.row _) rfl) rfl (.inr (.inr ⟨HM.out,HGE.out,.inl ⟨HNO.out,rfl,Tb.below_row B3.out (by have:=HB3.out; omega) _⟩⟩))
 have hbo:=best_ok hbe
 rw [← hc] at hbo
 have HCC:=Lib.hid (And.intro hc (And.intro hbe (And.intro hbo.1 hbo.2)))
 have HOK:=Lib.hid hok
 have hlen:1≤c.o.length∧c.o.length≤16:=(Tb.ok_bd hok).2.1
 clear hc hbe hok hbo HBG K3
 have S4:=loc_whole (loc_alloc (Lg.sep_join S2.out S3) 48 #[.int .u64 0,.int .u32 0,.int .u64 0,.int .u64 0,.slice none 0 0,.slice none 0 0,.int .i64 0,.int .i64 0,.slice none 0 0,.slice none 0 0,.slice none 0 0,.int .u64 0,.int .u64 0,.slice none 0 0]) (k:=3) rfl (csI c.g c.e c.l c.v A c.o.length p B c.o.length q sg st (.slice A2 c.o.length p2) (.slice B2 c.o.length q2) (.slice G c.o.length c.o.length) c.l c.v nilS)
 have K7:Tb.Blk (w3.alloc (.cells #[.int .u64 0,.int .u32 0,.int .u64 0,.int .u64 0,.slice none 0 0,.slice none 0 0,.int .i64 0,.int .i64 0,.slice none 0 0,.slice none 0 0,.slice none 0 0,.int .u64 0,.int .u64 0,.slice none 0 0] 48)) w3.heap.size 48 #[.int .u64 0,.int .u32 0,.int .u64 0,.int .u64 0,.slice none 0 0,.slice none 0 0,.int .i64 0,.int .i64 0,.slice none 0 0,.slice none 0 0,.slice none 0 0,.int .u64 0,.int .u64 0,.slice none 0 0]:=Tb.Blk.new w3 _ _
 obtain ⟨b7,e7⟩:∃ z,w3.heap.size=z:=⟨_,rfl⟩
 rw [e7] at S4 K7
 go_upto_region 7 with (with_reducible refine store_pi rfl (.tmp 7) (.tmp 27) rfl b7 rfl rfl K7 rfl rfl (csI_one ..) ?_)
 clear S3 e7 K4 K7
 generalize (w3.alloc (.cells #[.int .u64 0,.int .u32 0,.int .u64 0,.int .u64 0,.slice none 0 0,.slice none 0 0,.int .i64 0,.int .i64 0,.slice none 0 0,.slice none 0 0,.slice none 0 0,.int .u64 0,.int .u64 0,.slice none 0 0] 48)).setRow b7 (csI c.g c.e c.l c.v A c.o.length p B c.o.length q sg st (.slice A2 c.o.length p2) (.slice B2 c.o.length q2) (.slice G c.o.length c.o.length) c.l c.v nilS)=w4 at *
 have S5:=Lg.rows_nil (loc_alloc S4 46 #[.slice none 0 0]) 101 9
 obtain ⟨b9,e9⟩:∃ z,w4.heap.size=z:=⟨_,rfl⟩
 rw [e9] at S5
 go_upto_region 10 with fail
 clear e9 S4
 generalize w4.alloc (.cells #[.slice none 0 0] 46)=w5 at *
 have S6:Dk.Sep w w5 (itsC [locI [(b3+1,48,zeroI)],tabI A c.o.length B c.o.length none 0 c.o c.n [],tabI A2 c.o.length B2 c.o.length G c.o.length c.o c.n (List.replicate c.o.length c.l),locI [(b7,48,csI c.g c.e c.l c.v A c.o.length p B c.o.length q sg st (.slice A2 c.o.length p2) (.slice B2 c.o.length q2) (.slice G c.o.length c.o.length) c.l c.v nilS)],allI b9 none 0 0,fndI none 0 []] 4 5 b9 none 0 []):=S5
 have HPC:=Lib.hid (pcnt_any HD.out hk hg c sg st p2 q2 c.o.length (ia:=4) (ir:=5) (it:=2) rfl rfl rfl (by decide) (by decide) (by decide) S6 HOK.out hfit)
 have K7:=loc_blk S6 (k:=3) rfl
 clear S5 S6
 go_wp2_with (with_reducible refine load_it rfl (.tmp 36) rfl b7 rfl K7 ?_)
 refine HPC.out.mono ?_
 rintro e' w6 (⟨hno,rfl,F,pf,f,S7⟩ | ⟨f,F,pf,G2,pg,hf,rfl,S7⟩)
 ·have HNO:Hid (scanI s.cur sg st=none):=Lib.hid (scan_none fun ⟨h1,f,h2⟩=>by
   rw [← HCC.out.1] at h2
   unfold cntI at h2
   split at h2
   ·rw [hno] at h2
    cases h2
   ·cases h2)
  have S7:Dk.Sep w w6 (itsC [locI [(b3+1,48,zeroI)],tabI A c.o.length B c.o.length none 0 c.o c.n [],tabI A2 c.o.length B2 c.o.length G c.o.length c.o c.n (List.replicate c.o.length c.l),locI [(b7,48,csI c.g c.e c.l c.v A c.o.length p B c.o.length q sg st (.slice A2 c.o.length p2) (.slice B2 c.o.length q2) (.slice G c.o.length c.o.length) c.l c.v nilS)],allI b9 none 0 0,fndI none 0 []] 4 5 b9 F pf f):=S7
  have c10:w6.cell? ⟨b7,10,none⟩=some (.slice G c.o.length c.o.length):=(loc_blk S7 (k:=3) rfl).cell 10
  have f10:=(loc_blk S7 (k:=3) rfl).frozen 10
  have S8:=loc_cell S7 (k:=3) rfl 10 (.slice none 0 0)
  clear hno K7 HPC S7
  go_upto_region 12 with fail
  clear c10 f10
  generalize w6.setCell ⟨b7,10,none⟩ (.slice none 0 0)=w7 at *
  have K4:=loc_blk S8 (k:=0) rfl
  have B8:=Lib.hid S8.below
  clear S8
  go_wp2_with (with_reducible refine store_pi rfl (.tmp 4) (.tmp 46) rfl (b3+1) rfl rfl K4 rfl rfl (by simp [Value.oneCell']) ?_)
  refine bodyPost_ret (res_pi rfl _ _ (b3+1) rfl rfl (K4.row _) rfl) rfl (.inr (.inr ⟨HM.out,HGE.out,.inl ⟨HNO.out,rfl,Tb.below_row B8.out (by have:=HB3.out; omega) _⟩⟩))
 ·have S7:Dk.Sep w w6 (rowS 38 1 (.slice G2 c.o.length pg) c.o.length (Tb.iv .u64 (firstsT s.cur st c c.o.length)) :: itsC [locI [(b3+1,48,zeroI)],tabI A c.o.length B c.o.length none 0 c.o c.n [],tabI A2 c.o.length B2 c.o.length G c.o.length c.o c.n (List.replicate c.o.length c.l),locI [(b7,48,csI c.g c.e c.l c.v A c.o.length p B c.o.length q sg st (.slice A2 c.o.length p2) (.slice B2 c.o.length q2) (.slice G c.o.length c.o.length) c.l c.v nilS)],allI b9 none 0 0,fndI none 0 []] 4 5 b9 F pf f):=S7
  have c10:w6.cell? ⟨b7,10,none⟩=some (.slice G c.o.length c.o.length):=(loc_blk S7 (k:=4) rfl).cell 10
  have f10:=(loc_blk S7 (k:=4) rfl).frozen 10
  have S8:=tab_first (loc_cell S7 (k:=4) rfl 10 (.slice G2 c.o.length pg)) (j:=2) rfl
  have S8:Dk.Sep w (w6.setCell ⟨b7,10,none⟩ (.slice G2 c.o.length pg)) [locI [(b3+1,48,zeroI)],tabI A c.o.length B c.o.length none 0 c.o c.n [],tabI A2 c.o.length B2 c.o.length G2 c.o.length c.o c.n (firstsT s.cur st c c.o.length),locI [(b7,48,csI c.g c.e c.l c.v A c.o.length p B c.o.length q sg st (.slice A2 c.o.length p2) (.slice B2 c.o.length q2) (.slice G2 c.o.length pg) c.l c.v nilS)],allI b9 F f.length pf,fndI F pf f]:=S8
  have HF:=Lib.hid hf
  clear hf K7 HPC S7
  go_upto_region 12 with fail
  clear c10 f10
  generalize w6.setCell ⟨b7,10,none⟩ (.slice G2 c.o.length pg)=w7 at *
  have hin:inT sg st c c.o.length:=(ok_in HM.out.1 HM.out.2.1 HCC.out.2.2.1 (by simp)).1 HOK.out
  have hcn:cntI s.cur sg st c=some f:=by unfold cntI; rw [if_pos hin]; exact HF.out
  have hbok:=base_ok (h:=s.cur) (f:=f) HM.out.1 HM.out.2.1 HCC.out.2.2.1 hin
  have HFB:=Lib.hid (fine_base hbok HCC.out.2.2.2 HF.out)
  obtain ⟨mE,hmE⟩:∃ z,runI s.cur c.e (fuelI (baseI s.cur sg st c f)) (baseI s.cur sg st c f)=z:=⟨_,rfl⟩
  have HSC:Hid (scanI s.cur sg st=some mE):=Lib.hid (by
   unfold scanI
   rw [if_pos HCC.out.2.1,← HCC.out.1,hcn]
   simp only
   rw [hmE])
  have HFE:Hid (Fine sg st c mE):=Lib.hid (by rw [← hmE]; exact Fine.run _ HFB.out)
  have HPB:=Lib.hid (pbehind_any HD.out hk hg sg st c (baseI s.cur sg st c f) mE A c.o.length p B c.o.length q p2 q2 pg (ia:=4) (ir:=5) (it:=2) (items:=[locI [(b3+1,48,zeroI)],tabI A c.o.length B c.o.length none 0 c.o c.n [],tabI A2 c.o.length B2 c.o.length G2 c.o.length c.o c.n (firstsT s.cur st c c.o.length),locI [(b7,48,csI c.g c.e c.l c.v A c.o.length p B c.o.length q sg st (.slice A2 c.o.length p2) (.slice B2 c.o.length q2) (.slice G2 c.o.length pg) c.l c.v nilS)],allI b9 F f.length pf,fndI F pf f]) rfl rfl rfl (by decide) (by decide) (by decide) S8 HFB.out hmE hfit)
  have K7:=loc_blk S8 (k:=3) rfl
  clear hin hcn hbok hmE S8
  go_wp2_with (with_reducible refine load_pi rfl (.tmp 7) rfl b7 rfl K7 rfl ?_)
  refine HPB.out.mono ?_
  rintro e' w8 ⟨A3,m3,p3,B3,k3,q3,C3,n3,r3,F2,pf2,rfl,S9⟩
  have S9:Dk.Sep w w8 [locI [(b3+1,48,zeroI)],tabI A c.o.length B c.o.length none 0 c.o c.n [],tabI A3 m3 B3 k3 C3 n3 mE.t.o mE.t.l mE.t.f,locI [(b7,48,csI c.g c.e c.l c.v A c.o.length p B c.o.length q sg st (.slice A2 c.o.length p2) (.slice B2 c.o.length q2) (.slice G2 c.o.length pg) c.l c.v nilS)],allI b9 F2 mE.f.length pf2,fndI F2 pf2 mE.f]:=S9
  have K7:=loc_blk S9 (k:=3) rfl
  have S10:Dk.Sep w _ [locI [(b3+1,48,zeroI)],tabI A c.o.length B c.o.length none 0 c.o c.n [],tabI A3 m3 B3 k3 C3 n3 mE.t.o mE.t.l mE.t.f,locI [(b7,48,csI c.g c.e c.l c.v A c.o.length p B c.o.length q sg st (.slice A3 m3 p3) (.slice B3 k3 q3) (.slice C3 n3 r3) mE.ls mE.v (.slice none 0 0))],allI b9 F2 mE.f.length pf2,fndI F2 pf2 mE.f]:=loc_whole S9 (k:=3) rfl (csI c.g c.e c.l c.v A c.o.length p B c.o.length q sg st (.slice A3 m3 p3) (.slice B3 k3 q3) (.slice C3 n3 r3) mE.ls mE.v (.slice none 0 0))
  clear HPB
  go_upto_region 15 with (with_reducible refine store_pi rfl (.tmp 7) (.tmp 51) rfl b7 rfl rfl K7 rfl rfl (csI_one ..) ?_)
  clear K7 S9
  generalize w8.setRow b7 (csI c.g c.e c.l c.v A c.o.length p B c.o.length q sg st (.slice A3 m3 p3) (.slice B3 k3 q3) (.slice C3 n3 r3) mE.ls mE.v (.slice none 0 0))=w9 at *
  have c10:w9.cell? ⟨b9,0,none⟩=some (.slice F2 mE.f.length pf2):=(loc_blk S10 (k:=4) rfl).cell 0
  have f10:=(loc_blk S10 (k:=3) rfl).frozen 13
  have d10:w9.cell? ⟨b7,13,none⟩=some (.slice none 0 0):=(loc_blk S10 (k:=3) rfl).cell 13
  have S11:Dk.Sep w _ [locI [(b3+1,48,zeroI)],tabI A c.o.length B c.o.length none 0 c.o c.n [],tabI A3 m3 B3 k3 C3 n3 mE.t.o mE.t.l mE.t.f,locI [(b7,48,csI c.g c.e c.l c.v A c.o.length p B c.o.length q sg st (.slice A3 m3 p3) (.slice B3 k3 q3) (.slice C3 n3 r3) mE.ls mE.v (.slice F2 mE.f.length pf2))],allI b9 F2 mE.f.length pf2,fndI F2 pf2 mE.f]:=loc_cell S10 (k:=3) rfl 13 (.slice F2 mE.f.length pf2)
  clear S10
  go_upto_region 16 with fail
  clear c10 f10 d10
  generalize w9.setCell ⟨b7,13,none⟩ (.slice F2 mE.f.length pf2)=w10 at *
  have K7:=loc_blk S11 (k:=3) rfl
  have K4:=loc_blk S11 (k:=0) rfl
  go_wp2_with (with_reducible (first
   | refine load_pi rfl (.tmp 7) rfl b7 rfl K7 rfl ?_
   | refine store_pi rfl (.tmp 4) (.tmp 54) rfl (b3+1) rfl rfl K4 rfl rfl (csI_one ..) ?_))
  have S12:Dk.Sep w _ [locI [(b3+1,48,csI c.g c.e c.l c.v A c.o.length p B c.o.length q sg st (.slice A3 m3 p3) (.slice B3 k3 q3) (.slice C3 n3 r3) mE.ls mE.v (.slice F2 mE.f.length pf2))],tabI A c.o.length B c.o.length none 0 c.o c.n [],tabI A3 m3 B3 k3 C3 n3 mE.t.o mE.t.l mE.t.f,locI [(b7,48,csI c.g c.e c.l c.v A c.o.length p B c.o.length q sg st (.slice A3 m3 p3) (.slice B3 k3 q3) (.slice C3 n3 r3) mE.ls mE.v (.slice F2 mE.f.length pf2))],allI b9 F2 mE.f.length pf2,fndI F2 pf2 mE.f]:=loc_whole S11 (k:=0) rfl (csI c.g c.e c.l c.v A c.o.length p B c.o.length q sg st (.slice A3 m3 p3) (.slice B3 k3 q3) (.slice C3 n3 r3) mE.ls mE.v (.slice F2 mE.f.length pf2))
  have hsg:=HFE.out.sg
  have hst:=HFE.out.st
  obtain rfl:c=mE.c:=HFE.out.c.symm
  refine bodyPost_ret (res_pi rfl _ _ (b3+1) rfl rfl (K4.row _) rfl) rfl (.inr (.inr ⟨HM.out,HGE.out,.inr ⟨mE,⟨A,mE.c.o.length,p,B,mE.c.o.length,q,A3,m3,p3,B3,k3,q3,C3,n3,r3,F2,pf2⟩,HSC.out,?_,sep_pick S12 [5,1,2] (by decide) rfl⟩⟩))
  subst hsg hst
  rfl
end Go.Proofs.YtcnohlgigmmefaaGreat.Ro
