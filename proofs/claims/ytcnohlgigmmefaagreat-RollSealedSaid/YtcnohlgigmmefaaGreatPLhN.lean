/- A part. -/
import Derived.Test.YtcnohlgigmmefaaGreatPLhM
import Derived.Test.YtcnohlgigmmefaaGreatPLgY
namespace Go.Proofs.YtcnohlgigmmefaaGreat.Lg
open Go.RowKit Go.Lib
open Tb (Tab TIn Sl okP csT lastN nth Fresh)
open Dk (St Only Grew)
set_option linter.unusedVariables false
set_option maxRecDepth 100000
theorem ptab_any {w:World} {g d:Nat} {t:Tab} {A:Option Addr} {m p:Nat} {B:Option Addr} {k q:Nat} {C:Option Addr} {n r:Nat} {ls ep gn:Int} (hB:Tb.Blk w g 156 (csL d t.sg t.st A m p B k q C n r ls ep gn)) (ht:TIn w A m B k C n t.o t.l t.f) (hok:okP t):Calls Tryz.prog 28 #[.pointer (some ⟨g,0,none⟩)] w (ApP t w):=by
 have hvT:=Tryz.zeroValue45
 have N2:Tb.Blk (w.alloc (.cells #[.int .i64 0,.int .i64 0,.slice none 0 0,.slice none 0 0,.slice none 0 0] 45)) w.heap.size 45 (csT 0 0 none 0 0 none 0 0 none 0 0):=Tb.Blk.new w _ _
 have B0:=Tb.below1 w (.cells #[.int .i64 0,.int .i64 0,.slice none 0 0,.slice none 0 0,.slice none 0 0] 45)
 have hB1:=hB.later B0
 have hz:w.heap.size<(w.alloc (.cells #[.int .i64 0,.int .i64 0,.slice none 0 0,.slice none 0 0,.slice none 0 0] 45)).heap.size:=N2.lt
 have HA:=Lib.hid (apart_any (p:=p) (q:=q) (r:=r) (ht.later B0) hok)
 clear hB ht
 go_enter Tryz.func28,Tryz.ntmps28
 go_upto_region 1 with fail
 generalize w.alloc (.cells #[.int .i64 0,.int .i64 0,.slice none 0 0,.slice none 0 0,.slice none 0 0] 45)=w1 at *
 go_wp2_with (with_reducible refine load_pt rfl (.tmp 5) rfl g rfl hB1 ?_)
 refine HA.out.mono ?_
 rintro e' w2 ⟨A1,m1,p1,B1,k1,q1,C1,n1,r1,W1,rfl,ht2,hf,hb⟩
 replace N2:=N2.later hb
 have B2:=Tb.Ge.trans B0 hb
 have hnb:=fresh_nb3 hok ht2 hf hz
 have hf2:Fresh W1 w.heap.size A1 m1∧Fresh W1 w.heap.size B1 k1∧Fresh W1 w.heap.size C1 n1:=⟨fresh_wide hf.1 B0.size,fresh_wide hf.2.1 B0.size,fresh_wide hf.2.2 B0.size⟩
 clear HA hB1 hb B0 hf
 go_wp2_with (with_reducible refine Tb.store_t rfl (.tmp 2) (.tmp 7) rfl w.heap.size rfl rfl N2 ?_)
 exact bodyPost_ret (Tb.res_t1 rfl _ _ w.heap.size rfl (N2.row _)) rfl ⟨A1,m1,p1,B1,k1,q1,C1,n1,r1,W1,rfl,tin_row ht2 hnb _,hf2,Tb.below_row B2 (Nat.le_refl _) _⟩
theorem at_any {w:World} {t:Tab} {A:Option Addr} {m p:Nat} {B:Option Addr} {k q:Nat} {C:Option Addr} {n r:Nat} (ht:TIn w A m B k C n t.o t.l t.f) (hok:okP t) (d:Nat) (ls ep gn:Int) :
 Calls Tryz.prog 72 #[.pointer (some ⟨d,0,none⟩),.agg #[.int .i64 t.sg,.int .i64 t.st,.slice A m p,.slice B k q,.slice C n r],.int .u64 ls,.int .u32 ep,.int .u64 gn] w fun e w'=>∃ g A1 m1 p1 B1 k1 q1 C1 n1 r1 W1,e=.returned (.pointer (some ⟨g,0,none⟩))∧Tb.Blk w' g 156 (csL d t.sg t.st A1 m1 p1 B1 k1 q1 C1 n1 r1 ls ep gn)∧w.heap.size≤g∧TIn w' A1 m1 B1 k1 C1 n1 t.o t.l t.f∧(Fresh W1 w.heap.size A1 m1∧Fresh W1 w.heap.size B1 k1∧Fresh W1 w.heap.size C1 n1)∧Nb3 A1 B1 C1 g∧Below w.heap.size w w':=by
 have N1:Tb.Blk (w.alloc (.cells #[.int .i64 t.sg,.int .i64 t.st,.slice A m p,.slice B k q,.slice C n r] 45)) w.heap.size 45 (csT t.sg t.st A m p B k q C n r):=Tb.Blk.new w _ _
 have B0:=Tb.below1 w (.cells #[.int .i64 t.sg,.int .i64 t.st,.slice A m p,.slice B k q,.slice C n r] 45)
 have HA:=Lib.hid (apart_any (p:=p) (q:=q) (r:=r) (ht.later B0) hok)
 clear ht
 go_enter Tryz.func72,Tryz.ntmps72
 go_upto_region 1 with fail
 generalize w.alloc (.cells #[.int .i64 t.sg,.int .i64 t.st,.slice A m p,.slice B k q,.slice C n r] 45)=w1 at *
 go_wp2_with (with_reducible refine Tb.load_t rfl (.tmp 6) rfl w.heap.size rfl N1 ?_)
 refine HA.out.mono ?_
 rintro e' w2 ⟨A1,m1,p1,B1,k1,q1,C1,n1,r1,W1,rfl,ht2,hf,hb⟩
 have B2:=Tb.Ge.trans B0 hb
 have hf2:Fresh W1 w.heap.size A1 m1∧Fresh W1 w.heap.size B1 k1∧Fresh W1 w.heap.size C1 n1:=⟨fresh_wide hf.1 B0.size,fresh_wide hf.2.1 B0.size,fresh_wide hf.2.2 B0.size⟩
 have hnb:=tin_nb hok ht2 (Nat.le_refl w2.heap.size)
 clear HA N1 hb B0 hf
 go_wp2_with fail
 go_ret
 exact ⟨w2.heap.size,A1,m1,p1,B1,k1,q1,C1,n1,r1,W1,rfl,Tb.Blk.new w2 _ _,B2.size,ht2.later (Tb.below1 w2 _),hf2,hnb,Tb.Ge.trans B2 (Tb.below1 w2 _)⟩
set_option maxHeartbeats 8000000 in
theorem pfmt_any {W w:World} {items:List Dk.Item} {k d:Nat} {s:St} (h:Dk.Sep W w items) (hk:items[k]? = some (Dk.diskI d s)) (sg sl rt:Int) (x:Nat) (hx:x<18446744073709551616) (hpl:s.pend.length<1048576) (S:ByteArray) (hS:Cp.secL ⟨1,1,1,0,[0],[0]⟩=S.data.toList) :
 Calls Tryz.prog 35 #[.pointer (some ⟨d,0,none⟩),.agg #[.int .i64 sg,.int .i64 sl,.float .f64 x,.int .i64 rt]] w fun e w' =>
  (fmtE s sg sl x rt S=0∧∃ g,e=.returned (.tuple #[.pointer (some ⟨g,0,none⟩),.int .i64 0])∧Dk.Sep W w' (items.set k (Dk.diskI d (fmtD s sg sl x rt S))++[logI 156 g d (Tb.newT sg sl 1) 1 1 1])) ∨
  (fmtE s sg sl x rt S≠0∧e=.returned (.tuple #[.pointer none,.int .i64 (fmtE s sg sl x rt S)])∧Dk.Sep W w' (items.set k (Dk.diskI d (fmtD s sg sl x rt S)))):=by
 have N3:Tb.Blk (w.alloc (.cells (csF sg sl x rt) 24)) w.heap.size 24 (csF sg sl x rt):=Tb.Blk.new w _ _
 have h0:=h.alloc (.cells (csF sg sl x rt) 24)
 clear h
 obtain ⟨b,Eb⟩:∃ b,w.heap.size=b:=⟨_,rfl⟩
 rw [Eb] at N3
 by_cases hm:Ck.MayC sg sl x rt
 case neg =>
  have E1:fmtE s sg sl x rt S=1:=if_neg hm
  have E2:fmtD s sg sl x rt S=s:=if_neg hm
  rw [E1,E2,set_same hk]
  have HC:=Lib.hid (fun w=>Ck.conf_no sg sl rt x w hx hm)
  clear E1 E2 hm
  go_enter Tryz.func35,Tryz.ntmps35
  go_upto_region 1 with fail
  change Code.wp _ _ _ _ (w.alloc (.cells (csF sg sl x rt) 24))
  clear Eb
  generalize w.alloc (.cells (csF sg sl x rt) 24)=w0 at *
  have HH:=Lib.hid h0
  clear h0
  go_wp2_with (with_reducible refine load_cf rfl (.tmp 3) rfl b rfl N3 ?_)
  refine (HC.out _).mono ?_
  rintro e' w1 ⟨rfl,hb⟩
  have BB:=Lib.hid hb
  clear hb N3
  go_wp2_with fail
  go_ret2
  exact .inr ⟨by decide,rfl,HH.out.later BB.out⟩
 have HM:=Lib.hid hm
 have HC:=Lib.hid (fun w=>Ck.conf_yes sg sl rt x w hm)
 have HS2:=Lib.hid (fun w=>Ck.sectors_any sg sl rt x w hx)
 obtain ⟨sc,Esc⟩:∃ z,Ck.scC sg sl x rt=z:=⟨_,rfl⟩
 have hsc2:2≤sc:=by
  rw [← Esc]
  unfold Ck.scC
  rw [if_pos hm]
  have:=Int.mul_nonneg (show 0≤sg by have:=hm.1; omega) (show 0≤sl+1 by have:=hm.2.1; omega)
  omega
 have E1:fmtE s sg sl x rt S=if s.size<sc then 10 else (chkS s 0 S).2.2:=by rw [← Esc]; exact if_pos hm
 have E2:fmtD s sg sl x rt S=if s.size<sc then s else (chkS s 0 S).1:=by rw [← Esc]; exact if_pos hm
 obtain ⟨fe,Efe⟩:∃ z,fmtE s sg sl x rt S=z:=⟨_,rfl⟩
 obtain ⟨fd,Efd⟩:∃ z,fmtD s sg sl x rt S=z:=⟨_,rfl⟩
 rw [Efe] at E1 ⊢
 rw [Efd] at E2 ⊢
 have H1:=Lib.hid E1
 have H2:=Lib.hid E2
 rw [Esc] at HS2
 have HHS:=Lib.hid hS
 have Hsc2:=Lib.hid hsc2
 clear E1 E2 hm Esc hS hsc2 Efe Efd
 go_enter Tryz.func35,Tryz.ntmps35
 go_upto_region 1 with fail
 change Code.wp _ _ _ _ (w.alloc (.cells (csF sg sl x rt) 24))
 clear Eb
 generalize w.alloc (.cells (csF sg sl x rt) 24)=w0 at *
 go_wp2_with (with_reducible refine load_cf rfl (.tmp 3) rfl b rfl N3 ?_)
 refine (HC.out _).mono ?_
 rintro e' w1 ⟨rfl,hb⟩
 have h1:=h0.later hb
 replace N3:=N3.later hb
 clear hb HC h0
 have HLEN:Hid (∀ W',Below w1.heap.size w1 W'→Calls Tryz.prog 56 #[.pointer (some ⟨d,0,none⟩)] W' fun e w'=>e=.returned (.int .i64 s.size)∧Below W'.heap.size W' w'):=Lib.hid (fun W' hb=>by
  obtain ⟨G,D,_⟩:=(h1.later hb).at_ k hk
  exact (Dk.len_any D).mono fun e w' ⟨he,hw⟩=>⟨he,hw ▸ Below.refl _ _⟩)
 obtain ⟨n0,En⟩:∃ z,s.size=z:=⟨_,rfl⟩
 rw [En] at HLEN
 have HN0:=Lib.hid En
 clear En
 have I:Below w1.heap.size w1 { w1 with drawn:=w1.drawn+1 }:=(Below.refl _ _).drew
 have hne:Nonempty (In (fun W=>Below w1.heap.size w1 W)):=⟨⟨_,I⟩⟩
 have f1:∀ jj:In (fun W=>Below w1.heap.size w1 W),jj.W.cell? ⟨b,0,none⟩=some (.int .i64 sg):=fun jj=>(N3.later jj.h).cell 0
 have f2:∀ jj:In (fun W=>Below w1.heap.size w1 W),jj.W.cell? ⟨b,1,none⟩=some (.int .i64 sl):=fun jj=>(N3.later jj.h).cell 1
 have f3:∀ jj:In (fun W=>Below w1.heap.size w1 W),jj.W.cell? ⟨b,2,none⟩=some (.float .f64 x):=fun jj=>(N3.later jj.h).cell 2
 have f4:∀ jj:In (fun W=>Below w1.heap.size w1 W),jj.W.cell? ⟨b,3,none⟩=some (.int .i64 rt):=fun jj=>(N3.later jj.h).cell 3
 go_wp2_with fail
 refine region_class (fun W=>Below w1.heap.size w1 W) (by kernel_rfl) (by kernel_rfl) I ?_
 repeat (go_big_quiet_step (first
  | (go_at_call 56; with_reducible exact class_call _ (fun hi=>(HLEN.out _ hi).mono fun e w' ⟨he,hb⟩=>⟨he,hi.trans (hb.mono hi.size)⟩))
  | (go_at_call 57; with_reducible exact class_call _ (fun hi=>(HS2.out _).mono fun e w' ⟨he,hb⟩=>⟨he,hi.trans (hb.mono hi.size)⟩))))
 refine wpQuiet_nil ?_
 rintro _ ⟨jj,rfl⟩
 have hb2:=jj.h
 clear HS2 I hne f1 f2 f3 f4 HLEN
 generalize jj.W=w2 at *
 clear jj
 have h2:=h1.later hb2
 replace N3:=N3.later hb2
 clear h1 hb2
 by_cases hlt:n0<sc
 ·have q1:decide (n0<sc)=true:=decide_eq_true hlt
  have HE:Hid (s.size<sc):=Lib.hid (by have:=HN0.out; omega)
  have K1:=Lib.hid (H1.out.trans (if_pos HE.out))
  have K2:=Lib.hid (H2.out.trans (if_pos HE.out))
  have HH:=Lib.hid h2
  clear h2 N3
  go_wp2_with fail
  go_ret2
  exact .inr ⟨by rw [K1.out]; decide,by rw [K1.out]; rfl,by rw [K2.out,set_same hk]; exact HH.out⟩
 have q1:decide (n0<sc)=false:=decide_eq_false hlt
 have HE:Hid (¬ s.size<sc):=Lib.hid (by have:=HN0.out; omega)
 have HZ:Hid (2≤s.size):=Lib.hid (by have:=HE.out; have:=Hsc2.out; omega)
 have K1:=Lib.hid (H1.out.trans (if_neg HE.out))
 have K2:=Lib.hid (H2.out.trans (if_neg HE.out))
 have HNW:Hid (∀ W',Calls Tryz.prog 82 #[.int .i64 sg,.int .i64 sl,.int .u64 1] W' (Tb.ResP (Tb.newT sg sl 1) 0 W')):=Lib.hid (fun W'=>by
  have:=Tb.new_any sg sl 1 W'
  rw [if_pos (may_size HM.out),if_pos (may_size HM.out)] at this
  exact this)
 have hvT:=Tryz.zeroValue45
 have c0:w2.cell? ⟨b,0,none⟩=some (.int .i64 sg):=N3.cell 0
 have c1:w2.cell? ⟨b,1,none⟩=some (.int .i64 sl):=N3.cell 1
 have hok:okP (Tb.newT sg sl 1):=Tb.new_ok (may_size HM.out)
 clear N3 H1 H2
 go_wp2_with fail
 refine (HNW.out _).mono ?_
 rintro e' w3 ⟨A,m,p,B,k1,q,C,n,r1,rfl,ht,_,hf,hb3⟩
 have N6:Tb.Blk (w3.alloc (.cells #[.int .i64 0,.int .i64 0,.slice none 0 0,.slice none 0 0,.slice none 0 0] 45)) w3.heap.size 45 (csT 0 0 none 0 0 none 0 0 none 0 0):=Tb.Blk.new w3 _ _
 have h3:=h2.later hb3
 clear c0 c1 q1 hlt HNW h2 hb3 hf
 go_upto_region 7 with (with_reducible refine Tb.store_t rfl (.tmp 7) (.tmp 27) rfl w3.heap.size rfl rfl N6 ?_)
 have hb4:Below w3.heap.size w3 ((w3.alloc (.cells #[.int .i64 0,.int .i64 0,.slice none 0 0,.slice none 0 0,.slice none 0 0] 45)).setRow w3.heap.size (csT (Tb.newT sg sl 1).sg (Tb.newT sg sl 1).st A m p B k1 q C n r1)):=Tb.below_row (Tb.below1 w3 _) (Nat.le_refl _) _
 have N7:=N6.row (csT (Tb.newT sg sl 1).sg (Tb.newT sg sl 1).st A m p B k1 q C n r1)
 change Code.wp _ _ _ _ ((w3.alloc (.cells #[.int .i64 0,.int .i64 0,.slice none 0 0,.slice none 0 0,.slice none 0 0] 45)).setRow w3.heap.size (csT (Tb.newT sg sl 1).sg (Tb.newT sg sl 1).st A m p B k1 q C n r1))
 generalize (w3.alloc (.cells #[.int .i64 0,.int .i64 0,.slice none 0 0,.slice none 0 0,.slice none 0 0] 45)).setRow w3.heap.size (csT (Tb.newT sg sl 1).sg (Tb.newT sg sl 1).st A m p B k1 q C n r1)=w4 at *
 have h4:=h3.later hb4
 have HAT:=Lib.hid (at_any (p:=p) (q:=q) (r:=r1) (ht.later hb4) hok d 1 1 0)
 generalize w3.heap.size=b7 at *
 clear N6 hvT ht h3 hb4
 go_wp2_with (with_reducible refine Tb.load_t rfl (.tmp 7) rfl b7 rfl N7 ?_)
 refine HAT.out.mono ?_
 rintro e' w5 ⟨g,A1,m1,p1,B1,k2,q1,C1,n1,r2,W1,rfl,hB5,hg5,ht5,hf5,hn5,hb5⟩
 have h5:=log_new h4 hb5 hB5 hg5 ht5 hok hf5 hn5
 have hkl:k<items.length:=(List.getElem?_eq_some_iff.1 hk).1
 have HK:=Lib.hid (pchk_any h5 (app_at hk) app_last (by omega) 0 ⟨by decide,by decide⟩ ⟨by decide,by decide⟩ ⟨by decide,by decide⟩ ⟨by decide,by decide⟩ HZ.out hpl S HHS.out)
 obtain ⟨z,Ez⟩:∃ z,(chkS s 0 S).2.2=z:=⟨_,rfl⟩
 obtain ⟨s9,Es⟩:∃ z,(chkS s 0 S).1=z:=⟨_,rfl⟩
 have HG0:=Lib.hid (fun h=>chk_zero (s:=s) (gn:=0) (S:=S) h)
 obtain ⟨g9,Eg⟩:∃ z,(chkS s 0 S).2.1=z:=⟨_,rfl⟩
 rw [Ez,Es,Eg] at HK
 rw [Ez,Eg] at HG0
 rw [Ez] at K1
 rw [Es] at K2
 clear h4 h5 hB5 ht5 hf5 hn5 hb5 hg5 HAT N7 hok hkl Ez Es Eg HHS
 go_wp2_with fail
 refine HK.out.mono ?_
 rintro e' w6 ⟨rfl,it,h6,hit⟩
 rw [app_fin hk] at h6
 have HH:=Lib.hid h6
 have HI:=Lib.hid hit
 clear h6 HK hit
 by_cases hz:z=0
 ·have q2:(z != 0)=false:=by rw [hz]; rfl
  have HG:Hid (g9=1):=Lib.hid ((HG0.out hz).trans rfl)
  have HI2:=Lib.hid (HI.out (by omega))
  have HZ0:=Lib.hid hz
  clear hz HG0
  go_wp2_with fail
  go_ret2
  exact .inl ⟨K1.out.trans HZ0.out,_,rfl,by have:=HH.out; rw [HI2.out,HG.out] at this; rw [K2.out]; exact this⟩
 ·have q2:(z != 0)=true:=by simpa using hz
  have HZ0:=Lib.hid hz
  clear hz HG0
  go_wp2_with fail
  go_ret2
  exact .inr ⟨fun e=>HZ0.out (K1.out.symm.trans e),by rw [K1.out]; rfl,by rw [K2.out]; exact loc_drop HH.out⟩
def PLog (g d:Nat) (t:Tab) (ls ep gn:Int):Dk.Item:=logI 156 g d t ls ep gn
theorem prg:Prg PLog where
 fmt:=fun h hk sg sl rt x hx hpl S hS=>pfmt_any h hk sg sl rt x hx hpl S hS
 app:=fun h hk hj hkj l0 e0 K V D I X hls hep hV hD hI hX _ hf hpl=>papp_any h hk hj hkj l0 e0 K V D I X hls hep hV hD hI hX hf hpl
 sealc:=fun h hk hj hkj hls hep _ hf hpl=>pseal_any h hk hj hkj ⟨hls.1,by omega⟩ hep hf (by omega)
 chk:=fun h hk hj hkj ver hv hls hep hgn _ hsz hpl S hS=>pchk_any h hk hj hkj ver hv hls hep hgn hsz hpl S hS
 drop:=fun h hk hj hkj x ver hv hls hep hgn _ hsz hpl S hS=>pdrop_any h hk hj hkj x ver hv hls hep hgn hsz hpl S hS
 read:=fun h hk hj _ seg slot _ hg hf hpl=>pread_any h hk hj seg slot hg hf hpl
 tab:=fun h hj=>by
  obtain ⟨A,m,p,B,k,q,C,n,r,hB,ht,_,hok⟩:=log_at h hj
  exact ptab_any hB ht hok
 lsn:=fun h hj=>by
  obtain ⟨A,m,p,B,k,q,C,n,r,hB,_⟩:=log_at h hj
  exact lsn_is hB
 epoch:=fun h hj=>by
  obtain ⟨A,m,p,B,k,q,C,n,r,hB,_⟩:=log_at h hj
  exact epoch_is hB
 gen:=fun h hj=>by
  obtain ⟨A,m,p,B,k,q,C,n,r,hB,_⟩:=log_at h hj
  exact gen_is hB
 ok:=fun h hj=>log_ok h hj
end Go.Proofs.YtcnohlgigmmefaaGreat.Lg
