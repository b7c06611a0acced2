/- A part. -/
import Derived.Test.YtdpmjlbkojhooaaGreatQLgE
import Derived.Test.YtdpmjlbkojhooaaGreatQLwK
namespace Go.Proofs.YtdpmjlbkojhooaaGreat.Lg
open Go.RowKit Go.Lib
open Tb (Tab TIn Sl okP csT lastN nth Fresh)
open Dk (St Only Grew)
set_option linter.unusedVariables false
set_option maxRecDepth 100000
theorem log_new {W w w' W0:World} {items:List Dk.Item} {T:TypeId} {g d:Nat} {t:Tab} {ls ep gn:Int} {A:Option Addr} {m p:Nat} {B:Option Addr} {k q:Nat} {C:Option Addr} {n r:Nat} (h:Dk.Sep W w items) (hb:Below w.heap.size w w') (hB:Tb.Blk w' g T (csL d t.sg t.st A m p B k q C n r ls ep gn)) (hg:w.heap.size≤g) (ht:TIn w' A m B k C n t.o t.l t.f) (hok:okP t) (hf:Fresh W0 w.heap.size A m∧Fresh W0 w.heap.size B k∧Fresh W0 w.heap.size C n) (hn:Nb3 A B C g) :
 Dk.Sep W w' (items++[logI T g d t ls ep gn]):=by
 have h1:=Tb.ok_full hok ht
 obtain ⟨ba,oa,rfl,hba,_⟩:=ht.a.cells (by omega)
 obtain ⟨bb,ob,rfl,hbb,_⟩:=ht.b.cells (by omega)
 obtain ⟨bc,oc,rfl,hbc,_⟩:=ht.c.cells (by omega)
 have fa:w.heap.size≤ba:=by obtain ⟨b,o,e,hle,_⟩:=hf.1 (by omega); injection e with e; injection e with e1; omega
 have fb:w.heap.size≤bb:=by obtain ⟨b,o,e,hle,_⟩:=hf.2.1 (by omega); injection e with e; injection e with e1; omega
 have fc:w.heap.size≤bc:=by obtain ⟨b,o,e,hle,_⟩:=hf.2.2 (by omega); injection e with e; injection e with e1; omega
 refine h.new (logI T g d t ls ep gn) (G:=fun b=>b=g∨b=ba∨b=bb∨b=bc) ⟨_,m,p,_,k,q,_,n,r,⟨hB,ht,.inl rfl,?_,?_,?_,hn,?_,hok⟩⟩ ?_ hb
 ·rintro a ha; injection ha with ha; subst ha; exact .inr (.inl rfl)
 ·rintro a ha; injection ha with ha; subst ha; exact .inr (.inr (.inl rfl))
 ·rintro a ha; injection ha with ha; subst ha; exact .inr (.inr (.inr rfl))
 ·rintro b (rfl|rfl|rfl|rfl)
  ·exact hB.lt
  ·exact hba
  ·exact hbb
  ·exact hbc
 ·rintro b (rfl|rfl|rfl|rfl)
  ·exact hg
  ·exact fa
  ·exact fb
  ·exact fc
theorem app_fin {items:List Dk.Item} {k:Nat} {a b c d:Dk.Item} (h:items[k]? = some a):((items++[b]).set k c).set items.length d=items.set k c++[d]:=by
 rw [app_set h]
 have e:items.length=(items.set k c).length:=by simp
 rw [e]
 exact app_set_last
theorem chk_zero {s:St} {gn:Int} {S:ByteArray} (h:(chkS s gn S).2.2=0):(chkS s gn S).2.1=gn+1:=by
 unfold chkS at h ⊢
 split
 ·rename_i h1; rw [if_pos h1] at h; exact absurd h (by simp)
 ·rename_i h1
  rw [if_neg h1] at h
  split
  ·rename_i h2; rw [if_pos h2] at h; exact absurd h (by simp)
  ·rename_i h2
   rw [if_neg h2] at h
   split
   ·rename_i h3; rw [if_pos h3] at h; exact absurd h (by simp)
   ·rfl
theorem may_size {sg sl rt:Int} {x:Nat} (h:Ck.MayC sg sl x rt):Tb.sizeB sg sl=true:=by
 obtain ⟨h1,h2,_⟩:=h
 unfold Tb.sizeB
 exact decide_eq_true ⟨h1,h2⟩
def fmtE (s:St) (sg sl:Int) (x:Nat) (rt:Int) (S:ByteArray):Int:=if Ck.MayC sg sl x rt then (if s.size<Ck.scC sg sl x rt then 10 else (chkS s 0 S).2.2) else 1
def fmtD (s:St) (sg sl:Int) (x:Nat) (rt:Int) (S:ByteArray):St:=if Ck.MayC sg sl x rt then (if s.size<Ck.scC sg sl x rt then s else (chkS s 0 S).1) else s
set_option maxHeartbeats 16000000 in
theorem rfmt_any {W w:World} {items:List Dk.Item} {k r:Nat} {s:St} (h:Dk.Sep W w items) (hk:items[k]? = some (Dk.refI r s)) (sg sl rt:Int) (x:Nat) (hx:x<18446744073709551616) (hpl:s.pend.length<1048576) (S:ByteArray) (hS:Cp.secL ⟨1,1,1,0,[0],[0]⟩=S.data.toList) :
 Calls Tryz.prog 14 #[.pointer (some ⟨r,0,none⟩),.agg #[.int .i64 sg,.int .i64 sl,.float .f64 x,.int .i64 rt]] w fun e w' =>
  (fmtE s sg sl x rt S=0∧∃ g,e=.returned (.tuple #[.pointer (some ⟨g,0,none⟩),.int .i64 0])∧Dk.Sep W w' (items.set k (Dk.refI r (fmtD s sg sl x rt S))++[logI 121 g r (Tb.newT sg sl 1) 1 1 1])) ∨
  (fmtE s sg sl x rt S≠0∧e=.returned (.tuple #[.pointer none,.int .i64 (fmtE s sg sl x rt S)])∧Dk.Sep W w' (items.set k (Dk.refI r (fmtD s sg sl x rt S)))):=by
 have L:=Ck.lay1 sg sl rt x w
 have h0:=h.alloc (.cells #[.int .i64 sg,.int .i64 sl,.float .f64 x,.int .i64 rt] 24)
 have HL:=Lib.hid L
 obtain ⟨g0,g1,g2,g3,g4⟩:=L
 by_cases hm:Ck.MayC sg sl x rt
 case neg =>
  have E1:fmtE s sg sl x rt S=1:=if_neg hm
  have E2:fmtD s sg sl x rt S=s:=if_neg hm
  rw [E1,E2,set_same hk]
  have HH:=Lib.hid h0
  have HC:=Lib.hid (fun w=>Ck.R4.may_no sg sl rt x w hx hm)
  clear h h0 E1 E2 hm HL
  go_enter Tryz.func14,Tryz.ntmps14
  go_wp2_with fail
  refine (HC.out _).mono ?_
  rintro e' w1 ⟨rfl,hb⟩
  have BB:=Lib.hid hb
  clear hb
  go_wp2_with fail
  go_ret2
  exact .inr ⟨by decide,rfl,HH.out.later BB.out⟩
 have HM:=Lib.hid hm
 have HC:=Lib.hid (fun w=>Ck.R4.may_yes sg sl rt x w hm)
 have HS2:=Lib.hid (fun w=>Ck.R4.sectors_any sg sl rt x w hx)
 obtain ⟨sc,Esc⟩:∃ z,Ck.scC sg sl x rt=z:=⟨_,rfl⟩
 have hsc2:2≤sc:=by
  rw [← Esc]
  unfold Ck.scC
  rw [if_pos hm]
  have:=Int.mul_nonneg (show 0≤sg by have:=hm.1; omega) (show 0≤sl+1 by have:=hm.2.1; omega)
  omega
 have E1:fmtE s sg sl x rt S=if s.size<sc then 10 else (chkS s 0 S).2.2:=by rw [← Esc]; exact if_pos hm
 have E2:fmtD s sg sl x rt S=if s.size<sc then s else (chkS s 0 S).1:=by rw [← Esc]; exact if_pos hm
 obtain ⟨fe,Efe⟩:∃ z,fmtE s sg sl x rt S=z:=⟨_,rfl⟩
 obtain ⟨fd,Efd⟩:∃ z,fmtD s sg sl x rt S=z:=⟨_,rfl⟩
 rw [Efe] at E1 ⊢
 rw [Efd] at E2 ⊢
 have H1:=Lib.hid E1
 have H2:=Lib.hid E2
 rw [Esc] at HS2
 have HHS:=Lib.hid hS
 have Hsc2:=Lib.hid hsc2
 have HH:=Lib.hid h0
 clear h h0 E1 E2 hm Esc hS hsc2 Efe Efd
 go_enter Tryz.func14,Tryz.ntmps14
 go_wp2_with fail
 refine (HC.out _).mono ?_
 rintro e' w1 ⟨rfl,hb⟩
 have h1:=HH.out.later hb
 have L1:=HL.out.later hb
 clear hb HH HL HC g0 g1 g2 g3 g4
 have HSZ:Hid (1≤s.size):=by
  obtain ⟨G,⟨vL,vW,vT,D⟩,_⟩:=h1.at_ k hk
  exact Lib.hid D.good.size1
 obtain ⟨aL,cL,x0⟩:∃ aL cL,w1.cell? ⟨r,0,none⟩=some (.slice aL s.size.toNat cL):=by
  obtain ⟨G,⟨vL,vW,vT,D⟩,_⟩:=h1.at_ k hk
  obtain ⟨aL,cL,rfl⟩:=Dk.own_slice D.rowL
  exact ⟨aL,cL,D.x0⟩
 have hr:r<w1.heap.size:=by
  obtain ⟨G,⟨vL,vW,vT,D⟩,_⟩:=h1.at_ k hk
  exact D.lt r D.fr
 obtain ⟨n0,En⟩:∃ z,s.size.toNat=z:=⟨_,rfl⟩
 rw [En] at x0
 have HN0:Hid ((n0:Int)=s.size):=Lib.hid (by rw [← En]; have:=HSZ.out; omega)
 clear En
 have I:Below w1.heap.size w1 { w1 with drawn:=w1.drawn+1 }:=(Below.refl _ _).drew
 have hne:Nonempty (In (fun W=>Below w1.heap.size w1 W)):=⟨⟨_,I⟩⟩
 have f0:∀ jj:In (fun W=>Below w1.heap.size w1 W),jj.W.cell? ⟨r,0,none⟩=some (.slice aL n0 cL):=fun jj=>(World.cell?_of_block (w:=w1) (jj.h.block r hr)).trans x0
 have f1:∀ jj:In (fun W=>Below w1.heap.size w1 W),jj.W.cell? ⟨w.heap.size,0,none⟩=some (.int .i64 sg):=fun jj=>by obtain ⟨_,z1,z2,z3,z4⟩:=L1.later jj.h; exact z1
 have f2:∀ jj:In (fun W=>Below w1.heap.size w1 W),jj.W.cell? ⟨w.heap.size,1,none⟩=some (.int .i64 sl):=fun jj=>by obtain ⟨_,z1,z2,z3,z4⟩:=L1.later jj.h; exact z2
 have f3:∀ jj:In (fun W=>Below w1.heap.size w1 W),jj.W.cell? ⟨w.heap.size,2,none⟩=some (.float .f64 x):=fun jj=>by obtain ⟨_,z1,z2,z3,z4⟩:=L1.later jj.h; exact z3
 have f4:∀ jj:In (fun W=>Below w1.heap.size w1 W),jj.W.cell? ⟨w.heap.size,3,none⟩=some (.int .i64 rt):=fun jj=>by obtain ⟨_,z1,z2,z3,z4⟩:=L1.later jj.h; exact z4
 clear x0 hr
 go_wp2_with fail
 refine region_class (fun W=>Below w1.heap.size w1 W) (by kernel_rfl) (by kernel_rfl) I ?_
 repeat (go_big_quiet_step (first
  | (go_at_call 21; with_reducible exact class_call _ (fun hi=>(HS2.out _).mono fun e w' ⟨he,hb⟩=>⟨he,hi.trans (hb.mono hi.size)⟩))))
 refine wpQuiet_nil ?_
 rintro _ ⟨jj,rfl⟩
 have hb2:=jj.h
 have c0:jj.W.cell? ⟨w.heap.size,0,none⟩=some (.int .i64 sg):=f1 jj
 have c1:jj.W.cell? ⟨w.heap.size,1,none⟩=some (.int .i64 sl):=f2 jj
 clear HS2 I hne f0 f1 f2 f3 f4 L1
 generalize jj.W=w2 at *
 clear jj
 have h2:=h1.later hb2
 clear h1 hb2
 by_cases hlt:(n0:Int)<sc
 ·have q1:decide ((n0:Int)<sc)=true:=decide_eq_true hlt
  have HE:Hid (s.size<sc):=Lib.hid (by have:=HN0.out; omega)
  have K1:=Lib.hid (H1.out.trans (if_pos HE.out))
  have K2:=Lib.hid (H2.out.trans (if_pos HE.out))
  have HH:=Lib.hid h2
  clear h2
  go_wp2_with fail
  go_ret2
  exact .inr ⟨by rw [K1.out]; decide,by rw [K1.out]; rfl,by rw [K2.out,set_same hk]; exact HH.out⟩
 have q1:decide ((n0:Int)<sc)=false:=decide_eq_false hlt
 have HE:Hid (¬ s.size<sc):=Lib.hid (by have:=HN0.out; omega)
 have HZ:Hid (2≤s.size):=Lib.hid (by have:=HE.out; have:=Hsc2.out; omega)
 have K1:=Lib.hid (H1.out.trans (if_neg HE.out))
 have K2:=Lib.hid (H2.out.trans (if_neg HE.out))
 have HNW:=Lib.hid (fun W=>Tb.refv (sg:=sg) (st:=sl) (o:=[0]) (l:=[0]) (f':=[1]) (y':=0) (Tb.rnew_own sg sl 1 W) (by rw [if_pos (may_size HM.out)]; rfl) (by rw [if_pos (may_size HM.out)]))
 have hvT:=Tryz.zeroValue100
 go_wp2_with fail
 refine (HNW.out _).mono ?_
 rintro e' w3 ⟨A,m,p,B,k1,q,C,n,r1,rfl,ht,hf,hb3⟩
 have N6:Tb.Blk (w3.alloc (.cells #[.int .i64 0,.int .i64 0,.slice none 0 0,.slice none 0 0,.slice none 0 0] 100)) w3.heap.size 100 (csT 0 0 none 0 0 none 0 0 none 0 0):=Tb.Blk.new w3 _ _
 clear c0 c1 q1 hlt HNW
 go_upto_region 6 with (with_reducible refine Tb.store_r rfl (.tmp 6) (.tmp 27) rfl w3.heap.size rfl rfl N6 ?_)
 have hb4:Below w3.heap.size w3 ((w3.alloc (.cells #[.int .i64 0,.int .i64 0,.slice none 0 0,.slice none 0 0,.slice none 0 0] 100)).setRow w3.heap.size (csT sg sl A m p B k1 q C n r1)):=Tb.below_row (Tb.below1 w3 _) (Nat.le_refl _) _
 have N7:=N6.row (csT sg sl A m p B k1 q C n r1)
 generalize (w3.alloc (.cells #[.int .i64 0,.int .i64 0,.slice none 0 0,.slice none 0 0,.slice none 0 0] 100)).setRow w3.heap.size (csT sg sl A m p B k1 q C n r1)=w4 at *
 clear N6 hvT
 have hok:okP (Tb.newT sg sl 1):=Tb.new_ok (may_size HM.out)
 have ht4:TIn w4 A m B k1 C n [0] [0] [1]:=ht.later hb4
 have hb24:Below w2.heap.size w2 w4:=hb3.trans (hb4.mono hb3.size)
 have B9:Tb.Blk (w4.alloc (.cells (csL r sg sl A m p B k1 q C n r1 1 1 0) 121)) w4.heap.size 121 (csL r sg sl A m p B k1 q C n r1 1 1 0):=Tb.Blk.new w4 _ _
 have hb9:Below w2.heap.size w2 (w4.alloc (.cells (csL r sg sl A m p B k1 q C n r1 1 1 0) 121)):=hb24.trans ((Tb.below1 w4 _).mono hb24.size)
 have h9:=Lib.hid (log_new (t:=Tb.newT sg sl 1) h2 hb9 B9 hb24.size (ht4.later (Tb.below1 w4 _)) hok hf (tin_nb (t:=Tb.newT sg sl 1) hok ht4 (Nat.le_refl _)))
 have hkl:k<items.length:=(List.getElem?_eq_some_iff.1 hk).1
 have HK:=Lib.hid (rchk_any h9.out (app_at hk) app_last (by omega) 0 ⟨by decide,by decide⟩ ⟨by decide,by decide⟩ ⟨by decide,by decide⟩ ⟨by decide,by decide⟩ HZ.out hpl S HHS.out)
 rw [app_fin hk] at HK
 obtain ⟨z,Ez⟩:∃ z,(chkS s 0 S).2.2=z:=⟨_,rfl⟩
 obtain ⟨s9,Es⟩:∃ z,(chkS s 0 S).1=z:=⟨_,rfl⟩
 have HG0:=Lib.hid (fun h=>chk_zero (s:=s) (gn:=0) (S:=S) h)
 obtain ⟨g9,Eg⟩:∃ z,(chkS s 0 S).2.1=z:=⟨_,rfl⟩
 rw [Ez,Es,Eg] at HK
 rw [Ez,Eg] at HG0
 rw [Ez] at K1
 rw [Es] at K2
 clear h2 ht hf hb3 hb4 ht4 hb24 B9 hb9 h9 hok hkl Ez Es Eg HHS
 go_upto_region 7 with (with_reducible refine Tb.load_r rfl (.tmp 6) rfl w3.heap.size rfl N7 ?_)
 clear N7
 go_wp2_with fail
 refine HK.out.mono ?_
 rintro e' w5 ⟨rfl,h5⟩
 have HH:=Lib.hid h5
 clear h5 HK
 by_cases hz:z=0
 ·have q2:(z != 0)=false:=by rw [hz]; rfl
  have HG:Hid (g9=1):=Lib.hid ((HG0.out hz).trans rfl)
  have HZ0:=Lib.hid hz
  clear hz HG0
  go_wp2_with fail
  go_ret2
  exact .inl ⟨K1.out.trans HZ0.out,_,rfl,by have:=HH.out; rw [HG.out] at this; rw [K2.out]; exact this⟩
 ·have q2:(z != 0)=true:=by simpa using hz
  have HZ0:=Lib.hid hz
  clear hz HG0
  go_wp2_with fail
  go_ret2
  exact .inr ⟨fun e=>HZ0.out (K1.out.symm.trans e),by rw [K1.out]; rfl,by rw [K2.out]; exact loc_drop HH.out⟩
end Go.Proofs.YtdpmjlbkojhooaaGreat.Lg
