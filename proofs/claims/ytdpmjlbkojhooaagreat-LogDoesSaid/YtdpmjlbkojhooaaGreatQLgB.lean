/- A part. -/
import Derived.Test.YtdpmjlbkojhooaaGreatQLgA
import Derived.Test.YtdpmjlbkojhooaaGreatQFreeC
import Derived.Test.YtdpmjlbkojhooaaGreatQClass
import Derived.Deep.DeepCutAuto
import Derived.Deep.RegionWith
import Derived.Deep.QuietTactic
import Derived.BigQuiet
namespace Go.Proofs.YtdpmjlbkojhooaaGreat.Lg
open Go.RowKit Go.Lib
open Tb (Tab TIn Sl okP csT lastN nth Fresh)
open Dk (St Only Grew)
set_option linter.unusedVariables false
set_option maxRecDepth 100000
theorem set_same {items:List Dk.Item} {k:Nat} {x:Dk.Item} (h:items[k]? = some x):items.set k x=items:=by
 apply List.ext_getElem?
 intro i
 rw [List.getElem?_set]
 by_cases e:k=i
 ·subst e
  have hl:=(List.getElem?_eq_some_iff.1 h).1
  rw [if_pos rfl,if_pos hl,h]
 ·rw [if_neg e]
theorem get_set {items:List Dk.Item} {k j:Nat} {x y:Dk.Item} (h:items[j]? = some y) (hkj:k≠j):(items.set k x)[j]? = some y:=by rw [List.getElem?_set_ne hkj]; exact h
theorem get_self {items:List Dk.Item} {k:Nat} {x y:Dk.Item} (h:items[k]? = some y):(items.set k x)[k]? = some x:=List.getElem?_set_self (List.getElem?_eq_some_iff.1 h).1
theorem set_set {items:List Dk.Item} {k:Nat} {x y:Dk.Item}:(items.set k x).set k y=items.set k y:=List.set_set ..
instance (s:St):Decidable s.dead:=by unfold Dk.St.dead; infer_instance
def chkS (s:St) (gn:Int) (S:ByteArray):St × Int × Int :=
 if s.dead then (s,gn,9) else
 if s.flush.dead then (s.flush,gn,9) else
 if (s.flush.write ((gn+1)%2) S).dead then (s.flush.write ((gn+1)%2) S,gn,9) else ((s.flush.write ((gn+1)%2) S).flush,gn+1,0)
theorem slC {κ:IntKind} {W:World} {A:Option Addr} {m:Nat} {l:List Int} (h:Sl .i64 W A m l):Cp.Sl W A m l:=⟨h.len,h.cells⟩
theorem okC_of {t:Tab} (h:okP t) {g e l v:Int} (hg:g≠0) (hl:l≠0):Cp.okC ⟨g,e,l,v,t.o,t.l⟩=true:=by
 rw [Cp.okC_iff]
 refine ⟨⟨hg,hl⟩,?_⟩
 obtain ⟨h1,h2,h3,h4,h5,h6,h7,h8⟩:=h
 have hb:=Tb.ok_bd (t:=t) ⟨h1,h2,h3,h4,h5,h6,h7,h8⟩
 rw [Cp.segB_iff]
 exact ⟨by simp only; omega,by simp only; omega,h7,fun x hx=>by have:=h4 x hx; omega,fun x hx=>by have:=h6 x hx; omega,h5⟩
theorem size_of {S:ByteArray} {l:List UInt8} (h:l=S.data.toList):S.size=l.length:=by rw [h]; simp
theorem arrF77 {cs:Array Value} (h:cs.size=77):∃ y:Nat→Value,(∀ i,cs.getD i undef=y i)∧cs=#[y 0,y 1,y 2,y 3,y 4,y 5,y 6,y 7,y 8,y 9,y 10,y 11,y 12,y 13,y 14,y 15,y 16,y 17,y 18,y 19,y 20,y 21,y 22,y 23,y 24,y 25,y 26,y 27,y 28,y 29,y 30,y 31,y 32,y 33,y 34,y 35,y 36,y 37,y 38,y 39,y 40,y 41,y 42,y 43,y 44,y 45,y 46,y 47,y 48,y 49,y 50,y 51,y 52,y 53,y 54,y 55,y 56,y 57,y 58,y 59,y 60,y 61,y 62,y 63,y 64,y 65,y 66,y 67,y 68,y 69,y 70,y 71,y 72,y 73,y 74,y 75,y 76]:=by
 refine ⟨fun i=>cs.getD i undef,fun _=>rfl,?_⟩
 have e:cs=((List.range 77).map fun i=>cs.getD i undef).toArray:=by
  apply Array.ext
  ·simp [h]
  ·intro i h1 h2
   simp [h1]
 exact e.trans rfl
set_option maxHeartbeats 16000000 in
theorem rchk_any {W w:World} {items:List Dk.Item} {k j g r:Nat} {s:St} {t:Tab} {ls ep gn:Int} (h:Dk.Sep W w items) (hk:items[k]? = some (Dk.refI r s)) (hj:items[j]? = some (logI 121 g r t ls ep gn)) (hkj:k≠j) (ver:Int)
 (hv:0≤ver∧ver<18446744073709551616) (hls:1≤ls∧ls<18446744073709551616) (hep:0≤ep∧ep<4294967296) (hgn:0≤gn∧gn<9223372036854775807) (hsz:2≤s.size) (hpl:s.pend.length<1048576) (S:ByteArray) (hS:Cp.secL ⟨gn+1,ep,ls,ver,t.o,t.l⟩=S.data.toList) :
 Calls Tryz.prog 56 #[.pointer (some ⟨g,0,none⟩),.int .u64 ver] w fun e w'=>e=.returned (.int .i64 (chkS s gn S).2.2)∧Dk.Sep W w' ((items.set k (Dk.refI r (chkS s gn S).1)).set j (logI 121 g r t ls ep (chkS s gn S).2.1)):=by
 obtain ⟨A0,m0,p0,B0,k0,q0,C0,n0,r0,hB0,_⟩:=log_at h hj
 have c0:w.cell? ⟨g,0,none⟩=some (.pointer (some ⟨r,0,none⟩)):=hB0.cell 0
 by_cases hd:s.dead
 ·have F:=Lib.hid (Dk.rflush_dead_s h hk hd)
  have E:chkS s gn S=(s,gn,9):=if_pos hd
  rw [E]
  have R:=Lib.hid (show Dk.Sep W w ((items.set k (Dk.refI r s)).set j (logI 121 g r t ls ep gn)) by rw [set_same hk,set_same hj]; exact h)
  clear hB0 h E hd
  go_enter Tryz.func56,Tryz.ntmps56
  go_wp2_with fail
  refine F.out.mono ?_
  rintro e' w1 ⟨rfl,rfl⟩
  go_wp2_with fail
  go_ret
  exact ⟨rfl,R.out⟩
 have F1:=Lib.hid (Dk.rflush_s h hk hd hpl)
 have HE:=Lib.hid (show chkS s gn S=_ from if_neg hd)
 have hl1:s.flush.pend.length<1048576:=by show ([]:List (Int × ByteArray)).length<_; simp
 have hz1:2≤s.flush.size:=hsz
 have HOK0:=log_ok h hj
 have HS:S.size=128:=(size_of hS).trans (Cp.secL_len (okC_of (e:=ep) (v:=ver) HOK0 (by omega) (by omega)))
 clear hB0 h
 obtain ⟨G1,EG⟩:∃ x,IntKind.u64.wrap (gn+1)=x:=⟨_,rfl⟩
 have HG:Hid (gn+1=G1):=Lib.hid (by rw [← EG,IntKind.wrap_u64]; omega)
 obtain ⟨J,EJ⟩:∃ x,G1.tmod 2=x:=⟨_,rfl⟩
 have HJ:Hid ((gn+1)%2=J):=Lib.hid (by rw [← EJ,← HG.out,Int.tmod_eq_emod_of_nonneg (by omega)])
 have bJ:0≤J∧J<2:=by have:=HJ.out; omega
 have EJ2:IntKind.i64.wrap J=J:=IntWalk.i64_in _ (by omega)
 rw [HJ.out] at HE
 have hhas:s.flush.has J:=⟨by omega,by show J<s.size; omega⟩
 go_enter Tryz.func56,Tryz.ntmps56
 go_wp2_with fail
 refine F1.out.mono ?_
 rintro e' w1 ⟨rfl,h1⟩
 have hj1:=get_set (x:=Dk.refI r s.flush) hj hkj
 have hk1:=get_self (x:=Dk.refI r s.flush) hk
 obtain ⟨A,m,p,B,k1,q,C,n,r1,hB,ht,_,hok⟩:=log_at h1 hj1
 have HQ:Hid (∀ W',Below w1.heap.size w1 W'→Calls Tryz.prog 96 #[.agg #[.int .u64 G1,.int .u32 ep,.int .u64 ls,.int .u64 ver,.slice A m p,.slice B k1 q]] W' fun e' w'=>e' = .returned (.tuple #[.string S,.int .i64 0])∧Below W'.heap.size W' w'):=Lib.hid (fun W' hb=>by
  rw [← HG.out]
  exact Cp.R7.encode_yes (gn+1) ep ls ver A m p B k1 q t.o t.l S W' (slC (κ:=.i64) (ht.a.later hb)) (slC (κ:=.i64) (ht.b.later hb)) ⟨by simp only; omega,by simp only; omega,hep.1,hep.2,by simp only; omega,hls.2,hv.1,hv.2⟩ (okC_of hok (by omega) (by omega)) hS)
 have I:Below w1.heap.size w1 { w1 with drawn:=w1.drawn+1 }:=(Below.refl _ _).drew
 have hne:Nonempty (In (fun W=>Below w1.heap.size w1 W)):=⟨⟨_,I⟩⟩
 have f0:∀ jj:In (fun W=>Below w1.heap.size w1 W),jj.W.cell? ⟨g,0,none⟩=some (.pointer (some ⟨r,0,none⟩)):=fun jj=>(hB.later jj.h).cell 0
 have f1:∀ jj:In (fun W=>Below w1.heap.size w1 W),jj.W.cell? ⟨g,1,none⟩=some (.int .i64 (t.sg)):=fun jj=>(hB.later jj.h).cell 1
 have f2:∀ jj:In (fun W=>Below w1.heap.size w1 W),jj.W.cell? ⟨g,2,none⟩=some (.int .i64 (t.st)):=fun jj=>(hB.later jj.h).cell 2
 have f3:∀ jj:In (fun W=>Below w1.heap.size w1 W),jj.W.cell? ⟨g,3,none⟩=some (.slice A m p):=fun jj=>(hB.later jj.h).cell 3
 have f4:∀ jj:In (fun W=>Below w1.heap.size w1 W),jj.W.cell? ⟨g,4,none⟩=some (.slice B k1 q):=fun jj=>(hB.later jj.h).cell 4
 have f5:∀ jj:In (fun W=>Below w1.heap.size w1 W),jj.W.cell? ⟨g,5,none⟩=some (.slice C n r1):=fun jj=>(hB.later jj.h).cell 5
 have f6:∀ jj:In (fun W=>Below w1.heap.size w1 W),jj.W.cell? ⟨g,6,none⟩=some (.int .u64 ls):=fun jj=>(hB.later jj.h).cell 6
 have f7:∀ jj:In (fun W=>Below w1.heap.size w1 W),jj.W.cell? ⟨g,7,none⟩=some (.int .u32 ep):=fun jj=>(hB.later jj.h).cell 7
 have f8:∀ jj:In (fun W=>Below w1.heap.size w1 W),jj.W.cell? ⟨g,8,none⟩=some (.int .u64 gn):=fun jj=>(hB.later jj.h).cell 8
 clear c0
 go_wp2_with fail
 refine region_class (fun W=>Below w1.heap.size w1 W) (by kernel_rfl) (by kernel_rfl) I ?_
 repeat (go_big_quiet_step (first
  | (go_at_call 96; with_reducible exact class_call _ (fun hi=>(HQ.out _ hi).mono fun e w' ⟨he,hb⟩=>⟨he,hi.trans (hb.mono hi.size)⟩))))
 refine wpQuiet_nil ?_
 rintro _ ⟨jj,rfl⟩
 have hb2:=jj.h
 clear HQ I hne f0 f1 f2 f3 f4 f5 f6 f7 f8
 generalize jj.W=w2 at *
 clear jj
 have h2:=h1.later hb2
 replace hB:=hB.later hb2
 clear h1 hb2
 by_cases hd1:s.flush.dead
 ·have EE:=Lib.hid (show chkS s gn S=(s.flush,gn,9) from HE.out.trans (if_pos hd1))
  go_wp2_with fail
  refine FreeD.wp_freeD (FreeD.wl [some (.pointer (some ⟨g,0,none⟩)),some (.pointer (some ⟨g,0,none⟩)),some (.pointer (some ⟨g,0,none⟩)),some (.pointer (some ⟨r,0,none⟩)),some (.pointer (some ⟨g,0,none⟩)),some (.pointer (some ⟨g,0,none⟩)),some (.pointer (some ⟨g,8,none⟩)),some (.int .u64 gn),some (.int .u64 G1),some (.int .u64 J),some (.int .i64 (J)),some (.string S),some (.int .i64 9),some (.int .i64 9)]) (FreeD.Last w2 12 (fun W2=>Dk.Sep W W2 (items.set k (Dk.refI r s.flush)))) (by kernel_rfl) (by kernel_rfl) (FreeD.Last.start _ _ _ _ _) ?_ ?_
  ·refine ⟨?_,?_,?_,?_,?_,?_,?_,?_,?_,?_,?_,?_,?_,?_,trivial⟩
   ·intro listed A0 W hA hD hno hr K' hK
    have hsl:=hA.size
    simp at hsl
    have e0:A0.tmps[0]?.getD undef=.pointer (some ⟨g,0,none⟩):=FreeD.slot_is ((hA.kept 0 (Free.not_dst (by kernel_rfl))).trans rfl)
    have hx:listed.getD 12 false=false:=hD.not_yet (i:=0) (f:=12) (by kernel_rfl) (FreeD.not_listed (by omega) hno)
    simp [go_sem,e0]
    exact hK _ _ (hA.c.step (by omega) hx (Below.refl _ _)) rfl (fun j u _ _ hu=>FreeD.wl_any hu)
   ·intro listed A0 W hA hD hno hr K' hK
    have hsl:=hA.size
    simp at hsl
    have e45:A0.tmps[45]?.getD undef=.pointer (some ⟨g,0,none⟩):=FreeD.slot_is (hA.val 0 _ rfl (hr ⟨0,.data⟩ (by simp) rfl))
    have hx:listed.getD 12 false=false:=hD.not_yet (i:=1) (f:=12) (by kernel_rfl) (FreeD.not_listed (by omega) hno)
    simp [go_sem,e45]
    exact hK _ _ (hA.c.step (by omega) hx (Below.refl _ _)) rfl (fun j u _ _ hu=>FreeD.wl_any hu)
   ·intro listed A0 W hA hD hno hr K' hK
    have hsl:=hA.size
    simp at hsl
    have e46:A0.tmps[46]?.getD undef=.pointer (some ⟨g,0,none⟩):=FreeD.slot_is (hA.val 1 _ rfl (hr ⟨1,.data⟩ (by simp) rfl))
    have hx:listed.getD 12 false=false:=hD.not_yet (i:=2) (f:=12) (by kernel_rfl) (FreeD.not_listed (by omega) hno)
    simp [go_sem,e46]
    exact hK _ _ (hA.c.step (by omega) hx (Below.refl _ _)) rfl (fun j u _ _ hu=>FreeD.wl_any hu)
   ·intro listed A0 W hA hD hno hr K' hK
    have hsl:=hA.size
    simp at hsl
    have e47:A0.tmps[47]?.getD undef=.pointer (some ⟨g,0,none⟩):=FreeD.slot_is (hA.val 2 _ rfl (hr ⟨2,.data⟩ (by simp) rfl))
    have hx:listed.getD 12 false=false:=hD.not_yet (i:=3) (f:=12) (by kernel_rfl) (FreeD.not_listed (by omega) hno)
    have f0:W.cell? ⟨g,0,none⟩=some (.pointer (some ⟨r,0,none⟩)):=(hB.later (hA.c.bef hx)).cell 0
    simp [go_sem,e47,f0]
    exact hK _ _ (hA.c.step (by omega) hx (Below.refl _ _)) rfl (fun j u _ _ hu=>FreeD.wl_any hu)
   ·intro listed A0 W hA hD hno hr K' hK
    have hsl:=hA.size
    simp at hsl
    have e0:A0.tmps[0]?.getD undef=.pointer (some ⟨g,0,none⟩):=FreeD.slot_is ((hA.kept 0 (Free.not_dst (by kernel_rfl))).trans rfl)
    have hx:listed.getD 12 false=false:=hD.not_yet (i:=4) (f:=12) (by kernel_rfl) (FreeD.not_listed (by omega) hno)
    simp [go_sem,e0]
    exact hK _ _ (hA.c.step (by omega) hx (Below.refl _ _)) rfl (fun j u _ _ hu=>FreeD.wl_any hu)
   ·intro listed A0 W hA hD hno hr K' hK
    have hsl:=hA.size
    simp at hsl
    have e49:A0.tmps[49]?.getD undef=.pointer (some ⟨g,0,none⟩):=FreeD.slot_is (hA.val 4 _ rfl (hr ⟨4,.data⟩ (by simp) rfl))
    have hx:listed.getD 12 false=false:=hD.not_yet (i:=5) (f:=12) (by kernel_rfl) (FreeD.not_listed (by omega) hno)
    simp [go_sem,e49]
    exact hK _ _ (hA.c.step (by omega) hx (Below.refl _ _)) rfl (fun j u _ _ hu=>FreeD.wl_any hu)
   ·intro listed A0 W hA hD hno hr K' hK
    have hsl:=hA.size
    simp at hsl
    have e50:A0.tmps[50]?.getD undef=.pointer (some ⟨g,0,none⟩):=FreeD.slot_is (hA.val 5 _ rfl (hr ⟨5,.data⟩ (by simp) rfl))
    have hx:listed.getD 12 false=false:=hD.not_yet (i:=6) (f:=12) (by kernel_rfl) (FreeD.not_listed (by omega) hno)
    simp [go_sem,e50]
    exact hK _ _ (hA.c.step (by omega) hx (Below.refl _ _)) rfl (fun j u _ _ hu=>FreeD.wl_any hu)
   ·intro listed A0 W hA hD hno hr K' hK
    have hsl:=hA.size
    simp at hsl
    have e51:A0.tmps[51]?.getD undef=.pointer (some ⟨g,8,none⟩):=FreeD.slot_is (hA.val 6 _ rfl (hr ⟨6,.data⟩ (by simp) rfl))
    have hx:listed.getD 12 false=false:=hD.not_yet (i:=7) (f:=12) (by kernel_rfl) (FreeD.not_listed (by omega) hno)
    have f0:W.cell? ⟨g,8,none⟩=some (.int .u64 gn):=(hB.later (hA.c.bef hx)).cell 8
    simp [go_sem,e51,f0]
    exact hK _ _ (hA.c.step (by omega) hx (Below.refl _ _)) rfl (fun j u _ _ hu=>FreeD.wl_any hu)
   ·intro listed A0 W hA hD hno hr K' hK
    have hsl:=hA.size
    simp at hsl
    have e52:A0.tmps[52]?.getD undef=.int .u64 gn:=FreeD.slot_is (hA.val 7 _ rfl (hr ⟨7,.data⟩ (by simp) rfl))
    have hx:listed.getD 12 false=false:=hD.not_yet (i:=8) (f:=12) (by kernel_rfl) (FreeD.not_listed (by omega) hno)
    simp [go_sem,e52,EG]
    exact hK _ _ (hA.c.step (by omega) hx (Below.refl _ _)) rfl (fun j u _ _ hu=>FreeD.wl_any hu)
   ·intro listed A0 W hA hD hno hr K' hK
    have hsl:=hA.size
    simp at hsl
    have e53:A0.tmps[53]?.getD undef=.int .u64 G1:=FreeD.slot_is (hA.val 8 _ rfl (hr ⟨8,.data⟩ (by simp) rfl))
    have hx:listed.getD 12 false=false:=hD.not_yet (i:=9) (f:=12) (by kernel_rfl) (FreeD.not_listed (by omega) hno)
    simp [go_sem,e53,EJ]
    exact hK _ _ (hA.c.step (by omega) hx (Below.refl _ _)) rfl (fun j u _ _ hu=>FreeD.wl_any hu)
   ·intro listed A0 W hA hD hno hr K' hK
    have hsl:=hA.size
    simp at hsl
    have e54:A0.tmps[54]?.getD undef=.int .u64 J:=FreeD.slot_is (hA.val 9 _ rfl (hr ⟨9,.data⟩ (by simp) rfl))
    have hx:listed.getD 12 false=false:=hD.not_yet (i:=10) (f:=12) (by kernel_rfl) (FreeD.not_listed (by omega) hno)
    simp [go_sem,e54,EJ2]
    exact hK _ _ (hA.c.step (by omega) hx (Below.refl _ _)) rfl (fun j u _ _ hu=>FreeD.wl_any hu)
   ·intro listed A0 W hA hD hno hr K' hK
    have hsl:=hA.size
    simp at hsl
    have e6:A0.tmps[6]?.getD undef=.string S:=FreeD.slot_is ((hA.kept 6 (Free.not_dst (by kernel_rfl))).trans rfl)
    have hx:listed.getD 12 false=false:=hD.not_yet (i:=11) (f:=12) (by kernel_rfl) (FreeD.not_listed (by omega) hno)
    simp [go_sem,e6]
    exact hK _ _ (hA.c.step (by omega) hx (Below.refl _ _)) rfl (fun j u _ _ hu=>FreeD.wl_any hu)
   ·intro listed A0 W hA hD hno hr K' hK
    have hsl:=hA.size
    simp at hsl
    have e48:A0.tmps[48]?.getD undef=.pointer (some ⟨r,0,none⟩):=FreeD.slot_is (hA.val 3 _ rfl (hr ⟨3,.data⟩ (by simp) rfl))
    have e55:A0.tmps[55]?.getD undef=.int .i64 (J):=FreeD.slot_is (hA.val 10 _ rfl (hr ⟨10,.data⟩ (by simp) rfl))
    have e56:A0.tmps[56]?.getD undef=.string S:=FreeD.slot_is (hA.val 11 _ rfl (hr ⟨11,.data⟩ (by simp) rfl))
    have hx:listed.getD 12 false=false:=FreeD.not_listed (by omega) hno
    have hw:=hA.c.bef hx
    simp [go_sem,e48,e55,e56]
    refine (Dk.rwrite_dead_s (h2.later hw) hk1 J S hhas HS hd1).mono ?_
    rintro e' w' ⟨rfl,rfl⟩
    exact hK _ _ (FreeD.Last.last (by omega) (h2.later hw)) rfl (fun j u _ _ hu=>FreeD.wl_any hu)
   ·intro listed A0 W hA hD hno hr K' hK
    have hsl:=hA.size
    simp at hsl
    have e57:A0.tmps[57]?.getD undef=.int .i64 9:=FreeD.slot_is (hA.val 12 _ rfl (hr ⟨12,.data⟩ (by simp) rfl))
    simp [go_sem,e57]
    exact hK _ _ (hA.c.still (by omega)) rfl (fun j u _ _ hu=>FreeD.wl_any hu)
  ·intro A0 W3 hA
   have h3:=hA.c.aft rfl
   have s0:A0.tmps.getD 0 undef=.pointer (some ⟨g,0,none⟩):=(hA.kept 0 (Free.not_dst (by kernel_rfl))).trans rfl
   have s5:A0.tmps.getD 5 undef=.int .i64 9:=hA.val 13 _ rfl rfl
   have hsl:=hA.slots
   have hde:=hA.defers
   clear hA
   obtain ⟨tm,de⟩:=A0
   simp only at s0 s5 hsl hde h3
   obtain ⟨y,hy,ee⟩:=arrF77 hsl
   have t0:=(hy 0).symm.trans s0
   have t5:=(hy 5).symm.trans s5
   rw [t0,t5] at ee
   clear hy s0 s5 hsl t0 t5
   subst ee hde
   go_wp2_with fail
   go_ret
   exact ⟨by rw [EE.out]; rfl,by rw [EE.out,set_same hj1]; exact h3⟩
 ·have HE2:=Lib.hid (HE.out.trans (if_neg hd1))
  go_wp2_with fail
  refine FreeD.wp_freeD (FreeD.wl [some (.pointer (some ⟨g,0,none⟩)),some (.pointer (some ⟨g,0,none⟩)),some (.pointer (some ⟨g,0,none⟩)),some (.pointer (some ⟨r,0,none⟩)),some (.pointer (some ⟨g,0,none⟩)),some (.pointer (some ⟨g,0,none⟩)),some (.pointer (some ⟨g,8,none⟩)),some (.int .u64 gn),some (.int .u64 G1),some (.int .u64 J),some (.int .i64 (J)),some (.string S),some (.int .i64 0),some (.int .i64 0)]) (FreeD.Last w2 12 (fun W2=>Dk.Sep W W2 ((items.set k (Dk.refI r s.flush)).set k (Dk.refI r (s.flush.write J S))))) (by kernel_rfl) (by kernel_rfl) (FreeD.Last.start _ _ _ _ _) ?_ ?_
  ·refine ⟨?_,?_,?_,?_,?_,?_,?_,?_,?_,?_,?_,?_,?_,?_,trivial⟩
   ·intro listed A0 W hA hD hno hr K' hK
    have hsl:=hA.size
    simp at hsl
    have e0:A0.tmps[0]?.getD undef=.pointer (some ⟨g,0,none⟩):=FreeD.slot_is ((hA.kept 0 (Free.not_dst (by kernel_rfl))).trans rfl)
    have hx:listed.getD 12 false=false:=hD.not_yet (i:=0) (f:=12) (by kernel_rfl) (FreeD.not_listed (by omega) hno)
    simp [go_sem,e0]
    exact hK _ _ (hA.c.step (by omega) hx (Below.refl _ _)) rfl (fun j u _ _ hu=>FreeD.wl_any hu)
   ·intro listed A0 W hA hD hno hr K' hK
    have hsl:=hA.size
    simp at hsl
    have e45:A0.tmps[45]?.getD undef=.pointer (some ⟨g,0,none⟩):=FreeD.slot_is (hA.val 0 _ rfl (hr ⟨0,.data⟩ (by simp) rfl))
    have hx:listed.getD 12 false=false:=hD.not_yet (i:=1) (f:=12) (by kernel_rfl) (FreeD.not_listed (by omega) hno)
    simp [go_sem,e45]
    exact hK _ _ (hA.c.step (by omega) hx (Below.refl _ _)) rfl (fun j u _ _ hu=>FreeD.wl_any hu)
   ·intro listed A0 W hA hD hno hr K' hK
    have hsl:=hA.size
    simp at hsl
    have e46:A0.tmps[46]?.getD undef=.pointer (some ⟨g,0,none⟩):=FreeD.slot_is (hA.val 1 _ rfl (hr ⟨1,.data⟩ (by simp) rfl))
    have hx:listed.getD 12 false=false:=hD.not_yet (i:=2) (f:=12) (by kernel_rfl) (FreeD.not_listed (by omega) hno)
    simp [go_sem,e46]
    exact hK _ _ (hA.c.step (by omega) hx (Below.refl _ _)) rfl (fun j u _ _ hu=>FreeD.wl_any hu)
   ·intro listed A0 W hA hD hno hr K' hK
    have hsl:=hA.size
    simp at hsl
    have e47:A0.tmps[47]?.getD undef=.pointer (some ⟨g,0,none⟩):=FreeD.slot_is (hA.val 2 _ rfl (hr ⟨2,.data⟩ (by simp) rfl))
    have hx:listed.getD 12 false=false:=hD.not_yet (i:=3) (f:=12) (by kernel_rfl) (FreeD.not_listed (by omega) hno)
    have f0:W.cell? ⟨g,0,none⟩=some (.pointer (some ⟨r,0,none⟩)):=(hB.later (hA.c.bef hx)).cell 0
    simp [go_sem,e47,f0]
    exact hK _ _ (hA.c.step (by omega) hx (Below.refl _ _)) rfl (fun j u _ _ hu=>FreeD.wl_any hu)
   ·intro listed A0 W hA hD hno hr K' hK
    have hsl:=hA.size
    simp at hsl
    have e0:A0.tmps[0]?.getD undef=.pointer (some ⟨g,0,none⟩):=FreeD.slot_is ((hA.kept 0 (Free.not_dst (by kernel_rfl))).trans rfl)
    have hx:listed.getD 12 false=false:=hD.not_yet (i:=4) (f:=12) (by kernel_rfl) (FreeD.not_listed (by omega) hno)
    simp [go_sem,e0]
    exact hK _ _ (hA.c.step (by omega) hx (Below.refl _ _)) rfl (fun j u _ _ hu=>FreeD.wl_any hu)
   ·intro listed A0 W hA hD hno hr K' hK
    have hsl:=hA.size
    simp at hsl
    have e49:A0.tmps[49]?.getD undef=.pointer (some ⟨g,0,none⟩):=FreeD.slot_is (hA.val 4 _ rfl (hr ⟨4,.data⟩ (by simp) rfl))
    have hx:listed.getD 12 false=false:=hD.not_yet (i:=5) (f:=12) (by kernel_rfl) (FreeD.not_listed (by omega) hno)
    simp [go_sem,e49]
    exact hK _ _ (hA.c.step (by omega) hx (Below.refl _ _)) rfl (fun j u _ _ hu=>FreeD.wl_any hu)
   ·intro listed A0 W hA hD hno hr K' hK
    have hsl:=hA.size
    simp at hsl
    have e50:A0.tmps[50]?.getD undef=.pointer (some ⟨g,0,none⟩):=FreeD.slot_is (hA.val 5 _ rfl (hr ⟨5,.data⟩ (by simp) rfl))
    have hx:listed.getD 12 false=false:=hD.not_yet (i:=6) (f:=12) (by kernel_rfl) (FreeD.not_listed (by omega) hno)
    simp [go_sem,e50]
    exact hK _ _ (hA.c.step (by omega) hx (Below.refl _ _)) rfl (fun j u _ _ hu=>FreeD.wl_any hu)
   ·intro listed A0 W hA hD hno hr K' hK
    have hsl:=hA.size
    simp at hsl
    have e51:A0.tmps[51]?.getD undef=.pointer (some ⟨g,8,none⟩):=FreeD.slot_is (hA.val 6 _ rfl (hr ⟨6,.data⟩ (by simp) rfl))
    have hx:listed.getD 12 false=false:=hD.not_yet (i:=7) (f:=12) (by kernel_rfl) (FreeD.not_listed (by omega) hno)
    have f0:W.cell? ⟨g,8,none⟩=some (.int .u64 gn):=(hB.later (hA.c.bef hx)).cell 8
    simp [go_sem,e51,f0]
    exact hK _ _ (hA.c.step (by omega) hx (Below.refl _ _)) rfl (fun j u _ _ hu=>FreeD.wl_any hu)
   ·intro listed A0 W hA hD hno hr K' hK
    have hsl:=hA.size
    simp at hsl
    have e52:A0.tmps[52]?.getD undef=.int .u64 gn:=FreeD.slot_is (hA.val 7 _ rfl (hr ⟨7,.data⟩ (by simp) rfl))
    have hx:listed.getD 12 false=false:=hD.not_yet (i:=8) (f:=12) (by kernel_rfl) (FreeD.not_listed (by omega) hno)
    simp [go_sem,e52,EG]
    exact hK _ _ (hA.c.step (by omega) hx (Below.refl _ _)) rfl (fun j u _ _ hu=>FreeD.wl_any hu)
   ·intro listed A0 W hA hD hno hr K' hK
    have hsl:=hA.size
    simp at hsl
    have e53:A0.tmps[53]?.getD undef=.int .u64 G1:=FreeD.slot_is (hA.val 8 _ rfl (hr ⟨8,.data⟩ (by simp) rfl))
    have hx:listed.getD 12 false=false:=hD.not_yet (i:=9) (f:=12) (by kernel_rfl) (FreeD.not_listed (by omega) hno)
    simp [go_sem,e53,EJ]
    exact hK _ _ (hA.c.step (by omega) hx (Below.refl _ _)) rfl (fun j u _ _ hu=>FreeD.wl_any hu)
   ·intro listed A0 W hA hD hno hr K' hK
    have hsl:=hA.size
    simp at hsl
    have e54:A0.tmps[54]?.getD undef=.int .u64 J:=FreeD.slot_is (hA.val 9 _ rfl (hr ⟨9,.data⟩ (by simp) rfl))
    have hx:listed.getD 12 false=false:=hD.not_yet (i:=10) (f:=12) (by kernel_rfl) (FreeD.not_listed (by omega) hno)
    simp [go_sem,e54,EJ2]
    exact hK _ _ (hA.c.step (by omega) hx (Below.refl _ _)) rfl (fun j u _ _ hu=>FreeD.wl_any hu)
   ·intro listed A0 W hA hD hno hr K' hK
    have hsl:=hA.size
    simp at hsl
    have e6:A0.tmps[6]?.getD undef=.string S:=FreeD.slot_is ((hA.kept 6 (Free.not_dst (by kernel_rfl))).trans rfl)
    have hx:listed.getD 12 false=false:=hD.not_yet (i:=11) (f:=12) (by kernel_rfl) (FreeD.not_listed (by omega) hno)
    simp [go_sem,e6]
    exact hK _ _ (hA.c.step (by omega) hx (Below.refl _ _)) rfl (fun j u _ _ hu=>FreeD.wl_any hu)
   ·intro listed A0 W hA hD hno hr K' hK
    have hsl:=hA.size
    simp at hsl
    have e48:A0.tmps[48]?.getD undef=.pointer (some ⟨r,0,none⟩):=FreeD.slot_is (hA.val 3 _ rfl (hr ⟨3,.data⟩ (by simp) rfl))
    have e55:A0.tmps[55]?.getD undef=.int .i64 (J):=FreeD.slot_is (hA.val 10 _ rfl (hr ⟨10,.data⟩ (by simp) rfl))
    have e56:A0.tmps[56]?.getD undef=.string S:=FreeD.slot_is (hA.val 11 _ rfl (hr ⟨11,.data⟩ (by simp) rfl))
    have hx:listed.getD 12 false=false:=FreeD.not_listed (by omega) hno
    have hw:=hA.c.bef hx
    simp [go_sem,e48,e55,e56]
    refine (Dk.rwrite_s (h2.later hw) hk1 J S hhas HS hd1 hl1).mono ?_
    rintro e' w' ⟨rfl,h3⟩
    exact hK _ _ (FreeD.Last.last (by omega) h3) rfl (fun j u _ _ hu=>FreeD.wl_any hu)
   ·intro listed A0 W hA hD hno hr K' hK
    have hsl:=hA.size
    simp at hsl
    have e57:A0.tmps[57]?.getD undef=.int .i64 0:=FreeD.slot_is (hA.val 12 _ rfl (hr ⟨12,.data⟩ (by simp) rfl))
    simp [go_sem,e57]
    exact hK _ _ (hA.c.still (by omega)) rfl (fun j u _ _ hu=>FreeD.wl_any hu)
  ·intro A0 W3 hA
   have h3:=hA.c.aft rfl
   have s0:A0.tmps.getD 0 undef=.pointer (some ⟨g,0,none⟩):=(hA.kept 0 (Free.not_dst (by kernel_rfl))).trans rfl
   have s5:A0.tmps.getD 5 undef=.int .i64 0:=hA.val 13 _ rfl rfl
   have hsl:=hA.slots
   have hde:=hA.defers
   clear hA
   obtain ⟨tm,de⟩:=A0
   simp only at s0 s5 hsl hde h3
   obtain ⟨y,hy,ee⟩:=arrF77 hsl
   have t0:=(hy 0).symm.trans s0
   have t5:=(hy 5).symm.trans s5
   rw [t0,t5] at ee
   clear hy s0 s5 hsl t0 t5
   subst ee hde
   have hk2:=get_self (x:=Dk.refI r (s.flush.write J S)) hk1
   have hj2:=get_set (x:=Dk.refI r (s.flush.write J S)) hj1 hkj
   obtain ⟨A4,m4,p4,B4,k4,q4,C4,n4,r4,hB4,_⟩:=log_at h3 hj2
   have c0:W3.cell? ⟨g,0,none⟩=some (.pointer (some ⟨r,0,none⟩)):=hB4.cell 0
   have hl2:(s.flush.write J S).pend.length<1048576:=by show ([]++[(J,S)]:List (Int × ByteArray)).length<_; simp
   by_cases hd2:(s.flush.write J S).dead
   ·have EE:=Lib.hid (show chkS s gn S=(s.flush.write J S,gn,9) from HE2.out.trans (if_pos hd2))
    have F:=Lib.hid (Dk.rflush_dead_s h3 hk2 hd2)
    have R:=Lib.hid (show Dk.Sep W W3 ((items.set k (Dk.refI r (s.flush.write J S))).set j (logI 121 g r t ls ep gn)) by
     have h4:=h3
     rw [set_set] at h4
     rw [set_same (get_set hj hkj)]
     exact h4)
    go_wp2_with fail
    refine F.out.mono ?_
    rintro e' w4 ⟨rfl,rfl⟩
    go_wp2_with fail
    go_ret
    exact ⟨by rw [EE.out]; rfl,by rw [EE.out]; exact R.out⟩
   ·have EE:=Lib.hid (show chkS s gn S=((s.flush.write J S).flush,gn+1,0) from HE2.out.trans (if_neg hd2))
    have F:=Lib.hid (Dk.rflush_s h3 hk2 hd2 hl2)
    clear hB4
    go_wp2_with fail
    refine F.out.mono ?_
    rintro e' w4 ⟨rfl,h4⟩
    have hj3:=get_set (x:=Dk.refI r (s.flush.write J S).flush) hj2 hkj
    obtain ⟨A5,m5,p5,B5,k5,q5,C5,n5,r5,hB5,_⟩:=log_at h4 hj3
    have c8:w4.cell? ⟨g,8,none⟩=some (.int .u64 gn):=hB5.cell 8
    have f8:=hB5.frozen 8
    have R:=Lib.hid (show Dk.Sep W (w4.setCell ⟨g,8,none⟩ (.int .u64 G1)) ((items.set k (Dk.refI r (s.flush.write J S).flush)).set j (logI 121 g r t ls ep (gn+1))) by
     rw [HG.out]
     have h5:=log_gen h4 hj3 G1
     rw [set_set,set_set] at h5
     exact h5)
    go_wp2_with fail
    go_ret
    exact ⟨by rw [EE.out]; rfl,by rw [EE.out]; exact R.out⟩
end Go.Proofs.YtdpmjlbkojhooaaGreat.Lg
namespace Go.Proofs.YtdpmjlbkojhooaaGreat.Lg
open Go.RowKit Go.Lib
open Tb (Tab TIn Sl okP csT lastN nth Fresh)
open Dk (St Only Grew)
set_option linter.unusedVariables false
set_option maxRecDepth 100000
theorem set3 {items:List Dk.Item} {k j:Nat} {a b c:Dk.Item} (hkj:k≠j):((items.set j a).set k b).set j c=(items.set k b).set j c:=by
 rw [List.set_comm _ _ hkj.symm,List.set_set]
theorem keep2 {items:List Dk.Item} {k j:Nat} {a b:Dk.Item} (hk:items[k]? = some a) (hj:items[j]? = some b):(items.set k a).set j b=items:=by
 rw [set_same hk,set_same hj]
def dropS (t:Tab) (x:Int) (s:St) (gn:Int) (S:ByteArray):St × Tab × Int × Int:=match Tb.dropT t x with
 | none=>(s,t,gn,1)
 | some t'=>((chkS s gn S).1,t',(chkS s gn S).2.1,(chkS s gn S).2.2)
set_option maxHeartbeats 4000000 in
theorem rdrop_l {W w:World} {items:List Dk.Item} {k j g r:Nat} {s:St} {t:Tab} {ls ep gn:Int} (h:Dk.Sep W w items) (hk:items[k]? = some (Dk.refI r s)) (hj:items[j]? = some (logI 121 g r t ls ep gn)) (hkj:k≠j) (x ver:Int)
 (hv:0≤ver∧ver<18446744073709551616) (hls:1≤ls∧ls<18446744073709551616) (hep:0≤ep∧ep<4294967296) (hgn:0≤gn∧gn<9223372036854775807) (hsz:2≤s.size) (hpl:s.pend.length<1048576) (S:ByteArray) (hS:∀ t',Tb.dropT t x=some t'→Cp.secL ⟨gn+1,ep,ls,ver,t'.o,t'.l⟩=S.data.toList) :
 Calls Tryz.prog 58 #[.pointer (some ⟨g,0,none⟩),.int .i64 x,.int .u64 ver] w fun e w'=>e=.returned (.int .i64 (dropS t x s gn S).2.2.2)∧Dk.Sep W w' ((items.set k (Dk.refI r (dropS t x s gn S).1)).set j (logI 121 g r (dropS t x s gn S).2.1 ls ep (dropS t x s gn S).2.2.1)):=by
 obtain ⟨A,m,p,B,k1,q,C,n,r1,hB,ht,_,hok⟩:=log_at h hj
 have HD:=Lib.hid (Tb.rdrop_any t.sg t.st A m p B k1 q C n r1 t.o t.l t.f x w ht hok)
 have hv0:=Tryz.zeroValue100
 cases hc:Tb.dropT t x with
 | none =>
   have EE:=Lib.hid (show dropS t x s gn S=(s,t,gn,1) by unfold dropS; rw [hc])
   have hc' : Tb.dropT ⟨t.sg,t.st,t.o,t.l,t.f⟩ x=none:=hc
   have HD2:=Lib.hid (Tb.refv (sg:=0) (st:=0) (o:=[]) (l:=[]) (f':=[]) (y':=1) HD.out (by rw [hc']; rfl) (by rw [hc']; rfl))
   have HR:=Lib.hid (show ∀ w',Below w.heap.size w w'→Dk.Sep W w' ((items.set k (Dk.refI r s)).set j (logI 121 g r t ls ep gn)) from fun w' hb=>by rw [keep2 hk hj]; exact h.later hb)
   clear hc hc' HD h
   go_enter Tryz.func58,Tryz.ntmps58
   go_wp2_with (with_reducible refine load_lt rfl (.tmp 12) rfl g rfl hB ?_)
   refine HD2.out.mono ?_
   rintro e' w1 ⟨A1,m1,p1,B1,k2,q1,C1,n1,r2,rfl,_,_,hb⟩
   have N1:Tb.Blk (w1.alloc (.cells #[.int .i64 0,.int .i64 0,.slice none 0 0,.slice none 0 0,.slice none 0 0] 100)) w1.heap.size 100 (csT 0 0 none 0 0 none 0 0 none 0 0):=Tb.Blk.new w1 _ _
   have BB:=Lib.hid (Tb.Ge.trans hb (Tb.below_row (Tb.below1 w1 (.cells #[.int .i64 0,.int .i64 0,.slice none 0 0,.slice none 0 0,.slice none 0 0] 100)) (Nat.le_refl _) (csT 0 0 A1 m1 p1 B1 k2 q1 C1 n1 r2)))
   clear hb
   go_wp2_with (with_reducible refine Tb.store_r rfl (.tmp 7) (.tmp 16) rfl w1.heap.size rfl rfl N1 ?_)
   go_ret
   exact ⟨by rw [EE.out]; rfl,by rw [EE.out]; exact HR.out _ BB.out⟩
 | some t' =>
   have EE:=Lib.hid (show dropS t x s gn S=((chkS s gn S).1,t',(chkS s gn S).2.1,(chkS s gn S).2.2) by unfold dropS; rw [hc])
   have hc' : Tb.dropT ⟨t.sg,t.st,t.o,t.l,t.f⟩ x=some t':=hc
   have hok':=Tb.drop_ok hok hc
   have HD2:=Lib.hid (Tb.refv (sg:=t'.sg) (st:=t'.st) (o:=t'.o) (l:=t'.l) (f':=t'.f) (y':=0) HD.out (by rw [hc']; rfl) (by rw [hc']; rfl))
   have HS:=Lib.hid (hS t' hc)
   have HH:=Lib.hid h
   clear hc hc' HD hS h
   go_enter Tryz.func58,Tryz.ntmps58
   go_wp2_with (with_reducible refine load_lt rfl (.tmp 12) rfl g rfl hB ?_)
   refine HD2.out.mono ?_
   rintro e' w1 ⟨A1,m1,p1,B1,k2,q1,C1,n1,r2,rfl,t1,f1,hb⟩
   have N1:Tb.Blk (w1.alloc (.cells #[.int .i64 0,.int .i64 0,.slice none 0 0,.slice none 0 0,.slice none 0 0] 100)) w1.heap.size 100 (csT 0 0 none 0 0 none 0 0 none 0 0):=Tb.Blk.new w1 _ _
   go_upto_region 2 with (with_reducible refine Tb.store_r rfl (.tmp 7) (.tmp 16) rfl w1.heap.size rfl rfl N1 ?_)
   have hb3:Below w1.heap.size w1 ((w1.alloc (.cells #[.int .i64 0,.int .i64 0,.slice none 0 0,.slice none 0 0,.slice none 0 0] 100)).setRow w1.heap.size (csT t'.sg t'.st A1 m1 p1 B1 k2 q1 C1 n1 r2)):=Tb.below_row (Tb.below1 w1 _) (Nat.le_refl _) _
   have K7:Tb.Blk ((w1.alloc (.cells #[.int .i64 0,.int .i64 0,.slice none 0 0,.slice none 0 0,.slice none 0 0] 100)).setRow w1.heap.size (csT t'.sg t'.st A1 m1 p1 B1 k2 q1 C1 n1 r2)) w1.heap.size 100 (csT t'.sg t'.st A1 m1 p1 B1 k2 q1 C1 n1 r2):=N1.row _
   replace t1:=t1.later hb3
   have B2:=Tb.Ge.trans hb hb3
   replace hB:=hB.later B2
   clear hb hb3 N1
   generalize (w1.alloc (.cells #[.int .i64 0,.int .i64 0,.slice none 0 0,.slice none 0 0,.slice none 0 0] 100)).setRow w1.heap.size (csT t'.sg t'.st A1 m1 p1 B1 k2 q1 C1 n1 r2)=y1 at *
   generalize w1.heap.size=b7 at *
   have H3:=Lib.hid (log_tab (p:=p1) (q:=q1) (r:=r2) HH.out hj B2 t1 hok' f1)
   clear t1 f1 B2
   go_wp2_with (first
    | (with_reducible refine Tb.load_r rfl (.tmp 7) rfl b7 rfl K7 ?_)
    | (with_reducible refine store_lt rfl (.tmp 24) (.tmp 22) rfl g rfl rfl hB ?_))
   refine (rchk_any H3.out (get_set hk hkj.symm) (get_self hj) hkj ver hv hls hep hgn hsz hpl S HS.out).mono ?_
   rintro e' w4 ⟨rfl,h4⟩
   go_wp2_with fail
   go_ret
   exact ⟨by rw [EE.out]; rfl,by rw [EE.out]; rw [set3 hkj] at h4; exact h4⟩
theorem ropen_is {w:World} {g d:Nat} {t:Tab} {A:Option Addr} {m p:Nat} {B:Option Addr} {k q:Nat} {C:Option Addr} {n r:Nat} {ls ep gn:Int} (hB:Tb.Blk w g 121 (csL d t.sg t.st A m p B k q C n r ls ep gn)) (ht:TIn w A m B k C n t.o t.l t.f) (hok:okP t) :
 Calls Tryz.prog 103 #[.pointer (some ⟨g,0,none⟩)] w fun e w'=>e=.returned (.int .i64 (lastN t.o))∧Below w.heap.size w w':=by
 have hm:=(Tb.ok_full hok ht).2.1
 have hlen:=ht.a.len
 obtain ⟨b,o,rfl,hb,hc⟩:=ht.a.cells (by omega)
 obtain ⟨i,Hi⟩:∃ i,Hid (m-1=i):=⟨_,Lib.hid rfl⟩
 have him:(i:Int)<(m:Int):=by have:=Hi.out; omega
 have hi0:i<m:=by omega
 have hw:IntKind.i64.wrap ((m:Int)-1)=(i:Int):=by rw [IntWalk.i64_in _ (by omega)]; have:=Hi.out; omega
 have hci:=hc i hi0
 obtain ⟨z,HZ⟩:∃ z,Hid (lastN t.o=z):=⟨_,Lib.hid rfl⟩
 have ez:nth t.o i=z:=by rw [← HZ.out]; unfold lastN; congr 1; have:=Hi.out; omega
 simp only [ez] at hci
 rw [HZ.out]
 have fg2:∀ jj:In (fun W=>Below w.heap.size w W),jj.W.cell? ⟨g,3,none⟩=some (.slice (some ⟨b,o,none⟩) m p):=fun jj=>(hB.later jj.h).cell 3
 have fgo:∀ jj:In (fun W=>Below w.heap.size w W),jj.W.cell? ⟨b,o+i,none⟩=some (.int .i64 z):=fun jj=>(jj.h.cell (p:=⟨b,o+i,none⟩) hb).trans hci
 have I:Below w.heap.size w { w with drawn:=w.drawn+1 }:=(Below.refl _ _).drew
 have hne:Nonempty (In (fun W=>Below w.heap.size w W)):=⟨⟨_,I⟩⟩
 clear ez hc hci hB ht hlen
 go_enter Tryz.func103,Tryz.ntmps103
 go_wp2_with fail
 refine region_class (fun W=>Below w.heap.size w W) (by kernel_rfl) (by kernel_rfl) I ?_
 repeat (go_big_quiet_step (fail))
 refine wpQuiet_nil ?_
 rintro _ ⟨jj,rfl⟩
 have hb2:=jj.h
 go_wp2_with fail
 go_ret
 exact ⟨rfl,hb2⟩
end Go.Proofs.YtdpmjlbkojhooaaGreat.Lg
