/- A part. -/
import Derived.Test.YtdpmjlbkojhooaaGreatQLgD
namespace Go.Proofs.YtdpmjlbkojhooaaGreat.Lg
open Go.RowKit Go.Lib
open Tb (Tab TIn Sl okP csT lastN nth Fresh)
open Dk (St Only Grew)
set_option linter.unusedVariables false
set_option maxRecDepth 100000
theorem fresh_wide {W:World} {base base' m:Nat} {A:Option Addr} (h:Fresh W base' A m) (hb:base≤base'):Fresh W base A m:=fun hm=>by
 obtain ⟨b,o,e,h1,h2⟩:=h hm
 exact ⟨b,o,e,Nat.le_trans hb h1,h2⟩
def TabR (t' : Tab) (N0:Nat) (S:Nat→Prop) (u:Value) (W:World):Prop :=
 ∃ A m p B k q C n r W1,u=.agg #[.int .i64 t'.sg,.int .i64 t'.st,.slice A m p,.slice B k q,.slice C n r]∧TIn W A m B k C n t'.o t'.l t'.f∧(Fresh W1 N0 A m∧Fresh W1 N0 B k∧Fresh W1 N0 C n)∧∀ g,S g→Nb3 A B C g
theorem tabR_tells {t' : Tab} (hok:okP t') (N0:Nat):NewC.Tells (TabR t' N0):=by
 refine ⟨?_,?_,?_⟩
 ·rintro S u W W' ⟨A,m,p,B,k,q,C,n,r,W1,e,h1,h2,h3⟩ hb
  exact ⟨A,m,p,B,k,q,C,n,r,W1,e,h1.later hb,h2,h3⟩
 ·rintro S S' u W ⟨A,m,p,B,k,q,C,n,r,W1,e,h1,h2,h3⟩ hs
  refine ⟨A,m,p,B,k,q,C,n,r,W1,e,h1,h2,fun g hg=>?_⟩
  rcases hs g hg with hg|hg
  ·exact h3 g hg
  ·exact tin_nb hok h1 hg
 ·rintro S u W g cs ⟨A,m,p,B,k,q,C,n,r,W1,e,h1,h2,h3⟩ hg
  exact ⟨A,m,p,B,k,q,C,n,r,W1,e,tin_row h1 (h3 g hg) cs,h2,h3⟩
def sealS (t:Tab) (s:St) (ls:Int) (S:ByteArray):St × Tab × Int × Int:=match Tb.freeT t with
 | []=>(s,t,ls,10)
 | f :: _=>if s.dead then (s,t,ls,9) else (s.write (Tb.sectorT t.st (lastN t.o) (lastN t.l)) S,Tb.openedT t f (ls+1),ls+1,0)
theorem arrF45 {cs:Array Value} (h:cs.size=45):∃ y:Nat→Value,(∀ i,cs.getD i undef=y i)∧cs=#[y 0,y 1,y 2,y 3,y 4,y 5,y 6,y 7,y 8,y 9,y 10,y 11,y 12,y 13,y 14,y 15,y 16,y 17,y 18,y 19,y 20,y 21,y 22,y 23,y 24,y 25,y 26,y 27,y 28,y 29,y 30,y 31,y 32,y 33,y 34,y 35,y 36,y 37,y 38,y 39,y 40,y 41,y 42,y 43,y 44]:=by
 refine ⟨fun i=>cs.getD i undef,fun _=>rfl,?_⟩
 have e:cs=((List.range 45).map fun i=>cs.getD i undef).toArray:=by
  apply Array.ext
  ·simp [h]
  ·intro i h1 h2
   simp [h1]
 exact e.trans rfl
set_option maxHeartbeats 16000000 in
theorem rseal_any {W0 w:World} {items:List Dk.Item} {k j g r:Nat} {s:St} {t:Tab} {ls ep gn:Int} (h:Dk.Sep W0 w items) (hk:items[k]? = some (Dk.refI r s)) (hj:items[j]? = some (logI 121 g r t ls ep gn)) (hkj:k≠j)
 (hls:1≤ls∧ls+1<18446744073709551616) (hep:0≤ep∧ep<4294967296) (hhas0:s.has (Tb.sectorT t.st (lastN t.o) (lastN t.l))) (hpl:s.pend.length<1048576) (S:ByteArray) (hS:∀ f l,Tb.freeT t=f :: l→Rc.secL ⟨ls,ep,3,0,f,[],[]⟩=S.data.toList) :
 Calls Tryz.prog 57 #[.pointer (some ⟨g,0,none⟩)] w fun e w'=>e=.returned (.int .i64 (sealS t s ls S).2.2.2)∧Dk.Sep W0 w' ((items.set k (Dk.refI r (sealS t s ls S).1)).set j (logI 121 g r (sealS t s ls S).2.1 (sealS t s ls S).2.2.1 ep gn)):=by
 have hvT:=Tryz.zeroValue100
 have hvL:=Tryz.zeroValue67
 obtain ⟨A0,m0,p0,B0,k0,q0,C0,n0,r0,hB0,ht0,_,hok⟩:=log_at h hj
 have hbd:=Tb.ok_bd hok
 have HFR:=Lib.hid (Tb.rfree_any t.sg t.st A0 m0 p0 B0 k0 q0 C0 n0 r0 t.o t.l t.f w ht0 (Tb.ok_full hok ht0).2.2.2.2.1 hbd.1)
 have HH:=Lib.hid h
 have HGL:=Lib.hid hB0.lt
 cases hfr:Tb.freeT t with
 | nil =>
   have EE:=Lib.hid (show sealS t s ls S=(s,t,ls,10) by unfold sealS; rw [hfr])
   have hfr' : Tb.freeT ⟨t.sg,t.st,t.o,t.l,t.f⟩=[]:=hfr
   clear h hS
   go_enter Tryz.func57,Tryz.ntmps57
   go_wp2_with (with_reducible refine load_lt rfl (.tmp 10) rfl g rfl hB0 ?_)
   refine HFR.out.mono ?_
   rintro e' w1 ⟨A1,m1,p1,rfl,s1,hb⟩
   rw [hfr'] at s1
   obtain rfl:m1=0:=s1.len
   have BB:=Lib.hid hb
   clear hb s1
   go_wp2_with fail
   go_ret
   exact ⟨by rw [EE.out]; rfl,by rw [EE.out,keep2 hk hj]; exact HH.out.later BB.out⟩
 | cons f lr =>
   have hfr' : Tb.freeT ⟨t.sg,t.st,t.o,t.l,t.f⟩=f :: lr:=hfr
   have HS:=Lib.hid (hS f lr hfr)
   have hfi:=Tb.free_in (t:=t) (s:=f) (by rw [hfr]; exact List.mem_cons_self ..) hbd.1.1
   have bf:0≤f∧f<16:=by omega
   have ef:IntKind.u64.wrap f=f:=by rw [IntKind.wrap_u64]; omega
   clear h hS
   go_enter Tryz.func57,Tryz.ntmps57
   go_wp2_with (with_reducible refine load_lt rfl (.tmp 10) rfl g rfl hB0 ?_)
   refine HFR.out.mono ?_
   rintro e' w1 ⟨A1,m1,p1,rfl,s1,hb⟩
   rw [hfr'] at s1
   have hm1:m1=lr.length+1:=s1.len
   obtain ⟨fb,fo,rfl,_,hfc⟩:=s1.cells (by omega)
   have hfc0:=hfc 0 (by omega)
   simp only [Nat.add_zero] at hfc0
   have e0:nth (f :: lr) 0=f:=rfl
   rw [e0] at hfc0
   have q1:((m1:Int) == 0)=false:=by simp; omega
   have q2:(0:Int)<(m1:Int):=by omega
   have h1:=HH.out.later hb
   clear s1 hfc e0 hm1 hb
   go_wp2_with fail
   refine (rwr_any h1 hk hj hkj 0 0 3 0 f ByteArray.empty ByteArray.empty hls ⟨by simp only; omega,by simp only; omega,hep.1,hep.2,by simp,by simp,by simp only; omega,by simp only; omega⟩ (by rw [Rc.okR_iff]; exact ⟨by simp only; omega,.inr (.inr ⟨rfl,rfl,rfl,rfl,bf.2⟩)⟩) hhas0 hpl S HS.out).mono ?_
   rintro e' w2 ⟨rfl,h2⟩
   by_cases hd:s.dead
   ·have EW:wrS t s ls S=(s,ls,0,0,9):=if_pos hd
    have EE:=Lib.hid (show sealS t s ls S=(s,t,ls,9) by unfold sealS; rw [hfr]; exact if_pos hd)
    rw [EW] at h2 ⊢
    rw [keep2 hk hj] at h2
    have HH2:=Lib.hid h2
    have N4:Tb.Blk (w2.alloc (.cells #[.int .i64 0,.int .i64 0] 67)) w2.heap.size 67 #[.int .i64 0,.int .i64 0]:=Tb.Blk.new w2 _ _
    have BB:=Lib.hid (Tb.below_row (Tb.below1 w2 (.cells #[.int .i64 0,.int .i64 0] 67)) (Nat.le_refl _) #[.int .i64 0,.int .i64 0])
    clear EW h1 h2
    go_wp2_with (with_reducible refine store_loc rfl (.tmp 4) (.tmp 24) rfl w2.heap.size rfl rfl N4 ?_)
    go_ret
    exact ⟨by rw [EE.out]; rfl,by rw [EE.out,keep2 hk hj]; exact HH2.out.later BB.out⟩
   ·obtain ⟨L1,EL⟩:∃ x,ls+1=x:=⟨_,rfl⟩
    obtain ⟨i0,Ei⟩:∃ x,Tb.sectorT t.st (lastN t.o) (lastN t.l)=x:=⟨_,rfl⟩
    obtain ⟨t2,Et⟩:∃ x,Tb.openedT t f L1=x:=⟨_,rfl⟩
    obtain ⟨seg0,E1⟩:∃ x,lastN t.o=x:=⟨_,rfl⟩
    obtain ⟨slo0,E2⟩:∃ x,lastN t.l=x:=⟨_,rfl⟩
    have EW:wrS t s ls S=(s.write i0 S,L1,seg0,slo0,0):=by rw [← EL,← Ei,← E1,← E2]; exact if_neg hd
    have EE:=Lib.hid (show sealS t s ls S=(s.write i0 S,t2,L1,0) by unfold sealS; rw [hfr,← Et,← EL,← Ei]; exact if_neg hd)
    have hro:Tb.rollT t L1=some t2:=by unfold Tb.rollT; rw [hfr,← Et]
    have hok2:=Tb.roll_ok hok hro
    have hro' : Tb.rollT ⟨t.sg,t.st,t.o,t.l,t.f⟩ L1=some t2:=hro
    rw [EW] at h2 ⊢
    have N4:Tb.Blk (w2.alloc (.cells #[.int .i64 0,.int .i64 0] 67)) w2.heap.size 67 #[.int .i64 0,.int .i64 0]:=Tb.Blk.new w2 _ _
    clear EW h1 E1 E2 Ei Et EL
    go_upto_region 5 with (with_reducible refine store_loc rfl (.tmp 4) (.tmp 24) rfl w2.heap.size rfl rfl N4 ?_)
    have hb3:Below w2.heap.size w2 ((w2.alloc (.cells #[.int .i64 0,.int .i64 0] 67)).setRow w2.heap.size #[.int .i64 seg0,.int .i64 slo0]):=Tb.below_row (Tb.below1 w2 _) (Nat.le_refl _) _
    have h3:=h2.later hb3
    clear h2 hb3 N4
    generalize (w2.alloc (.cells #[.int .i64 0,.int .i64 0] 67)).setRow w2.heap.size #[.int .i64 seg0,.int .i64 slo0]=w3 at *
    have hj3:((items.set k (Dk.refI r (s.write i0 S))).set j (logI 121 g r t L1 ep gn))[j]? = some (logI 121 g r t L1 ep gn):=get_self (get_set hj hkj)
    obtain ⟨A,m,p,B,k1,q,C,n,r1,hB,ht,_,_⟩:=log_at h3 hj3
    have HRO:Hid (∀ W,TIn W A m B k1 C n t.o t.l t.f→Calls Tryz.prog 99 #[.agg #[.int .i64 t.sg,.int .i64 t.st,.slice A m p,.slice B k1 q,.slice C n r1],.int .u64 L1] W (Tb.RefV t2.sg t2.st t2.o t2.l t2.f 0 W)):=Lib.hid (fun W hW=>Tb.refv (Tb.rroll_any t.sg t.st A m p B k1 q C n r1 t.o t.l t.f L1 W hW hok) (by rw [hro']; rfl) (by rw [hro']; rfl))
    have tells:=tabR_tells hok2 w3.heap.size
    have ok7:NewC.Nums.Ok ⟨8,9,10,12,13,38,29,39,6⟩:=⟨by decide,by decide,by decide,by decide,by decide,by decide,by decide,by decide,by decide,by decide,by decide,by decide,by decide,by decide,by decide,by decide⟩
    go_wp2_with fail
    refine FreeC.wp_freeC (FreeD.wl [some (.pointer (some ⟨g,0,none⟩)),some (.pointer (some ⟨g,0,none⟩)),some (.pointer (some ⟨g,1,none⟩)),some (.agg #[.int .i64 t.sg,.int .i64 t.st,.slice A m p,.slice B k1 q,.slice C n r1]),some (.pointer (some ⟨g,0,none⟩)),some (.pointer (some ⟨g,0,none⟩)),some (.pointer (some ⟨g,6,none⟩)),some (.int .u64 L1),none,none,none,some (.int .i64 0),none,none,some (.int .i64 0)]) (NewC.C ⟨8,9,10,12,13,38,29,39,6⟩ w3 100 5 (.int .i64 0) (TabR t2 w3.heap.size) (fun _=>False)) (by kernel_rfl) (by kernel_rfl) (NewC.C.start _) ?_ ?_
    ·refine ⟨?_,?_,?_,?_,?_,?_,?_,?_,?_,?_,?_,?_,?_,?_,?_,trivial⟩
     ·intro listed A0 W hA hno hr K' hK
      have hsl:=hA.size
      simp at hsl
      have hts:A0.tmps.size=45:=hA.slots.trans rfl
      have e0:A0.tmps[0]?.getD undef=.pointer (some ⟨g,0,none⟩):=FreeD.slot_is ((hA.kept 0 (Free.not_dst (by kernel_rfl))).trans rfl)
      simp [go_sem,e0]
      exact hK _ _ (hA.c.step tells 0 30 _ ⟨by decide,by decide,by decide,by decide,by decide⟩ ⟨by decide,by decide,by decide,by decide⟩ (Below.refl _ _)) rfl (fun j u _ _ hu=>FreeD.wl_any hu)
     ·intro listed A0 W hA hno hr K' hK
      have hsl:=hA.size
      simp at hsl
      have hts:A0.tmps.size=45:=hA.slots.trans rfl
      have e30:A0.tmps[30]?.getD undef=.pointer (some ⟨g,0,none⟩):=FreeD.slot_is (hA.val 0 _ rfl (hr ⟨0,.data⟩ (by simp) rfl))
      simp [go_sem,e30]
      exact hK _ _ (hA.c.step tells 1 31 _ ⟨by decide,by decide,by decide,by decide,by decide⟩ ⟨by decide,by decide,by decide,by decide⟩ (Below.refl _ _)) rfl (fun j u _ _ hu=>FreeD.wl_any hu)
     ·intro listed A0 W hA hno hr K' hK
      have hsl:=hA.size
      simp at hsl
      have hts:A0.tmps.size=45:=hA.slots.trans rfl
      have e31:A0.tmps[31]?.getD undef=.pointer (some ⟨g,0,none⟩):=FreeD.slot_is (hA.val 1 _ rfl (hr ⟨1,.data⟩ (by simp) rfl))
      simp [go_sem,e31]
      exact hK _ _ (hA.c.step tells 2 32 _ ⟨by decide,by decide,by decide,by decide,by decide⟩ ⟨by decide,by decide,by decide,by decide⟩ (Below.refl _ _)) rfl (fun j u _ _ hu=>FreeD.wl_any hu)
     ·intro listed A0 W hA hno hr K' hK
      have hsl:=hA.size
      simp at hsl
      have hts:A0.tmps.size=45:=hA.slots.trans rfl
      have e32:A0.tmps[32]?.getD undef=.pointer (some ⟨g,1,none⟩):=FreeD.slot_is (hA.val 2 _ rfl (hr ⟨2,.data⟩ (by simp) rfl))
      have c1:W.cell? ⟨g,1,none⟩=some (.int .i64 (t.sg)):=(hB.later hA.c.b).cell 1
      have c2:W.cell? ⟨g,2,none⟩=some (.int .i64 (t.st)):=(hB.later hA.c.b).cell 2
      have c3:W.cell? ⟨g,3,none⟩=some (.slice A m p):=(hB.later hA.c.b).cell 3
      have c4:W.cell? ⟨g,4,none⟩=some (.slice B k1 q):=(hB.later hA.c.b).cell 4
      have c5:W.cell? ⟨g,5,none⟩=some (.slice C n r1):=(hB.later hA.c.b).cell 5
      simp [go_sem,e32,c1,c2,c3,c4,c5]
      exact hK _ _ (hA.c.step tells 3 33 _ ⟨by decide,by decide,by decide,by decide,by decide⟩ ⟨by decide,by decide,by decide,by decide⟩ (Below.refl _ _)) rfl (fun j u _ _ hu=>FreeD.wl_any hu)
     ·intro listed A0 W hA hno hr K' hK
      have hsl:=hA.size
      simp at hsl
      have hts:A0.tmps.size=45:=hA.slots.trans rfl
      have e0:A0.tmps[0]?.getD undef=.pointer (some ⟨g,0,none⟩):=FreeD.slot_is ((hA.kept 0 (Free.not_dst (by kernel_rfl))).trans rfl)
      simp [go_sem,e0]
      exact hK _ _ (hA.c.step tells 4 34 _ ⟨by decide,by decide,by decide,by decide,by decide⟩ ⟨by decide,by decide,by decide,by decide⟩ (Below.refl _ _)) rfl (fun j u _ _ hu=>FreeD.wl_any hu)
     ·intro listed A0 W hA hno hr K' hK
      have hsl:=hA.size
      simp at hsl
      have hts:A0.tmps.size=45:=hA.slots.trans rfl
      have e34:A0.tmps[34]?.getD undef=.pointer (some ⟨g,0,none⟩):=FreeD.slot_is (hA.val 4 _ rfl (hr ⟨4,.data⟩ (by simp) rfl))
      simp [go_sem,e34]
      exact hK _ _ (hA.c.step tells 5 35 _ ⟨by decide,by decide,by decide,by decide,by decide⟩ ⟨by decide,by decide,by decide,by decide⟩ (Below.refl _ _)) rfl (fun j u _ _ hu=>FreeD.wl_any hu)
     ·intro listed A0 W hA hno hr K' hK
      have hsl:=hA.size
      simp at hsl
      have hts:A0.tmps.size=45:=hA.slots.trans rfl
      have e35:A0.tmps[35]?.getD undef=.pointer (some ⟨g,0,none⟩):=FreeD.slot_is (hA.val 5 _ rfl (hr ⟨5,.data⟩ (by simp) rfl))
      simp [go_sem,e35]
      exact hK _ _ (hA.c.step tells 6 36 _ ⟨by decide,by decide,by decide,by decide,by decide⟩ ⟨by decide,by decide,by decide,by decide⟩ (Below.refl _ _)) rfl (fun j u _ _ hu=>FreeD.wl_any hu)
     ·intro listed A0 W hA hno hr K' hK
      have hsl:=hA.size
      simp at hsl
      have hts:A0.tmps.size=45:=hA.slots.trans rfl
      have e36:A0.tmps[36]?.getD undef=.pointer (some ⟨g,6,none⟩):=FreeD.slot_is (hA.val 6 _ rfl (hr ⟨6,.data⟩ (by simp) rfl))
      have c6:W.cell? ⟨g,6,none⟩=some (.int .u64 L1):=(hB.later hA.c.b).cell 6
      simp [go_sem,e36,c6]
      exact hK _ _ (hA.c.step tells 7 37 _ ⟨by decide,by decide,by decide,by decide,by decide⟩ ⟨by decide,by decide,by decide,by decide⟩ (Below.refl _ _)) rfl (fun j u _ _ hu=>FreeD.wl_any hu)
     ·intro listed A0 W hA hno hr K' hK
      have hsl:=hA.size
      simp at hsl
      have hts:A0.tmps.size=45:=hA.slots.trans rfl
      have e33:A0.tmps[33]?.getD undef=.agg #[.int .i64 t.sg,.int .i64 t.st,.slice A m p,.slice B k1 q,.slice C n r1]:=FreeD.slot_is (hA.val 3 _ rfl (hr ⟨3,.data⟩ (by simp) rfl))
      have e37:A0.tmps[37]?.getD undef=.int .u64 L1:=FreeD.slot_is (hA.val 7 _ rfl (hr ⟨7,.data⟩ (by simp) rfl))
      simp [go_sem,e33,e37]
      refine (HRO.out W (ht.later hA.c.b)).mono ?_
      rintro e' w' ⟨A4,m4,p4,B4,k4,q4,C4,n4,r4,rfl,t4,f4,hb⟩
      refine hK (.tuple #[_,.int .i64 0]) w' (NewC.C.call tells ok7 hA.c (NewC.not_listed (by show 8<listed.size; omega) hno) (by show 38<A0.tmps.size; omega) ⟨A4,m4,p4,B4,k4,q4,C4,n4,r4,_,rfl,t4,⟨fresh_wide f4.1 hA.c.b.size,fresh_wide f4.2.1 hA.c.b.size,fresh_wide f4.2.2 hA.c.b.size⟩,fun g' hg'=>?_⟩ hb) trivial (fun j u _ _ hu=>FreeD.wl_any hu)
      rcases hg' with hg' | ⟨_,hg'⟩
      ·exact hg'.elim
      ·exact fresh_nb3 hok2 t4 f4 hg'
     ·intro listed A0 W hA hno hr K' hK
      have hsl:=hA.size
      simp at hsl
      have hts:A0.tmps.size=45:=hA.slots.trans rfl
      obtain ⟨u,hO⟩:=hA.c
      have h8:=hr ⟨8,.data⟩ (by simp) rfl
      have e38:=FreeD.slot_is (hO.dc h8).1
      simp [go_sem,e38]
      exact hK _ _ ⟨u,hO.move tells ok7 h8 (by show 9<listed.size; omega) (by show 29<A0.tmps.size; omega)⟩ trivial (fun j u _ _ hu=>FreeD.wl_any hu)
     ·intro listed A0 W hA hno hr K' hK
      have hsl:=hA.size
      simp at hsl
      have hts:A0.tmps.size=45:=hA.slots.trans rfl
      obtain ⟨u,hO⟩:=hA.c
      have h9:=hr ⟨9,.data⟩ (by simp) rfl
      have e29:=FreeD.slot_is (hO.dm h9).2
      simp [go_sem,e29]
      exact hK _ _ ⟨u,hO.part tells ok7 h9 (by show 10<listed.size; omega) (by show 39<A0.tmps.size; omega)⟩ trivial (fun j u _ _ hu=>FreeD.wl_any hu)
     ·intro listed A0 W hA hno hr K' hK
      have hsl:=hA.size
      simp at hsl
      have hts:A0.tmps.size=45:=hA.slots.trans rfl
      obtain ⟨u,hO⟩:=hA.c
      have h9:=hr ⟨9,.data⟩ (by simp) rfl
      have e29:=FreeD.slot_is (hO.dm h9).2
      simp [go_sem,e29]
      exact hK _ _ ⟨u,hO.step tells 11 40 _ ⟨by decide,by decide,by decide,by decide,by decide⟩ ⟨by decide,by decide,by decide,by decide⟩ (Below.refl _ _)⟩ rfl (fun j u _ _ hu=>FreeD.wl_any hu)
     ·intro listed A0 W hA hno hr K' hK
      have hsl:=hA.size
      simp at hsl
      have hts:A0.tmps.size=45:=hA.slots.trans rfl
      obtain ⟨u,hO⟩:=hA.c
      simp [go_sem,hvT]
      exact hK _ _ ⟨u,hO.alloc tells ok7 (by show 12<listed.size; omega) (NewC.not_listed (by show 12<listed.size; omega) hno) (by show 6<A0.tmps.size; omega) _ rfl⟩ trivial (fun j u _ _ hu=>FreeD.wl_any hu)
     ·intro listed A0 W hA hno hr K' hK
      have hsl:=hA.size
      simp at hsl
      have hts:A0.tmps.size=45:=hA.slots.trans rfl
      obtain ⟨u,hO⟩:=hA.c
      have h10:=hr ⟨10,.data⟩ (by simp) rfl
      have h12:=hr ⟨12,.data⟩ (by simp) rfl
      have h9:=(hO.dp h10).1
      have h8:=(hO.dm h9).1
      have e39:=(hO.dp h10).2
      obtain ⟨A4,m4,p4,B4,k4,q4,C4,n4,r4,_,eu,_⟩:=(hO.dc h8).2
      obtain ⟨b,vs,e6,hbb,hvs,hB6,_⟩:=hO.da h12
      refine wp_store_row _ (.tmp 6) (.tmp 39) rfl b (csT t2.sg t2.st A4 m4 p4 B4 k4 q4 C4 n4 r4) e6 (by have h1:=e39; rw [eu] at h1; simpa [Act.eval,csT] using h1) _ _ hB6 info_l hvs (Tb.csT_one _ _ _ _ _ _ _ _ _ _ _) ?_
      exact hK undef _ ⟨u,hO.store tells ok7 h8 h12 e6 hbb hB6 rfl eu⟩ trivial (fun j u _ _ hu=>FreeD.wl_any hu)
     ·intro listed A0 W hA hno hr K' hK
      have hsl:=hA.size
      simp at hsl
      have hts:A0.tmps.size=45:=hA.slots.trans rfl
      have e40:A0.tmps[40]?.getD undef=.int .i64 0:=FreeD.slot_is (hA.val 11 _ rfl (hr ⟨11,.data⟩ (by simp) rfl))
      simp [go_sem,e40]
      exact hK _ _ (hA.c.step tells 14 7 _ ⟨by decide,by decide,by decide,by decide,by decide⟩ ⟨by decide,by decide,by decide,by decide⟩ (Below.refl _ _)) rfl (fun j u _ _ hu=>FreeD.wl_any hu)
    ·intro A0 w4 hA
     obtain ⟨u,hO⟩:=hA.c
     obtain ⟨A4,m4,p4,B4,k4,q4,C4,n4,r4,W1,eu,t4,f4,_⟩:=(hO.dc rfl).2
     obtain ⟨b6,vs,s6,hb6,_,K6,hvs⟩:=hO.da rfl
     obtain rfl:vs=csT t2.sg t2.st A4 m4 p4 B4 k4 q4 C4 n4 r4:=by have h1:=hvs rfl; rw [eu] at h1; injection h1 with h1; exact h1.symm
     have hb:=hO.b
     have s0:A0.tmps.getD 0 undef=.pointer (some ⟨g,0,none⟩):=(hA.kept 0 (Free.not_dst (by kernel_rfl))).trans rfl
     have hsl:=hA.slots
     have hde:=hA.defers
     clear hA hO hvs eu
     obtain ⟨tm,de⟩:=A0
     simp only at s0 s6 hsl hde
     obtain ⟨y,hy,ee⟩:=arrF45 hsl
     have t0:=(hy 0).symm.trans s0
     have t6:=(hy 6).symm.trans s6
     rw [t0,t6] at ee
     clear hy s0 s6 hsl t0 t6
     subst ee hde
     replace hB:=hB.later hb
     have K6' : Tb.Blk w4 b6 100 (csT t2.sg t2.st A4 m4 p4 B4 k4 q4 C4 n4 r4):=K6
     have H5:=Lib.hid (log_tab (p:=p4) (q:=q4) (r:=r4) h3 hj3 hb t4 hok2 f4)
     clear K6 h3 ht t4 f4 hb
     go_wp2_with (first
      | (with_reducible refine Tb.load_r rfl (.tmp 6) rfl b6 rfl K6' ?_)
      | (with_reducible refine store_lt rfl (.tmp 44) (.tmp 42) rfl g rfl rfl hB ?_))
     go_ret
     exact ⟨by rw [EE.out]; rfl,by
      rw [EE.out]
      have h6:=H5.out
      rw [set_set] at h6
      exact h6⟩
end Go.Proofs.YtdpmjlbkojhooaaGreat.Lg
