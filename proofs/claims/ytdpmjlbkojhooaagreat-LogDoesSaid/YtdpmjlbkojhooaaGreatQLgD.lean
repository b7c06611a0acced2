/- A part. -/
import Derived.Test.YtdpmjlbkojhooaaGreatQLgB
import Derived.Test.YtdpmjlbkojhooaaGreatQLgL
import Derived.Test.YtdpmjlbkojhooaaGreatQNewV
namespace Go.Proofs.YtdpmjlbkojhooaaGreat.Lg
open Go.RowKit Go.Lib
open Tb (Tab TIn Sl okP csT lastN nth Fresh)
open Dk (St Only Grew)
set_option linter.unusedVariables false
set_option maxRecDepth 100000
theorem loc_one (s1 s2:Int):(#[Value.int .i64 s1,.int .i64 s2]:Array Value).all (·.oneCell')=true:=by simp [Value.oneCell']
theorem info_loc:(Tryz.prog.info? 67).map (·.size)=some 2:=by kernel_rfl
theorem len_open {t:Tab} (h:okP t):Tb.lenT t (lastN t.o)=lastN t.l:=by
 have hb:=Tb.ok_bd h
 have hi:Tb.idx t.o (lastN t.o)=(t.o.length-1:Nat):=Tb.idx_at (by omega) rfl (by
  intro hm
  obtain ⟨j,hj,e⟩:=List.mem_iff_getElem.1 hm
  rw [List.length_take] at hj
  rw [List.getElem_take] at e
  have e2:lastN t.o=t.o[t.o.length-1]'(by omega):=by unfold lastN; rw [Tb.nth_lt (by omega)]
  rw [e2] at e
  have:=(List.getElem_inj h.2.2.2.2.1).1 e
  omega)
 unfold Tb.lenT
 rw [hi,if_neg (by omega)]
 unfold lastN
 rw [Int.toNat_natCast,hb.2.2.1]
section
variable {ops:Array Oper} {rest:List Oper} {o:Oper} {a:Act} {w:World} {Q:Exit→Act→World→Prop}
theorem load_rr (hgd:o.guard=none) (x:Operand) (ho:o.op=.load 70 x) (b:Nat) (hx:a.eval x=.pointer (some ⟨b,0,none⟩)) {l0 e0 K V D:Int} {I X:ByteArray} {t:TypeId} (hg:Tb.Blk w b t #[.int .u64 l0,.int .u32 e0,.int .i64 K,.int .u64 V,.int .u64 D,.string I,.string X])
 (h:wpList Tryz.prog ops Q rest (a.put o.dst (.agg #[.int .u64 l0,.int .u32 e0,.int .i64 K,.int .u64 V,.int .u64 D,.string I,.string X])) w):wpList Tryz.prog ops Q (o :: rest) a w :=
 wpList_load_row hgd _ x ho b hx _ #[.int .u64 l0,.int .u32 e0,.int .i64 K,.int .u64 V,.int .u64 D,.string I,.string X] (0,0) _ hg Tryz.underlying70 rfl (by kernel_rfl) h
theorem load_loc (hgd:o.guard=none) (x:Operand) (ho:o.op=.load 67 x) (b:Nat) (hx:a.eval x=.pointer (some ⟨b,0,none⟩)) {s1 s2:Int} {t:TypeId} (hg:Tb.Blk w b t #[.int .i64 s1,.int .i64 s2])
 (h:wpList Tryz.prog ops Q rest (a.put o.dst (.agg #[.int .i64 s1,.int .i64 s2])) w):wpList Tryz.prog ops Q (o :: rest) a w :=
 wpList_load_row hgd _ x ho b hx _ #[.int .i64 s1,.int .i64 s2] (0,0) _ hg Tryz.underlying67 rfl info_loc h
theorem store_loc (hgd:o.guard=none) (x y:Operand) (ho:o.op=.store 67 x y) (b:Nat) (hx:a.eval x=.pointer (some ⟨b,0,none⟩)) {s1 s2 z1 z2:Int} (hy:a.eval y=.agg #[.int .i64 s1,.int .i64 s2]) {t:TypeId} (hg:Tb.Blk w b t #[.int .i64 z1,.int .i64 z2])
 (h:wpList Tryz.prog ops Q rest (a.put o.dst undef) (w.setRow b #[.int .i64 s1,.int .i64 s2])):wpList Tryz.prog ops Q (o :: rest) a w :=
 wpList_store_row hgd _ x y ho b #[.int .i64 s1,.int .i64 s2] hx hy _ _ hg info_loc rfl (loc_one s1 s2) h
end
theorem res_loc {fn:Func} {p' q' : Tmp} (h:fn.results=#[.cell p' 67,.tmp q']) (tmps:Array Value) (W:World) (b:Nat) {s1 s2:Int} {t:TypeId} {y:Value} (hp:tmps.getD p' undef=.pointer (some ⟨b,0,none⟩)) (hq:tmps.getD q' undef=y) (L:Tb.Blk W b t #[.int .i64 s1,.int .i64 s2]) :
 (results fn tmps).run Tryz.prog W=.ok (.tuple #[.agg #[.int .i64 s1,.int .i64 s2],y]) W:=by
 have hp' : tmps[p']?.getD undef=.pointer (some ⟨b,0,none⟩):=by simpa using hp
 have hq' : tmps[q']?.getD undef=y:=by simpa using hq
 have h1:(loadVar 67 ⟨b,0,none⟩).run Tryz.prog W=.ok (.agg #[.int .i64 s1,.int .i64 s2]) W:=run_loadVar_row W b t 67 #[.int .i64 s1,.int .i64 s2] (0,0) _ L Tryz.underlying67 rfl info_loc
 simp [results,h,hp',hq',asAddr,h1]
def wrS (t:Tab) (s:St) (ls:Int) (S:ByteArray):St × Int × Int × Int × Int :=
 if s.dead then (s,ls,0,0,9) else (s.write (Tb.sectorT t.st (lastN t.o) (lastN t.l)) S,ls+1,lastN t.o,lastN t.l,0)
theorem arrF61 {cs:Array Value} (h:cs.size=61):∃ y:Nat→Value,(∀ i,cs.getD i undef=y i)∧cs=#[y 0,y 1,y 2,y 3,y 4,y 5,y 6,y 7,y 8,y 9,y 10,y 11,y 12,y 13,y 14,y 15,y 16,y 17,y 18,y 19,y 20,y 21,y 22,y 23,y 24,y 25,y 26,y 27,y 28,y 29,y 30,y 31,y 32,y 33,y 34,y 35,y 36,y 37,y 38,y 39,y 40,y 41,y 42,y 43,y 44,y 45,y 46,y 47,y 48,y 49,y 50,y 51,y 52,y 53,y 54,y 55,y 56,y 57,y 58,y 59,y 60]:=by
 refine ⟨fun i=>cs.getD i undef,fun _=>rfl,?_⟩
 have e:cs=((List.range 61).map fun i=>cs.getD i undef).toArray:=by
  apply Array.ext
  ·simp [h]
  ·intro i h1 h2
   simp [h1]
 exact e.trans rfl
set_option maxHeartbeats 16000000 in
theorem rwr_any {W0 w:World} {items:List Dk.Item} {k j g r:Nat} {s:St} {t:Tab} {ls ep gn:Int} (h:Dk.Sep W0 w items) (hk:items[k]? = some (Dk.refI r s)) (hj:items[j]? = some (logI 121 g r t ls ep gn)) (hkj:k≠j) (l0 e0 K V D:Int) (I X:ByteArray)
 (hls:1≤ls∧ls+1<18446744073709551616) (hfit:Rc.Fits ⟨ls,ep,K,V,D,I.data.toList,X.data.toList⟩) (hR:Rc.okR ⟨ls,ep,K,V,D,I.data.toList,X.data.toList⟩=true) (hhas0:s.has (Tb.sectorT t.st (lastN t.o) (lastN t.l))) (hpl:s.pend.length<1048576) (S:ByteArray) (hS:Rc.secL ⟨ls,ep,K,V,D,I.data.toList,X.data.toList⟩=S.data.toList) :
 Calls Tryz.prog 98 #[.pointer (some ⟨g,0,none⟩),.agg #[.int .u64 l0,.int .u32 e0,.int .i64 K,.int .u64 V,.int .u64 D,.string I,.string X]] w fun e w'=>e=.returned (.tuple #[.agg #[.int .i64 (wrS t s ls S).2.2.1,.int .i64 (wrS t s ls S).2.2.2.1],.int .i64 (wrS t s ls S).2.2.2.2])∧Dk.Sep W0 w' ((items.set k (Dk.refI r (wrS t s ls S).1)).set j (logI 121 g r t (wrS t s ls S).2.1 ep gn)):=by
 have hvL:=Tryz.zeroValue67
 have HH:=Lib.hid h
 have HGL:Hid (g<w.heap.size):=Lib.hid (by obtain ⟨_,_,_,_,_,_,_,_,_,hB,_⟩:=log_at h hj; exact hB.lt)
 have HOK:=log_ok h hj
 obtain ⟨sg1,H1⟩:∃ z,lastN t.o=z:=⟨_,rfl⟩
 obtain ⟨so1,H2⟩:∃ z,lastN t.l=z:=⟨_,rfl⟩
 obtain ⟨i0,H3⟩:∃ z,Tb.sectorT t.st sg1 so1=z:=⟨_,rfl⟩
 have HL:Hid (Tb.lenT ⟨t.sg,t.st,t.o,t.l,t.f⟩ sg1=so1):=Lib.hid (by rw [← H1,← H2]; exact len_open HOK)
 have hhas:s.has i0:=by rw [← H3,← H1,← H2]; exact hhas0
 have HWS:Hid (wrS t s ls S=if s.dead then (s,ls,0,0,9) else (s.write i0 S,ls+1,sg1,so1,0)):=Lib.hid (by rw [← H3,← H1,← H2]; rfl)
 have HS:S.size=128:=(size_of hS).trans (Rc.secL_len hR)
 have B0:Below w.heap.size w ((w.alloc (.cells #[.int .u64 l0,.int .u32 e0,.int .i64 K,.int .u64 V,.int .u64 D,.string I,.string X] 70)).alloc (.cells #[.int .i64 0,.int .i64 0] 67)):=NewC.geTrans (NewC.below1 _ _) (NewC.below1 _ _)
 have K3:Tb.Blk ((w.alloc (.cells #[.int .u64 l0,.int .u32 e0,.int .i64 K,.int .u64 V,.int .u64 D,.string I,.string X] 70)).alloc (.cells #[.int .i64 0,.int .i64 0] 67)) w.heap.size 70 #[.int .u64 l0,.int .u32 e0,.int .i64 K,.int .u64 V,.int .u64 D,.string I,.string X]:=(Tb.Blk.new w _ _).later (NewC.below1 _ _)
 have K4:Tb.Blk ((w.alloc (.cells #[.int .u64 l0,.int .u32 e0,.int .i64 K,.int .u64 V,.int .u64 D,.string I,.string X] 70)).alloc (.cells #[.int .i64 0,.int .i64 0] 67)) (w.heap.size+1) 67 #[.int .i64 0,.int .i64 0]:=Tb.Blk.at_ _ _ _ (by simp)
 have h1:=h.later B0
 have OP:Hid (∀ W {A m p B k1 q C n r1},Tb.Blk W g 121 (csL r t.sg t.st A m p B k1 q C n r1 ls ep gn)→TIn W A m B k1 C n t.o t.l t.f→Calls Tryz.prog 103 #[.pointer (some ⟨g,0,none⟩)] W fun e w'=>e=.returned (.int .i64 sg1)∧Below W.heap.size W w'):=Lib.hid (fun W _ _ _ _ _ _ _ _ _ hB ht=>by rw [← H1]; exact ropen_is hB ht HOK)
 go_enter Tryz.func98,Tryz.ntmps98
 go_upto_region 1 with fail
 generalize ((w.alloc (.cells #[.int .u64 l0,.int .u32 e0,.int .i64 K,.int .u64 V,.int .u64 D,.string I,.string X] 70)).alloc (.cells #[.int .i64 0,.int .i64 0] 67))=w1 at *
 obtain ⟨A,m,p,B,k1,q,C,n,r1,hB,ht,_,hok⟩:=log_at h1 hj
 have hml:=(Tb.ok_full hok ht).2.2.2.2.1
 have hlo:t.l.length=t.o.length:=hok.2.2.2.2.2.2.1
 refine FreeC.wp_freeC (FreeD.wl [some (.pointer (some ⟨g,0,none⟩)),some (.int .i64 (sg1)),some (.pointer (some ⟨g,0,none⟩)),some (.pointer (some ⟨g,0,none⟩)),some (.pointer (some ⟨g,1,none⟩)),some (.agg #[.int .i64 (t.sg),.int .i64 (t.st),.slice A m p,.slice B k1 q,.slice C n r1]),some (.pointer (some ⟨g,0,none⟩)),some (.int .i64 (sg1)),some (.int .i64 (so1)),some (.agg #[.int .i64 (sg1),.int .i64 (so1)]),none,none]) (NewV.C w1 67 10 11 6 #[.int .i64 sg1,.int .i64 so1]) (by kernel_rfl) (by kernel_rfl) (NewV.C.start _) ?_ ?_
 ·refine ⟨?_,?_,?_,?_,?_,?_,?_,?_,?_,?_,?_,?_,trivial⟩
  ·intro listed A0 W hA hno hr K' hK
   have hsl:=hA.size
   simp at hsl
   have e0:A0.tmps[0]?.getD undef=.pointer (some ⟨g,0,none⟩):=FreeD.slot_is ((hA.kept 0 (Free.not_dst (by kernel_rfl))).trans rfl)
   simp [go_sem,e0]
   exact hK _ _ (hA.c.step 0 10 _ (by omega) (by omega) (Below.refl _ _)) rfl (fun j u _ _ hu=>FreeD.wl_any hu)
  ·intro listed A0 W hA hno hr K' hK
   have hsl:=hA.size
   simp at hsl
   have e10:A0.tmps[10]?.getD undef=.pointer (some ⟨g,0,none⟩):=FreeD.slot_is (hA.val 0 _ rfl (hr ⟨0,.data⟩ (by simp) rfl))
   simp [go_sem,e10]
   refine (OP.out W (hB.later hA.c.b) (ht.later hA.c.b)).mono ?_
   rintro e' w' ⟨rfl,hb⟩
   exact hK _ _ (hA.c.step 1 11 _ (by omega) (by omega) hb) rfl (fun j u _ _ hu=>FreeD.wl_any hu)
  ·intro listed A0 W hA hno hr K' hK
   have hsl:=hA.size
   simp at hsl
   have e0:A0.tmps[0]?.getD undef=.pointer (some ⟨g,0,none⟩):=FreeD.slot_is ((hA.kept 0 (Free.not_dst (by kernel_rfl))).trans rfl)
   simp [go_sem,e0]
   exact hK _ _ (hA.c.step 2 12 _ (by omega) (by omega) (Below.refl _ _)) rfl (fun j u _ _ hu=>FreeD.wl_any hu)
  ·intro listed A0 W hA hno hr K' hK
   have hsl:=hA.size
   simp at hsl
   have e12:A0.tmps[12]?.getD undef=.pointer (some ⟨g,0,none⟩):=FreeD.slot_is (hA.val 2 _ rfl (hr ⟨2,.data⟩ (by simp) rfl))
   simp [go_sem,e12]
   exact hK _ _ (hA.c.step 3 13 _ (by omega) (by omega) (Below.refl _ _)) rfl (fun j u _ _ hu=>FreeD.wl_any hu)
  ·intro listed A0 W hA hno hr K' hK
   have hsl:=hA.size
   simp at hsl
   have e13:A0.tmps[13]?.getD undef=.pointer (some ⟨g,0,none⟩):=FreeD.slot_is (hA.val 3 _ rfl (hr ⟨3,.data⟩ (by simp) rfl))
   simp [go_sem,e13]
   exact hK _ _ (hA.c.step 4 14 _ (by omega) (by omega) (Below.refl _ _)) rfl (fun j u _ _ hu=>FreeD.wl_any hu)
  ·intro listed A0 W hA hno hr K' hK
   have hsl:=hA.size
   simp at hsl
   have e14:A0.tmps[14]?.getD undef=.pointer (some ⟨g,1,none⟩):=FreeD.slot_is (hA.val 4 _ rfl (hr ⟨4,.data⟩ (by simp) rfl))
   have f0:W.cell? ⟨g,1,none⟩=some (.int .i64 (t.sg)):=(hB.later hA.c.b).cell 1
   have f1:W.cell? ⟨g,2,none⟩=some (.int .i64 (t.st)):=(hB.later hA.c.b).cell 2
   have f2:W.cell? ⟨g,3,none⟩=some (.slice A m p):=(hB.later hA.c.b).cell 3
   have f3:W.cell? ⟨g,4,none⟩=some (.slice B k1 q):=(hB.later hA.c.b).cell 4
   have f4:W.cell? ⟨g,5,none⟩=some (.slice C n r1):=(hB.later hA.c.b).cell 5
   simp [go_sem,e14,f0,f1,f2,f3,f4]
   exact hK _ _ (hA.c.step 5 15 _ (by omega) (by omega) (Below.refl _ _)) rfl (fun j u _ _ hu=>FreeD.wl_any hu)
  ·intro listed A0 W hA hno hr K' hK
   have hsl:=hA.size
   simp at hsl
   have e0:A0.tmps[0]?.getD undef=.pointer (some ⟨g,0,none⟩):=FreeD.slot_is ((hA.kept 0 (Free.not_dst (by kernel_rfl))).trans rfl)
   simp [go_sem,e0]
   exact hK _ _ (hA.c.step 6 16 _ (by omega) (by omega) (Below.refl _ _)) rfl (fun j u _ _ hu=>FreeD.wl_any hu)
  ·intro listed A0 W hA hno hr K' hK
   have hsl:=hA.size
   simp at hsl
   have e16:A0.tmps[16]?.getD undef=.pointer (some ⟨g,0,none⟩):=FreeD.slot_is (hA.val 6 _ rfl (hr ⟨6,.data⟩ (by simp) rfl))
   simp [go_sem,e16]
   refine (OP.out W (hB.later hA.c.b) (ht.later hA.c.b)).mono ?_
   rintro e' w' ⟨rfl,hb⟩
   exact hK _ _ (hA.c.step 7 17 _ (by omega) (by omega) hb) rfl (fun j u _ _ hu=>FreeD.wl_any hu)
  ·intro listed A0 W hA hno hr K' hK
   have hsl:=hA.size
   simp at hsl
   have e15:A0.tmps[15]?.getD undef=.agg #[.int .i64 (t.sg),.int .i64 (t.st),.slice A m p,.slice B k1 q,.slice C n r1]:=FreeD.slot_is (hA.val 5 _ rfl (hr ⟨5,.data⟩ (by simp) rfl))
   have e17:A0.tmps[17]?.getD undef=.int .i64 (sg1):=FreeD.slot_is (hA.val 7 _ rfl (hr ⟨7,.data⟩ (by simp) rfl))
   simp [go_sem,e15,e17]
   refine (Tb.rlen_is t.sg t.st A m p B k1 q C n r1 t.o t.l t.f sg1 so1 W (ht.later hA.c.b) hml hlo HL.out).mono ?_
   rintro e' w' ⟨rfl,hb⟩
   exact hK _ _ (hA.c.step 8 18 _ (by omega) (by omega) hb) rfl (fun j u _ _ hu=>FreeD.wl_any hu)
  ·intro listed A0 W hA hno hr K' hK
   have hsl:=hA.size
   simp at hsl
   have e11:A0.tmps[11]?.getD undef=.int .i64 (sg1):=FreeD.slot_is (hA.val 1 _ rfl (hr ⟨1,.data⟩ (by simp) rfl))
   have e18:A0.tmps[18]?.getD undef=.int .i64 (so1):=FreeD.slot_is (hA.val 8 _ rfl (hr ⟨8,.data⟩ (by simp) rfl))
   simp [go_sem,e11,e18]
   exact hK _ _ (hA.c.step 9 19 _ (by omega) (by omega) (Below.refl _ _)) rfl (fun j u _ _ hu=>FreeD.wl_any hu)
  ·intro listed A0 W hA hno hr K' hK
   have hsl:=hA.size
   simp at hsl
   have hts:A0.tmps.size=61:=hA.slots.trans rfl
   simp [go_sem,hvL]
   exact hK _ _ (hA.c.alloc (by omega) (by omega) hno (by omega) _ rfl) trivial (fun j u _ _ hu=>FreeD.wl_any hu)
  ·intro listed A0 W hA hno hr K' hK
   have hsl:=hA.size
   simp at hsl
   have e19:A0.tmps[19]?.getD undef=.agg #[.int .i64 (sg1),.int .i64 (so1)]:=FreeD.slot_is (hA.val 9 _ rfl (hr ⟨9,.data⟩ (by simp) rfl))
   obtain ⟨b,vs,e6,hbb,hvs,hB6,_⟩:=hA.c.da (hr ⟨10,.data⟩ (by simp) rfl)
   refine wp_store_row _ (.tmp 6) (.tmp 19) rfl b #[.int .i64 sg1,.int .i64 so1] e6 (by simpa [Act.eval] using e19) _ _ hB6 info_loc hvs (loc_one _ _) ?_
   exact hK undef _ (hA.c.store (by omega) (hr ⟨10,.data⟩ (by simp) rfl) e6 hbb hB6) trivial (fun j u _ _ hu=>FreeD.wl_any hu)
 ·intro A0 W1 hA
  obtain ⟨b6,vs,s6,hb6,_,K6,hvs⟩:=hA.c.da rfl
  obtain rfl:=hvs rfl
  have hb:=hA.c.b
  have s0:A0.tmps.getD 0 undef=.pointer (some ⟨g,0,none⟩):=(hA.kept 0 (Free.not_dst (by kernel_rfl))).trans rfl
  have s3:A0.tmps.getD 3 undef=.pointer (some ⟨w.heap.size,0,none⟩):=(hA.kept 3 (Free.not_dst (by kernel_rfl))).trans rfl
  have s4:A0.tmps.getD 4 undef=.pointer (some ⟨w.heap.size+1,0,none⟩):=(hA.kept 4 (Free.not_dst (by kernel_rfl))).trans rfl
  have s5:A0.tmps.getD 5 undef=.int .i64 0:=(hA.kept 5 (Free.not_dst (by kernel_rfl))).trans rfl
  have hsl:=hA.slots
  have hde:=hA.defers
  clear hA hvs
  obtain ⟨tm,de⟩:=A0
  simp only at s0 s3 s4 s5 s6 hsl hde
  obtain ⟨y,hy,ee⟩:=arrF61 hsl
  have t0:=(hy 0).symm.trans s0
  have t3:=(hy 3).symm.trans s3
  have t4:=(hy 4).symm.trans s4
  have t5:=(hy 5).symm.trans s5
  have t6:=(hy 6).symm.trans s6
  rw [t0,t3,t4,t5,t6] at ee
  clear hy s0 s3 s4 s5 s6 hsl t0 t3 t4 t5 t6
  subst ee hde
  have hsz6:w.heap.size+1<b6:=by have:=K4.lt; omega
  have hgl:g<w.heap.size:=HGL.out
  replace hB:=hB.later hb
  replace K3:=K3.later hb
  replace K4:=K4.later hb
  have BW:=NewC.geTrans B0 hb
  clear hb6 hb B0 ht h1
  have c6:W1.cell? ⟨g,6,none⟩=some (.int .u64 ls):=hB.cell 6
  have x0:W1.cell? ⟨w.heap.size,0,none⟩=some (.int .u64 l0):=K3.cell 0
  have y0:=K3.frozen 0
  go_upto_region 3 with fail
  clear c6 x0 y0
  replace hB:=Tb.blk_far (i:=0) (u:=.int .u64 ls) hB (show g≠w.heap.size by omega)
  replace K4:=Tb.blk_far (i:=0) (u:=.int .u64 ls) K4 (show w.heap.size+1≠w.heap.size by omega)
  have K6:=Tb.blk_far (i:=0) (u:=.int .u64 ls) K6 (show b6≠w.heap.size by omega)
  have K3b:Tb.Blk (W1.setCell ⟨w.heap.size,0,none⟩ (.int .u64 ls)) w.heap.size 70 #[.int .u64 ls,.int .u32 e0,.int .i64 K,.int .u64 V,.int .u64 D,.string I,.string X]:=K3.set_ 0 _
  replace BW:=Below.setCell (p:=⟨w.heap.size,0,none⟩) BW (Nat.le_refl _) (.int .u64 ls)
  clear K3
  generalize W1.setCell ⟨w.heap.size,0,none⟩ (.int .u64 ls)=W2 at *
  have c7:W2.cell? ⟨g,7,none⟩=some (.int .u32 ep):=hB.cell 7
  have x1:W2.cell? ⟨w.heap.size,1,none⟩=some (.int .u32 e0):=K3b.cell 1
  have y1:=K3b.frozen 1
  go_upto_region 4 with fail
  clear c7 x1 y1
  replace hB:=Tb.blk_far (i:=1) (u:=.int .u32 ep) hB (show g≠w.heap.size by omega)
  replace K4:=Tb.blk_far (i:=1) (u:=.int .u32 ep) K4 (show w.heap.size+1≠w.heap.size by omega)
  replace K6:=Tb.blk_far (i:=1) (u:=.int .u32 ep) K6 (show b6≠w.heap.size by omega)
  have K3:Tb.Blk (W2.setCell ⟨w.heap.size,1,none⟩ (.int .u32 ep)) w.heap.size 70 #[.int .u64 ls,.int .u32 ep,.int .i64 K,.int .u64 V,.int .u64 D,.string I,.string X]:=K3b.set_ 1 _
  replace BW:=Below.setCell (p:=⟨w.heap.size,1,none⟩) BW (Nat.le_refl _) (.int .u32 ep)
  clear K3b
  generalize W2.setCell ⟨w.heap.size,1,none⟩ (.int .u32 ep)=W3 at *
  go_wp2_with (with_reducible refine load_rr rfl (.tmp 3) rfl w.heap.size rfl K3 ?_)
  refine (Rc.R6.encode_yes ls ep K V D I X S _ hfit hR hS).mono ?_
  rintro e' W4 ⟨rfl,hb⟩
  replace hB:=hB.later hb
  replace K4:=K4.later hb
  replace K6:=K6.later hb
  replace BW:=NewC.geTrans BW hb
  have h4:=HH.out.later BW
  clear hb K3
  have HSC:Hid (∀ W,Calls Tryz.prog 105 #[.int .i64 t.st,.agg #[.int .i64 sg1,.int .i64 so1]] W fun e w'=>e=.returned (.int .i64 i0)∧Below W.heap.size W w'):=Lib.hid (fun W=>by rw [← H3]; exact Tb.rsector_any t.st sg1 so1 W)
  have hx4:Dk.Sep W0 W4 (items++[locI [((w.heap.size+1),67,#[.int .i64 0,.int .i64 0]),(b6,67,#[.int .i64 sg1,.int .i64 so1])]]):=loc_new HH.out BW (fun x hx=>by
   rcases List.mem_cons.1 hx with rfl|hx
   ·exact K4
   ·rcases List.mem_cons.1 hx with rfl|hx
    ·exact K6
    ·cases hx) (fun x hx=>by
   rcases List.mem_cons.1 hx with rfl|hx
   ·exact Nat.le_succ _
   ·rcases List.mem_cons.1 hx with rfl|hx
    ·show w.heap.size≤b6; omega
    ·cases hx)
  have hkx:(items++[locI [((w.heap.size+1),67,#[.int .i64 0,.int .i64 0]),(b6,67,#[.int .i64 sg1,.int .i64 so1])]])[k]? = some (Dk.refI r s):=app_at hk
  have hjx:(items++[locI [((w.heap.size+1),67,#[.int .i64 0,.int .i64 0]),(b6,67,#[.int .i64 sg1,.int .i64 so1])]])[j]? = some (logI 121 g r t ls ep gn):=app_at hj
  go_wp2_with fail
  by_cases hd:s.dead
  ·have EE:=Lib.hid (HWS.out.trans (if_pos hd))
   refine FreeD.wp_freeD (FreeD.wl [some (.pointer (some ⟨g,0,none⟩)),some (.pointer (some ⟨g,0,none⟩)),some (.pointer (some ⟨g,0,none⟩)),some (.pointer (some ⟨r,0,none⟩)),some (.pointer (some ⟨g,0,none⟩)),some (.pointer (some ⟨g,0,none⟩)),some (.pointer (some ⟨g,1,none⟩)),some (.pointer (some ⟨g,2,none⟩)),some (.int .i64 (t.st)),some (.agg #[.int .i64 (sg1),.int .i64 (so1)]),some (.int .i64 (i0)),some (.string S),some (.int .i64 9),some (.int .i64 9)]) (FreeD.Last W4 12 (fun W2=>Dk.Sep W0 W2 (items++[locI [((w.heap.size+1),67,#[.int .i64 0,.int .i64 0]),(b6,67,#[.int .i64 sg1,.int .i64 so1])]]))) (by kernel_rfl) (by kernel_rfl) (FreeD.Last.start _ _ _ _ _) ?_ ?_
   ·refine ⟨?_,?_,?_,?_,?_,?_,?_,?_,?_,?_,?_,?_,?_,?_,trivial⟩
    ·intro listed A0 W hA hD hno hr K' hK
     have hsl:=hA.size
     simp at hsl
     have e0:A0.tmps[0]?.getD undef=.pointer (some ⟨g,0,none⟩):=FreeD.slot_is ((hA.kept 0 (Free.not_dst (by kernel_rfl))).trans rfl)
     have hx:listed.getD 12 false=false:=hD.not_yet (i:=0) (f:=12) (by kernel_rfl) (FreeD.not_listed (by omega) hno)
     simp [go_sem,e0]
     exact hK _ _ (hA.c.step (by omega) hx (Below.refl _ _)) rfl (fun j u _ _ hu=>FreeD.wl_any hu)
    ·intro listed A0 W hA hD hno hr K' hK
     have hsl:=hA.size
     simp at hsl
     have e35:A0.tmps[35]?.getD undef=.pointer (some ⟨g,0,none⟩):=FreeD.slot_is (hA.val 0 _ rfl (hr ⟨0,.data⟩ (by simp) rfl))
     have hx:listed.getD 12 false=false:=hD.not_yet (i:=1) (f:=12) (by kernel_rfl) (FreeD.not_listed (by omega) hno)
     simp [go_sem,e35]
     exact hK _ _ (hA.c.step (by omega) hx (Below.refl _ _)) rfl (fun j u _ _ hu=>FreeD.wl_any hu)
    ·intro listed A0 W hA hD hno hr K' hK
     have hsl:=hA.size
     simp at hsl
     have e36:A0.tmps[36]?.getD undef=.pointer (some ⟨g,0,none⟩):=FreeD.slot_is (hA.val 1 _ rfl (hr ⟨1,.data⟩ (by simp) rfl))
     have hx:listed.getD 12 false=false:=hD.not_yet (i:=2) (f:=12) (by kernel_rfl) (FreeD.not_listed (by omega) hno)
     simp [go_sem,e36]
     exact hK _ _ (hA.c.step (by omega) hx (Below.refl _ _)) rfl (fun j u _ _ hu=>FreeD.wl_any hu)
    ·intro listed A0 W hA hD hno hr K' hK
     have hsl:=hA.size
     simp at hsl
     have e37:A0.tmps[37]?.getD undef=.pointer (some ⟨g,0,none⟩):=FreeD.slot_is (hA.val 2 _ rfl (hr ⟨2,.data⟩ (by simp) rfl))
     have hx:listed.getD 12 false=false:=hD.not_yet (i:=3) (f:=12) (by kernel_rfl) (FreeD.not_listed (by omega) hno)
     have f0:W.cell? ⟨g,0,none⟩=some (.pointer (some ⟨r,0,none⟩)):=(hB.later (hA.c.bef hx)).cell 0
     simp [go_sem,e37,f0]
     exact hK _ _ (hA.c.step (by omega) hx (Below.refl _ _)) rfl (fun j u _ _ hu=>FreeD.wl_any hu)
    ·intro listed A0 W hA hD hno hr K' hK
     have hsl:=hA.size
     simp at hsl
     have e0:A0.tmps[0]?.getD undef=.pointer (some ⟨g,0,none⟩):=FreeD.slot_is ((hA.kept 0 (Free.not_dst (by kernel_rfl))).trans rfl)
     have hx:listed.getD 12 false=false:=hD.not_yet (i:=4) (f:=12) (by kernel_rfl) (FreeD.not_listed (by omega) hno)
     simp [go_sem,e0]
     exact hK _ _ (hA.c.step (by omega) hx (Below.refl _ _)) rfl (fun j u _ _ hu=>FreeD.wl_any hu)
    ·intro listed A0 W hA hD hno hr K' hK
     have hsl:=hA.size
     simp at hsl
     have e39:A0.tmps[39]?.getD undef=.pointer (some ⟨g,0,none⟩):=FreeD.slot_is (hA.val 4 _ rfl (hr ⟨4,.data⟩ (by simp) rfl))
     have hx:listed.getD 12 false=false:=hD.not_yet (i:=5) (f:=12) (by kernel_rfl) (FreeD.not_listed (by omega) hno)
     simp [go_sem,e39]
     exact hK _ _ (hA.c.step (by omega) hx (Below.refl _ _)) rfl (fun j u _ _ hu=>FreeD.wl_any hu)
    ·intro listed A0 W hA hD hno hr K' hK
     have hsl:=hA.size
     simp at hsl
     have e40:A0.tmps[40]?.getD undef=.pointer (some ⟨g,0,none⟩):=FreeD.slot_is (hA.val 5 _ rfl (hr ⟨5,.data⟩ (by simp) rfl))
     have hx:listed.getD 12 false=false:=hD.not_yet (i:=6) (f:=12) (by kernel_rfl) (FreeD.not_listed (by omega) hno)
     simp [go_sem,e40]
     exact hK _ _ (hA.c.step (by omega) hx (Below.refl _ _)) rfl (fun j u _ _ hu=>FreeD.wl_any hu)
    ·intro listed A0 W hA hD hno hr K' hK
     have hsl:=hA.size
     simp at hsl
     have e41:A0.tmps[41]?.getD undef=.pointer (some ⟨g,1,none⟩):=FreeD.slot_is (hA.val 6 _ rfl (hr ⟨6,.data⟩ (by simp) rfl))
     have hx:listed.getD 12 false=false:=hD.not_yet (i:=7) (f:=12) (by kernel_rfl) (FreeD.not_listed (by omega) hno)
     simp [go_sem,e41]
     exact hK _ _ (hA.c.step (by omega) hx (Below.refl _ _)) rfl (fun j u _ _ hu=>FreeD.wl_any hu)
    ·intro listed A0 W hA hD hno hr K' hK
     have hsl:=hA.size
     simp at hsl
     have e42:A0.tmps[42]?.getD undef=.pointer (some ⟨g,2,none⟩):=FreeD.slot_is (hA.val 7 _ rfl (hr ⟨7,.data⟩ (by simp) rfl))
     have hx:listed.getD 12 false=false:=hD.not_yet (i:=8) (f:=12) (by kernel_rfl) (FreeD.not_listed (by omega) hno)
     have f0:W.cell? ⟨g,2,none⟩=some (.int .i64 (t.st)):=(hB.later (hA.c.bef hx)).cell 2
     simp [go_sem,e42,f0]
     exact hK _ _ (hA.c.step (by omega) hx (Below.refl _ _)) rfl (fun j u _ _ hu=>FreeD.wl_any hu)
    ·intro listed A0 W hA hD hno hr K' hK
     have hsl:=hA.size
     simp at hsl
     have e6:A0.tmps[6]?.getD undef=.pointer (some ⟨b6,0,none⟩):=FreeD.slot_is ((hA.kept 6 (Free.not_dst (by kernel_rfl))).trans rfl)
     have hx:listed.getD 12 false=false:=hD.not_yet (i:=9) (f:=12) (by kernel_rfl) (FreeD.not_listed (by omega) hno)
     have f0:W.cell? ⟨b6,0,none⟩=some (.int .i64 (sg1)):=(K6.later (hA.c.bef hx)).cell 0
     have f1:W.cell? ⟨b6,1,none⟩=some (.int .i64 (so1)):=(K6.later (hA.c.bef hx)).cell 1
     simp [go_sem,e6,f0,f1]
     exact hK _ _ (hA.c.step (by omega) hx (Below.refl _ _)) rfl (fun j u _ _ hu=>FreeD.wl_any hu)
    ·intro listed A0 W hA hD hno hr K' hK
     have hsl:=hA.size
     simp at hsl
     have e43:A0.tmps[43]?.getD undef=.int .i64 (t.st):=FreeD.slot_is (hA.val 8 _ rfl (hr ⟨8,.data⟩ (by simp) rfl))
     have e44:A0.tmps[44]?.getD undef=.agg #[.int .i64 (sg1),.int .i64 (so1)]:=FreeD.slot_is (hA.val 9 _ rfl (hr ⟨9,.data⟩ (by simp) rfl))
     have hx:listed.getD 12 false=false:=hD.not_yet (i:=10) (f:=12) (by kernel_rfl) (FreeD.not_listed (by omega) hno)
     simp [go_sem,e43,e44]
     refine (HSC.out W).mono ?_
     rintro e' w' ⟨rfl,hb⟩
     exact hK _ _ (hA.c.step (by omega) hx hb) rfl (fun j u _ _ hu=>FreeD.wl_any hu)
    ·intro listed A0 W hA hD hno hr K' hK
     have hsl:=hA.size
     simp at hsl
     have e7:A0.tmps[7]?.getD undef=.string S:=FreeD.slot_is ((hA.kept 7 (Free.not_dst (by kernel_rfl))).trans rfl)
     have hx:listed.getD 12 false=false:=hD.not_yet (i:=11) (f:=12) (by kernel_rfl) (FreeD.not_listed (by omega) hno)
     simp [go_sem,e7]
     exact hK _ _ (hA.c.step (by omega) hx (Below.refl _ _)) rfl (fun j u _ _ hu=>FreeD.wl_any hu)
    ·intro listed A0 W hA hD hno hr K' hK
     have hsl:=hA.size
     simp at hsl
     have e38:A0.tmps[38]?.getD undef=.pointer (some ⟨r,0,none⟩):=FreeD.slot_is (hA.val 3 _ rfl (hr ⟨3,.data⟩ (by simp) rfl))
     have e45:A0.tmps[45]?.getD undef=.int .i64 (i0):=FreeD.slot_is (hA.val 10 _ rfl (hr ⟨10,.data⟩ (by simp) rfl))
     have e46:A0.tmps[46]?.getD undef=.string S:=FreeD.slot_is (hA.val 11 _ rfl (hr ⟨11,.data⟩ (by simp) rfl))
     have hx:listed.getD 12 false=false:=FreeD.not_listed (by omega) hno
     have hw:=hA.c.bef hx
     simp [go_sem,e38,e45,e46]
     refine (Dk.rwrite_dead_s (hx4.later hw) hkx i0 S hhas HS hd).mono ?_
     rintro e' w' ⟨rfl,rfl⟩
     exact hK _ _ (FreeD.Last.last (by omega) (hx4.later hw)) rfl (fun j u _ _ hu=>FreeD.wl_any hu)
    ·intro listed A0 W hA hD hno hr K' hK
     have hsl:=hA.size
     simp at hsl
     have e47:A0.tmps[47]?.getD undef=.int .i64 9:=FreeD.slot_is (hA.val 12 _ rfl (hr ⟨12,.data⟩ (by simp) rfl))
     simp [go_sem,e47]
     exact hK _ _ (hA.c.still (by omega)) rfl (fun j u _ _ hu=>FreeD.wl_any hu)
   ·intro A0 W5 hA
    have h5:=hA.c.aft rfl
    have hll:=loc_at h5 (app_last)
    have K4' : Tb.Blk W5 (w.heap.size+1) 67 #[.int .i64 0,.int .i64 0]:=hll _ (List.mem_cons_self ..)
    have K6' : Tb.Blk W5 b6 67 #[.int .i64 sg1,.int .i64 so1]:=hll _ (List.mem_cons_of_mem _ (List.mem_cons_self ..))
    have s0:A0.tmps.getD 0 undef=.pointer (some ⟨g,0,none⟩):=(hA.kept 0 (Free.not_dst (by kernel_rfl))).trans rfl
    have s4:A0.tmps.getD 4 undef=.pointer (some ⟨w.heap.size+1,0,none⟩):=(hA.kept 4 (Free.not_dst (by kernel_rfl))).trans rfl
    have s5:A0.tmps.getD 5 undef=.int .i64 0:=(hA.kept 5 (Free.not_dst (by kernel_rfl))).trans rfl
    have s6:A0.tmps.getD 6 undef=.pointer (some ⟨b6,0,none⟩):=(hA.kept 6 (Free.not_dst (by kernel_rfl))).trans rfl
    have s9:A0.tmps.getD 9 undef=.int .i64 9:=hA.val 13 _ rfl rfl
    have hsl:=hA.slots
    have hde:=hA.defers
    clear hA K4 K6 hB
    obtain ⟨tm,de⟩:=A0
    simp only at s0 s4 s5 s6 s9 hsl hde
    obtain ⟨y,hy,ee⟩:=arrF61 hsl
    have t0:=(hy 0).symm.trans s0
    have t4:=(hy 4).symm.trans s4
    have t5:=(hy 5).symm.trans s5
    have t6:=(hy 6).symm.trans s6
    have t9:=(hy 9).symm.trans s9
    rw [t0,t4,t5,t6,t9] at ee
    clear hy s0 s4 s5 s6 s9 hsl t0 t4 t5 t6 t9
    subst ee hde
    go_wp2_with (with_reducible refine store_loc rfl (.tmp 4) (.tmp 50) rfl (w.heap.size+1) rfl rfl K4' ?_)
    exact bodyPost_ret (res_loc rfl _ _ (w.heap.size+1) rfl rfl (K4'.row _)) rfl ⟨by rw [EE.out]; rfl,by
     rw [EE.out,keep2 hk hj]
     exact loc_drop (a:=locI [((w.heap.size+1),67,#[.int .i64 0,.int .i64 0])]) (by
      have h6:=loc_row (l':=[((w.heap.size+1),67,#[.int .i64 0,.int .i64 0])]) h5 app_last (w.heap.size+1) ⟨_,List.mem_cons_self ..,rfl⟩ #[.int .i64 0,.int .i64 0] (fun x hx=>by
       rcases List.mem_cons.1 hx with rfl|hx
       ·exact K4'.row _
       ·cases hx) (fun x hx=>⟨_,List.mem_cons_self ..,by rcases List.mem_cons.1 hx with rfl|hx; rfl; cases hx⟩)
      rw [app_set_last] at h6
      exact h6)⟩
  ·have EE:=Lib.hid (HWS.out.trans (if_neg hd))
   refine FreeD.wp_freeD (FreeD.wl [some (.pointer (some ⟨g,0,none⟩)),some (.pointer (some ⟨g,0,none⟩)),some (.pointer (some ⟨g,0,none⟩)),some (.pointer (some ⟨r,0,none⟩)),some (.pointer (some ⟨g,0,none⟩)),some (.pointer (some ⟨g,0,none⟩)),some (.pointer (some ⟨g,1,none⟩)),some (.pointer (some ⟨g,2,none⟩)),some (.int .i64 (t.st)),some (.agg #[.int .i64 (sg1),.int .i64 (so1)]),some (.int .i64 (i0)),some (.string S),some (.int .i64 0),some (.int .i64 0)]) (FreeD.Last W4 12 (fun W2=>Dk.Sep W0 W2 ((items++[locI [((w.heap.size+1),67,#[.int .i64 0,.int .i64 0]),(b6,67,#[.int .i64 sg1,.int .i64 so1])]]).set k (Dk.refI r (s.write i0 S))))) (by kernel_rfl) (by kernel_rfl) (FreeD.Last.start _ _ _ _ _) ?_ ?_
   ·refine ⟨?_,?_,?_,?_,?_,?_,?_,?_,?_,?_,?_,?_,?_,?_,trivial⟩
    ·intro listed A0 W hA hD hno hr K' hK
     have hsl:=hA.size
     simp at hsl
     have e0:A0.tmps[0]?.getD undef=.pointer (some ⟨g,0,none⟩):=FreeD.slot_is ((hA.kept 0 (Free.not_dst (by kernel_rfl))).trans rfl)
     have hx:listed.getD 12 false=false:=hD.not_yet (i:=0) (f:=12) (by kernel_rfl) (FreeD.not_listed (by omega) hno)
     simp [go_sem,e0]
     exact hK _ _ (hA.c.step (by omega) hx (Below.refl _ _)) rfl (fun j u _ _ hu=>FreeD.wl_any hu)
    ·intro listed A0 W hA hD hno hr K' hK
     have hsl:=hA.size
     simp at hsl
     have e35:A0.tmps[35]?.getD undef=.pointer (some ⟨g,0,none⟩):=FreeD.slot_is (hA.val 0 _ rfl (hr ⟨0,.data⟩ (by simp) rfl))
     have hx:listed.getD 12 false=false:=hD.not_yet (i:=1) (f:=12) (by kernel_rfl) (FreeD.not_listed (by omega) hno)
     simp [go_sem,e35]
     exact hK _ _ (hA.c.step (by omega) hx (Below.refl _ _)) rfl (fun j u _ _ hu=>FreeD.wl_any hu)
    ·intro listed A0 W hA hD hno hr K' hK
     have hsl:=hA.size
     simp at hsl
     have e36:A0.tmps[36]?.getD undef=.pointer (some ⟨g,0,none⟩):=FreeD.slot_is (hA.val 1 _ rfl (hr ⟨1,.data⟩ (by simp) rfl))
     have hx:listed.getD 12 false=false:=hD.not_yet (i:=2) (f:=12) (by kernel_rfl) (FreeD.not_listed (by omega) hno)
     simp [go_sem,e36]
     exact hK _ _ (hA.c.step (by omega) hx (Below.refl _ _)) rfl (fun j u _ _ hu=>FreeD.wl_any hu)
    ·intro listed A0 W hA hD hno hr K' hK
     have hsl:=hA.size
     simp at hsl
     have e37:A0.tmps[37]?.getD undef=.pointer (some ⟨g,0,none⟩):=FreeD.slot_is (hA.val 2 _ rfl (hr ⟨2,.data⟩ (by simp) rfl))
     have hx:listed.getD 12 false=false:=hD.not_yet (i:=3) (f:=12) (by kernel_rfl) (FreeD.not_listed (by omega) hno)
     have f0:W.cell? ⟨g,0,none⟩=some (.pointer (some ⟨r,0,none⟩)):=(hB.later (hA.c.bef hx)).cell 0
     simp [go_sem,e37,f0]
     exact hK _ _ (hA.c.step (by omega) hx (Below.refl _ _)) rfl (fun j u _ _ hu=>FreeD.wl_any hu)
    ·intro listed A0 W hA hD hno hr K' hK
     have hsl:=hA.size
     simp at hsl
     have e0:A0.tmps[0]?.getD undef=.pointer (some ⟨g,0,none⟩):=FreeD.slot_is ((hA.kept 0 (Free.not_dst (by kernel_rfl))).trans rfl)
     have hx:listed.getD 12 false=false:=hD.not_yet (i:=4) (f:=12) (by kernel_rfl) (FreeD.not_listed (by omega) hno)
     simp [go_sem,e0]
     exact hK _ _ (hA.c.step (by omega) hx (Below.refl _ _)) rfl (fun j u _ _ hu=>FreeD.wl_any hu)
    ·intro listed A0 W hA hD hno hr K' hK
     have hsl:=hA.size
     simp at hsl
     have e39:A0.tmps[39]?.getD undef=.pointer (some ⟨g,0,none⟩):=FreeD.slot_is (hA.val 4 _ rfl (hr ⟨4,.data⟩ (by simp) rfl))
     have hx:listed.getD 12 false=false:=hD.not_yet (i:=5) (f:=12) (by kernel_rfl) (FreeD.not_listed (by omega) hno)
     simp [go_sem,e39]
     exact hK _ _ (hA.c.step (by omega) hx (Below.refl _ _)) rfl (fun j u _ _ hu=>FreeD.wl_any hu)
    ·intro listed A0 W hA hD hno hr K' hK
     have hsl:=hA.size
     simp at hsl
     have e40:A0.tmps[40]?.getD undef=.pointer (some ⟨g,0,none⟩):=FreeD.slot_is (hA.val 5 _ rfl (hr ⟨5,.data⟩ (by simp) rfl))
     have hx:listed.getD 12 false=false:=hD.not_yet (i:=6) (f:=12) (by kernel_rfl) (FreeD.not_listed (by omega) hno)
     simp [go_sem,e40]
     exact hK _ _ (hA.c.step (by omega) hx (Below.refl _ _)) rfl (fun j u _ _ hu=>FreeD.wl_any hu)
    ·intro listed A0 W hA hD hno hr K' hK
     have hsl:=hA.size
     simp at hsl
     have e41:A0.tmps[41]?.getD undef=.pointer (some ⟨g,1,none⟩):=FreeD.slot_is (hA.val 6 _ rfl (hr ⟨6,.data⟩ (by simp) rfl))
     have hx:listed.getD 12 false=false:=hD.not_yet (i:=7) (f:=12) (by kernel_rfl) (FreeD.not_listed (by omega) hno)
     simp [go_sem,e41]
     exact hK _ _ (hA.c.step (by omega) hx (Below.refl _ _)) rfl (fun j u _ _ hu=>FreeD.wl_any hu)
    ·intro listed A0 W hA hD hno hr K' hK
     have hsl:=hA.size
     simp at hsl
     have e42:A0.tmps[42]?.getD undef=.pointer (some ⟨g,2,none⟩):=FreeD.slot_is (hA.val 7 _ rfl (hr ⟨7,.data⟩ (by simp) rfl))
     have hx:listed.getD 12 false=false:=hD.not_yet (i:=8) (f:=12) (by kernel_rfl) (FreeD.not_listed (by omega) hno)
     have f0:W.cell? ⟨g,2,none⟩=some (.int .i64 (t.st)):=(hB.later (hA.c.bef hx)).cell 2
     simp [go_sem,e42,f0]
     exact hK _ _ (hA.c.step (by omega) hx (Below.refl _ _)) rfl (fun j u _ _ hu=>FreeD.wl_any hu)
    ·intro listed A0 W hA hD hno hr K' hK
     have hsl:=hA.size
     simp at hsl
     have e6:A0.tmps[6]?.getD undef=.pointer (some ⟨b6,0,none⟩):=FreeD.slot_is ((hA.kept 6 (Free.not_dst (by kernel_rfl))).trans rfl)
     have hx:listed.getD 12 false=false:=hD.not_yet (i:=9) (f:=12) (by kernel_rfl) (FreeD.not_listed (by omega) hno)
     have f0:W.cell? ⟨b6,0,none⟩=some (.int .i64 (sg1)):=(K6.later (hA.c.bef hx)).cell 0
     have f1:W.cell? ⟨b6,1,none⟩=some (.int .i64 (so1)):=(K6.later (hA.c.bef hx)).cell 1
     simp [go_sem,e6,f0,f1]
     exact hK _ _ (hA.c.step (by omega) hx (Below.refl _ _)) rfl (fun j u _ _ hu=>FreeD.wl_any hu)
    ·intro listed A0 W hA hD hno hr K' hK
     have hsl:=hA.size
     simp at hsl
     have e43:A0.tmps[43]?.getD undef=.int .i64 (t.st):=FreeD.slot_is (hA.val 8 _ rfl (hr ⟨8,.data⟩ (by simp) rfl))
     have e44:A0.tmps[44]?.getD undef=.agg #[.int .i64 (sg1),.int .i64 (so1)]:=FreeD.slot_is (hA.val 9 _ rfl (hr ⟨9,.data⟩ (by simp) rfl))
     have hx:listed.getD 12 false=false:=hD.not_yet (i:=10) (f:=12) (by kernel_rfl) (FreeD.not_listed (by omega) hno)
     simp [go_sem,e43,e44]
     refine (HSC.out W).mono ?_
     rintro e' w' ⟨rfl,hb⟩
     exact hK _ _ (hA.c.step (by omega) hx hb) rfl (fun j u _ _ hu=>FreeD.wl_any hu)
    ·intro listed A0 W hA hD hno hr K' hK
     have hsl:=hA.size
     simp at hsl
     have e7:A0.tmps[7]?.getD undef=.string S:=FreeD.slot_is ((hA.kept 7 (Free.not_dst (by kernel_rfl))).trans rfl)
     have hx:listed.getD 12 false=false:=hD.not_yet (i:=11) (f:=12) (by kernel_rfl) (FreeD.not_listed (by omega) hno)
     simp [go_sem,e7]
     exact hK _ _ (hA.c.step (by omega) hx (Below.refl _ _)) rfl (fun j u _ _ hu=>FreeD.wl_any hu)
    ·intro listed A0 W hA hD hno hr K' hK
     have hsl:=hA.size
     simp at hsl
     have e38:A0.tmps[38]?.getD undef=.pointer (some ⟨r,0,none⟩):=FreeD.slot_is (hA.val 3 _ rfl (hr ⟨3,.data⟩ (by simp) rfl))
     have e45:A0.tmps[45]?.getD undef=.int .i64 (i0):=FreeD.slot_is (hA.val 10 _ rfl (hr ⟨10,.data⟩ (by simp) rfl))
     have e46:A0.tmps[46]?.getD undef=.string S:=FreeD.slot_is (hA.val 11 _ rfl (hr ⟨11,.data⟩ (by simp) rfl))
     have hx:listed.getD 12 false=false:=FreeD.not_listed (by omega) hno
     have hw:=hA.c.bef hx
     simp [go_sem,e38,e45,e46]
     refine (Dk.rwrite_s (hx4.later hw) hkx i0 S hhas HS hd hpl).mono ?_
     rintro e' w' ⟨rfl,h5⟩
     exact hK _ _ (FreeD.Last.last (by omega) h5) rfl (fun j u _ _ hu=>FreeD.wl_any hu)
    ·intro listed A0 W hA hD hno hr K' hK
     have hsl:=hA.size
     simp at hsl
     have e47:A0.tmps[47]?.getD undef=.int .i64 0:=FreeD.slot_is (hA.val 12 _ rfl (hr ⟨12,.data⟩ (by simp) rfl))
     simp [go_sem,e47]
     exact hK _ _ (hA.c.still (by omega)) rfl (fun j u _ _ hu=>FreeD.wl_any hu)
   ·intro A0 W5 hA
    have h5:=hA.c.aft rfl
    have hll:=loc_at h5 ((get_set app_last (Nat.ne_of_lt (List.getElem?_eq_some_iff.1 hk).1)))
    have K4' : Tb.Blk W5 (w.heap.size+1) 67 #[.int .i64 0,.int .i64 0]:=hll _ (List.mem_cons_self ..)
    have K6' : Tb.Blk W5 b6 67 #[.int .i64 sg1,.int .i64 so1]:=hll _ (List.mem_cons_of_mem _ (List.mem_cons_self ..))
    have s0:A0.tmps.getD 0 undef=.pointer (some ⟨g,0,none⟩):=(hA.kept 0 (Free.not_dst (by kernel_rfl))).trans rfl
    have s4:A0.tmps.getD 4 undef=.pointer (some ⟨w.heap.size+1,0,none⟩):=(hA.kept 4 (Free.not_dst (by kernel_rfl))).trans rfl
    have s5:A0.tmps.getD 5 undef=.int .i64 0:=(hA.kept 5 (Free.not_dst (by kernel_rfl))).trans rfl
    have s6:A0.tmps.getD 6 undef=.pointer (some ⟨b6,0,none⟩):=(hA.kept 6 (Free.not_dst (by kernel_rfl))).trans rfl
    have s9:A0.tmps.getD 9 undef=.int .i64 0:=hA.val 13 _ rfl rfl
    have hsl:=hA.slots
    have hde:=hA.defers
    clear hA K4 K6 hB
    obtain ⟨tm,de⟩:=A0
    simp only at s0 s4 s5 s6 s9 hsl hde
    obtain ⟨y,hy,ee⟩:=arrF61 hsl
    have t0:=(hy 0).symm.trans s0
    have t4:=(hy 4).symm.trans s4
    have t5:=(hy 5).symm.trans s5
    have t6:=(hy 6).symm.trans s6
    have t9:=(hy 9).symm.trans s9
    rw [t0,t4,t5,t6,t9] at ee
    clear hy s0 s4 s5 s6 s9 hsl t0 t4 t5 t6 t9
    subst ee hde
    have hj5:=get_set (x:=Dk.refI r (s.write i0 S)) hjx hkj
    obtain ⟨A5,m5,p5,B5,k5,q5,C5,n5,r5,hB5,_⟩:=log_at h5 hj5
    have c6:W5.cell? ⟨g,6,none⟩=some (.int .u64 ls):=hB5.cell 6
    have f6:=hB5.frozen 6
    obtain ⟨L1,EL⟩:∃ x,IntKind.u64.wrap (ls+1)=x:=⟨_,rfl⟩
    have HL1:Hid (ls+1=L1):=Lib.hid (by rw [← EL,IntKind.wrap_u64]; omega)
    have h6:=log_lsn h5 hj5 L1
    replace K4':=Tb.blk_far (i:=6) (u:=.int .u64 L1) K4' (show (w.heap.size+1)≠g by omega)
    replace K6':=Tb.blk_far (i:=6) (u:=.int .u64 L1) K6' (show b6≠g by omega)
    go_upto_region 9 with fail
    clear c6 f6 h5 hB5
    generalize W5.setCell ⟨g,6,none⟩ (.int .u64 L1)=W6 at *
    go_wp2_with (first
     | (with_reducible refine load_loc rfl (.tmp 6) rfl b6 rfl K6' ?_)
     | (with_reducible refine store_loc rfl (.tmp 4) (.tmp 60) rfl (w.heap.size+1) rfl rfl K4' ?_))
    exact bodyPost_ret (res_loc rfl _ _ (w.heap.size+1) rfl rfl (K4'.row _)) rfl ⟨by rw [EE.out]; rfl,by
     rw [EE.out]
     show Dk.Sep W0 (W6.setRow (w.heap.size+1) #[.int .i64 sg1,.int .i64 so1]) ((items.set k (Dk.refI r (s.write i0 S))).set j (logI 121 g r t (ls+1) ep gn))
     rw [HL1.out]
     rw [app_set hk,app_set (get_set hj hkj)] at h6
     exact loc_drop (a:=locI [((w.heap.size+1),67,#[.int .i64 sg1,.int .i64 so1])]) (by
      have h7:=loc_row (l':=[((w.heap.size+1),67,#[.int .i64 sg1,.int .i64 so1])]) h6 app_last (w.heap.size+1) ⟨_,List.mem_cons_self ..,rfl⟩ #[.int .i64 sg1,.int .i64 so1] (fun x hx=>by
       rcases List.mem_cons.1 hx with rfl|hx
       ·exact K4'.row _
       ·cases hx) (fun x hx=>⟨_,List.mem_cons_self ..,by rcases List.mem_cons.1 hx with rfl|hx; rfl; cases hx⟩)
      rw [app_set_last] at h7
      exact h7)⟩
end Go.Proofs.YtdpmjlbkojhooaaGreat.Lg
