/- A part. -/
import Derived.Test.YtcnohlgigmmefaaGreatPLhC
namespace Go.Proofs.YtcnohlgigmmefaaGreat.Lg
open Go.RowKit Go.Lib
open Tb (Tab TIn Sl okP csT lastN nth Fresh)
open Dk (St Only Grew)
set_option linter.unusedVariables false
set_option maxRecDepth 100000
theorem arrF41 {cs:Array Value} (h:cs.size=41):∃ y:Nat→Value,(∀ i,cs.getD i undef=y i)∧cs=#[y 0,y 1,y 2,y 3,y 4,y 5,y 6,y 7,y 8,y 9,y 10,y 11,y 12,y 13,y 14,y 15,y 16,y 17,y 18,y 19,y 20,y 21,y 22,y 23,y 24,y 25,y 26,y 27,y 28,y 29,y 30,y 31,y 32,y 33,y 34,y 35,y 36,y 37,y 38,y 39,y 40]:=by
 refine ⟨fun i=>cs.getD i undef,fun _=>rfl,?_⟩
 have e:cs=((List.range 41).map fun i=>cs.getD i undef).toArray:=by
  apply Array.ext
  ·simp [h]
  ·intro i h1 h2
   simp [h1]
 exact e.trans rfl
set_option maxHeartbeats 16000000 in
theorem write_any {W0 w:World} {items:List Dk.Item} {k j g d:Nat} {s:St} {t:Tab} {ls ep gn:Int} {Kq:Kp} (h:Dk.Sep W0 w items) (hk:items[k]? = some (Dk.diskI d s)) (hj:items[j]? = some (logX 156 g d t ls ep gn Kq)) (hkj:k≠j) (l0 e0 K V D:Int) (I X:ByteArray)
 (hls:1≤ls∧ls+1<18446744073709551616) (hfit:Rc.Fits ⟨ls,ep,K,V,D,I.data.toList,X.data.toList⟩) (hR:Rc.okR ⟨ls,ep,K,V,D,I.data.toList,X.data.toList⟩=true) (hhas0:s.has (Tb.sectorT t.st (lastN t.o) (lastN t.l))) (hpl:s.pend.length<1048576) (S:ByteArray) (hS:Rc.secL ⟨ls,ep,K,V,D,I.data.toList,X.data.toList⟩=S.data.toList) :
 Calls Tryz.prog 134 #[.pointer (some ⟨g,0,none⟩),.agg #[.int .u64 l0,.int .u32 e0,.int .i64 K,.int .u64 V,.int .u64 D,.string I,.string X]] w fun e w' =>
  (¬ s.dead∧e=.returned (.agg #[.int .i64 (lastN t.o),.int .i64 (lastN t.l)])∧Dk.Sep W0 w' ((items.set k (Dk.diskI d (s.write (Tb.sectorT t.st (lastN t.o) (lastN t.l)) S))).set j (logX 156 g d t (ls+1) ep gn Kq))) ∨
  (s.dead∧e=.panicked (pan 9)∧Dk.Sep W0 w' items):=by
 have hmf:∀ (fn:Fn) (first cap:Array Value) (w:World),(Instr.makeFunc fn first cap).run Tryz.prog w=.ok (.func fn first cap) w:=fun _ _ _ _=>rfl
 have hvL:=Tryz.zeroValue93
 have HH:=Lib.hid h
 have HGL:Hid (g<w.heap.size):=Lib.hid (by obtain ⟨_,_,_,_,_,_,_,_,_,hB,_⟩:=x_at h hj; exact hB.lt)
 have HOK:=x_ok h hj
 have OP:Hid (∀ W {A m p B k1 q C n r1},Tb.Blk W g 156 (csL d t.sg t.st A m p B k1 q C n r1 ls ep gn)→TIn W A m B k1 C n t.o t.l t.f→Calls Tryz.prog 173 #[.pointer (some ⟨g,0,none⟩)] W fun e w'=>e=.returned (.agg #[.int .i64 (lastN t.o),.int .i64 (lastN t.l)])∧Below W.heap.size W w'):=Lib.hid (fun W _ _ _ _ _ _ _ _ _ hB ht=>end_is hB ht HOK)
 obtain ⟨sg1,H1⟩:∃ z,lastN t.o=z:=⟨_,rfl⟩
 obtain ⟨so1,H2⟩:∃ z,lastN t.l=z:=⟨_,rfl⟩
 rw [H1,H2] at hhas0 OP ⊢
 obtain ⟨i0,H3⟩:∃ z,Tb.sectorT t.st sg1 so1=z:=⟨_,rfl⟩
 rw [H3] at hhas0 ⊢
 have hhas:=hhas0
 have HPL:Hid (∀ W {A m p B k1 q C n r1},Tb.Blk W g 156 (csL d t.sg t.st A m p B k1 q C n r1 ls ep gn)→Calls Tryz.prog 146 #[.pointer (some ⟨g,0,none⟩),.agg #[.int .i64 sg1,.int .i64 so1]] W fun e w'=>e=.returned (.int .i64 i0)∧Below W.heap.size W w'):=Lib.hid (fun W _ _ _ _ _ _ _ _ _ hB=>by rw [← H3]; exact place_is hB sg1 so1)
 have HS:S.size=128:=(size_of hS).trans (Rc.secL_len hR)
 have B0:Below w.heap.size w ((w.alloc (.cells #[.int .u64 l0,.int .u32 e0,.int .i64 K,.int .u64 V,.int .u64 D,.string I,.string X] 97)).alloc (.cells #[.int .i64 0,.int .i64 0] 93)):=NewC.geTrans (NewC.below1 _ _) (NewC.below1 _ _)
 have K3:Tb.Blk ((w.alloc (.cells #[.int .u64 l0,.int .u32 e0,.int .i64 K,.int .u64 V,.int .u64 D,.string I,.string X] 97)).alloc (.cells #[.int .i64 0,.int .i64 0] 93)) w.heap.size 97 #[.int .u64 l0,.int .u32 e0,.int .i64 K,.int .u64 V,.int .u64 D,.string I,.string X]:=(Tb.Blk.new w _ _).later (NewC.below1 _ _)
 have K4:Tb.Blk ((w.alloc (.cells #[.int .u64 l0,.int .u32 e0,.int .i64 K,.int .u64 V,.int .u64 D,.string I,.string X] 97)).alloc (.cells #[.int .i64 0,.int .i64 0] 93)) (w.heap.size+1) 93 #[.int .i64 0,.int .i64 0]:=Tb.Blk.at_ _ _ _ (by simp)
 have h1:=h.later B0
 clear h H1 H2 H3 hhas0
 go_enter Tryz.func134,Tryz.ntmps134
 go_upto_region 1 with fail
 generalize ((w.alloc (.cells #[.int .u64 l0,.int .u32 e0,.int .i64 K,.int .u64 V,.int .u64 D,.string I,.string X] 97)).alloc (.cells #[.int .i64 0,.int .i64 0] 93))=w1 at *
 obtain ⟨A,m,p,B,k1,q,C,n,r1,hB,ht,_,hok⟩:=x_at h1 hj
 go_wp2_with fail
 refine (OP.out w1 hB ht).mono ?_
 rintro e' w2 ⟨rfl,hb⟩
 replace hB:=hB.later hb
 replace K3:=K3.later hb
 replace K4:=K4.later hb
 replace B0:=NewC.geTrans B0 hb
 clear hb ht h1 OP hok HOK
 have N5:Tb.Blk (w2.alloc (.cells #[.int .i64 0,.int .i64 0] 93)) w2.heap.size 93 #[.int .i64 0,.int .i64 0]:=Tb.Blk.new w2 _ _
 go_upto_region 2 with (with_reducible refine store_loc rfl (.tmp 5) (.tmp 7) rfl w2.heap.size rfl rfl N5 ?_; rw [World.setRow_alloc_new])
 have K5:Tb.Blk (w2.alloc (.cells #[.int .i64 sg1,.int .i64 so1] 93)) w2.heap.size 93 #[.int .i64 sg1,.int .i64 so1]:=Tb.Blk.new w2 _ _
 have hb:=Tb.below1 w2 (.cells #[.int .i64 sg1,.int .i64 so1] 93)
 have hsz5:w.heap.size+1<w2.heap.size:=K4.lt
 have hgl:g<w.heap.size:=HGL.out
 replace hB:=hB.later hb
 replace K3:=K3.later hb
 replace K4:=K4.later hb
 replace B0:=NewC.geTrans B0 hb
 clear hb N5 HGL
 generalize w2.alloc (.cells #[.int .i64 sg1,.int .i64 so1] 93)=w3 at *
 generalize w2.heap.size=b5 at *
 obtain ⟨b3,E3⟩:∃ b,w.heap.size=b:=⟨_,rfl⟩
 have HE3:=Lib.hid E3
 clear E3
 simp only [Act.put]
 refine FreeC.wp_freeC (FreeD.wl [some (.pointer (some ⟨g,0,none⟩)),some (.pointer (some ⟨g,0,none⟩)),some (.pointer (some ⟨g,6,none⟩)),some (.int .u64 ls),some (.pointer (some ⟨g,0,none⟩)),some (.pointer (some ⟨g,0,none⟩)),some (.pointer (some ⟨g,7,none⟩)),some (.int .u32 ep),some (.pointer (some ⟨w.heap.size,0,none⟩)),none,some (.pointer (some ⟨w.heap.size,1,none⟩)),none]) (FreeF.C w3 w.heap.size 97 9 11 (fun x y=>#[.int .u64 (if x then ls else l0),.int .u32 (if y then ep else e0),.int .i64 K,.int .u64 V,.int .u64 D,.string I,.string X])) (by kernel_rfl) (by kernel_rfl) (FreeF.C.start _ K3) ?_ ?_
 ·refine ⟨?_,?_,?_,?_,?_,?_,?_,?_,?_,?_,?_,?_,trivial⟩
  ·intro listed A0 W hA hno hr K' hK
   have hsl:=hA.size
   simp at hsl
   have e0:A0.tmps[0]?.getD undef=.pointer (some ⟨g,0,none⟩):=FreeD.slot_is ((hA.kept 0 (Free.not_dst (by kernel_rfl))).trans rfl)
   simp [go_sem,e0]
   exact hK _ _ (hA.c.still (by omega) (by omega)) rfl (fun j u _ _ hu=>FreeD.wl_any hu)
  ·intro listed A0 W hA hno hr K' hK
   have hsl:=hA.size
   simp at hsl
   have e8:A0.tmps[8]?.getD undef=.pointer (some ⟨g,0,none⟩):=FreeD.slot_is (hA.val 0 _ rfl (hr ⟨0,.data⟩ (by simp) rfl))
   simp [go_sem,e8]
   exact hK _ _ (hA.c.still (by omega) (by omega)) rfl (fun j u _ _ hu=>FreeD.wl_any hu)
  ·intro listed A0 W hA hno hr K' hK
   have hsl:=hA.size
   simp at hsl
   have e9:A0.tmps[9]?.getD undef=.pointer (some ⟨g,0,none⟩):=FreeD.slot_is (hA.val 1 _ rfl (hr ⟨1,.data⟩ (by simp) rfl))
   simp [go_sem,e9]
   exact hK _ _ (hA.c.still (by omega) (by omega)) rfl (fun j u _ _ hu=>FreeD.wl_any hu)
  ·intro listed A0 W hA hno hr K' hK
   have hsl:=hA.size
   simp at hsl
   have e10:A0.tmps[10]?.getD undef=.pointer (some ⟨g,6,none⟩):=FreeD.slot_is (hA.val 2 _ rfl (hr ⟨2,.data⟩ (by simp) rfl))
   have f0:W.cell? ⟨g,6,none⟩=some (.int .u64 ls):=(show Tb.Blk W g 156 _ from (hA.c.only.block g hB.lt (by omega)).trans hB).cell 6
   simp [go_sem,e10,f0]
   exact hK _ _ (hA.c.still (by omega) (by omega)) rfl (fun j u _ _ hu=>FreeD.wl_any hu)
  ·intro listed A0 W hA hno hr K' hK
   have hsl:=hA.size
   simp at hsl
   have e0:A0.tmps[0]?.getD undef=.pointer (some ⟨g,0,none⟩):=FreeD.slot_is ((hA.kept 0 (Free.not_dst (by kernel_rfl))).trans rfl)
   simp [go_sem,e0]
   exact hK _ _ (hA.c.still (by omega) (by omega)) rfl (fun j u _ _ hu=>FreeD.wl_any hu)
  ·intro listed A0 W hA hno hr K' hK
   have hsl:=hA.size
   simp at hsl
   have e12:A0.tmps[12]?.getD undef=.pointer (some ⟨g,0,none⟩):=FreeD.slot_is (hA.val 4 _ rfl (hr ⟨4,.data⟩ (by simp) rfl))
   simp [go_sem,e12]
   exact hK _ _ (hA.c.still (by omega) (by omega)) rfl (fun j u _ _ hu=>FreeD.wl_any hu)
  ·intro listed A0 W hA hno hr K' hK
   have hsl:=hA.size
   simp at hsl
   have e13:A0.tmps[13]?.getD undef=.pointer (some ⟨g,0,none⟩):=FreeD.slot_is (hA.val 5 _ rfl (hr ⟨5,.data⟩ (by simp) rfl))
   simp [go_sem,e13]
   exact hK _ _ (hA.c.still (by omega) (by omega)) rfl (fun j u _ _ hu=>FreeD.wl_any hu)
  ·intro listed A0 W hA hno hr K' hK
   have hsl:=hA.size
   simp at hsl
   have e14:A0.tmps[14]?.getD undef=.pointer (some ⟨g,7,none⟩):=FreeD.slot_is (hA.val 6 _ rfl (hr ⟨6,.data⟩ (by simp) rfl))
   have f0:W.cell? ⟨g,7,none⟩=some (.int .u32 ep):=(show Tb.Blk W g 156 _ from (hA.c.only.block g hB.lt (by omega)).trans hB).cell 7
   simp [go_sem,e14,f0]
   exact hK _ _ (hA.c.still (by omega) (by omega)) rfl (fun j u _ _ hu=>FreeD.wl_any hu)
  ·intro listed A0 W hA hno hr K' hK
   have hsl:=hA.size
   simp at hsl
   have e3:A0.tmps[3]?.getD undef=.pointer (some ⟨w.heap.size,0,none⟩):=FreeD.slot_is ((hA.kept 3 (Free.not_dst (by kernel_rfl))).trans rfl)
   simp [go_sem,e3]
   exact hK _ _ (hA.c.still (by omega) (by omega)) rfl (fun j u _ _ hu=>FreeD.wl_any hu)
  ·intro listed A0 W hA hno hr K' hK
   have hsl:=hA.size
   simp at hsl
   have e16:A0.tmps[16]?.getD undef=.pointer (some ⟨w.heap.size,0,none⟩):=FreeD.slot_is (hA.val 8 _ rfl (hr ⟨8,.data⟩ (by simp) rfl))
   have e11:A0.tmps[11]?.getD undef=.int .u64 ls:=FreeD.slot_is (hA.val 3 _ rfl (hr ⟨3,.data⟩ (by simp) rfl))
   obtain ⟨⟨u0,c0⟩,z0⟩:=hA.c.cell 0 (fun x y=>(by decide:0<7))
   simp [go_sem,e16,e11,c0,z0]
   exact hK undef _ (hA.c.put1 (by omega) hno (by decide) (fun y=>by cases y <;> rfl)) trivial (fun j u _ _ hu=>FreeD.wl_any hu)
  ·intro listed A0 W hA hno hr K' hK
   have hsl:=hA.size
   simp at hsl
   have e3:A0.tmps[3]?.getD undef=.pointer (some ⟨w.heap.size,0,none⟩):=FreeD.slot_is ((hA.kept 3 (Free.not_dst (by kernel_rfl))).trans rfl)
   simp [go_sem,e3]
   exact hK _ _ (hA.c.still (by omega) (by omega)) rfl (fun j u _ _ hu=>FreeD.wl_any hu)
  ·intro listed A0 W hA hno hr K' hK
   have hsl:=hA.size
   simp at hsl
   have e17:A0.tmps[17]?.getD undef=.pointer (some ⟨w.heap.size,1,none⟩):=FreeD.slot_is (hA.val 10 _ rfl (hr ⟨10,.data⟩ (by simp) rfl))
   have e15:A0.tmps[15]?.getD undef=.int .u32 ep:=FreeD.slot_is (hA.val 7 _ rfl (hr ⟨7,.data⟩ (by simp) rfl))
   obtain ⟨⟨u0,c0⟩,z0⟩:=hA.c.cell 1 (fun x y=>(by decide:1<7))
   simp [go_sem,e17,e15,c0,z0]
   exact hK undef _ (hA.c.put2 (by omega) hno (by decide) (fun y=>by cases y <;> rfl)) trivial (fun j u _ _ hu=>FreeD.wl_any hu)
 intro A0 w4 hA
 have HO:=hA.c.only
 have K3' : Tb.Blk w4 w.heap.size 97 #[.int .u64 ls,.int .u32 ep,.int .i64 K,.int .u64 V,.int .u64 D,.string I,.string X]:=hA.c.blk
 have s0:A0.tmps.getD 0 undef=.pointer (some ⟨g,0,none⟩):=(hA.kept 0 (Free.not_dst (by kernel_rfl))).trans rfl
 have s3:A0.tmps.getD 3 undef=.pointer (some ⟨w.heap.size,0,none⟩):=(hA.kept 3 (Free.not_dst (by kernel_rfl))).trans rfl
 have s4:A0.tmps.getD 4 undef=.pointer (some ⟨w.heap.size+1,0,none⟩):=(hA.kept 4 (Free.not_dst (by kernel_rfl))).trans rfl
 have s5:A0.tmps.getD 5 undef=.pointer (some ⟨b5,0,none⟩):=(hA.kept 5 (Free.not_dst (by kernel_rfl))).trans rfl
 have hsl:=hA.slots
 have hde:=hA.defers
 clear hA
 obtain ⟨tm,de⟩:=A0
 simp only at s0 s3 s4 s5 hsl hde
 obtain ⟨y,hy,ee⟩:=arrF41 hsl
 have t0:=(hy 0).symm.trans s0
 have t3:=(hy 3).symm.trans s3
 have t4:=(hy 4).symm.trans s4
 have t5:=(hy 5).symm.trans s5
 rw [t0,t3,t4,t5] at ee
 clear hy s0 s3 s4 s5 hsl t0 t3 t4 t5
 subst ee hde
 replace hB:Tb.Blk w4 g 156 _:=(HO.block g hB.lt (by omega)).trans hB
 replace K4:Tb.Blk w4 (w.heap.size+1) 93 _:=(HO.block _ K4.lt (by omega)).trans K4
 replace K5:Tb.Blk w4 b5 93 _:=(HO.block _ K5.lt (by omega)).trans K5
 replace B0:Below w.heap.size w w4:=B0.trans (HO.below B0.size (fun i hi=>by omega))
 clear K3 HO
 have K3:=K3'
 clear K3'
 have h4:Dk.Sep W0 w4 (items++[locI [((w.heap.size+1),93,#[.int .i64 0,.int .i64 0]),(b5,93,#[.int .i64 sg1,.int .i64 so1])]]):=loc_new HH.out B0 (fun x hx=>by
  rcases List.mem_cons.1 hx with rfl|hx
  ·exact K4
  ·rcases List.mem_cons.1 hx with rfl|hx
   ·exact K5
   ·cases hx) (fun x hx=>by
  rcases List.mem_cons.1 hx with rfl|hx
  ·exact Nat.le_succ _
  ·rcases List.mem_cons.1 hx with rfl|hx
   ·show w.heap.size≤b5; omega
   ·cases hx)
 have hkx:(items++[locI [((w.heap.size+1),93,#[.int .i64 0,.int .i64 0]),(b5,93,#[.int .i64 sg1,.int .i64 so1])]])[k]? = some (Dk.diskI d s):=app_at hk
 have hjx:(items++[locI [((w.heap.size+1),93,#[.int .i64 0,.int .i64 0]),(b5,93,#[.int .i64 sg1,.int .i64 so1])]])[j]? = some (logX 156 g d t ls ep gn Kq):=app_at hj
 go_wp2_with fail
 by_cases hd:s.dead
 ·skip
  refine FreeD.wp_freeD (FreeD.wl [some (.pointer (some ⟨g,0,none⟩)),some (.pointer (some ⟨g,0,none⟩)),some (.pointer (some ⟨g,0,none⟩)),some (.pointer (some ⟨d,0,none⟩)),some (.pointer (some ⟨g,0,none⟩)),some (.agg #[.int .i64 (sg1),.int .i64 (so1)]),some (.int .i64 (i0)),some (.agg #[.int .u64 ls,.int .u32 ep,.int .i64 (K),.int .u64 V,.int .u64 D,.string I,.string X]),some (.tuple #[.string S,.int .i64 0]),some (.string S),some (.int .i64 (0)),some (.string S),some (.agg #[.pointer (some ⟨d,0,none⟩),.int .i64 (i0),.string S]),some (.func (.func 168) #[.agg #[.pointer (some ⟨d,0,none⟩),.int .i64 i0,.string S]] #[]),some (.tuple #[])]) (FreeD.Last w4 14 (fun _=>False)) (by kernel_rfl) (by kernel_rfl) (FreeD.Last.start _ _ _ _ _) ?_ ?_
  ·refine ⟨?_,?_,?_,?_,?_,?_,?_,?_,?_,?_,?_,?_,?_,?_,?_,trivial⟩
   ·intro listed A0 W hA hD hno hr K' hK
    have hsl:=hA.size
    simp at hsl
    have e0:A0.tmps[0]?.getD undef=.pointer (some ⟨g,0,none⟩):=FreeD.slot_is ((hA.kept 0 (Free.not_dst (by kernel_rfl))).trans rfl)
    have hx:listed.getD 14 false=false:=hD.not_yet (i:=0) (f:=14) (by kernel_rfl) (FreeD.not_listed (by omega) hno)
    simp [go_sem,e0]
    exact hK _ _ (hA.c.step (by omega) hx (Below.refl _ _)) rfl (fun j u _ _ hu=>FreeD.wl_any hu)
   ·intro listed A0 W hA hD hno hr K' hK
    have hsl:=hA.size
    simp at hsl
    have e18:A0.tmps[18]?.getD undef=.pointer (some ⟨g,0,none⟩):=FreeD.slot_is (hA.val 0 _ rfl (hr ⟨0,.data⟩ (by simp) rfl))
    have hx:listed.getD 14 false=false:=hD.not_yet (i:=1) (f:=14) (by kernel_rfl) (FreeD.not_listed (by omega) hno)
    simp [go_sem,e18]
    exact hK _ _ (hA.c.step (by omega) hx (Below.refl _ _)) rfl (fun j u _ _ hu=>FreeD.wl_any hu)
   ·intro listed A0 W hA hD hno hr K' hK
    have hsl:=hA.size
    simp at hsl
    have e19:A0.tmps[19]?.getD undef=.pointer (some ⟨g,0,none⟩):=FreeD.slot_is (hA.val 1 _ rfl (hr ⟨1,.data⟩ (by simp) rfl))
    have hx:listed.getD 14 false=false:=hD.not_yet (i:=2) (f:=14) (by kernel_rfl) (FreeD.not_listed (by omega) hno)
    simp [go_sem,e19]
    exact hK _ _ (hA.c.step (by omega) hx (Below.refl _ _)) rfl (fun j u _ _ hu=>FreeD.wl_any hu)
   ·intro listed A0 W hA hD hno hr K' hK
    have hsl:=hA.size
    simp at hsl
    have e20:A0.tmps[20]?.getD undef=.pointer (some ⟨g,0,none⟩):=FreeD.slot_is (hA.val 2 _ rfl (hr ⟨2,.data⟩ (by simp) rfl))
    have hx:listed.getD 14 false=false:=hD.not_yet (i:=3) (f:=14) (by kernel_rfl) (FreeD.not_listed (by omega) hno)
    have f0:W.cell? ⟨g,0,none⟩=some (.pointer (some ⟨d,0,none⟩)):=(hB.later (hA.c.bef hx)).cell 0
    simp [go_sem,e20,f0]
    exact hK _ _ (hA.c.step (by omega) hx (Below.refl _ _)) rfl (fun j u _ _ hu=>FreeD.wl_any hu)
   ·intro listed A0 W hA hD hno hr K' hK
    have hsl:=hA.size
    simp at hsl
    have e0:A0.tmps[0]?.getD undef=.pointer (some ⟨g,0,none⟩):=FreeD.slot_is ((hA.kept 0 (Free.not_dst (by kernel_rfl))).trans rfl)
    have hx:listed.getD 14 false=false:=hD.not_yet (i:=4) (f:=14) (by kernel_rfl) (FreeD.not_listed (by omega) hno)
    simp [go_sem,e0]
    exact hK _ _ (hA.c.step (by omega) hx (Below.refl _ _)) rfl (fun j u _ _ hu=>FreeD.wl_any hu)
   ·intro listed A0 W hA hD hno hr K' hK
    have hsl:=hA.size
    simp at hsl
    have e5:A0.tmps[5]?.getD undef=.pointer (some ⟨b5,0,none⟩):=FreeD.slot_is ((hA.kept 5 (Free.not_dst (by kernel_rfl))).trans rfl)
    have hx:listed.getD 14 false=false:=hD.not_yet (i:=5) (f:=14) (by kernel_rfl) (FreeD.not_listed (by omega) hno)
    have f0:W.cell? ⟨b5,0,none⟩=some (.int .i64 (sg1)):=(K5.later (hA.c.bef hx)).cell 0
    have f1:W.cell? ⟨b5,1,none⟩=some (.int .i64 (so1)):=(K5.later (hA.c.bef hx)).cell 1
    simp [go_sem,e5,f0,f1]
    exact hK _ _ (hA.c.step (by omega) hx (Below.refl _ _)) rfl (fun j u _ _ hu=>FreeD.wl_any hu)
   ·intro listed A0 W hA hD hno hr K' hK
    have hsl:=hA.size
    simp at hsl
    have e22:A0.tmps[22]?.getD undef=.pointer (some ⟨g,0,none⟩):=FreeD.slot_is (hA.val 4 _ rfl (hr ⟨4,.data⟩ (by simp) rfl))
    have e23:A0.tmps[23]?.getD undef=.agg #[.int .i64 (sg1),.int .i64 (so1)]:=FreeD.slot_is (hA.val 5 _ rfl (hr ⟨5,.data⟩ (by simp) rfl))
    have hx:listed.getD 14 false=false:=hD.not_yet (i:=6) (f:=14) (by kernel_rfl) (FreeD.not_listed (by omega) hno)
    have hw:=hA.c.bef hx
    simp [go_sem,e22,e23]
    refine (HPL.out W (hB.later hw)).mono ?_
    rintro e' w' ⟨rfl,hb⟩
    exact hK _ _ (hA.c.step (by omega) hx hb) rfl (fun j u _ _ hu=>FreeD.wl_any hu)
   ·intro listed A0 W hA hD hno hr K' hK
    have hsl:=hA.size
    simp at hsl
    have e3:A0.tmps[3]?.getD undef=.pointer (some ⟨w.heap.size,0,none⟩):=FreeD.slot_is ((hA.kept 3 (Free.not_dst (by kernel_rfl))).trans rfl)
    have hx:listed.getD 14 false=false:=hD.not_yet (i:=7) (f:=14) (by kernel_rfl) (FreeD.not_listed (by omega) hno)
    have f0:W.cell? ⟨w.heap.size,0,none⟩=some (.int .u64 ls):=(K3.later (hA.c.bef hx)).cell 0
    have f1:W.cell? ⟨w.heap.size,1,none⟩=some (.int .u32 ep):=(K3.later (hA.c.bef hx)).cell 1
    have f2:W.cell? ⟨w.heap.size,2,none⟩=some (.int .i64 (K)):=(K3.later (hA.c.bef hx)).cell 2
    have f3:W.cell? ⟨w.heap.size,3,none⟩=some (.int .u64 V):=(K3.later (hA.c.bef hx)).cell 3
    have f4:W.cell? ⟨w.heap.size,4,none⟩=some (.int .u64 D):=(K3.later (hA.c.bef hx)).cell 4
    have f5:W.cell? ⟨w.heap.size,5,none⟩=some (.string I):=(K3.later (hA.c.bef hx)).cell 5
    have f6:W.cell? ⟨w.heap.size,6,none⟩=some (.string X):=(K3.later (hA.c.bef hx)).cell 6
    simp [go_sem,e3,f0,f1,f2,f3,f4,f5,f6]
    exact hK _ _ (hA.c.step (by omega) hx (Below.refl _ _)) rfl (fun j u _ _ hu=>FreeD.wl_any hu)
   ·intro listed A0 W hA hD hno hr K' hK
    have hsl:=hA.size
    simp at hsl
    have e25:A0.tmps[25]?.getD undef=.agg #[.int .u64 ls,.int .u32 ep,.int .i64 (K),.int .u64 V,.int .u64 D,.string I,.string X]:=FreeD.slot_is (hA.val 7 _ rfl (hr ⟨7,.data⟩ (by simp) rfl))
    have hx:listed.getD 14 false=false:=hD.not_yet (i:=8) (f:=14) (by kernel_rfl) (FreeD.not_listed (by omega) hno)
    simp [go_sem,e25]
    refine (Rc.encode_yes ls ep K V D I X S W hfit hR hS).mono ?_
    rintro e' w' ⟨rfl,hb⟩
    exact hK _ _ (hA.c.step (by omega) hx hb) rfl (fun j u _ _ hu=>FreeD.wl_any hu)
   ·intro listed A0 W hA hD hno hr K' hK
    have hsl:=hA.size
    simp at hsl
    have e26:A0.tmps[26]?.getD undef=.tuple #[.string S,.int .i64 0]:=FreeD.slot_is (hA.val 8 _ rfl (hr ⟨8,.data⟩ (by simp) rfl))
    have hx:listed.getD 14 false=false:=hD.not_yet (i:=9) (f:=14) (by kernel_rfl) (FreeD.not_listed (by omega) hno)
    simp [go_sem,e26]
    exact hK _ _ (hA.c.step (by omega) hx (Below.refl _ _)) rfl (fun j u _ _ hu=>FreeD.wl_any hu)
   ·intro listed A0 W hA hD hno hr K' hK
    have hsl:=hA.size
    simp at hsl
    have e26:A0.tmps[26]?.getD undef=.tuple #[.string S,.int .i64 0]:=FreeD.slot_is (hA.val 8 _ rfl (hr ⟨8,.data⟩ (by simp) rfl))
    have hx:listed.getD 14 false=false:=hD.not_yet (i:=10) (f:=14) (by kernel_rfl) (FreeD.not_listed (by omega) hno)
    simp [go_sem,e26]
    exact hK _ _ (hA.c.step (by omega) hx (Below.refl _ _)) rfl (fun j u _ _ hu=>FreeD.wl_any hu)
   ·intro listed A0 W hA hD hno hr K' hK
    have hsl:=hA.size
    simp at hsl
    have e27:A0.tmps[27]?.getD undef=.string S:=FreeD.slot_is (hA.val 9 _ rfl (hr ⟨9,.data⟩ (by simp) rfl))
    have e28:A0.tmps[28]?.getD undef=.int .i64 (0):=FreeD.slot_is (hA.val 10 _ rfl (hr ⟨10,.data⟩ (by simp) rfl))
    have hx:listed.getD 14 false=false:=hD.not_yet (i:=11) (f:=14) (by kernel_rfl) (FreeD.not_listed (by omega) hno)
    simp [go_sem,e27,e28]
    refine (must_s S W).mono ?_
    rintro e' w' ⟨rfl,hb⟩
    exact hK _ _ (hA.c.step (by omega) hx hb) rfl (fun j u _ _ hu=>FreeD.wl_any hu)
   ·intro listed A0 W hA hD hno hr K' hK
    have hsl:=hA.size
    simp at hsl
    have e21:A0.tmps[21]?.getD undef=.pointer (some ⟨d,0,none⟩):=FreeD.slot_is (hA.val 3 _ rfl (hr ⟨3,.data⟩ (by simp) rfl))
    have e24:A0.tmps[24]?.getD undef=.int .i64 (i0):=FreeD.slot_is (hA.val 6 _ rfl (hr ⟨6,.data⟩ (by simp) rfl))
    have e29:A0.tmps[29]?.getD undef=.string S:=FreeD.slot_is (hA.val 11 _ rfl (hr ⟨11,.data⟩ (by simp) rfl))
    have hx:listed.getD 14 false=false:=hD.not_yet (i:=12) (f:=14) (by kernel_rfl) (FreeD.not_listed (by omega) hno)
    simp [go_sem,e21,e24,e29]
    exact hK _ _ (hA.c.step (by omega) hx (Below.refl _ _)) rfl (fun j u _ _ hu=>FreeD.wl_any hu)
   ·intro listed A0 W hA hD hno hr K' hK
    have hsl:=hA.size
    simp at hsl
    have e30:A0.tmps[30]?.getD undef=.agg #[.pointer (some ⟨d,0,none⟩),.int .i64 (i0),.string S]:=FreeD.slot_is (hA.val 12 _ rfl (hr ⟨12,.data⟩ (by simp) rfl))
    have hx:listed.getD 14 false=false:=hD.not_yet (i:=13) (f:=14) (by kernel_rfl) (FreeD.not_listed (by omega) hno)
    simp [go_sem,e30]
    exact hK _ _ (hA.c.step (by omega) hx (Below.refl _ _)) rfl (fun j u _ _ hu=>FreeD.wl_any hu)
   ·intro listed A0 W hA hD hno hr K' hK
    have hsl:=hA.size
    simp at hsl
    have e31:A0.tmps[31]?.getD undef=.func (.func 168) #[.agg #[.pointer (some ⟨d,0,none⟩),.int .i64 i0,.string S]] #[]:=FreeD.slot_is (hA.val 13 _ rfl (hr ⟨13,.data⟩ (by simp) rfl))
    have hx:listed.getD 14 false=false:=FreeD.not_listed (by omega) hno
    have hw:=hA.c.bef hx
    simp [go_sem,e31]
    refine (do_write_dead (h4.later hw) hkx i0 S hhas HS hd).mono ?_
    rintro e' w' ⟨rfl,h5⟩
    exact ⟨hA.defers.trans rfl,.inr ⟨hd,rfl,loc_drop h5⟩⟩
  ·intro A0 W5 hA
   exact (hA.c.aft rfl).elim
 ·skip
  refine FreeD.wp_freeD (FreeD.wl [some (.pointer (some ⟨g,0,none⟩)),some (.pointer (some ⟨g,0,none⟩)),some (.pointer (some ⟨g,0,none⟩)),some (.pointer (some ⟨d,0,none⟩)),some (.pointer (some ⟨g,0,none⟩)),some (.agg #[.int .i64 (sg1),.int .i64 (so1)]),some (.int .i64 (i0)),some (.agg #[.int .u64 ls,.int .u32 ep,.int .i64 (K),.int .u64 V,.int .u64 D,.string I,.string X]),some (.tuple #[.string S,.int .i64 0]),some (.string S),some (.int .i64 (0)),some (.string S),some (.agg #[.pointer (some ⟨d,0,none⟩),.int .i64 (i0),.string S]),some (.func (.func 168) #[.agg #[.pointer (some ⟨d,0,none⟩),.int .i64 i0,.string S]] #[]),some (.tuple #[])]) (FreeD.Last w4 14 (fun W2=>Dk.Sep W0 W2 ((items++[locI [((w.heap.size+1),93,#[.int .i64 0,.int .i64 0]),(b5,93,#[.int .i64 sg1,.int .i64 so1])]]).set k (Dk.diskI d (s.write i0 S))))) (by kernel_rfl) (by kernel_rfl) (FreeD.Last.start _ _ _ _ _) ?_ ?_
  ·refine ⟨?_,?_,?_,?_,?_,?_,?_,?_,?_,?_,?_,?_,?_,?_,?_,trivial⟩
   ·intro listed A0 W hA hD hno hr K' hK
    have hsl:=hA.size
    simp at hsl
    have e0:A0.tmps[0]?.getD undef=.pointer (some ⟨g,0,none⟩):=FreeD.slot_is ((hA.kept 0 (Free.not_dst (by kernel_rfl))).trans rfl)
    have hx:listed.getD 14 false=false:=hD.not_yet (i:=0) (f:=14) (by kernel_rfl) (FreeD.not_listed (by omega) hno)
    simp [go_sem,e0]
    exact hK _ _ (hA.c.step (by omega) hx (Below.refl _ _)) rfl (fun j u _ _ hu=>FreeD.wl_any hu)
   ·intro listed A0 W hA hD hno hr K' hK
    have hsl:=hA.size
    simp at hsl
    have e18:A0.tmps[18]?.getD undef=.pointer (some ⟨g,0,none⟩):=FreeD.slot_is (hA.val 0 _ rfl (hr ⟨0,.data⟩ (by simp) rfl))
    have hx:listed.getD 14 false=false:=hD.not_yet (i:=1) (f:=14) (by kernel_rfl) (FreeD.not_listed (by omega) hno)
    simp [go_sem,e18]
    exact hK _ _ (hA.c.step (by omega) hx (Below.refl _ _)) rfl (fun j u _ _ hu=>FreeD.wl_any hu)
   ·intro listed A0 W hA hD hno hr K' hK
    have hsl:=hA.size
    simp at hsl
    have e19:A0.tmps[19]?.getD undef=.pointer (some ⟨g,0,none⟩):=FreeD.slot_is (hA.val 1 _ rfl (hr ⟨1,.data⟩ (by simp) rfl))
    have hx:listed.getD 14 false=false:=hD.not_yet (i:=2) (f:=14) (by kernel_rfl) (FreeD.not_listed (by omega) hno)
    simp [go_sem,e19]
    exact hK _ _ (hA.c.step (by omega) hx (Below.refl _ _)) rfl (fun j u _ _ hu=>FreeD.wl_any hu)
   ·intro listed A0 W hA hD hno hr K' hK
    have hsl:=hA.size
    simp at hsl
    have e20:A0.tmps[20]?.getD undef=.pointer (some ⟨g,0,none⟩):=FreeD.slot_is (hA.val 2 _ rfl (hr ⟨2,.data⟩ (by simp) rfl))
    have hx:listed.getD 14 false=false:=hD.not_yet (i:=3) (f:=14) (by kernel_rfl) (FreeD.not_listed (by omega) hno)
    have f0:W.cell? ⟨g,0,none⟩=some (.pointer (some ⟨d,0,none⟩)):=(hB.later (hA.c.bef hx)).cell 0
    simp [go_sem,e20,f0]
    exact hK _ _ (hA.c.step (by omega) hx (Below.refl _ _)) rfl (fun j u _ _ hu=>FreeD.wl_any hu)
   ·intro listed A0 W hA hD hno hr K' hK
    have hsl:=hA.size
    simp at hsl
    have e0:A0.tmps[0]?.getD undef=.pointer (some ⟨g,0,none⟩):=FreeD.slot_is ((hA.kept 0 (Free.not_dst (by kernel_rfl))).trans rfl)
    have hx:listed.getD 14 false=false:=hD.not_yet (i:=4) (f:=14) (by kernel_rfl) (FreeD.not_listed (by omega) hno)
    simp [go_sem,e0]
    exact hK _ _ (hA.c.step (by omega) hx (Below.refl _ _)) rfl (fun j u _ _ hu=>FreeD.wl_any hu)
   ·intro listed A0 W hA hD hno hr K' hK
    have hsl:=hA.size
    simp at hsl
    have e5:A0.tmps[5]?.getD undef=.pointer (some ⟨b5,0,none⟩):=FreeD.slot_is ((hA.kept 5 (Free.not_dst (by kernel_rfl))).trans rfl)
    have hx:listed.getD 14 false=false:=hD.not_yet (i:=5) (f:=14) (by kernel_rfl) (FreeD.not_listed (by omega) hno)
    have f0:W.cell? ⟨b5,0,none⟩=some (.int .i64 (sg1)):=(K5.later (hA.c.bef hx)).cell 0
    have f1:W.cell? ⟨b5,1,none⟩=some (.int .i64 (so1)):=(K5.later (hA.c.bef hx)).cell 1
    simp [go_sem,e5,f0,f1]
    exact hK _ _ (hA.c.step (by omega) hx (Below.refl _ _)) rfl (fun j u _ _ hu=>FreeD.wl_any hu)
   ·intro listed A0 W hA hD hno hr K' hK
    have hsl:=hA.size
    simp at hsl
    have e22:A0.tmps[22]?.getD undef=.pointer (some ⟨g,0,none⟩):=FreeD.slot_is (hA.val 4 _ rfl (hr ⟨4,.data⟩ (by simp) rfl))
    have e23:A0.tmps[23]?.getD undef=.agg #[.int .i64 (sg1),.int .i64 (so1)]:=FreeD.slot_is (hA.val 5 _ rfl (hr ⟨5,.data⟩ (by simp) rfl))
    have hx:listed.getD 14 false=false:=hD.not_yet (i:=6) (f:=14) (by kernel_rfl) (FreeD.not_listed (by omega) hno)
    have hw:=hA.c.bef hx
    simp [go_sem,e22,e23]
    refine (HPL.out W (hB.later hw)).mono ?_
    rintro e' w' ⟨rfl,hb⟩
    exact hK _ _ (hA.c.step (by omega) hx hb) rfl (fun j u _ _ hu=>FreeD.wl_any hu)
   ·intro listed A0 W hA hD hno hr K' hK
    have hsl:=hA.size
    simp at hsl
    have e3:A0.tmps[3]?.getD undef=.pointer (some ⟨w.heap.size,0,none⟩):=FreeD.slot_is ((hA.kept 3 (Free.not_dst (by kernel_rfl))).trans rfl)
    have hx:listed.getD 14 false=false:=hD.not_yet (i:=7) (f:=14) (by kernel_rfl) (FreeD.not_listed (by omega) hno)
    have f0:W.cell? ⟨w.heap.size,0,none⟩=some (.int .u64 ls):=(K3.later (hA.c.bef hx)).cell 0
    have f1:W.cell? ⟨w.heap.size,1,none⟩=some (.int .u32 ep):=(K3.later (hA.c.bef hx)).cell 1
    have f2:W.cell? ⟨w.heap.size,2,none⟩=some (.int .i64 (K)):=(K3.later (hA.c.bef hx)).cell 2
    have f3:W.cell? ⟨w.heap.size,3,none⟩=some (.int .u64 V):=(K3.later (hA.c.bef hx)).cell 3
    have f4:W.cell? ⟨w.heap.size,4,none⟩=some (.int .u64 D):=(K3.later (hA.c.bef hx)).cell 4
    have f5:W.cell? ⟨w.heap.size,5,none⟩=some (.string I):=(K3.later (hA.c.bef hx)).cell 5
    have f6:W.cell? ⟨w.heap.size,6,none⟩=some (.string X):=(K3.later (hA.c.bef hx)).cell 6
    simp [go_sem,e3,f0,f1,f2,f3,f4,f5,f6]
    exact hK _ _ (hA.c.step (by omega) hx (Below.refl _ _)) rfl (fun j u _ _ hu=>FreeD.wl_any hu)
   ·intro listed A0 W hA hD hno hr K' hK
    have hsl:=hA.size
    simp at hsl
    have e25:A0.tmps[25]?.getD undef=.agg #[.int .u64 ls,.int .u32 ep,.int .i64 (K),.int .u64 V,.int .u64 D,.string I,.string X]:=FreeD.slot_is (hA.val 7 _ rfl (hr ⟨7,.data⟩ (by simp) rfl))
    have hx:listed.getD 14 false=false:=hD.not_yet (i:=8) (f:=14) (by kernel_rfl) (FreeD.not_listed (by omega) hno)
    simp [go_sem,e25]
    refine (Rc.encode_yes ls ep K V D I X S W hfit hR hS).mono ?_
    rintro e' w' ⟨rfl,hb⟩
    exact hK _ _ (hA.c.step (by omega) hx hb) rfl (fun j u _ _ hu=>FreeD.wl_any hu)
   ·intro listed A0 W hA hD hno hr K' hK
    have hsl:=hA.size
    simp at hsl
    have e26:A0.tmps[26]?.getD undef=.tuple #[.string S,.int .i64 0]:=FreeD.slot_is (hA.val 8 _ rfl (hr ⟨8,.data⟩ (by simp) rfl))
    have hx:listed.getD 14 false=false:=hD.not_yet (i:=9) (f:=14) (by kernel_rfl) (FreeD.not_listed (by omega) hno)
    simp [go_sem,e26]
    exact hK _ _ (hA.c.step (by omega) hx (Below.refl _ _)) rfl (fun j u _ _ hu=>FreeD.wl_any hu)
   ·intro listed A0 W hA hD hno hr K' hK
    have hsl:=hA.size
    simp at hsl
    have e26:A0.tmps[26]?.getD undef=.tuple #[.string S,.int .i64 0]:=FreeD.slot_is (hA.val 8 _ rfl (hr ⟨8,.data⟩ (by simp) rfl))
    have hx:listed.getD 14 false=false:=hD.not_yet (i:=10) (f:=14) (by kernel_rfl) (FreeD.not_listed (by omega) hno)
    simp [go_sem,e26]
    exact hK _ _ (hA.c.step (by omega) hx (Below.refl _ _)) rfl (fun j u _ _ hu=>FreeD.wl_any hu)
   ·intro listed A0 W hA hD hno hr K' hK
    have hsl:=hA.size
    simp at hsl
    have e27:A0.tmps[27]?.getD undef=.string S:=FreeD.slot_is (hA.val 9 _ rfl (hr ⟨9,.data⟩ (by simp) rfl))
    have e28:A0.tmps[28]?.getD undef=.int .i64 (0):=FreeD.slot_is (hA.val 10 _ rfl (hr ⟨10,.data⟩ (by simp) rfl))
    have hx:listed.getD 14 false=false:=hD.not_yet (i:=11) (f:=14) (by kernel_rfl) (FreeD.not_listed (by omega) hno)
    simp [go_sem,e27,e28]
    refine (must_s S W).mono ?_
    rintro e' w' ⟨rfl,hb⟩
    exact hK _ _ (hA.c.step (by omega) hx hb) rfl (fun j u _ _ hu=>FreeD.wl_any hu)
   ·intro listed A0 W hA hD hno hr K' hK
    have hsl:=hA.size
    simp at hsl
    have e21:A0.tmps[21]?.getD undef=.pointer (some ⟨d,0,none⟩):=FreeD.slot_is (hA.val 3 _ rfl (hr ⟨3,.data⟩ (by simp) rfl))
    have e24:A0.tmps[24]?.getD undef=.int .i64 (i0):=FreeD.slot_is (hA.val 6 _ rfl (hr ⟨6,.data⟩ (by simp) rfl))
    have e29:A0.tmps[29]?.getD undef=.string S:=FreeD.slot_is (hA.val 11 _ rfl (hr ⟨11,.data⟩ (by simp) rfl))
    have hx:listed.getD 14 false=false:=hD.not_yet (i:=12) (f:=14) (by kernel_rfl) (FreeD.not_listed (by omega) hno)
    simp [go_sem,e21,e24,e29]
    exact hK _ _ (hA.c.step (by omega) hx (Below.refl _ _)) rfl (fun j u _ _ hu=>FreeD.wl_any hu)
   ·intro listed A0 W hA hD hno hr K' hK
    have hsl:=hA.size
    simp at hsl
    have e30:A0.tmps[30]?.getD undef=.agg #[.pointer (some ⟨d,0,none⟩),.int .i64 (i0),.string S]:=FreeD.slot_is (hA.val 12 _ rfl (hr ⟨12,.data⟩ (by simp) rfl))
    have hx:listed.getD 14 false=false:=hD.not_yet (i:=13) (f:=14) (by kernel_rfl) (FreeD.not_listed (by omega) hno)
    simp [go_sem,e30]
    exact hK _ _ (hA.c.step (by omega) hx (Below.refl _ _)) rfl (fun j u _ _ hu=>FreeD.wl_any hu)
   ·intro listed A0 W hA hD hno hr K' hK
    have hsl:=hA.size
    simp at hsl
    have e31:A0.tmps[31]?.getD undef=.func (.func 168) #[.agg #[.pointer (some ⟨d,0,none⟩),.int .i64 i0,.string S]] #[]:=FreeD.slot_is (hA.val 13 _ rfl (hr ⟨13,.data⟩ (by simp) rfl))
    have hx:listed.getD 14 false=false:=FreeD.not_listed (by omega) hno
    have hw:=hA.c.bef hx
    simp [go_sem,e31]
    refine (do_write_yes (h4.later hw) hkx i0 S hhas HS hd hpl).mono ?_
    rintro e' w' ⟨rfl,h5⟩
    exact hK _ _ (FreeD.Last.last (by omega) h5) rfl (fun j u _ _ hu=>FreeD.wl_any hu)
  ·intro A0 W5 hA
   have h5:=hA.c.aft rfl
   have hll:=loc_at h5 (get_set app_last (Nat.ne_of_lt (List.getElem?_eq_some_iff.1 hk).1))
   have K4' : Tb.Blk W5 (w.heap.size+1) 93 #[.int .i64 0,.int .i64 0]:=hll _ (List.mem_cons_self ..)
   have K5' : Tb.Blk W5 b5 93 #[.int .i64 sg1,.int .i64 so1]:=hll _ (List.mem_cons_of_mem _ (List.mem_cons_self ..))
   have s0:A0.tmps.getD 0 undef=.pointer (some ⟨g,0,none⟩):=(hA.kept 0 (Free.not_dst (by kernel_rfl))).trans rfl
   have s4:A0.tmps.getD 4 undef=.pointer (some ⟨w.heap.size+1,0,none⟩):=(hA.kept 4 (Free.not_dst (by kernel_rfl))).trans rfl
   have s5:A0.tmps.getD 5 undef=.pointer (some ⟨b5,0,none⟩):=(hA.kept 5 (Free.not_dst (by kernel_rfl))).trans rfl
   have hsl:=hA.slots
   have hde:=hA.defers
   clear hA K4 K5 hB
   obtain ⟨tm,de⟩:=A0
   simp only at s0 s4 s5 hsl hde
   obtain ⟨y,hy,ee⟩:=arrF41 hsl
   have t0:=(hy 0).symm.trans s0
   have t4:=(hy 4).symm.trans s4
   have t5:=(hy 5).symm.trans s5
   rw [t0,t4,t5] at ee
   clear hy s0 s4 s5 hsl t0 t4 t5
   subst ee hde
   have hj5:=get_set (x:=Dk.diskI d (s.write i0 S)) hjx hkj
   obtain ⟨A5,m5,p5,B5,k5,q5,C5,n5,r5,hB5,_⟩:=x_at h5 hj5
   have c6:W5.cell? ⟨g,6,none⟩=some (.int .u64 ls):=hB5.cell 6
   have f6:=hB5.frozen 6
   obtain ⟨L1,EL⟩:∃ x,IntKind.u64.wrap (ls+1)=x:=⟨_,rfl⟩
   have HL1:Hid (ls+1=L1):=Lib.hid (by rw [← EL,IntKind.wrap_u64]; omega)
   have h6:=x_lsn h5 hj5 L1
   replace K4':=Tb.blk_far (i:=6) (u:=.int .u64 L1) K4' (show (w.heap.size+1)≠g by omega)
   replace K5':=Tb.blk_far (i:=6) (u:=.int .u64 L1) K5' (show b5≠g by omega)
   go_upto_region 5 with fail
   clear c6 f6 h5 hB5
   generalize W5.setCell ⟨g,6,none⟩ (.int .u64 L1)=W6 at *
   go_wp2_with (first
    | (with_reducible refine load_loc rfl (.tmp 5) rfl b5 rfl K5' ?_)
    | (with_reducible refine store_loc rfl (.tmp 4) (.tmp 40) rfl (w.heap.size+1) rfl rfl K4' ?_))
   exact bodyPost_ret (res_loc1 rfl _ _ (w.heap.size+1) rfl (K4'.row _)) rfl (.inl ⟨hd,rfl,by
    show Dk.Sep W0 (W6.setRow (w.heap.size+1) #[.int .i64 sg1,.int .i64 so1]) ((items.set k (Dk.diskI d (s.write i0 S))).set j (logX 156 g d t (ls+1) ep gn Kq))
    rw [HL1.out]
    rw [app_set hk,app_set (get_set hj hkj)] at h6
    exact loc_drop (a:=locI [((w.heap.size+1),93,#[.int .i64 sg1,.int .i64 so1])]) (by
     have h7:=loc_row (l':=[((w.heap.size+1),93,#[.int .i64 sg1,.int .i64 so1])]) h6 app_last (w.heap.size+1) ⟨_,List.mem_cons_self ..,rfl⟩ #[.int .i64 sg1,.int .i64 so1] (fun x hx=>by
      rcases List.mem_cons.1 hx with rfl|hx
      ·exact K4'.row _
      ·cases hx) (fun x hx=>⟨_,List.mem_cons_self ..,by rcases List.mem_cons.1 hx with rfl|hx; rfl; cases hx⟩)
     rw [app_set_last] at h7
     exact h7)⟩)
end Go.Proofs.YtcnohlgigmmefaaGreat.Lg
