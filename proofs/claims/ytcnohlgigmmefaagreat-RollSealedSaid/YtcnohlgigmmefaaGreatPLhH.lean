/- A part. -/
import Derived.Test.YtcnohlgigmmefaaGreatPLhE
namespace Go.Proofs.YtcnohlgigmmefaaGreat.Lg
open Go.RowKit Go.Lib
open Tb (Tab TIn Sl okP csT lastN nth Fresh)
open Dk (St Only Grew)
set_option linter.unusedVariables false
set_option maxRecDepth 100000
theorem arrF65 {cs:Array Value} (h:cs.size=65):∃ y:Nat→Value,(∀ i,cs.getD i undef=y i)∧cs=#[y 0,y 1,y 2,y 3,y 4,y 5,y 6,y 7,y 8,y 9,y 10,y 11,y 12,y 13,y 14,y 15,y 16,y 17,y 18,y 19,y 20,y 21,y 22,y 23,y 24,y 25,y 26,y 27,y 28,y 29,y 30,y 31,y 32,y 33,y 34,y 35,y 36,y 37,y 38,y 39,y 40,y 41,y 42,y 43,y 44,y 45,y 46,y 47,y 48,y 49,y 50,y 51,y 52,y 53,y 54,y 55,y 56,y 57,y 58,y 59,y 60,y 61,y 62,y 63,y 64]:=by
 refine ⟨fun i=>cs.getD i undef,fun _=>rfl,?_⟩
 have e:cs=((List.range 65).map fun i=>cs.getD i undef).toArray:=by
  apply Array.ext
  ·simp [h]
  ·intro i h1 h2
   simp [h1]
 exact e.trans rfl
theorem info_ck:(Tryz.prog.info? 42).map (·.size)=some 6:=by kernel_rfl
theorem info_sc:(Tryz.prog.info? 241).map (·.size)=some 3:=by kernel_rfl
theorem ck_one (g e l v:Int) (A:Option Addr) (m p:Nat) (B:Option Addr) (k q:Nat):(#[Value.int .u64 g,.int .u32 e,.int .u64 l,.int .u64 v,.slice A m p,.slice B k q]:Array Value).all (·.oneCell')=true:=by simp [Value.oneCell']
theorem sc_one (d:Nat) (i:Int) (S:ByteArray):(#[Value.pointer (some ⟨d,0,none⟩),.int .i64 i,.string S]:Array Value).all (·.oneCell')=true:=by simp [Value.oneCell']
section
variable {ops:Array Oper} {rest:List Oper} {o:Oper} {a:Act} {w:World} {Q:Exit→Act→World→Prop}
theorem load_sc (hgd:o.guard=none) (x:Operand) (ho:o.op=.load 241 x) (b:Nat) (hx:a.eval x=.pointer (some ⟨b,0,none⟩)) {d:Nat} {J:Int} {S:ByteArray} {t:TypeId} (hg:Tb.Blk w b t #[.pointer (some ⟨d,0,none⟩),.int .i64 J,.string S])
 (h:wpList Tryz.prog ops Q rest (a.put o.dst (.agg #[.pointer (some ⟨d,0,none⟩),.int .i64 J,.string S])) w):wpList Tryz.prog ops Q (o :: rest) a w :=
 wpList_load_row hgd _ x ho b hx _ #[.pointer (some ⟨d,0,none⟩),.int .i64 J,.string S] (0,0) _ hg Tryz.underlying241 rfl info_sc h
end
set_option maxHeartbeats 16000000 in
theorem checkpoint_any {W0 w:World} {items:List Dk.Item} {k j g d:Nat} {s:St} {t:Tab} {ls ep gn:Int} {Kq:Kp} (h:Dk.Sep W0 w items) (hk:items[k]? = some (Dk.diskI d s)) (hj:items[j]? = some (logX 156 g d t ls ep gn Kq)) (hkj:k≠j) (ver:Int)
 (hv:0≤ver∧ver<18446744073709551616) (hls:1≤ls∧ls<18446744073709551616) (hep:0≤ep∧ep<4294967296) (hgn:0≤gn∧gn<9223372036854775807) (hsz:2≤s.size) (hpl:s.pend.length<1048576) (S:ByteArray) (hS:Cp.secL ⟨gn+1,ep,ls,ver,t.o,t.l⟩=S.data.toList) :
 Calls Tryz.prog 125 #[.pointer (some ⟨g,0,none⟩),.int .u64 ver] w (WorkP W0 (chkS s gn S).2.2 (items.set k (Dk.diskI d (chkS s gn S).1)) ((items.set k (Dk.diskI d (chkS s gn S).1)).set j (logX 156 g d t ls ep (chkS s gn S).2.1 Kq))):=by
 have hmf:∀ (fn:Fn) (first cap:Array Value) (w:World),(Instr.makeFunc fn first cap).run Tryz.prog w=.ok (.func fn first cap) w:=fun _ _ _ _=>rfl
 have hvC:=Tryz.zeroValue42
 have hvS:=Tryz.zeroValue241
 obtain ⟨A,m,p,B,k1,q,C,n,r1,hB,ht,_,hok⟩:=x_at h hj
 have HS:S.size=128:=(size_of hS).trans (Cp.secL_len (okC_of (e:=ep) (v:=ver) hok (by omega) (by omega)))
 obtain ⟨G1,EG⟩:∃ x,IntKind.u64.wrap (gn+1)=x:=⟨_,rfl⟩
 have HG:Hid (gn+1=G1):=Lib.hid (by rw [← EG,IntKind.wrap_u64]; omega)
 obtain ⟨J,EJ⟩:∃ x,G1.tmod 2=x:=⟨_,rfl⟩
 have HJ:Hid ((gn+1)%2=J):=Lib.hid (by rw [← EJ,← HG.out,Int.tmod_eq_emod_of_nonneg (by omega)])
 have bJ:0≤J∧J<2:=by have:=HJ.out; omega
 have EJ2:IntKind.i64.wrap J=J:=IntWalk.i64_in _ (by omega)
 have HQ:Hid (∀ W',Below w.heap.size w W'→Calls Tryz.prog 166 #[.agg #[.int .u64 G1,.int .u32 ep,.int .u64 ls,.int .u64 ver,.slice A m p,.slice B k1 q]] W' fun e' w'=>e' = .returned (.tuple #[.string S,.int .i64 0])∧Below W'.heap.size W' w'):=Lib.hid (fun W' hb=>by
  rw [← HG.out]
  exact Cp.encode_yes (gn+1) ep ls ver A m p B k1 q t.o t.l S W' (slC (κ:=.i64) (ht.a.later hb)) (slC (κ:=.i64) (ht.b.later hb)) ⟨by simp only; omega,by simp only; omega,hep.1,hep.2,by simp only; omega,hls.2,hv.1,hv.2⟩ (okC_of hok (by omega) (by omega)) hS)
 have HE:Hid (chkS s gn S=if s.dead then (s,gn,9) else if s.flush.dead then (s.flush,gn,9) else if (s.flush.write J S).dead then ((s.flush.write J S),gn,9) else ((s.flush.write J S).flush,gn+1,0)):=Lib.hid (by rw [← HJ.out]; rfl)
 obtain ⟨RC,ERC⟩:∃ z,chkS s gn S=z:=⟨_,rfl⟩
 rw [ERC] at HE ⊢
 have HH:=Lib.hid h
 have HSZ:=Lib.hid hsz
 have c8:w.cell? ⟨g,8,none⟩=some (.int .u64 gn):=hB.cell 8
 clear h ht hS ERC hv hls hep hgn hsz hok
 go_enter Tryz.func125,Tryz.ntmps125
 go_upto_region 1 with fail
 clear c8
 refine FreeC.wp_freeC (FreeD.wl [some (.int .u64 G1),some (.pointer (some ⟨g,0,none⟩)),some (.pointer (some ⟨g,0,none⟩)),some (.pointer (some ⟨g,7,none⟩)),some (.int .u32 ep),some (.pointer (some ⟨g,0,none⟩)),some (.pointer (some ⟨g,0,none⟩)),some (.pointer (some ⟨g,6,none⟩)),some (.int .u64 ls),some (.int .u64 ver),some (.pointer (some ⟨g,0,none⟩)),some (.pointer (some ⟨g,0,none⟩)),some (.pointer (some ⟨g,1,none⟩)),some (.pointer (some ⟨g,3,none⟩)),some (.slice A m p),some (.pointer (some ⟨g,0,none⟩)),some (.pointer (some ⟨g,0,none⟩)),some (.pointer (some ⟨g,1,none⟩)),some (.pointer (some ⟨g,4,none⟩)),some (.slice B k1 q),some (.agg #[.int .u64 G1,.int .u32 ep,.int .u64 ls,.int .u64 ver,.slice A m p,.slice B k1 q]),none,none]) (NewV.C w 42 21 22 5 #[.int .u64 G1,.int .u32 ep,.int .u64 ls,.int .u64 ver,.slice A m p,.slice B k1 q]) (by kernel_rfl) (by kernel_rfl) (NewV.C.start _) ?_ ?_
 ·refine ⟨?_,?_,?_,?_,?_,?_,?_,?_,?_,?_,?_,?_,?_,?_,?_,?_,?_,?_,?_,?_,?_,?_,?_,trivial⟩
  ·intro listed A0 W hA hno hr K' hK
   have hsl:=hA.size
   simp at hsl
   have e4:A0.tmps[4]?.getD undef=.int .u64 G1:=FreeD.slot_is ((hA.kept 4 (Free.not_dst (by kernel_rfl))).trans rfl)
   simp [go_sem,e4]
   exact hK _ _ (hA.c.step 0 12 _ (by omega) (by omega) (Below.refl _ _)) rfl (fun j u _ _ hu=>FreeD.wl_any hu)
  ·intro listed A0 W hA hno hr K' hK
   have hsl:=hA.size
   simp at hsl
   have e0:A0.tmps[0]?.getD undef=.pointer (some ⟨g,0,none⟩):=FreeD.slot_is ((hA.kept 0 (Free.not_dst (by kernel_rfl))).trans rfl)
   simp [go_sem,e0]
   exact hK _ _ (hA.c.step 1 13 _ (by omega) (by omega) (Below.refl _ _)) rfl (fun j u _ _ hu=>FreeD.wl_any hu)
  ·intro listed A0 W hA hno hr K' hK
   have hsl:=hA.size
   simp at hsl
   have e13:A0.tmps[13]?.getD undef=.pointer (some ⟨g,0,none⟩):=FreeD.slot_is (hA.val 1 _ rfl (hr ⟨1,.data⟩ (by simp) rfl))
   simp [go_sem,e13]
   exact hK _ _ (hA.c.step 2 14 _ (by omega) (by omega) (Below.refl _ _)) rfl (fun j u _ _ hu=>FreeD.wl_any hu)
  ·intro listed A0 W hA hno hr K' hK
   have hsl:=hA.size
   simp at hsl
   have e14:A0.tmps[14]?.getD undef=.pointer (some ⟨g,0,none⟩):=FreeD.slot_is (hA.val 2 _ rfl (hr ⟨2,.data⟩ (by simp) rfl))
   simp [go_sem,e14]
   exact hK _ _ (hA.c.step 3 15 _ (by omega) (by omega) (Below.refl _ _)) rfl (fun j u _ _ hu=>FreeD.wl_any hu)
  ·intro listed A0 W hA hno hr K' hK
   have hsl:=hA.size
   simp at hsl
   have e15:A0.tmps[15]?.getD undef=.pointer (some ⟨g,7,none⟩):=FreeD.slot_is (hA.val 3 _ rfl (hr ⟨3,.data⟩ (by simp) rfl))
   have f0:W.cell? ⟨g,7,none⟩=some (.int .u32 ep):=(hB.later hA.c.b).cell 7
   simp [go_sem,e15,f0]
   exact hK _ _ (hA.c.step 4 16 _ (by omega) (by omega) (Below.refl _ _)) rfl (fun j u _ _ hu=>FreeD.wl_any hu)
  ·intro listed A0 W hA hno hr K' hK
   have hsl:=hA.size
   simp at hsl
   have e0:A0.tmps[0]?.getD undef=.pointer (some ⟨g,0,none⟩):=FreeD.slot_is ((hA.kept 0 (Free.not_dst (by kernel_rfl))).trans rfl)
   simp [go_sem,e0]
   exact hK _ _ (hA.c.step 5 17 _ (by omega) (by omega) (Below.refl _ _)) rfl (fun j u _ _ hu=>FreeD.wl_any hu)
  ·intro listed A0 W hA hno hr K' hK
   have hsl:=hA.size
   simp at hsl
   have e17:A0.tmps[17]?.getD undef=.pointer (some ⟨g,0,none⟩):=FreeD.slot_is (hA.val 5 _ rfl (hr ⟨5,.data⟩ (by simp) rfl))
   simp [go_sem,e17]
   exact hK _ _ (hA.c.step 6 18 _ (by omega) (by omega) (Below.refl _ _)) rfl (fun j u _ _ hu=>FreeD.wl_any hu)
  ·intro listed A0 W hA hno hr K' hK
   have hsl:=hA.size
   simp at hsl
   have e18:A0.tmps[18]?.getD undef=.pointer (some ⟨g,0,none⟩):=FreeD.slot_is (hA.val 6 _ rfl (hr ⟨6,.data⟩ (by simp) rfl))
   simp [go_sem,e18]
   exact hK _ _ (hA.c.step 7 19 _ (by omega) (by omega) (Below.refl _ _)) rfl (fun j u _ _ hu=>FreeD.wl_any hu)
  ·intro listed A0 W hA hno hr K' hK
   have hsl:=hA.size
   simp at hsl
   have e19:A0.tmps[19]?.getD undef=.pointer (some ⟨g,6,none⟩):=FreeD.slot_is (hA.val 7 _ rfl (hr ⟨7,.data⟩ (by simp) rfl))
   have f0:W.cell? ⟨g,6,none⟩=some (.int .u64 ls):=(hB.later hA.c.b).cell 6
   simp [go_sem,e19,f0]
   exact hK _ _ (hA.c.step 8 20 _ (by omega) (by omega) (Below.refl _ _)) rfl (fun j u _ _ hu=>FreeD.wl_any hu)
  ·intro listed A0 W hA hno hr K' hK
   have hsl:=hA.size
   simp at hsl
   have e1:A0.tmps[1]?.getD undef=.int .u64 ver:=FreeD.slot_is ((hA.kept 1 (Free.not_dst (by kernel_rfl))).trans rfl)
   simp [go_sem,e1]
   exact hK _ _ (hA.c.step 9 21 _ (by omega) (by omega) (Below.refl _ _)) rfl (fun j u _ _ hu=>FreeD.wl_any hu)
  ·intro listed A0 W hA hno hr K' hK
   have hsl:=hA.size
   simp at hsl
   have e0:A0.tmps[0]?.getD undef=.pointer (some ⟨g,0,none⟩):=FreeD.slot_is ((hA.kept 0 (Free.not_dst (by kernel_rfl))).trans rfl)
   simp [go_sem,e0]
   exact hK _ _ (hA.c.step 10 22 _ (by omega) (by omega) (Below.refl _ _)) rfl (fun j u _ _ hu=>FreeD.wl_any hu)
  ·intro listed A0 W hA hno hr K' hK
   have hsl:=hA.size
   simp at hsl
   have e22:A0.tmps[22]?.getD undef=.pointer (some ⟨g,0,none⟩):=FreeD.slot_is (hA.val 10 _ rfl (hr ⟨10,.data⟩ (by simp) rfl))
   simp [go_sem,e22]
   exact hK _ _ (hA.c.step 11 23 _ (by omega) (by omega) (Below.refl _ _)) rfl (fun j u _ _ hu=>FreeD.wl_any hu)
  ·intro listed A0 W hA hno hr K' hK
   have hsl:=hA.size
   simp at hsl
   have e23:A0.tmps[23]?.getD undef=.pointer (some ⟨g,0,none⟩):=FreeD.slot_is (hA.val 11 _ rfl (hr ⟨11,.data⟩ (by simp) rfl))
   simp [go_sem,e23]
   exact hK _ _ (hA.c.step 12 24 _ (by omega) (by omega) (Below.refl _ _)) rfl (fun j u _ _ hu=>FreeD.wl_any hu)
  ·intro listed A0 W hA hno hr K' hK
   have hsl:=hA.size
   simp at hsl
   have e24:A0.tmps[24]?.getD undef=.pointer (some ⟨g,1,none⟩):=FreeD.slot_is (hA.val 12 _ rfl (hr ⟨12,.data⟩ (by simp) rfl))
   simp [go_sem,e24]
   exact hK _ _ (hA.c.step 13 25 _ (by omega) (by omega) (Below.refl _ _)) rfl (fun j u _ _ hu=>FreeD.wl_any hu)
  ·intro listed A0 W hA hno hr K' hK
   have hsl:=hA.size
   simp at hsl
   have e25:A0.tmps[25]?.getD undef=.pointer (some ⟨g,3,none⟩):=FreeD.slot_is (hA.val 13 _ rfl (hr ⟨13,.data⟩ (by simp) rfl))
   have f0:W.cell? ⟨g,3,none⟩=some (.slice A m p):=(hB.later hA.c.b).cell 3
   simp [go_sem,e25,f0]
   exact hK _ _ (hA.c.step 14 26 _ (by omega) (by omega) (Below.refl _ _)) rfl (fun j u _ _ hu=>FreeD.wl_any hu)
  ·intro listed A0 W hA hno hr K' hK
   have hsl:=hA.size
   simp at hsl
   have e0:A0.tmps[0]?.getD undef=.pointer (some ⟨g,0,none⟩):=FreeD.slot_is ((hA.kept 0 (Free.not_dst (by kernel_rfl))).trans rfl)
   simp [go_sem,e0]
   exact hK _ _ (hA.c.step 15 27 _ (by omega) (by omega) (Below.refl _ _)) rfl (fun j u _ _ hu=>FreeD.wl_any hu)
  ·intro listed A0 W hA hno hr K' hK
   have hsl:=hA.size
   simp at hsl
   have e27:A0.tmps[27]?.getD undef=.pointer (some ⟨g,0,none⟩):=FreeD.slot_is (hA.val 15 _ rfl (hr ⟨15,.data⟩ (by simp) rfl))
   simp [go_sem,e27]
   exact hK _ _ (hA.c.step 16 28 _ (by omega) (by omega) (Below.refl _ _)) rfl (fun j u _ _ hu=>FreeD.wl_any hu)
  ·intro listed A0 W hA hno hr K' hK
   have hsl:=hA.size
   simp at hsl
   have e28:A0.tmps[28]?.getD undef=.pointer (some ⟨g,0,none⟩):=FreeD.slot_is (hA.val 16 _ rfl (hr ⟨16,.data⟩ (by simp) rfl))
   simp [go_sem,e28]
   exact hK _ _ (hA.c.step 17 29 _ (by omega) (by omega) (Below.refl _ _)) rfl (fun j u _ _ hu=>FreeD.wl_any hu)
  ·intro listed A0 W hA hno hr K' hK
   have hsl:=hA.size
   simp at hsl
   have e29:A0.tmps[29]?.getD undef=.pointer (some ⟨g,1,none⟩):=FreeD.slot_is (hA.val 17 _ rfl (hr ⟨17,.data⟩ (by simp) rfl))
   simp [go_sem,e29]
   exact hK _ _ (hA.c.step 18 30 _ (by omega) (by omega) (Below.refl _ _)) rfl (fun j u _ _ hu=>FreeD.wl_any hu)
  ·intro listed A0 W hA hno hr K' hK
   have hsl:=hA.size
   simp at hsl
   have e30:A0.tmps[30]?.getD undef=.pointer (some ⟨g,4,none⟩):=FreeD.slot_is (hA.val 18 _ rfl (hr ⟨18,.data⟩ (by simp) rfl))
   have f0:W.cell? ⟨g,4,none⟩=some (.slice B k1 q):=(hB.later hA.c.b).cell 4
   simp [go_sem,e30,f0]
   exact hK _ _ (hA.c.step 19 31 _ (by omega) (by omega) (Below.refl _ _)) rfl (fun j u _ _ hu=>FreeD.wl_any hu)
  ·intro listed A0 W hA hno hr K' hK
   have hsl:=hA.size
   simp at hsl
   have e12:A0.tmps[12]?.getD undef=.int .u64 G1:=FreeD.slot_is (hA.val 0 _ rfl (hr ⟨0,.data⟩ (by simp) rfl))
   have e16:A0.tmps[16]?.getD undef=.int .u32 ep:=FreeD.slot_is (hA.val 4 _ rfl (hr ⟨4,.data⟩ (by simp) rfl))
   have e20:A0.tmps[20]?.getD undef=.int .u64 ls:=FreeD.slot_is (hA.val 8 _ rfl (hr ⟨8,.data⟩ (by simp) rfl))
   have e21:A0.tmps[21]?.getD undef=.int .u64 ver:=FreeD.slot_is (hA.val 9 _ rfl (hr ⟨9,.data⟩ (by simp) rfl))
   have e26:A0.tmps[26]?.getD undef=.slice A m p:=FreeD.slot_is (hA.val 14 _ rfl (hr ⟨14,.data⟩ (by simp) rfl))
   have e31:A0.tmps[31]?.getD undef=.slice B k1 q:=FreeD.slot_is (hA.val 19 _ rfl (hr ⟨19,.data⟩ (by simp) rfl))
   simp [go_sem,e12,e16,e20,e21,e26,e31]
   exact hK _ _ (hA.c.step 20 32 _ (by omega) (by omega) (Below.refl _ _)) rfl (fun j u _ _ hu=>FreeD.wl_any hu)
  ·intro listed A0 W hA hno hr K' hK
   have hsl:=hA.size
   simp at hsl
   have hts:A0.tmps.size=65:=hA.slots.trans rfl
   simp [go_sem,hvC]
   exact hK _ _ (hA.c.alloc (by omega) (by omega) hno (by omega) _ rfl) trivial (fun j u _ _ hu=>FreeD.wl_any hu)
  ·intro listed A0 W hA hno hr K' hK
   have hsl:=hA.size
   simp at hsl
   have e32:A0.tmps[32]?.getD undef=.agg #[.int .u64 G1,.int .u32 ep,.int .u64 ls,.int .u64 ver,.slice A m p,.slice B k1 q]:=FreeD.slot_is (hA.val 20 _ rfl (hr ⟨20,.data⟩ (by simp) rfl))
   obtain ⟨b,vs,e6,hbb,hvs,hB6,_⟩:=hA.c.da (hr ⟨21,.data⟩ (by simp) rfl)
   refine wp_store_row _ (.tmp 5) (.tmp 32) rfl b #[.int .u64 G1,.int .u32 ep,.int .u64 ls,.int .u64 ver,.slice A m p,.slice B k1 q] e6 (by simpa [Act.eval] using e32) _ _ hB6 info_ck hvs (ck_one _ _ _ _ _ _ _ _ _ _) ?_
   exact hK undef _ (hA.c.store (by omega) (hr ⟨21,.data⟩ (by simp) rfl) e6 hbb hB6) trivial (fun j u _ _ hu=>FreeD.wl_any hu)
 intro A0 w1 hA
 obtain ⟨b5,vs,s5,hb5,_,K5,hvs⟩:=hA.c.da rfl
 obtain rfl:=hvs rfl
 have hb:=hA.c.b
 have s0:A0.tmps.getD 0 undef=.pointer (some ⟨g,0,none⟩):=(hA.kept 0 (Free.not_dst (by kernel_rfl))).trans rfl
 have s4:A0.tmps.getD 4 undef=.int .u64 G1:=(hA.kept 4 (Free.not_dst (by kernel_rfl))).trans rfl
 have hsl:=hA.slots
 have hde:=hA.defers
 clear hA hvs
 obtain ⟨tm,de⟩:=A0
 simp only at s0 s4 s5 hsl hde
 obtain ⟨y,hy,ee⟩:=arrF65 hsl
 have t0:=(hy 0).symm.trans s0
 have t4:=(hy 4).symm.trans s4
 have t5:=(hy 5).symm.trans s5
 rw [t0,t4,t5] at ee
 clear hy s0 s4 s5 hsl t0 t4 t5
 subst ee hde
 have h1:=HH.out.later hb
 have HQ1:Hid (∀ W',Below w1.heap.size w1 W'→Calls Tryz.prog 166 #[.agg #[.int .u64 G1,.int .u32 ep,.int .u64 ls,.int .u64 ver,.slice A m p,.slice B k1 q]] W' fun e' w'=>e' = .returned (.tuple #[.string S,.int .i64 0])∧Below W'.heap.size W' w'):=Lib.hid (fun W' hw=>HQ.out W' (hb.trans (hw.mono hb.size)))
 replace hB:=hB.later hb
 replace K5:Tb.Blk w1 b5 42 #[.int .u64 G1,.int .u32 ep,.int .u64 ls,.int .u64 ver,.slice A m p,.slice B k1 q]:=K5
 clear HQ HH hb
 have HQ:=HQ1
 clear HQ1
 go_upto_region 2 with fail
 refine FreeC.wp_freeC (FreeD.wl [some (.pointer (some ⟨g,0,none⟩)),some (.pointer (some ⟨g,0,none⟩)),some (.pointer (some ⟨g,0,none⟩)),some (.pointer (some ⟨d,0,none⟩)),some (.int .u64 G1),some (.int .u64 J),some (.int .i64 (J)),some (.agg #[.int .u64 G1,.int .u32 ep,.int .u64 ls,.int .u64 ver,.slice A m p,.slice B k1 q]),some (.tuple #[.string S,.int .i64 0]),some (.string S),some (.int .i64 (0)),some (.string S),some (.agg #[.pointer (some ⟨d,0,none⟩),.int .i64 (J),.string S]),none,none]) (NewV.C w1 241 13 14 6 #[.pointer (some ⟨d,0,none⟩),.int .i64 J,.string S]) (by kernel_rfl) (by kernel_rfl) (NewV.C.start _) ?_ ?_
 ·refine ⟨?_,?_,?_,?_,?_,?_,?_,?_,?_,?_,?_,?_,?_,?_,?_,trivial⟩
  ·intro listed A0 W hA hno hr K' hK
   have hsl:=hA.size
   simp at hsl
   have e0:A0.tmps[0]?.getD undef=.pointer (some ⟨g,0,none⟩):=FreeD.slot_is ((hA.kept 0 (Free.not_dst (by kernel_rfl))).trans rfl)
   simp [go_sem,e0]
   exact hK _ _ (hA.c.step 0 33 _ (by omega) (by omega) (Below.refl _ _)) rfl (fun j u _ _ hu=>FreeD.wl_any hu)
  ·intro listed A0 W hA hno hr K' hK
   have hsl:=hA.size
   simp at hsl
   have e33:A0.tmps[33]?.getD undef=.pointer (some ⟨g,0,none⟩):=FreeD.slot_is (hA.val 0 _ rfl (hr ⟨0,.data⟩ (by simp) rfl))
   simp [go_sem,e33]
   exact hK _ _ (hA.c.step 1 34 _ (by omega) (by omega) (Below.refl _ _)) rfl (fun j u _ _ hu=>FreeD.wl_any hu)
  ·intro listed A0 W hA hno hr K' hK
   have hsl:=hA.size
   simp at hsl
   have e34:A0.tmps[34]?.getD undef=.pointer (some ⟨g,0,none⟩):=FreeD.slot_is (hA.val 1 _ rfl (hr ⟨1,.data⟩ (by simp) rfl))
   simp [go_sem,e34]
   exact hK _ _ (hA.c.step 2 35 _ (by omega) (by omega) (Below.refl _ _)) rfl (fun j u _ _ hu=>FreeD.wl_any hu)
  ·intro listed A0 W hA hno hr K' hK
   have hsl:=hA.size
   simp at hsl
   have e35:A0.tmps[35]?.getD undef=.pointer (some ⟨g,0,none⟩):=FreeD.slot_is (hA.val 2 _ rfl (hr ⟨2,.data⟩ (by simp) rfl))
   have f0:W.cell? ⟨g,0,none⟩=some (.pointer (some ⟨d,0,none⟩)):=(hB.later hA.c.b).cell 0
   simp [go_sem,e35,f0]
   exact hK _ _ (hA.c.step 3 36 _ (by omega) (by omega) (Below.refl _ _)) rfl (fun j u _ _ hu=>FreeD.wl_any hu)
  ·intro listed A0 W hA hno hr K' hK
   have hsl:=hA.size
   simp at hsl
   have e4:A0.tmps[4]?.getD undef=.int .u64 G1:=FreeD.slot_is ((hA.kept 4 (Free.not_dst (by kernel_rfl))).trans rfl)
   simp [go_sem,e4]
   exact hK _ _ (hA.c.step 4 37 _ (by omega) (by omega) (Below.refl _ _)) rfl (fun j u _ _ hu=>FreeD.wl_any hu)
  ·intro listed A0 W hA hno hr K' hK
   have hsl:=hA.size
   simp at hsl
   have e37:A0.tmps[37]?.getD undef=.int .u64 G1:=FreeD.slot_is (hA.val 4 _ rfl (hr ⟨4,.data⟩ (by simp) rfl))
   simp [go_sem,e37,EJ]
   exact hK _ _ (hA.c.step 5 38 _ (by omega) (by omega) (Below.refl _ _)) rfl (fun j u _ _ hu=>FreeD.wl_any hu)
  ·intro listed A0 W hA hno hr K' hK
   have hsl:=hA.size
   simp at hsl
   have e38:A0.tmps[38]?.getD undef=.int .u64 J:=FreeD.slot_is (hA.val 5 _ rfl (hr ⟨5,.data⟩ (by simp) rfl))
   simp [go_sem,e38,EJ2]
   exact hK _ _ (hA.c.step 6 39 _ (by omega) (by omega) (Below.refl _ _)) rfl (fun j u _ _ hu=>FreeD.wl_any hu)
  ·intro listed A0 W hA hno hr K' hK
   have hsl:=hA.size
   simp at hsl
   have e5:A0.tmps[5]?.getD undef=.pointer (some ⟨b5,0,none⟩):=FreeD.slot_is ((hA.kept 5 (Free.not_dst (by kernel_rfl))).trans rfl)
   have f0:W.cell? ⟨b5,0,none⟩=some (.int .u64 G1):=(K5.later hA.c.b).cell 0
   have f1:W.cell? ⟨b5,1,none⟩=some (.int .u32 ep):=(K5.later hA.c.b).cell 1
   have f2:W.cell? ⟨b5,2,none⟩=some (.int .u64 ls):=(K5.later hA.c.b).cell 2
   have f3:W.cell? ⟨b5,3,none⟩=some (.int .u64 ver):=(K5.later hA.c.b).cell 3
   have f4:W.cell? ⟨b5,4,none⟩=some (.slice A m p):=(K5.later hA.c.b).cell 4
   have f5:W.cell? ⟨b5,5,none⟩=some (.slice B k1 q):=(K5.later hA.c.b).cell 5
   simp [go_sem,e5,f0,f1,f2,f3,f4,f5]
   exact hK _ _ (hA.c.step 7 40 _ (by omega) (by omega) (Below.refl _ _)) rfl (fun j u _ _ hu=>FreeD.wl_any hu)
  ·intro listed A0 W hA hno hr K' hK
   have hsl:=hA.size
   simp at hsl
   have e40:A0.tmps[40]?.getD undef=.agg #[.int .u64 G1,.int .u32 ep,.int .u64 ls,.int .u64 ver,.slice A m p,.slice B k1 q]:=FreeD.slot_is (hA.val 7 _ rfl (hr ⟨7,.data⟩ (by simp) rfl))
   simp [go_sem,e40]
   refine (HQ.out W hA.c.b).mono ?_
   rintro e' w' ⟨rfl,hb⟩
   exact hK _ _ (hA.c.step 8 41 _ (by omega) (by omega) hb) rfl (fun j u _ _ hu=>FreeD.wl_any hu)
  ·intro listed A0 W hA hno hr K' hK
   have hsl:=hA.size
   simp at hsl
   have e41:A0.tmps[41]?.getD undef=.tuple #[.string S,.int .i64 0]:=FreeD.slot_is (hA.val 8 _ rfl (hr ⟨8,.data⟩ (by simp) rfl))
   simp [go_sem,e41]
   exact hK _ _ (hA.c.step 9 42 _ (by omega) (by omega) (Below.refl _ _)) rfl (fun j u _ _ hu=>FreeD.wl_any hu)
  ·intro listed A0 W hA hno hr K' hK
   have hsl:=hA.size
   simp at hsl
   have e41:A0.tmps[41]?.getD undef=.tuple #[.string S,.int .i64 0]:=FreeD.slot_is (hA.val 8 _ rfl (hr ⟨8,.data⟩ (by simp) rfl))
   simp [go_sem,e41]
   exact hK _ _ (hA.c.step 10 43 _ (by omega) (by omega) (Below.refl _ _)) rfl (fun j u _ _ hu=>FreeD.wl_any hu)
  ·intro listed A0 W hA hno hr K' hK
   have hsl:=hA.size
   simp at hsl
   have e42:A0.tmps[42]?.getD undef=.string S:=FreeD.slot_is (hA.val 9 _ rfl (hr ⟨9,.data⟩ (by simp) rfl))
   have e43:A0.tmps[43]?.getD undef=.int .i64 (0):=FreeD.slot_is (hA.val 10 _ rfl (hr ⟨10,.data⟩ (by simp) rfl))
   simp [go_sem,e42,e43]
   refine (must_s S W).mono ?_
   rintro e' w' ⟨rfl,hb⟩
   exact hK _ _ (hA.c.step 11 44 _ (by omega) (by omega) hb) rfl (fun j u _ _ hu=>FreeD.wl_any hu)
  ·intro listed A0 W hA hno hr K' hK
   have hsl:=hA.size
   simp at hsl
   have e36:A0.tmps[36]?.getD undef=.pointer (some ⟨d,0,none⟩):=FreeD.slot_is (hA.val 3 _ rfl (hr ⟨3,.data⟩ (by simp) rfl))
   have e39:A0.tmps[39]?.getD undef=.int .i64 (J):=FreeD.slot_is (hA.val 6 _ rfl (hr ⟨6,.data⟩ (by simp) rfl))
   have e44:A0.tmps[44]?.getD undef=.string S:=FreeD.slot_is (hA.val 11 _ rfl (hr ⟨11,.data⟩ (by simp) rfl))
   simp [go_sem,e36,e39,e44]
   exact hK _ _ (hA.c.step 12 45 _ (by omega) (by omega) (Below.refl _ _)) rfl (fun j u _ _ hu=>FreeD.wl_any hu)
  ·intro listed A0 W hA hno hr K' hK
   have hsl:=hA.size
   simp at hsl
   have hts:A0.tmps.size=65:=hA.slots.trans rfl
   simp [go_sem,hvS]
   exact hK _ _ (hA.c.alloc (by omega) (by omega) hno (by omega) _ rfl) trivial (fun j u _ _ hu=>FreeD.wl_any hu)
  ·intro listed A0 W hA hno hr K' hK
   have hsl:=hA.size
   simp at hsl
   have e45:A0.tmps[45]?.getD undef=.agg #[.pointer (some ⟨d,0,none⟩),.int .i64 (J),.string S]:=FreeD.slot_is (hA.val 12 _ rfl (hr ⟨12,.data⟩ (by simp) rfl))
   obtain ⟨b,vs,e6,hbb,hvs,hB6,_⟩:=hA.c.da (hr ⟨13,.data⟩ (by simp) rfl)
   refine wp_store_row _ (.tmp 6) (.tmp 45) rfl b #[.pointer (some ⟨d,0,none⟩),.int .i64 J,.string S] e6 (by simpa [Act.eval] using e45) _ _ hB6 info_sc hvs (sc_one _ _ _) ?_
   exact hK undef _ (hA.c.store (by omega) (hr ⟨13,.data⟩ (by simp) rfl) e6 hbb hB6) trivial (fun j u _ _ hu=>FreeD.wl_any hu)
 intro A0 w2 hA
 obtain ⟨b6,vs,s6,hb6,_,K6,hvs⟩:=hA.c.da rfl
 obtain rfl:=hvs rfl
 have hb:=hA.c.b
 have s0:A0.tmps.getD 0 undef=.pointer (some ⟨g,0,none⟩):=(hA.kept 0 (Free.not_dst (by kernel_rfl))).trans rfl
 have s4:A0.tmps.getD 4 undef=.int .u64 G1:=(hA.kept 4 (Free.not_dst (by kernel_rfl))).trans rfl
 have hsl:=hA.slots
 have hde:=hA.defers
 clear hA hvs
 obtain ⟨tm,de⟩:=A0
 simp only at s0 s4 s6 hsl hde
 obtain ⟨y,hy,ee⟩:=arrF65 hsl
 have t0:=(hy 0).symm.trans s0
 have t4:=(hy 4).symm.trans s4
 have t6:=(hy 6).symm.trans s6
 rw [t0,t4,t6] at ee
 clear hy s0 s4 s6 hsl t0 t4 t6
 subst ee hde
 have h2:Dk.Sep W0 w2 (items++[locI [(b6,241,#[.pointer (some ⟨d,0,none⟩),.int .i64 J,.string S])]]):=loc_new h1 hb (fun x hx=>by
  rcases List.mem_cons.1 hx with rfl|hx
  ·exact K6
  ·cases hx) (fun x hx=>by
  rcases List.mem_cons.1 hx with rfl|hx
  ·exact hb6
  ·cases hx)
 have hk2:(items++[locI [(b6,241,#[.pointer (some ⟨d,0,none⟩),.int .i64 J,.string S])]])[k]? = some (Dk.diskI d s):=app_at hk
 have hj2:(items++[locI [(b6,241,#[.pointer (some ⟨d,0,none⟩),.int .i64 J,.string S])]])[j]? = some (logX 156 g d t ls ep gn Kq):=app_at hj
 replace hB:=hB.later hb
 have c0:w2.cell? ⟨g,0,none⟩=some (.pointer (some ⟨d,0,none⟩)):=hB.cell 0
 clear h1 hb K5 K6 HQ hB EG EJ EJ2 hb5 hb6
 by_cases hd:s.dead
 ·have F:=Lib.hid (do_flush_dead h2 hk2 hd)
  have E9:=Lib.hid (HE.out.trans (if_pos hd))
  clear hd h2 HE
  go_wp2_with fail
  refine F.out.mono ?_
  rintro e' w3 ⟨rfl,h3⟩
  exact ⟨rfl,.inr (by rw [E9.out]; exact ⟨by simp,rfl,by rw [set_same hk]; exact loc_drop h3⟩)⟩
 have F:=Lib.hid (do_flush_yes h2 hk2 hd hpl)
 have HE1:=Lib.hid (HE.out.trans (if_neg hd))
 clear hd h2 HE
 have hk3:=get_self (x:=Dk.diskI d s.flush) hk2
 have hj3:=get_set (x:=Dk.diskI d s.flush) hj2 hkj
 have hlast:((items++[locI [(b6,241,#[.pointer (some ⟨d,0,none⟩),.int .i64 J,.string S])]]).set k (Dk.diskI d s.flush))[items.length]? = some (locI [(b6,241,#[.pointer (some ⟨d,0,none⟩),.int .i64 J,.string S])]):=get_set app_last (Nat.ne_of_lt (List.getElem?_eq_some_iff.1 hk).1)
 have hhas:s.flush.has J:=⟨by omega,by show J<s.size; have:=HSZ.out; omega⟩
 have hl1:s.flush.pend.length<1048576:=by show ([]:List (Int × ByteArray)).length<_; simp
 have hl2:(s.flush.write J S).pend.length<1048576:=by show ([]++[(J,S)]:List (Int × ByteArray)).length<_; simp
 go_wp2_with fail
 refine F.out.mono ?_
 rintro e' w3 ⟨rfl,h3⟩
 have K6:Tb.Blk w3 b6 241 #[.pointer (some ⟨d,0,none⟩),.int .i64 J,.string S]:=loc_at h3 hlast _ (List.mem_cons_self ..)
 clear F c0
 by_cases hd1:s.flush.dead
 ·have F:=Lib.hid (do_write_dead h3 hk3 J S hhas HS hd1)
  have E9:=Lib.hid (HE1.out.trans (if_pos hd1))
  clear hd1 h3 HE1 hhas HS hl1 hl2
  go_wp2_with (with_reducible refine load_sc rfl (.tmp 6) rfl b6 rfl K6 ?_)
  refine F.out.mono ?_
  rintro e' w4 ⟨rfl,h4⟩
  rw [app_set hk] at h4
  exact ⟨rfl,.inr (by rw [E9.out]; exact ⟨by simp,rfl,loc_drop h4⟩)⟩
 have F:=Lib.hid (do_write_yes h3 hk3 J S hhas HS hd1 hl1)
 have HE2:=Lib.hid (HE1.out.trans (if_neg hd1))
 clear hd1 h3 HE1 hhas HS hl1
 have hk4:=get_self (x:=Dk.diskI d (s.flush.write J S)) hk3
 have hj4:=get_set (x:=Dk.diskI d (s.flush.write J S)) hj3 hkj
 go_wp2_with (with_reducible refine load_sc rfl (.tmp 6) rfl b6 rfl K6 ?_)
 refine F.out.mono ?_
 rintro e' w4 ⟨rfl,h4⟩
 obtain ⟨A4,m4,p4,B4,k4,q4,C4,n4,r4,hB4,_⟩:=x_at h4 hj4
 have c0:w4.cell? ⟨g,0,none⟩=some (.pointer (some ⟨d,0,none⟩)):=hB4.cell 0
 clear F K6 hB4
 by_cases hd2:(s.flush.write J S).dead
 ·have F:=Lib.hid (do_flush_dead h4 hk4 hd2)
  have E9:=Lib.hid (HE2.out.trans (if_pos hd2))
  clear hd2 h4 HE2
  go_wp2_with fail
  refine F.out.mono ?_
  rintro e' w5 ⟨rfl,h5⟩
  rw [set_set,app_set hk] at h5
  exact ⟨rfl,.inr (by rw [E9.out]; exact ⟨by simp,rfl,loc_drop h5⟩)⟩
 have F:=Lib.hid (do_flush_yes h4 hk4 hd2 hl2)
 have HE3:=Lib.hid (HE2.out.trans (if_neg hd2))
 clear hd2 h4 HE2 hl2
 have hj5:=get_set (x:=Dk.diskI d (s.flush.write J S).flush) hj4 hkj
 go_wp2_with fail
 refine F.out.mono ?_
 rintro e' w5 ⟨rfl,h5⟩
 obtain ⟨A5,m5,p5,B5,k5,q5,C5,n5,r5,hB5,_⟩:=x_at h5 hj5
 have c8:w5.cell? ⟨g,8,none⟩=some (.int .u64 gn):=hB5.cell 8
 have f8:=hB5.frozen 8
 have h6:=x_gen h5 hj5 G1
 rw [set_set,set_set,app_set hk,app_set (get_set hj hkj)] at h6
 have H6:=Lib.hid (loc_drop h6)
 clear h5 h6 F hB5 c0
 go_wp2_with fail
 go_end0
 exact (.inl (by rw [HE3.out]; exact ⟨rfl,rfl,by rw [HG.out]; exact H6.out⟩))
end Go.Proofs.YtcnohlgigmmefaaGreat.Lg
