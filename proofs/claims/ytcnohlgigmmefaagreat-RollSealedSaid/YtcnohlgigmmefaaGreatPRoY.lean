/- A part. -/
import Derived.Test.YtcnohlgigmmefaaGreatPRoX
import Derived.Test.YtcnohlgigmmefaaGreatPLhN
namespace Go.Proofs.YtcnohlgigmmefaaGreat.Ro
open Go.RowKit Go.Lib
open Tb (Tab TIn Sl okP csT lastN nth Fresh)
open Dk (St Only Grew)
open Lg (sep_tail locI rowS loc_cell loc_whole loc_alloc loc_blk logI chkS)
set_option linter.unusedVariables false
set_option maxRecDepth 100000
structure Goes (m:Img):Prop where
 ok:okP m.t
 ls:1≤m.ls∧m.ls<18446744073709551616
 v:0≤m.v∧m.v<18446744073709551616
 e:0≤m.c.e∧m.c.e+1<4294967296
 g:0≤m.c.g∧m.c.g<9223372036854775807
def OpenQ (T TL:TypeId) (items:List Dk.Item) (k d:Nat) (sg st rt:Int) (x:Nat) (s:St) (W:World) (e:Ending) (w' : World):Prop :=
 (¬ Ck.MayC sg st x rt∧e=.returned (.tuple #[.pointer none,.agg zeroI,.int .i64 1])∧Dk.Sep W w' items) ∨
 (Ck.MayC sg st x rt∧s.size<Ck.scC sg st x rt∧e=.returned (.tuple #[.pointer none,.agg zeroI,.int .i64 10])∧Dk.Sep W w' items) ∨
 (Ck.MayC sg st x rt∧Ck.scC sg st x rt≤s.size∧scanI s.cur sg st=none∧e=.returned (.tuple #[.pointer none,.agg zeroI,.int .i64 5])∧Dk.Sep W w' items) ∨
 (Ck.MayC sg st x rt∧Ck.scC sg st x rt≤s.size∧∃ (m:Img) (S:ByteArray),scanI s.cur sg st=some m∧Cp.secL ⟨m.c.g+1,m.c.e+1,m.ls,m.v,m.t.o,m.t.l⟩=S.data.toList ∧
  (((chkS s m.c.g S).2.2≠0∧e=.returned (.tuple #[.pointer none,.agg zeroI,.int .i64 (chkS s m.c.g S).2.2])∧Dk.Sep W w' (items.set k (Dk.diskI d (chkS s m.c.g S).1))) ∨
   ((chkS s m.c.g S).2.2=0∧∃ (y:IL) (g:Nat),e=.returned (.tuple #[.pointer (some ⟨g,0,none⟩),.agg (y.cs m),.int .i64 0]) ∧
     Dk.Sep W w' (items.set k (Dk.diskI d (chkS s m.c.g S).1)++[y.fI T m,y.kI m,y.tI m,logI TL g d m.t m.ls (m.c.e+1) (m.c.g+1)]))))
theorem sec_bytes (c:Cp.Chk):∃ S:ByteArray,Cp.secL c=S.data.toList:=⟨⟨(Cp.secL c).toArray⟩,rfl⟩
theorem res_po {fn:Func} {o' p' q' : Tmp} (h:fn.results=#[.tmp o',.cell p' 48,.tmp q']) (tmps:Array Value) (W:World) (b:Nat) {cs:Array Value} {t:TypeId} {x y:Value} (ho:tmps.getD o' undef=x) (hp:tmps.getD p' undef=.pointer (some ⟨b,0,none⟩)) (hq:tmps.getD q' undef=y) (L:Tb.Blk W b t cs) (hs:cs.size=14) :
 (results fn tmps).run Tryz.prog W=.ok (.tuple #[x,.agg cs,y]) W:=by
 have ho' : tmps[o']?.getD undef=x:=by simpa using ho
 have hp' : tmps[p']?.getD undef=.pointer (some ⟨b,0,none⟩):=by simpa using hp
 have hq' : tmps[q']?.getD undef=y:=by simpa using hq
 have h1:(loadVar 48 ⟨b,0,none⟩).run Tryz.prog W=.ok (.agg cs) W:=run_loadVar_row W b t 48 cs (0,0) _ L Tryz.underlying48 rfl (by rw [hs]; exact info_pi)
 simp [results,h,ho',hp',hq',asAddr,h1]
theorem scan_cases {T TL:TypeId} {items:List Dk.Item} {k d:Nat} {sg st rt:Int} {x:Nat} {s:St} {W w w' : World} {e:Ending} (h:ScanQ T sg st rt x s w e w') :
 (∃ z:Int,z≠0∧e=.returned (.tuple #[.agg zeroI,.int .i64 z])∧Below w.heap.size w w'∧∀ W',Dk.Sep W W' items→OpenQ T TL items k d sg st rt x s W (.returned (.tuple #[.pointer none,.agg zeroI,.int .i64 z])) W') ∨
 (Ck.MayC sg st x rt∧Ck.scC sg st x rt≤s.size∧∃ (m:Img) (y:IL),scanI s.cur sg st=some m∧e=.returned (.tuple #[.agg (y.cs m),.int .i64 0])∧Dk.Sep w w' [y.fI T m,y.kI m,y.tI m]):=by
 rcases h with ⟨hm,e,hb⟩ | ⟨hm,hlt,e,hb⟩ | ⟨hm,hle,⟨hno,e,hb⟩ | ⟨m,y,ho,e,S7⟩⟩
 ·exact .inl ⟨1,by decide,e,hb,fun W' h=>.inl ⟨hm,rfl,h⟩⟩
 ·exact .inl ⟨10,by decide,e,hb,fun W' h=>.inr (.inl ⟨hm,hlt,rfl,h⟩)⟩
 ·exact .inl ⟨5,by decide,e,hb,fun W' h=>.inr (.inr (.inl ⟨hm,hle,hno,rfl,h⟩))⟩
 ·exact .inr ⟨hm,hle,m,y,ho,e,S7⟩
theorem arrF44 {cs:Array Value} (h:cs.size=44):∃ y:Nat→Value,(∀ i,cs.getD i undef=y i)∧cs=#[y 0,y 1,y 2,y 3,y 4,y 5,y 6,y 7,y 8,y 9,y 10,y 11,y 12,y 13,y 14,y 15,y 16,y 17,y 18,y 19,y 20,y 21,y 22,y 23,y 24,y 25,y 26,y 27,y 28,y 29,y 30,y 31,y 32,y 33,y 34,y 35,y 36,y 37,y 38,y 39,y 40,y 41,y 42,y 43]:=by
 refine ⟨fun i=>cs.getD i undef,fun _=>rfl,?_⟩
 have e:cs=((List.range 44).map fun i=>cs.getD i undef).toArray:=by
  apply Array.ext
  ·simp [h]
  ·intro i h1 h2
   simp [h1]
 exact e.trans rfl
def OneRow (w:World) (b i:Nat) (cs:Array Value) (listed:Array Bool) (_:Act) (W:World):Prop:=W=if listed.getD i false=true then w.setRow b cs else w
theorem OneRow.step {w W:World} {b i j:Nat} {cs:Array Value} {listed:Array Bool} {a a' : Act} (h:OneRow w b i cs listed a W) (hj:j≠i):OneRow w b i cs (listed.setIfInBounds j true) a' W:=by
 unfold OneRow at *
 rw [getD_set_ne false hj]
 exact h
theorem OneRow.lay {w W:World} {b i:Nat} {cs:Array Value} {listed:Array Bool} {a a' : Act} (h:OneRow w b i cs listed a W) (hi:i<listed.size) (hno:listed.getD i true=false):W=w∧OneRow w b i cs (listed.setIfInBounds i true) a' (w.setRow b cs):=by
 unfold OneRow at *
 rw [FreeD.not_listed hi hno] at h
 exact ⟨h,by rw [NewC.set_self hi]; rfl⟩
theorem OneRow.far {w W:World} {b i g:Nat} {cs vs:Array Value} {T:TypeId} {listed:Array Bool} {a:Act} (h:OneRow w b i cs listed a W) (hg:Tb.Blk w g T vs) (hne:g≠b):Tb.Blk W g T vs:=by
 unfold OneRow at h
 rw [h]
 split
 ·exact hg.far (Ne.symm hne) _
 ·exact hg
set_option maxHeartbeats 16000000 in
theorem popen_any {W w:World} {items:List Dk.Item} {k d:Nat} {s:St} (h:Dk.Sep W w items) (hk:items[k]? = some (Dk.diskI d s)) (hg:s.Good) (hpl:s.pend.length<1048576) (sg st rt:Int) (x:Nat) (hx:x<18446744073709551616) (hgo:∀ m,scanI s.cur sg st=some m→Goes m) :
 Calls Tryz.prog 20 #[.pointer (some ⟨d,0,none⟩),.agg #[.int .i64 sg,.int .i64 st,.float .f64 x,.int .i64 rt]] w (OpenQ 101 156 items k d sg st rt x s W):=by
 have hvI:=Tryz.zeroValue48
 have S0:=loc_front h 24 (Lg.csF sg st x rt)
 have S1:=sep_skip (loc_front S0 48 zeroI)
 have K3:Tb.Blk ((w.alloc (.cells (Lg.csF sg st x rt) 24)).alloc (.cells zeroI 48)) w.heap.size 24 (Lg.csF sg st x rt):=(Tb.Blk.new w _ _).later (NewC.below1 _ _)
 obtain ⟨b3,e3⟩:∃ z,w.heap.size=z:=⟨_,rfl⟩
 rw [show (w.alloc (.cells (Lg.csF sg st x rt) 24)).heap.size=w.heap.size+1 by simp,e3] at S1
 rw [e3] at K3
 have HH:=Lib.hid (And.intro hk hg)
 clear h S0
 go_enter Tryz.func20,Tryz.ntmps20
 go_upto_region 1 with fail
 change Code.wp _ _ _ _ ((w.alloc (.cells (Lg.csF sg st x rt) 24)).alloc (.cells zeroI 48))
 generalize ((w.alloc (.cells (Lg.csF sg st x rt) 24)).alloc (.cells zeroI 48))=w0 at *
 clear e3
 have HSC:=Lib.hid (pscan_any S1 (kk:=k+1) (d:=d) (s:=s) hk hg sg st rt x hx)
 have HGO:=Lib.hid hgo
 clear hk hg hgo
 go_wp2_with (with_reducible refine Lg.load_cf rfl (.tmp 3) rfl b3 rfl K3 ?_)
 refine HSC.out.mono ?_
 rintro e' w1 hq
 rcases scan_cases (TL:=156) (items:=items) (k:=k) (d:=d) (W:=W) hq with ⟨z,hz,rfl,hb,HQ⟩ | ⟨hm,hle,m,⟨A,n1,p,B,k1,q,A2,n2,p2,B2,k2,q2,C2,n3,r2,F,pf⟩,ho,he,S7⟩
 ·have S2:=loc_whole (loc_front (S1.later hb) 48 #[.int .u64 0,.int .u32 0,.int .u64 0,.int .u64 0,.slice none 0 0,.slice none 0 0,.int .i64 0,.int .i64 0,.slice none 0 0,.slice none 0 0,.slice none 0 0,.int .u64 0,.int .u64 0,.slice none 0 0]) (k:=0) rfl zeroI
  have K7:Tb.Blk (w1.alloc (.cells #[.int .u64 0,.int .u32 0,.int .u64 0,.int .u64 0,.slice none 0 0,.slice none 0 0,.int .i64 0,.int .i64 0,.slice none 0 0,.slice none 0 0,.slice none 0 0,.int .u64 0,.int .u64 0,.slice none 0 0] 48)) w1.heap.size 48 #[.int .u64 0,.int .u32 0,.int .u64 0,.int .u64 0,.slice none 0 0,.slice none 0 0,.int .i64 0,.int .i64 0,.slice none 0 0,.slice none 0 0,.slice none 0 0,.int .u64 0,.int .u64 0,.slice none 0 0]:=Tb.Blk.new w1 _ _
  have hz1:zeroI.all (·.oneCell')=true:=by simp [zeroI,csI,Value.oneCell']
  have q1:(z != 0)=true:=by simpa using hz
  clear hq hb hz HSC K3 S1
  go_upto_region 2 with (with_reducible refine store_pi (cs:=zeroI) rfl (.tmp 7) (.tmp 15) rfl w1.heap.size rfl rfl K7 rfl rfl hz1 ?_)
  clear K7 hz1
  generalize (w1.alloc (.cells #[.int .u64 0,.int .u32 0,.int .u64 0,.int .u64 0,.slice none 0 0,.slice none 0 0,.int .i64 0,.int .i64 0,.slice none 0 0,.slice none 0 0,.slice none 0 0,.int .u64 0,.int .u64 0,.slice none 0 0] 48)).setRow w1.heap.size zeroI=w2 at *
  have K5:=loc_blk S2 (k:=1) rfl
  go_wp2_with (with_reducible refine store_pi rfl (.tmp 5) (.tmp 19) rfl (b3+1) rfl rfl K5 rfl rfl (by simp [Value.oneCell']) ?_)
  exact bodyPost_ret (res_po (x:=.pointer none) (y:=.int .i64 z) rfl _ _ (b3+1) rfl rfl rfl (K5.row _) rfl) rfl (HQ _ (sep_tail (sep_tail (loc_whole S2 (k:=1) rfl _))))
 obtain rfl:e' = .returned (.tuple #[.agg (csI m.c.g m.c.e m.c.l m.c.v A n1 p B k1 q m.t.sg m.t.st (.slice A2 n2 p2) (.slice B2 k2 q2) (.slice C2 n3 r2) m.ls m.v (.slice F m.f.length pf)),.int .i64 0]):=he
 have S2:Dk.Sep W w1 (locI [(b3+1,48,zeroI)] :: (items++[IL.fI ⟨A,n1,p,B,k1,q,A2,n2,p2,B2,k2,q2,C2,n3,r2,F,pf⟩ 101 m,tabI A n1 B k1 none 0 m.c.o m.c.n [],tabI A2 n2 B2 k2 C2 n3 m.t.o m.t.l m.t.f])):=Lg.sep_join S1 S7
 have hlen:k<items.length:=(List.getElem?_eq_some_iff.1 HH.out.1).1
 obtain ⟨its,hits⟩:∃ z,items++[IL.fI ⟨A,n1,p,B,k1,q,A2,n2,p2,B2,k2,q2,C2,n3,r2,F,pf⟩ 101 m,tabI A n1 B k1 none 0 m.c.o m.c.n [],tabI A2 n2 B2 k2 C2 n3 m.t.o m.t.l m.t.f]=z:=⟨_,rfl⟩
 have hki:its[k]? = some (Dk.diskI d s):=by rw [← hits,List.getElem?_append_left hlen]; exact HH.out.1
 have hht:its[items.length+2]? = some (tabI A2 n2 B2 k2 C2 n3 m.t.o m.t.l m.t.f):=by rw [← hits,List.getElem?_append_right (by omega),show items.length+2-items.length=2 by omega]; rfl
 rw [hits] at S2
 have HIT:=Lib.hid hits
 have GO:=HGO.out m ho
 have S3:=loc_whole (loc_front S2 48 #[.int .u64 0,.int .u32 0,.int .u64 0,.int .u64 0,.slice none 0 0,.slice none 0 0,.int .i64 0,.int .i64 0,.slice none 0 0,.slice none 0 0,.slice none 0 0,.int .u64 0,.int .u64 0,.slice none 0 0]) (k:=0) rfl (csI m.c.g m.c.e m.c.l m.c.v A n1 p B k1 q m.t.sg m.t.st (.slice A2 n2 p2) (.slice B2 k2 q2) (.slice C2 n3 r2) m.ls m.v (.slice F m.f.length pf))
 have K7:Tb.Blk (w1.alloc (.cells #[.int .u64 0,.int .u32 0,.int .u64 0,.int .u64 0,.slice none 0 0,.slice none 0 0,.int .i64 0,.int .i64 0,.slice none 0 0,.slice none 0 0,.slice none 0 0,.int .u64 0,.int .u64 0,.slice none 0 0] 48)) w1.heap.size 48 #[.int .u64 0,.int .u32 0,.int .u64 0,.int .u64 0,.slice none 0 0,.slice none 0 0,.int .i64 0,.int .i64 0,.slice none 0 0,.slice none 0 0,.slice none 0 0,.int .u64 0,.int .u64 0,.slice none 0 0]:=Tb.Blk.new w1 _ _
 have HNE:Hid (w1.heap.size≠b3+1):=Lib.hid (by have:=(loc_blk S2 (k:=0) rfl).lt; omega)
 obtain ⟨b7,e7⟩:∃ z,w1.heap.size=z:=⟨_,rfl⟩
 rw [e7] at S3 K7 HNE
 have HO:=Lib.hid (And.intro hm (And.intro hle ho))
 clear hq hits S2 HSC HGO S1 S7 hm hle ho K3
 go_upto_region 2 with (with_reducible refine store_pi rfl (.tmp 7) (.tmp 15) rfl b7 rfl rfl K7 rfl rfl (csI_one ..) ?_)
 replace S3:Dk.Sep W _ (locI [(b7,48,(csI m.c.g m.c.e m.c.l m.c.v A n1 p B k1 q m.t.sg m.t.st (.slice A2 n2 p2) (.slice B2 k2 q2) (.slice C2 n3 r2) m.ls m.v (.slice F m.f.length pf)))] :: locI [(b3+1,48,zeroI)] :: its):=S3
 clear K7 e7
 generalize (w1.alloc (.cells #[.int .u64 0,.int .u32 0,.int .u64 0,.int .u64 0,.slice none 0 0,.slice none 0 0,.int .i64 0,.int .i64 0,.slice none 0 0,.slice none 0 0,.slice none 0 0,.int .u64 0,.int .u64 0,.slice none 0 0] 48)).setRow b7 (csI m.c.g m.c.e m.c.l m.c.v A n1 p B k1 q m.t.sg m.t.st (.slice A2 n2 p2) (.slice B2 k2 q2) (.slice C2 n3 r2) m.ls m.v (.slice F m.f.length pf))=w2 at *
 have K7:Tb.Blk w2 b7 48 (csI m.c.g m.c.e m.c.l m.c.v A n1 p B k1 q m.t.sg m.t.st (.slice A2 n2 p2) (.slice B2 k2 q2) (.slice C2 n3 r2) m.ls m.v (.slice F m.f.length pf)):=loc_blk S3 (k:=0) rfl
 have c0:w2.cell? ⟨b7,0,none⟩=some (.int .u64 m.c.g):=K7.cell 0
 have c1:w2.cell? ⟨b7,1,none⟩=some (.int .u32 m.c.e):=K7.cell 1
 have c11:w2.cell? ⟨b7,11,none⟩=some (.int .u64 m.ls):=K7.cell 11
 have HAT:=Lib.hid (Lg.at_any (p:=p2) (q:=q2) (r:=r2) (tab_tin S3 (j:=items.length+4) hht) GO.ok d m.ls (m.c.e+1) m.c.g)
 have he0:=GO.e.1
 have he1:=GO.e.2
 have HGO:=Lib.hid GO
 clear GO
 go_wp2_with (with_reducible refine load_it rfl (.tmp 22) rfl b7 rfl K7 ?_)
 refine HAT.out.mono ?_
 rintro e' w3 ⟨g,A1,m1,p1,B1,k3,q1,C1,n4,r1,W1,rfl,hB,hgw,htn,hf,hn,hb⟩
 have S4:=Lg.log_new S3 hb hB hgw htn HGO.out.ok hf hn
 have c12:w3.cell? ⟨b7,12,none⟩=some (.int .u64 m.v):=(K7.later hb).cell 12
 obtain ⟨S,hS⟩:=sec_bytes ⟨m.c.g+1,m.c.e+1,m.ls,m.v,m.t.o,m.t.l⟩
 have hz2:2≤s.size:=by
  have h0:=HO.out.2.1
  unfold Ck.scC at h0
  rw [if_pos HO.out.1] at h0
  have h1:=HO.out.1.1
  have h2:=HO.out.1.2.1
  have:=Int.mul_nonneg (show 0≤sg by omega) (show 0≤st+1 by omega)
  omega
 have hk2:(locI [(b7,48,(csI m.c.g m.c.e m.c.l m.c.v A n1 p B k1 q m.t.sg m.t.st (.slice A2 n2 p2) (.slice B2 k2 q2) (.slice C2 n3 r2) m.ls m.v (.slice F m.f.length pf)))] :: locI [(b3+1,48,zeroI)] :: its)[k+2]? = some (Dk.diskI d s):=hki
 have hll:its.length=items.length+3:=by rw [← HIT.out]; simp
 have hkj:k+2≠(locI [(b7,48,(csI m.c.g m.c.e m.c.l m.c.v A n1 p B k1 q m.t.sg m.t.st (.slice A2 n2 p2) (.slice B2 k2 q2) (.slice C2 n3 r2) m.ls m.v (.slice F m.f.length pf)))] :: locI [(b3+1,48,zeroI)] :: its).length:=by
  rw [List.length_cons,List.length_cons,hll]
  omega
 have HK:=Lib.hid (Lg.pchk_any S4 (k:=k+2) (Lg.app_at hk2) Lg.app_last hkj m.v HGO.out.v HGO.out.ls ⟨by have:=HGO.out.e.1; omega,HGO.out.e.2⟩ HGO.out.g hz2 hpl S hS)
 obtain ⟨z,Ez⟩:∃ z,(chkS s m.c.g S).2.2=z:=⟨_,rfl⟩
 have HEZ:=Lib.hid Ez
 rw [Ez] at HK
 clear S3 hb hB hgw htn hf hn HAT c0 c1 c11 hht he0 he1 Ez
 go_wp2_with fail
 refine HK.out.mono ?_
 rintro e' w6 ⟨rfl,it,S6,hit⟩
 rw [Lg.app_fin hk2] at S6
 have HIL:=Lib.hid hit
 have HSB:=Lib.hid (And.intro hS hll)
 clear HK S4 c12 hz2 hS hll hit K7
 have S7:Dk.Sep W w6 (locI [(b7,48,(csI m.c.g m.c.e m.c.l m.c.v A n1 p B k1 q m.t.sg m.t.st (.slice A2 n2 p2) (.slice B2 k2 q2) (.slice C2 n3 r2) m.ls m.v (.slice F m.f.length pf)))] :: locI [(b3+1,48,zeroI)] :: (its.set k (Dk.diskI d (chkS s m.c.g S).1)++[it])):=S6
 clear S6
 have hfin:its.set k (Dk.diskI d (chkS s m.c.g S).1)=items.set k (Dk.diskI d (chkS s m.c.g S).1)++[IL.fI ⟨A,n1,p,B,k1,q,A2,n2,p2,B2,k2,q2,C2,n3,r2,F,pf⟩ 101 m,tabI A n1 B k1 none 0 m.c.o m.c.n [],tabI A2 n2 B2 k2 C2 n3 m.t.o m.t.l m.t.f]:=by
  rw [← HIT.out,List.set_append,if_pos hlen]
 have HFIN:=Lib.hid hfin
 clear hfin hki hlen hk2 hkj
 by_cases hz:z=0
 case neg =>
  have q1:(z != 0)=true:=by simpa using hz
  have K5:=loc_blk S7 (k:=1) rfl
  have HZ:=Lib.hid hz
  clear hz
  go_wp2_with (with_reducible refine store_pi rfl (.tmp 5) (.tmp 40) rfl (b3+1) rfl rfl K5 rfl rfl (by simp [Value.oneCell']) ?_)
  have S8:=Lg.loc_drop (sep_tail (sep_tail (loc_whole S7 (k:=1) rfl #[.int .u64 0,.int .u32 0,.int .u64 0,.int .u64 0,.slice none 0 0,.slice none 0 0,.int .i64 0,.int .i64 0,.slice none 0 0,.slice none 0 0,.slice none 0 0,.int .u64 0,.int .u64 0,.slice none 0 0])))
  rw [HFIN.out] at S8
  refine bodyPost_ret (res_po (x:=.pointer none) (y:=.int .i64 z) rfl _ _ (b3+1) rfl rfl rfl (K5.row _) rfl) rfl (.inr (.inr (.inr ⟨HO.out.1,HO.out.2.1,m,S,HO.out.2.2,HSB.out.1,.inl ⟨by rw [HEZ.out]; exact HZ.out,by rw [HEZ.out]; rfl,?_⟩⟩)))
  exact Lg.loc_drop (Lg.loc_drop (Lg.loc_drop (a:=tabI A2 n2 B2 k2 C2 n3 m.t.o m.t.l m.t.f) (items:=items.set k (Dk.diskI d (chkS s m.c.g S).1)++[IL.fI ⟨A,n1,p,B,k1,q,A2,n2,p2,B2,k2,q2,C2,n3,r2,F,pf⟩ 101 m]++[tabI A n1 B k1 none 0 m.c.o m.c.n []]) (by rw [List.append_assoc,List.append_assoc]; exact S8)))
 have q1:(z != 0)=false:=by rw [hz]; rfl
 have HZ:=Lib.hid hz
 clear hz
 go_upto_region 8 with fail
 have K7:Tb.Blk w6 b7 48 (csI m.c.g m.c.e m.c.l m.c.v A n1 p B k1 q m.t.sg m.t.st (.slice A2 n2 p2) (.slice B2 k2 q2) (.slice C2 n3 r2) m.ls m.v (.slice F m.f.length pf)):=loc_blk S7 (k:=0) rfl
 have K5:=loc_blk S7 (k:=1) rfl
 have hne:=HNE.out
 have KD7:=K7.later (Below.refl w6.heap.size w6).drew
 have KD5:=K5.later (Below.refl w6.heap.size w6).drew
 refine FreeC.wp_freeC (FreeD.wl [some (.pointer (some ⟨g,0,none⟩)),some (.agg (csI m.c.g m.c.e m.c.l m.c.v A n1 p B k1 q m.t.sg m.t.st (.slice A2 n2 p2) (.slice B2 k2 q2) (.slice C2 n3 r2) m.ls m.v (.slice F m.f.length pf))),some (.pointer (some ⟨g,0,none⟩)),none,some (.int .i64 0)]) (OneRow { w6 with drawn:=w6.drawn+1 } (b3+1) 3 (csI m.c.g m.c.e m.c.l m.c.v A n1 p B k1 q m.t.sg m.t.st (.slice A2 n2 p2) (.slice B2 k2 q2) (.slice C2 n3 r2) m.ls m.v (.slice F m.f.length pf))) (by kernel_rfl) (by kernel_rfl) rfl ?_ ?_
 ·refine ⟨?_,?_,?_,?_,?_,trivial⟩
  ·intro listed A0 W hA hno hr K' hK
   have e9:A0.tmps[9]?.getD undef=.pointer (some ⟨g,0,none⟩):=FreeD.slot_is ((hA.kept 9 (Free.not_dst (by kernel_rfl))).trans rfl)
   simp [go_sem,e9]
   exact hK _ _ (hA.c.step (j:=0) (by decide)) rfl (fun j u _ _ hu=>FreeD.wl_any hu)
  ·intro listed A0 W hA hno hr K' hK
   have e7:A0.tmps.getD 7 undef=.pointer (some ⟨b7,0,none⟩):=(hA.kept 7 (Free.not_dst (by kernel_rfl))).trans rfl
   refine wp_load_row _ (.tmp 7) rfl b7 e7 _ (csI m.c.g m.c.e m.c.l m.c.v A n1 p B k1 q m.t.sg m.t.st (.slice A2 n2 p2) (.slice B2 k2 q2) (.slice C2 n3 r2) m.ls m.v (.slice F m.f.length pf)) (0,0) _ (hA.c.far KD7 hne) Tryz.underlying48 rfl info_pi ?_
   exact hK _ _ (hA.c.step (j:=1) (by decide)) rfl (fun j u _ _ hu=>FreeD.wl_any hu)
  ·intro listed A0 W hA hno hr K' hK
   have e42:A0.tmps[42]?.getD undef=.pointer (some ⟨g,0,none⟩):=FreeD.slot_is (hA.val 0 _ rfl (hr ⟨0,.data⟩ (by simp) rfl))
   simp [go_sem,e42]
   exact hK _ _ (hA.c.step (j:=2) (by decide)) rfl (fun j u _ _ hu=>FreeD.wl_any hu)
  ·intro listed A0 W hA hno hr K' hK
   have hsl:=hA.size
   simp at hsl
   have e5:A0.tmps.getD 5 undef=.pointer (some ⟨b3+1,0,none⟩):=(hA.kept 5 (Free.not_dst (by kernel_rfl))).trans rfl
   have e43:A0.tmps.getD 43 undef=.agg (csI m.c.g m.c.e m.c.l m.c.v A n1 p B k1 q m.t.sg m.t.st (.slice A2 n2 p2) (.slice B2 k2 q2) (.slice C2 n3 r2) m.ls m.v (.slice F m.f.length pf)):=hA.val 1 _ rfl (hr ⟨1,.data⟩ (by simp) rfl)
   obtain ⟨hW,hl⟩:=hA.c.lay (a':=A0.put none undef) (by omega) hno
   subst hW
   refine wp_store_row _ (.tmp 5) (.tmp 43) rfl (b3+1) (csI m.c.g m.c.e m.c.l m.c.v A n1 p B k1 q m.t.sg m.t.st (.slice A2 n2 p2) (.slice B2 k2 q2) (.slice C2 n3 r2) m.ls m.v (.slice F m.f.length pf)) e5 e43 _ _ KD5 info_pi rfl (csI_one ..) ?_
   exact hK undef _ hl trivial (fun j u _ _ hu=>FreeD.wl_any hu)
  ·intro listed A0 W hA hno hr K' hK
   simp [go_sem]
   exact hK _ _ (hA.c.step (j:=4) (by decide)) rfl (fun j u _ _ hu=>FreeD.wl_any hu)
 intro A0 W1 hA
 have hW:W1=({ w6 with drawn:=w6.drawn+1 }:World).setRow (b3+1) (csI m.c.g m.c.e m.c.l m.c.v A n1 p B k1 q m.t.sg m.t.st (.slice A2 n2 p2) (.slice B2 k2 q2) (.slice C2 n3 r2) m.ls m.v (.slice F m.f.length pf)):=hA.c
 have s4:A0.tmps.getD 4 undef=.pointer (some ⟨g,0,none⟩):=hA.val 2 _ rfl rfl
 have s6:A0.tmps.getD 6 undef=.int .i64 0:=hA.val 4 _ rfl rfl
 have s5:A0.tmps.getD 5 undef=.pointer (some ⟨b3+1,0,none⟩):=(hA.kept 5 (Free.not_dst (by kernel_rfl))).trans rfl
 have hsl:=hA.slots
 have hde:=hA.defers
 clear hA
 obtain ⟨tm,de⟩:=A0
 simp only at s4 s5 s6 hsl hde
 obtain ⟨y,hy,ee⟩:=arrF44 hsl
 have t4:=(hy 4).symm.trans s4
 have t5:=(hy 5).symm.trans s5
 have t6:=(hy 6).symm.trans s6
 rw [t4,t5,t6] at ee
 clear hy s4 s5 s6 hsl t4 t5 t6
 subst ee hde hW
 have S9:Dk.Sep W (({ w6 with drawn:=w6.drawn+1 }:World).setRow (b3+1) (csI m.c.g m.c.e m.c.l m.c.v A n1 p B k1 q m.t.sg m.t.st (.slice A2 n2 p2) (.slice B2 k2 q2) (.slice C2 n3 r2) m.ls m.v (.slice F m.f.length pf))) (locI [(b7,48,(csI m.c.g m.c.e m.c.l m.c.v A n1 p B k1 q m.t.sg m.t.st (.slice A2 n2 p2) (.slice B2 k2 q2) (.slice C2 n3 r2) m.ls m.v (.slice F m.f.length pf)))] :: locI [(b3+1,48,(csI m.c.g m.c.e m.c.l m.c.v A n1 p B k1 q m.t.sg m.t.st (.slice A2 n2 p2) (.slice B2 k2 q2) (.slice C2 n3 r2) m.ls m.v (.slice F m.f.length pf)))] :: (its.set k (Dk.diskI d (chkS s m.c.g S).1)++[it])):=loc_whole (S7.later (w':={ w6 with drawn:=w6.drawn+1 }) (Below.refl w6.heap.size w6).drew) (k:=1) rfl (csI m.c.g m.c.e m.c.l m.c.v A n1 p B k1 q m.t.sg m.t.st (.slice A2 n2 p2) (.slice B2 k2 q2) (.slice C2 n3 r2) m.ls m.v (.slice F m.f.length pf))
 generalize ({ w6 with drawn:=w6.drawn+1 }:World).setRow (b3+1) (csI m.c.g m.c.e m.c.l m.c.v A n1 p B k1 q m.t.sg m.t.st (.slice A2 n2 p2) (.slice B2 k2 q2) (.slice C2 n3 r2) m.ls m.v (.slice F m.f.length pf))=w9 at *
 have KR:Tb.Blk w9 (b3+1) 48 (csI m.c.g m.c.e m.c.l m.c.v A n1 p B k1 q m.t.sg m.t.st (.slice A2 n2 p2) (.slice B2 k2 q2) (.slice C2 n3 r2) m.ls m.v (.slice F m.f.length pf)):=loc_blk S9 (k:=1) rfl
 go_wp2_with fail
 have hc0:(chkS s m.c.g S).2.2=0:=HEZ.out.trans HZ.out
 have hit:=HIL.out (by have:=HZ.out; omega)
 rw [Lg.chk_zero hc0] at hit
 refine bodyPost_ret (res_po (x:=.pointer (some ⟨g,0,none⟩)) (y:=.int .i64 0) rfl _ _ (b3+1) rfl rfl rfl KR rfl) rfl (.inr (.inr (.inr ⟨HO.out.1,HO.out.2.1,m,S,HO.out.2.2,HSB.out.1,.inr ⟨hc0,⟨A,n1,p,B,k1,q,A2,n2,p2,B2,k2,q2,C2,n3,r2,F,pf⟩,g,rfl,?_⟩⟩)))
 have S10:=sep_tail (sep_tail S9)
 rw [HFIN.out,hit,List.append_assoc] at S10
 exact S10
end Go.Proofs.YtcnohlgigmmefaaGreat.Ro
