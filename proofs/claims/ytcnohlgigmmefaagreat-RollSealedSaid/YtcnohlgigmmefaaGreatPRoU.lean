/- A part. -/
import Derived.Test.YtcnohlgigmmefaaGreatPRoP
import Derived.Test.YtcnohlgigmmefaaGreatPRoN
namespace Go.Proofs.YtcnohlgigmmefaaGreat.Ro
open Go.RowKit Go.Lib
open Tb (Tab TIn Sl okP csT lastN nth Fresh)
open Dk (St Only Grew)
open Lg (locI rowS loc_cell loc_whole loc_alloc loc_blk)
set_option linter.unusedVariables false
set_option maxRecDepth 100000
theorem arrF65 {cs:Array Value} (h:cs.size=65):∃ y:Nat→Value,(∀ i,cs.getD i undef=y i)∧cs=#[y 0,y 1,y 2,y 3,y 4,y 5,y 6,y 7,y 8,y 9,y 10,y 11,y 12,y 13,y 14,y 15,y 16,y 17,y 18,y 19,y 20,y 21,y 22,y 23,y 24,y 25,y 26,y 27,y 28,y 29,y 30,y 31,y 32,y 33,y 34,y 35,y 36,y 37,y 38,y 39,y 40,y 41,y 42,y 43,y 44,y 45,y 46,y 47,y 48,y 49,y 50,y 51,y 52,y 53,y 54,y 55,y 56,y 57,y 58,y 59,y 60,y 61,y 62,y 63,y 64]:=by
 refine ⟨fun i=>cs.getD i undef,fun _=>rfl,?_⟩
 have e:cs=((List.range 65).map fun i=>cs.getD i undef).toArray:=by
  apply Array.ext
  ·simp [h]
  ·intro i h1 h2
   simp [h1]
 exact e.trans rfl
theorem info_tb:(Tryz.prog.info? 45).map (·.size)=some 5:=by kernel_rfl
theorem info_pi:(Tryz.prog.info? 48).map (·.size)=some 14:=by kernel_rfl
theorem csI_one (g e l v:Int) (A:Option Addr) (m p:Nat) (B:Option Addr) (k q:Nat) (sg st:Int) (A2:Option Addr) (m2 p2:Nat) (B2:Option Addr) (k2 q2:Nat) (C2:Option Addr) (n2 r2:Nat) (ls vr:Int) (F:Option Addr) (fn fp:Nat):(csI g e l v A m p B k q sg st (.slice A2 m2 p2) (.slice B2 k2 q2) (.slice C2 n2 r2) ls vr (.slice F fn fp)).all (·.oneCell')=true:=by simp [csI,Value.oneCell']
section
variable {ops:Array Oper} {rest:List Oper} {o:Oper} {a:Act} {w:World} {Q:Exit→Act→World→Prop}
theorem load_pi (hgd:o.guard=none) (x:Operand) (ho:o.op=.load 48 x) (b:Nat) (hx:a.eval x=.pointer (some ⟨b,0,none⟩)) {cs:Array Value} {t:TypeId} (hg:Tb.Blk w b t cs) (hs:cs.size=14)
 (h:wpList Tryz.prog ops Q rest (a.put o.dst (.agg cs)) w):wpList Tryz.prog ops Q (o :: rest) a w :=
 wpList_load_row hgd _ x ho b hx _ cs (0,0) _ hg Tryz.underlying48 rfl (by rw [hs]; exact info_pi) h
theorem store_pi (hgd:o.guard=none) (x y:Operand) (ho:o.op=.store 48 x y) (b:Nat) (hx:a.eval x=.pointer (some ⟨b,0,none⟩)) {cs old:Array Value} (hy:a.eval y=.agg cs) {t:TypeId} (hg:Tb.Blk w b t old) (hs:cs.size=14) (hz:old.size=14) (h1:cs.all (·.oneCell')=true)
 (h:wpList Tryz.prog ops Q rest (a.put o.dst undef) (w.setRow b cs)):wpList Tryz.prog ops Q (o :: rest) a w :=
 wpList_store_row hgd _ x y ho b cs hx hy _ _ hg (by rw [hs]; exact info_pi) (by rw [hs,hz]) h1 h
end
theorem res_pi {fn:Func} {p' q' : Tmp} (h:fn.results=#[.cell p' 48,.tmp q']) (tmps:Array Value) (W:World) (b:Nat) {cs:Array Value} {t:TypeId} {y:Value} (hp:tmps.getD p' undef=.pointer (some ⟨b,0,none⟩)) (hq:tmps.getD q' undef=y) (L:Tb.Blk W b t cs) (hs:cs.size=14) :
 (results fn tmps).run Tryz.prog W=.ok (.tuple #[.agg cs,y]) W:=by
 have hp' : tmps[p']?.getD undef=.pointer (some ⟨b,0,none⟩):=by simpa using hp
 have hq' : tmps[q']?.getD undef=y:=by simpa using hq
 have h1:(loadVar 48 ⟨b,0,none⟩).run Tryz.prog W=.ok (.agg cs) W:=run_loadVar_row W b t 48 cs (0,0) _ L Tryz.underlying48 rfl (by rw [hs]; exact info_pi)
 simp [results,h,hp',hq',asAddr,h1]
theorem sl_fill {W:World} {g n:Nat} {x:Int} {T:TypeId} (h:Tb.Blk W g T (fillV x n n).toArray):Sl .u64 W (some ⟨g,0,none⟩) n (List.replicate n x):=by
 refine ⟨by simp,fun _=>⟨g,0,rfl,h.lt,fun j hj=>?_⟩⟩
 rw [Nat.zero_add,h.cell,fill_all]
 simp [hj,nth,List.getD_eq_getElem?_getD]
theorem own_on {W:World} {base:Nat} {e:TypeId} {A:Option Addr} {n p:Nat} {xs:List Value} (h:W.ownsRow base e 1 (.slice A n p) n xs) {b:Nat} (hb:onB A n b):base≤b:=by
 obtain ⟨g,rfl,h1,_⟩:=Tb.own_some h hb.1
 obtain ⟨_,o,e⟩:=hb
 injection e with e
 injection e with e
 omega
def tabF (sg st:Int) (u v:Value):Array Value:=#[.int .i64 sg,.int .i64 st,u,v,.slice none 0 0]
set_option maxHeartbeats 16000000 in
theorem pbegun_any {W0 w:World} {its0:List Dk.Item} {kk d:Nat} {s:St} (hD:Dk.Sep W0 w its0) (hk:its0[kk]? = some (Dk.diskI d s)) (hg:s.Good) (hz:2≤s.size) (sg st rt:Int) (x:Nat) :
 Calls Tryz.prog 58 #[.pointer (some ⟨d,0,none⟩),.agg #[.int .i64 sg,.int .i64 st,.float .f64 x,.int .i64 rt]] w fun e w' =>
  (¬ (Cp.bestE (s.cur 0).data.toList (s.cur 1).data.toList=0∧okP ⟨sg,st,(Cp.bestC (s.cur 0).data.toList (s.cur 1).data.toList).o,(Cp.bestC (s.cur 0).data.toList (s.cur 1).data.toList).n,List.replicate (Cp.bestC (s.cur 0).data.toList (s.cur 1).data.toList).o.length (Cp.bestC (s.cur 0).data.toList (s.cur 1).data.toList).l⟩)∧e=.returned (.tuple #[.agg zeroI,.int .i64 5])∧Below w.heap.size w w') ∨
  ∃ c,c=Cp.bestC (s.cur 0).data.toList (s.cur 1).data.toList∧Cp.bestE (s.cur 0).data.toList (s.cur 1).data.toList=0∧okP ⟨sg,st,c.o,c.n,List.replicate c.o.length c.l⟩∧∃ A p B q A2 p2 B2 q2 G,
    e=.returned (.tuple #[.agg (csI c.g c.e c.l c.v A c.o.length p B c.o.length q sg st (.slice A2 c.o.length p2) (.slice B2 c.o.length q2) (.slice G c.o.length c.o.length) c.l c.v nilS),.int .i64 0]) ∧
    Dk.Sep w w' [tabI A c.o.length B c.o.length none 0 c.o c.n [],tabI A2 c.o.length B2 c.o.length G c.o.length c.o c.n (List.replicate c.o.length c.l)]:=by
 have hvI:=Tryz.zeroValue48
 have hvC:=Tryz.zeroValue42
 have hvT:=Tryz.zeroValue45
 have K3:Tb.Blk ((w.alloc (.cells #[.int .i64 sg,.int .i64 st,.float .f64 x,.int .i64 rt] 24)).alloc (.cells zeroI 48)) w.heap.size 24 #[.int .i64 sg,.int .i64 st,.float .f64 x,.int .i64 rt]:=(Tb.Blk.new w _ _).later (NewC.below1 _ _)
 have K4:Tb.Blk ((w.alloc (.cells #[.int .i64 sg,.int .i64 st,.float .f64 x,.int .i64 rt] 24)).alloc (.cells zeroI 48)) (w.heap.size+1) 48 zeroI:=Tb.Blk.at_ _ _ _ (by simp)
 have B0:=NewC.geTrans (NewC.below1 w (.cells #[.int .i64 sg,.int .i64 st,.float .f64 x,.int .i64 rt] 24)) (NewC.below1 _ (.cells zeroI 48))
 obtain ⟨S,hS⟩:∃ z,s.cur 0=z:=⟨_,rfl⟩
 obtain ⟨R,hR⟩:∃ z,s.cur 1=z:=⟨_,rfl⟩
 have hSz:S.size≤maxLen:=by rw [← hS,Dk.cur_size hg]; unfold maxLen; omega
 have hRz:R.size≤maxLen:=by rw [← hR,Dk.cur_size hg]; unfold maxLen; omega
 have HD:=Lib.hid hD
 have Q0:Hid (∀ W,Below w.heap.size w W→Calls Tryz.prog 75 #[.pointer (some ⟨d,0,none⟩),.int .i64 0] W fun e w'=>e=.returned (.tuple #[.string S,.int .i64 0])∧Below W.heap.size W w'):=Lib.hid (fun W hb=>by rw [← hS]; exact dread_b (HD.out.later hb) hk 0 ⟨by omega,by omega⟩)
 have Q1:Hid (∀ W,Below w.heap.size w W→Calls Tryz.prog 75 #[.pointer (some ⟨d,0,none⟩),.int .i64 1] W fun e w'=>e=.returned (.tuple #[.string R,.int .i64 0])∧Below W.heap.size W w'):=Lib.hid (fun W hb=>by rw [← hR]; exact dread_b (HD.out.later hb) hk 1 ⟨by omega,by omega⟩)
 rw [hS,hR]
 clear hS hR hD
 go_enter Tryz.func58,Tryz.ntmps58
 go_upto_region 1 with fail
 change Code.wp _ _ _ _ ((w.alloc (.cells #[.int .i64 sg,.int .i64 st,.float .f64 x,.int .i64 rt] 24)).alloc (.cells zeroI 48))
 generalize ((w.alloc (.cells #[.int .i64 sg,.int .i64 st,.float .f64 x,.int .i64 rt] 24)).alloc (.cells zeroI 48))=w0 at *
 obtain ⟨b3,e3⟩:∃ z,w.heap.size=z:=⟨_,rfl⟩
 have HB3:=Lib.hid e3
 rw [e3] at K3 K4
 go_wp2_with fail
 refine (Q0.out _ B0).mono ?_
 rintro e' wa ⟨rfl,hb⟩
 have B1:=Lib.hid (NewC.geTrans B0 hb)
 replace K3:=K3.later hb
 replace K4:=K4.later hb
 clear B0 hb Q0
 go_wp2_with fail
 refine (Q1.out _ B1.out).mono ?_
 rintro e' wb ⟨rfl,hb⟩
 have B2:=Lib.hid (NewC.geTrans B1.out hb)
 replace K3:=K3.later hb
 replace K4:=K4.later hb
 clear B1 hb Q1
 have HQ:=Lib.hid (Cp.best_any S R wb hSz hRz)
 have S0:Hid (Dk.Sep w wb [locI [(b3+1,48,zeroI)]]):=Lib.hid (Lg.loc_new (Dk.Sep.nil (Below.refl _ _)) B2.out (fun x hx=>by rcases List.mem_cons.1 hx with rfl|hx; exact K4; cases hx) (fun x hx=>by rcases List.mem_cons.1 hx with rfl|hx; (show w.heap.size≤b3+1; omega); cases hx))
 go_wp2_with fail
 refine HQ.out.mono ?_
 rintro e' wc ⟨hb,xv,rfl,A,m,p,B,k,q,rfl,hA,hB,nA,nB⟩
 have B3:=Lib.hid (NewC.geTrans B2.out hb)
 have HB1:=Lib.hid hb
 replace K3:=K3.later hb
 replace K4:=K4.later hb
 clear B2 hb HQ
 obtain ⟨er,her⟩:∃ z,Cp.bestE S.data.toList R.data.toList=z:=⟨_,rfl⟩
 obtain ⟨c,hc⟩:∃ z,Cp.bestC S.data.toList R.data.toList=z:=⟨_,rfl⟩
 obtain ⟨bi,hbi⟩:∃ z:Nat,Cp.bestI S.data.toList R.data.toList=z:=⟨_,rfl⟩
 have HOK:er=0→Cp.okC c=true∧Cp.Fits c:=fun e=>by rw [← hc]; exact best_ok (her.trans e)
 have H05:er=0∨er=5:=by rw [← her]; exact best_err _ _
 rw [hc] at hA hB
 rw [hbi,her,hc]
 have HCC:=Lib.hid hc
 have HER:=Lib.hid her
 clear her hc hbi
 have K10:Tb.Blk (wc.alloc (.cells (Cp.csC c.g c.e c.l c.v A m p B k q) 42)) wc.heap.size 42 (Cp.csC c.g c.e c.l c.v A m p B k q):=Tb.Blk.new wc _ _
 obtain ⟨b10,e10⟩:∃ z,wc.heap.size=z:=⟨_,rfl⟩
 rw [e10] at K10
 go_upto_region 4 with fail
 change Code.wp _ _ _ _ (wc.alloc (.cells (Cp.csC c.g c.e c.l c.v A m p B k q) 42))
 have hbz:=NewC.below1 wc (.cells (Cp.csC c.g c.e c.l c.v A m p B k q) 42)
 have B4:=Lib.hid (NewC.geTrans B3.out hbz)
 replace HB1:=Lib.hid (NewC.geTrans HB1.out hbz)
 replace K3:=K3.later hbz
 replace K4:=K4.later hbz
 replace hA:=hA.later hbz
 replace hB:=hB.later hbz
 clear hbz B3 e10
 generalize (wc.alloc (.cells (Cp.csC c.g c.e c.l c.v A m p B k q) 42))=w1 at *
 rcases H05 with rfl|rfl
 rotate_left
 ·clear HOK
  go_wp2_with (with_reducible refine store_pi rfl (.tmp 4) (.tmp 33) rfl (b3+1) rfl rfl K4 rfl rfl (by simp [Value.oneCell']) ?_)
  refine bodyPost_ret (res_pi rfl _ _ (b3+1) rfl rfl (K4.row _) rfl) rfl (.inl ⟨fun h=>absurd (HER.out.symm.trans h.1) (by decide),rfl,Tb.below_row B4.out (by have:=HB3.out; omega) _⟩)
 obtain ⟨hokC,hfit⟩:=HOK rfl
 clear HOK
 obtain rfl:m=c.o.length:=hA.len
 have HO3:Hid (c.n.length=c.o.length):=Lib.hid ((Cp.segB_iff _ _).1 ((Cp.okC_iff c).1 hokC).2).2.2.1
 obtain rfl:k=c.o.length:=hB.len.trans HO3.out
 have hlen:1≤c.o.length∧c.o.length≤16:=by
  have:=(Cp.segB_iff _ _).1 ((Cp.okC_iff c).1 hokC).2
  exact ⟨this.1,this.2.1⟩
 have HA:Hid (Sl .i64 w1 A c.o.length c.o):=Lib.hid ⟨hA.len,hA.cells⟩
 have HB:Hid (Sl .i64 w1 B c.o.length c.n):=Lib.hid ⟨hB.len,hB.cells⟩
 have HNN:=Lib.hid (And.intro nA nB)
 clear hA hB nA nB
 go_upto_region 6 with fail
 refine FreeC.wp_freeC (([.is (.pointer (some ⟨b3,0,none⟩)),.is (.int .i64 sg),.is (.pointer (some ⟨b3,1,none⟩)),.is (.int .i64 st),.is (.pointer (some ⟨b10,4,none⟩)),.is (.slice A c.o.length p),.row 3 .i64 w1.heap.size c.o,.is (.pointer (some ⟨b10,5,none⟩)),.is (.slice B c.o.length q),.row 3 .i64 w1.heap.size c.n,.two 3 .i64 w1.heap.size c.o c.n (tabF sg st),.any,.any]:List NewW.Cd).map NewW.Cd.p) (NewW.C w1 45 5 11 10 12 13 45) (by kernel_rfl) (by kernel_rfl) (NewW.C.start _) ?_ ?_
 ·refine ⟨?_,?_,?_,?_,?_,?_,?_,?_,?_,?_,?_,?_,?_,trivial⟩
  ·intro listed A0 W hA hno hr K' hK
   have hsl:=hA.size
   simp at hsl
   have e3:A0.tmps[3]?.getD undef=.pointer (some ⟨b3,0,none⟩):=FreeD.slot_is ((hA.kept 3 (Free.not_dst (by kernel_rfl))).trans rfl)
   simp [go_sem,e3]
   exact hK _ _ (hA.c.step 0 35 _ ⟨by omega,by omega⟩ (by omega) (by decide) (by omega) hno (Below.refl _ _)) rfl (fun j u _ _ hu=>NewW.Cd.keep (Below.refl _ _) hu)
  ·intro listed A0 W hA hno hr K' hK
   have hsl:=hA.size
   simp at hsl
   have e35:A0.tmps[35]?.getD undef=.pointer (some ⟨b3,0,none⟩):=FreeD.slot_is (hA.val 0 _ rfl (hr ⟨0,.data⟩ (by simp) rfl))
   have f0:W.cell? ⟨b3,0,none⟩=some (.int .i64 sg):=(K3.later hA.c.b).cell 0
   simp [go_sem,e35,f0]
   exact hK _ _ (hA.c.step 1 36 _ ⟨by omega,by omega⟩ (by omega) (by decide) (by omega) hno (Below.refl _ _)) rfl (fun j u _ _ hu=>NewW.Cd.keep (Below.refl _ _) hu)
  ·intro listed A0 W hA hno hr K' hK
   have hsl:=hA.size
   simp at hsl
   have e3:A0.tmps[3]?.getD undef=.pointer (some ⟨b3,0,none⟩):=FreeD.slot_is ((hA.kept 3 (Free.not_dst (by kernel_rfl))).trans rfl)
   simp [go_sem,e3]
   exact hK _ _ (hA.c.step 2 37 _ ⟨by omega,by omega⟩ (by omega) (by decide) (by omega) hno (Below.refl _ _)) rfl (fun j u _ _ hu=>NewW.Cd.keep (Below.refl _ _) hu)
  ·intro listed A0 W hA hno hr K' hK
   have hsl:=hA.size
   simp at hsl
   have e37:A0.tmps[37]?.getD undef=.pointer (some ⟨b3,1,none⟩):=FreeD.slot_is (hA.val 2 _ rfl (hr ⟨2,.data⟩ (by simp) rfl))
   have f0:W.cell? ⟨b3,1,none⟩=some (.int .i64 st):=(K3.later hA.c.b).cell 1
   simp [go_sem,e37,f0]
   exact hK _ _ (hA.c.step 3 38 _ ⟨by omega,by omega⟩ (by omega) (by decide) (by omega) hno (Below.refl _ _)) rfl (fun j u _ _ hu=>NewW.Cd.keep (Below.refl _ _) hu)
  ·intro listed A0 W hA hno hr K' hK
   have hsl:=hA.size
   simp at hsl
   have e10:A0.tmps[10]?.getD undef=.pointer (some ⟨b10,0,none⟩):=FreeD.slot_is ((hA.kept 10 (Free.not_dst (by kernel_rfl))).trans rfl)
   simp [go_sem,e10]
   exact hK _ _ (hA.c.step 4 39 _ ⟨by omega,by omega⟩ (by omega) (by decide) (by omega) hno (Below.refl _ _)) rfl (fun j u _ _ hu=>NewW.Cd.keep (Below.refl _ _) hu)
  ·intro listed A0 W hA hno hr K' hK
   have hsl:=hA.size
   simp at hsl
   have e39:A0.tmps[39]?.getD undef=.pointer (some ⟨b10,4,none⟩):=FreeD.slot_is (hA.val 4 _ rfl (hr ⟨4,.data⟩ (by simp) rfl))
   have f0:W.cell? ⟨b10,4,none⟩=some (.slice A c.o.length p):=(K10.later hA.c.b).cell 4
   simp [go_sem,e39,f0]
   exact hK _ _ (hA.c.step 5 40 _ ⟨by omega,by omega⟩ (by omega) (by decide) (by omega) hno (Below.refl _ _)) rfl (fun j u _ _ hu=>NewW.Cd.keep (Below.refl _ _) hu)
  ·intro listed A0 W hA hno hr K' hK
   have hsl:=hA.size
   simp at hsl
   have e40:A0.tmps[40]?.getD undef=.slice A c.o.length p:=FreeD.slot_is (hA.val 5 _ rfl (hr ⟨5,.data⟩ (by simp) rfl))
   simp [go_sem,e40]
   refine (Tb.clone_i A c.o.length p c.o W (HA.out.later hA.c.b) (.inr (by omega)) (by omega)).mono ?_
   rintro e' w' ⟨G,pg,rfl,hown,hb⟩
   exact hK _ _ (hA.c.step 6 41 _ ⟨by omega,by omega⟩ (by omega) (by decide) (by omega) hno hb) ⟨G,pg,rfl,Tb.own_base hown hA.c.b.size⟩ (fun j u _ _ hu=>NewW.Cd.keep hb hu)
  ·intro listed A0 W hA hno hr K' hK
   have hsl:=hA.size
   simp at hsl
   have e10:A0.tmps[10]?.getD undef=.pointer (some ⟨b10,0,none⟩):=FreeD.slot_is ((hA.kept 10 (Free.not_dst (by kernel_rfl))).trans rfl)
   simp [go_sem,e10]
   exact hK _ _ (hA.c.step 7 42 _ ⟨by omega,by omega⟩ (by omega) (by decide) (by omega) hno (Below.refl _ _)) rfl (fun j u _ _ hu=>NewW.Cd.keep (Below.refl _ _) hu)
  ·intro listed A0 W hA hno hr K' hK
   have hsl:=hA.size
   simp at hsl
   have e42:A0.tmps[42]?.getD undef=.pointer (some ⟨b10,5,none⟩):=FreeD.slot_is (hA.val 7 _ rfl (hr ⟨7,.data⟩ (by simp) rfl))
   have f0:W.cell? ⟨b10,5,none⟩=some (.slice B c.o.length q):=(K10.later hA.c.b).cell 5
   simp [go_sem,e42,f0]
   exact hK _ _ (hA.c.step 8 43 _ ⟨by omega,by omega⟩ (by omega) (by decide) (by omega) hno (Below.refl _ _)) rfl (fun j u _ _ hu=>NewW.Cd.keep (Below.refl _ _) hu)
  ·intro listed A0 W hA hno hr K' hK
   have hsl:=hA.size
   simp at hsl
   have e43:A0.tmps[43]?.getD undef=.slice B c.o.length q:=FreeD.slot_is (hA.val 8 _ rfl (hr ⟨8,.data⟩ (by simp) rfl))
   simp [go_sem,e43]
   refine (Tb.clone_i B c.o.length q c.n W (HB.out.later hA.c.b) (.inr (by omega)) (by omega)).mono ?_
   rintro e' w' ⟨G,pg,rfl,hown,hb⟩
   exact hK _ _ (hA.c.step 9 44 _ ⟨by omega,by omega⟩ (by omega) (by decide) (by omega) hno hb) ⟨G,pg,by rw [HO3.out],by rw [HO3.out]; exact Tb.own_base hown hA.c.b.size⟩ (fun j u _ _ hu=>NewW.Cd.keep hb hu)
  ·intro listed A0 W hA hno hr K' hK
   have hsl:=hA.size
   simp at hsl
   have e36:A0.tmps[36]?.getD undef=.int .i64 sg:=FreeD.slot_is (hA.val 1 _ rfl (hr ⟨1,.data⟩ (by simp) rfl))
   have e38:A0.tmps[38]?.getD undef=.int .i64 st:=FreeD.slot_is (hA.val 3 _ rfl (hr ⟨3,.data⟩ (by simp) rfl))
   obtain ⟨G1,p1,e41,o41⟩:=NewW.slot_row (hA.val 6 _ rfl (hr ⟨6,.data⟩ (by simp) rfl))
   obtain ⟨G2,p2,e44,o44⟩:=NewW.slot_row (hA.val 9 _ rfl (hr ⟨9,.data⟩ (by simp) rfl))
   simp [go_sem,e36,e38,e41,e44]
   exact hK _ _ (hA.c.step 10 45 _ ⟨by omega,by omega⟩ (by omega) (by decide) (by omega) hno (Below.refl _ _)) ⟨G1,p1,G2,p2,rfl,o41,o44⟩ (fun j u _ _ hu=>NewW.Cd.keep (Below.refl _ _) hu)
  ·intro listed A0 W hA hno hr K' hK
   have hsl:=hA.size
   simp at hsl
   have hts:A0.tmps.size=65:=hA.slots.trans rfl
   simp [go_sem,hvT]
   exact hK _ _ (hA.c.alloc (by decide) (by decide) (by omega) hno (by omega) _ rfl) trivial (fun j u _ _ hu=>NewW.Cd.keep (NewC.below1 _ _) hu)
  ·intro listed A0 W hA hno hr K' hK
   have hsl:=hA.size
   simp at hsl
   obtain ⟨b,vs,e13,hbb,hvs,hB13,_⟩:=hA.c.da (hr ⟨11,.data⟩ (by simp) rfl)
   obtain ⟨G1,p1,G2,p2,e45,o41,o44⟩:=hA.val 10 _ rfl (hr ⟨10,.data⟩ (by simp) rfl)
   refine wp_store_row _ (.tmp 13) (.tmp 45) rfl b (tabF sg st (.slice G1 c.o.length p1) (.slice G2 c.n.length p2)) e13 e45 _ _ hB13 info_tb hvs (by simp [tabF,Value.oneCell']) ?_
   exact hK undef _ (hA.c.store (by decide) (hr ⟨11,.data⟩ (by simp) rfl) (hr ⟨10,.data⟩ (by simp) rfl) e13 hbb hB13 e45 rfl) trivial (fun j u _ _ hu=>NewW.Cd.fars rfl hB13 _ hu)
 intro A0 w2 hA
 obtain ⟨b13,vs,s13,hb13,hvz,K13,hvs⟩:=hA.c.da rfl
 obtain ⟨G1,p1,G2,p2,e45,o1,o2⟩:=hA.val 10 _ rfl rfl
 obtain rfl:tabF sg st (.slice G1 c.o.length p1) (.slice G2 c.n.length p2)=vs:=by
  have:=e45.symm.trans (hvs rfl)
  injection this
 have hb:=hA.c.b
 have s4:A0.tmps.getD 4 undef=.pointer (some ⟨b3+1,0,none⟩):=(hA.kept 4 (Free.not_dst (by kernel_rfl))).trans rfl
 have s10:A0.tmps.getD 10 undef=.pointer (some ⟨b10,0,none⟩):=(hA.kept 10 (Free.not_dst (by kernel_rfl))).trans rfl
 have hsl:=hA.slots
 have hde:=hA.defers
 clear hA hvs e45 hvz
 obtain ⟨tm,de⟩:=A0
 simp only at s4 s10 s13 hsl hde
 obtain ⟨y,hy,ee⟩:=arrF65 hsl
 have t4:=(hy 4).symm.trans s4
 have t10:=(hy 10).symm.trans s10
 have t13:=(hy 13).symm.trans s13
 rw [t4,t10,t13] at ee
 clear hy s4 s10 s13 hsl t4 t10 t13
 subst ee hde
 rw [HO3.out] at o2 K13
 have S1:Hid (Dk.Sep w w1 [locI [(b3+1,48,zeroI)],tabI A c.o.length B c.o.length none 0 c.o c.n []]):=Lib.hid (by
  refine tab_new S0.out ⟨HA.out,HB.out,Sl.nil _ _⟩ ?_ HB1.out
  rintro b (⟨_,o,e⟩ | ⟨_,o,e⟩ | ⟨h0,_⟩)
  ·exact HNN.out.1 _ e
  ·exact HNN.out.2 _ e
  ·omega)
 have hq3:=K3.lt
 have hq4:=K4.lt
 have hq10:=K10.lt
 have HLT:=Lib.hid (And.intro (And.intro o1 o2) (And.intro hb (And.intro hb13 K13)))
 replace K3:=K3.later hb
 replace K4:=K4.later hb
 replace K10:=K10.later hb
 have x2:w2.cell? ⟨b10,2,none⟩=some (.int .u64 c.l):=K10.cell 2
 have x4:w2.cell? ⟨b10,4,none⟩=some (.slice A c.o.length p):=K10.cell 4
 have KR:(w2.alloc (.cells #[.int .u64 c.l] 38)).cell? ⟨w2.heap.size,0,none⟩=some (.int .u64 c.l):=(Tb.Blk.new w2 38 #[.int .u64 c.l]).cell 0
 have HRP:=Lib.hid (repeat_any c.l c.o.length hlen.1 (by omega) (c:=1) KR (by simp))
 have b1:=NewC.below1 w2 (.cells #[.int .u64 c.l] 38)
 have x4' : (w2.alloc (.cells #[.int .u64 c.l] 38)).cell? ⟨b10,4,none⟩=some (.slice A c.o.length p):=(K10.later b1).cell 4
 clear KR o1 o2 K13 hb
 go_upto_region 7 with fail
 have S2:=Lib.hid HLT.out.2.1
 go_wp2_with fail
 refine HRP.out.mono ?_
 rintro e' w3 ⟨g,rfl,hg1,KG,hb3⟩
 have hb23:=NewC.geTrans b1 hb3
 have K13:=HLT.out.2.2.2.later hb23
 have c13:w3.cell? ⟨b13,4,none⟩=some (.slice none 0 0):=K13.cell 4
 have f13:=K13.frozen 4
 have E4:w3.setCell ⟨b13,4,none⟩ (.slice (some ⟨g,0,none⟩) c.o.length c.o.length)=w3.setRow b13 (csT sg st G1 c.o.length p1 G2 c.o.length p2 (some ⟨g,0,none⟩) c.o.length c.o.length):=Lg.set_row K13 4 _
 have hgb:g≠b13:=by
  have h1:=HLT.out.2.2.2.lt
  have h2:=b1.size
  omega
 have hlt13:w1.heap.size≤b13:=HLT.out.2.2.1
 replace K3:=(K3.later hb23)
 replace K4:=(K4.later hb23)
 replace K10:=(K10.later hb23)
 have n3:b13≠b3∧b13≠b3+1∧b13≠b10:=by omega
 have T4:TIn (w3.setRow b13 (csT sg st G1 c.o.length p1 G2 c.o.length p2 (some ⟨g,0,none⟩) c.o.length c.o.length)) G1 c.o.length G2 c.o.length (some ⟨g,0,none⟩) c.o.length c.o c.n (List.replicate c.o.length c.l) :=
  ⟨Tb.own_sl (Tb.own_far (Tb.own_later HLT.out.1.1 hb23) K13 (by decide) _),Tb.own_sl (Tb.own_far (Tb.own_later HLT.out.1.2 hb23) K13 (by decide) _),sl_fill (KG.far (Ne.symm hgb) _)⟩
 have S5:Hid (Dk.Sep w (w3.setRow b13 (csT sg st G1 c.o.length p1 G2 c.o.length p2 (some ⟨g,0,none⟩) c.o.length c.o.length)) [locI [(b3+1,48,zeroI)],tabI A c.o.length B c.o.length none 0 c.o c.n [],tabI G1 c.o.length G2 c.o.length (some ⟨g,0,none⟩) c.o.length c.o c.n (List.replicate c.o.length c.l)]):=Lib.hid (by
  refine tab_new S1.out T4 ?_ (Tb.below_row (NewC.geTrans HLT.out.2.1 hb23) hlt13 _)
  rintro b (h|h|h)
  ·exact own_on HLT.out.1.1 h
  ·exact own_on HLT.out.1.2 h
  ·obtain ⟨_,o,e⟩:=h
   injection e with e
   injection e with e
   have h2:=b1.size
   have h3:=HLT.out.2.1.size
   omega)
 have hpp:=Tb.own_cap HLT.out.1.1
 replace K3:=K3.far n3.1 (csT sg st G1 c.o.length p1 G2 c.o.length p2 (some ⟨g,0,none⟩) c.o.length c.o.length)
 replace K4:=K4.far n3.2.1 (csT sg st G1 c.o.length p1 G2 c.o.length p2 (some ⟨g,0,none⟩) c.o.length c.o.length)
 replace K10:=K10.far n3.2.2 (csT sg st G1 c.o.length p1 G2 c.o.length p2 (some ⟨g,0,none⟩) c.o.length c.o.length)
 have KT:=K13.row (csT sg st G1 c.o.length p1 G2 c.o.length p2 (some ⟨g,0,none⟩) c.o.length c.o.length)
 clear x2 x4 x4' HRP KG hb3 hb23 HLT S1 K13 hg1 b1 S2 hgb n3 hlt13
 go_upto_region 8 with fail
 clear c13 f13 E4
 generalize w3.setRow b13 (csT sg st G1 c.o.length p1 G2 c.o.length p2 (some ⟨g,0,none⟩) c.o.length c.o.length)=w4 at *
 obtain ⟨bR,hbR⟩:∃ z,Tb.okT ⟨sg,st,c.o,c.n,List.replicate c.o.length c.l⟩=z:=⟨_,rfl⟩
 have HRT:=Lib.hid (Tb.right_is sg st G1 c.o.length p1 G2 c.o.length p2 (some ⟨g,0,none⟩) c.o.length c.o.length c.o c.n (List.replicate c.o.length c.l) bR w4 T4 (by unfold maxLen; omega) (by unfold maxLen; omega) (by unfold maxLen; omega) hpp hbR)
 have HBR:=Lib.hid hbR
 clear hbR T4 hpp
 go_wp2_with (with_reducible refine Tb.load_t rfl (.tmp 13) rfl b13 rfl KT ?_)
 refine HRT.out.mono ?_
 rintro e' w5 ⟨rfl,hb⟩
 have S6:=Lib.hid (S5.out.later hb)
 replace K4:=K4.later hb
 replace K10:=K10.later hb
 replace KT:=KT.later hb
 have HBW:=HB3.out
 clear S5 K3 HRT hb
 cases bR with
 | false =>
   go_wp2_with (with_reducible refine store_pi rfl (.tmp 4) (.tmp 57) rfl (b3+1) rfl rfl K4 rfl rfl (by simp [Value.oneCell']) ?_)
   refine bodyPost_ret (res_pi rfl _ _ (b3+1) rfl rfl (K4.row _) rfl) rfl (.inl ⟨fun h=>?_,rfl,Tb.below_row S6.out.below (by omega) _⟩)
   have h2:=HBR.out
   rw [HCC.out] at h
   unfold Tb.okT at h2
   rw [decide_eq_false_iff_not] at h2
   exact h2 h.2
 | true =>
   have x2:w5.cell? ⟨b10,2,none⟩=some (.int .u64 c.l):=K10.cell 2
   have x3:w5.cell? ⟨b10,3,none⟩=some (.int .u64 c.v):=K10.cell 3
   have hok:okP ⟨sg,st,c.o,c.n,List.replicate c.o.length c.l⟩:=by
    have h2:=HBR.out
    unfold Tb.okT at h2
    exact of_decide_eq_true h2
   have HOKP:=Lib.hid hok
   have KX:Cp.Blk w5 b10 42 (Cp.csC c.g c.e c.l c.v A c.o.length p B c.o.length q):=K10
   clear hok
   go_wp2_with (first
    | (with_reducible refine Cp.load_c rfl (.tmp 10) rfl b10 rfl KX ?_)
    | (with_reducible refine Tb.load_t rfl (.tmp 13) rfl b13 rfl KT ?_)
    | (with_reducible refine store_pi rfl (.tmp 4) (.tmp 64) rfl (b3+1) rfl rfl K4 rfl rfl (by simp [Value.oneCell']) ?_))
   refine bodyPost_ret (res_pi rfl _ _ (b3+1) rfl rfl (K4.row _) rfl) rfl (.inr ⟨c,HCC.out.symm,HER.out,HOKP.out,A,p,B,q,G1,p1,G2,p2,some ⟨g,0,none⟩,rfl,?_⟩)
   exact Lg.sep_tail (loc_whole S6.out (k:=0) rfl _)
end Go.Proofs.YtcnohlgigmmefaaGreat.Ro
